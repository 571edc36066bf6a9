/-
  At every argument the law FnExactSameMem returns true: the project's SameMem answers as the given model's SameMem, changes no argument, and what it returns is its own. No condition.
-/
import Derived.Test.YtkbcmeachfplnaaMemPutS
import Derived.Test.YtkbcmeachfplnaaGridArgs
import Derived.Test.YtkbcmeachfplnaaSizes
namespace Go.Proofs.Ytkbcmeachfplnaa.fnExactSameMem
open Go.ChangeShapes Go.WideShapes Go.ChangeAt Go.RowKit
open Go.Proofs.Ytkbcmeachfplnaa.Base Go.Proofs.Ytkbcmeachfplnaa.Mem Go.Proofs.Ytkbcmeachfplnaa.Ints Go.Proofs.Ytkbcmeachfplnaa.Grid
set_option linter.unusedVariables false

set_option maxRecDepth 100000 in
set_option maxHeartbeats 4000000 in
theorem walk (A0 : Option Addr) (n0 c0 : Nat) (M0 : List (List Int)) (gs0 : List Hd) (A1 : Option Addr) (n1 c1 : Nat) (M1 : List (List Int)) (gs1 : List Hd) {w : World} (hn0 : n0 ≤ 9223372036854775807) (hl0 : M0.length = n0) (hf0 : fitG M0) (h0 : RG w 0 w.heap.size A0 M0 gs0) (hn1 : n1 ≤ 9223372036854775807) (hl1 : M1.length = n1) (hf1 : fitG M1) (h1 : RG w 0 w.heap.size A1 M1 gs1) :
    Calls Try.prog 13 #[.slice A0 n0 c0, .slice A1 n1 c1] w fun e w' => e = .returned (.bool true) ∧ Below w.heap.size w w' := by
  have HA0 := Lib.hid (show ∀ W, Below w.heap.size w W → RG W 0 W.heap.size A0 M0 gs0 from fun W hb => (h0.below hb (Nat.le_refl _)).wide (Nat.le_refl _) hb.size)
  have HL0 := Lib.hid hl0
  have HF0 := Lib.hid hf0
  clear hl0 hf0
  have HA1 := Lib.hid (show ∀ W, Below w.heap.size w W → RG W 0 W.heap.size A1 M1 gs1 from fun W hb => (h1.below hb (Nat.le_refl _)).wide (Nat.le_refl _) hb.size)
  have HL1 := Lib.hid hl1
  have HF1 := Lib.hid hf1
  clear hl1 hf1
  by_cases hbig0 : (1048576 : Int) < (n0 : Int) + (tot M0 : Nat)
  · go_enter Try.func13, Try.ntmps13
    go_wp2_with fail
    refine (szIntSS_no A0 n0 c0 0 w.heap.size (1048576) M0 gs0 _ (by omega) (by omega) HL0.out HF0.out hn0 hbig0 h0).mono ?_
    rintro e w' ⟨rfl, rfl⟩
    go_wp2_with fail
    go_ret
    exact ⟨rfl, Below.refl _ _⟩
  have HC0 := Lib.hid (capG.of (M := M0) (by have := HL0.out; omega))
  have hz0 : ¬ ((1048576 : Int) - (n0 : Int) - (tot M0 : Nat) < 0) := by omega
  by_cases hbig1 : ((1048576 : Int) - (n0 : Int) - (tot M0 : Nat) : Int) < (n1 : Int) + (tot M1 : Nat)
  · go_enter Try.func13, Try.ntmps13
    go_wp2_with fail
    refine (szIntSS_yes A0 n0 c0 0 w.heap.size (1048576) M0 gs0 _ (by omega) HL0.out HF0.out (by omega) h0).mono ?_
    rintro e w' ⟨rfl, rfl⟩
    go_wp2_with fail
    refine (szIntSS_no A1 n1 c1 0 w.heap.size ((1048576 : Int) - (n0 : Int) - (tot M0 : Nat)) M1 gs1 _ (by omega) (by omega) HL1.out HF1.out hn1 hbig1 h1).mono ?_
    rintro e w' ⟨rfl, rfl⟩
    go_wp2_with fail
    go_ret
    exact ⟨rfl, Below.refl _ _⟩
  have HC1 := Lib.hid (capG.of (M := M1) (by have := HL1.out; omega))
  have hz1 : ¬ ((1048576 : Int) - (n0 : Int) - (tot M0 : Nat) - (n1 : Int) - (tot M1 : Nat) < 0) := by omega
  have hK1 := fun (A B : Option Addr) (n n' c d lo lo' hi hi' : Nat) (hs gs : List Hd) (V : World) (h : M0.length = n) (h' : M1.length = n') (h1 : RG V lo hi A M0 hs) (h2 : RG V lo' hi' B M1 gs) => spec_sameMem A B n n' c d lo lo' hi hi' M0 M1 hs gs V HC0.out HC1.out h h' h1 h2
  have hK2 := fun (A B : Option Addr) (n n' c d lo lo' hi hi' : Nat) (hs gs : List Hd) (V : World) (h : M0.length = n) (h' : M1.length = n') (h1 : RG V lo hi A M0 hs) (h2 : RG V lo' hi' B M1 gs) => impl_sameMem A B n n' c d lo lo' hi hi' M0 M1 hs gs V HC0.out HC1.out h h' h1 h2
  unfold SameP at hK1 hK2
  generalize decide (M0 = M1) = b at hK1 hK2
  have HK1 := Lib.hid hK1
  have HK2 := Lib.hid hK2
  clear hK1 hK2
  go_enter Try.func13, Try.ntmps13
  go_wp2_with fail
  refine (szIntSS_yes A0 n0 c0 0 w.heap.size (1048576) M0 gs0 _ (by omega) HL0.out HF0.out (by omega) h0).mono ?_
  rintro e w' ⟨rfl, rfl⟩
  go_wp2_with fail
  refine (szIntSS_yes A1 n1 c1 0 w.heap.size ((1048576 : Int) - (n0 : Int) - (tot M0 : Nat)) M1 gs1 _ (by omega) HL1.out HF1.out (by omega) h1).mono ?_
  rintro e w' ⟨rfl, rfl⟩
  go_wp2_with fail
  refine (toIntSS_any A0 n0 c0 0 M0 gs0 _ HC0.out HL0.out (HA0.out _ (Below.refl _ _))).mono ?_
  rintro e w1 ⟨X1, m1, d1, qs1, rfl, hx1, ho1, hb1⟩
  obtain rfl : n0 = m1 := by have := HL0.out; omega
  have hB1 := btr (Below.refl _ _) hb1
  have hS1 := hb1.size
  have hOa_1 := Lib.hid ho1
  clear hx1 ho1 hb1
  go_wp2_with fail
  refine (toIntSS_any A1 n1 c1 0 M1 gs1 _ HC1.out HL1.out (HA1.out _ hB1)).mono ?_
  rintro e w2 ⟨X2, m2, d2, qs2, rfl, hx2, ho2, hb2⟩
  obtain rfl : n1 = m2 := by have := HL1.out; omega
  have hB2 := btr hB1 hb2
  have hS2 := hb2.size
  have hOa_2 := Lib.hid (hOa_1.out.below hb2 (by omega))
  have hOb_2 := Lib.hid ho2
  clear hOa_1 hx2 ho2 hb2
  go_wp2_with fail
  refine (HK1.out _ _ _ _ _ _ _ _ _ _ _ _ _ HL0.out HL1.out hOa_2.out.rg hOb_2.out.rg).mono ?_
  rintro e w3 ⟨rfl, hd3⟩
  have hb3 := Drawn.below hd3
  have hB3 := btr hB2 hb3
  have hS3 := hb3.size
  have hOa_3 := Lib.hid (hOa_2.out.below hb3 (by omega))
  have hOb_3 := Lib.hid (hOb_2.out.below hb3 (by omega))
  clear hOa_2 hOb_2 hb3 hd3
  clear hOa_3
  clear hOb_3
  go_wp2_with fail
  refine (toIntSS_any A0 n0 c0 0 M0 gs0 _ HC0.out HL0.out (HA0.out _ hB3)).mono ?_
  rintro e w4 ⟨X4, m4, d4, qs4, rfl, hx4, ho4, hb4⟩
  obtain rfl : n0 = m4 := by have := HL0.out; omega
  have hB4 := btr hB3 hb4
  have hS4 := hb4.size
  have hOx_4 := Lib.hid ho4
  clear hx4 ho4 hb4
  go_wp2_with fail
  refine (toIntSS_any A1 n1 c1 0 M1 gs1 _ HC1.out HL1.out (HA1.out _ hB4)).mono ?_
  rintro e w5 ⟨X5, m5, d5, qs5, rfl, hx5, ho5, hb5⟩
  obtain rfl : n1 = m5 := by have := HL1.out; omega
  have hB5 := btr hB4 hb5
  have hS5 := hb5.size
  have hOx_5 := Lib.hid (hOx_4.out.below hb5 (by omega))
  have hOi_5 := Lib.hid ho5
  clear hOx_4 hx5 ho5 hb5
  go_wp2_with fail
  refine (HK2.out _ _ _ _ _ _ _ _ _ _ _ _ _ HL0.out HL1.out hOx_5.out.rg hOi_5.out.rg).mono ?_
  rintro e w6 ⟨rfl, hd6⟩
  have hb6 := Drawn.below hd6
  have hB6 := btr hB5 hb6
  have hS6 := hb6.size
  have hOx_6 := Lib.hid (hOx_5.out.below hb6 (by omega))
  have hOi_6 := Lib.hid (hOi_5.out.below hb6 (by omega))
  clear hOx_5 hOi_5 hb6 hd6
  go_wp2_with fail
  refine (toIntSS_any A0 n0 c0 0 M0 gs0 _ HC0.out HL0.out (HA0.out _ hB6)).mono ?_
  rintro e w7 ⟨X7, m7, d7, qs7, rfl, hx7, ho7, hb7⟩
  obtain rfl : n0 = m7 := by have := HL0.out; omega
  have hB7 := btr hB6 hb7
  have hS7 := hb7.size
  have hOx_7 := Lib.hid (hOx_6.out.below hb7 (by omega))
  have hOi_7 := Lib.hid (hOi_6.out.below hb7 (by omega))
  have hOy_7 := Lib.hid ho7
  clear hOx_6 hOi_6 hx7 ho7 hb7
  go_wp2_with fail
  refine (eqIntSS_same X4 X7 n0 d4 d7 _ _ _ _ M0 qs4 qs7 _ HC0.out HL0.out (by omega) (by omega) hOx_7.out.rg hOy_7.out.rg).mono ?_
  rintro e w8 ⟨rfl, hb8⟩
  have hB8 := btr hB7 hb8
  have hS8 := hb8.size
  have hOx_8 := Lib.hid (hOx_7.out.below hb8 (by omega))
  have hOi_8 := Lib.hid (hOi_7.out.below hb8 (by omega))
  have hOy_8 := Lib.hid (hOy_7.out.below hb8 (by omega))
  clear hOx_7 hOi_7 hOy_7 hb8
  clear hOx_8
  clear hOy_8
  go_wp2_with fail
  refine (toIntSS_any A1 n1 c1 0 M1 gs1 _ HC1.out HL1.out (HA1.out _ hB8)).mono ?_
  rintro e w9 ⟨X9, m9, d9, qs9, rfl, hx9, ho9, hb9⟩
  obtain rfl : n1 = m9 := by have := HL1.out; omega
  have hB9 := btr hB8 hb9
  have hS9 := hb9.size
  have hOi_9 := Lib.hid (hOi_8.out.below hb9 (by omega))
  have hOj_9 := Lib.hid ho9
  clear hOi_8 hx9 ho9 hb9
  go_wp2_with fail
  refine (eqIntSS_same X5 X9 n1 d5 d9 _ _ _ _ M1 qs5 qs9 _ HC1.out HL1.out (by omega) (by omega) hOi_9.out.rg hOj_9.out.rg).mono ?_
  rintro e w10 ⟨rfl, hb10⟩
  have hB10 := btr hB9 hb10
  have hS10 := hb10.size
  have hOi_10 := Lib.hid (hOi_9.out.below hb10 (by omega))
  have hOj_10 := Lib.hid (hOj_9.out.below hb10 (by omega))
  clear hOi_9 hOj_9 hb10
  go_wp2_with fail
  go_ret
  exact ⟨rfl, hB10⟩

/-! ### The row's step -/
set_option maxRecDepth 100000 in
theorem lifted (os : Os) (started : os.Started) (H : Type) (enc : TypeId × Value → H) :
    ReturnsInHanded {} Try.checked os 13 .any (Rows.fnExactSameMemSpec.pre6 enc Try.prog Try.f13 Rows.fnExactSameMemRow.domain false) (Rows.fnExactSameMemSpec.post enc Try.prog Try.f13 false true false false) := by
  refine returnsInHanded_of_change (C := Try.checked) Base.own started (by kernel_rfl) Try.func13
    (ChangeSpec.witness6 (enc := enc) (C := Try.checked) false ⟨#[], #[.slice none 0 0, .slice none 0 0], []⟩ 8 (by kernel_rfl) (by kernel_rfl) (by kernel_rfl) (by kernel_rfl)) ?_
  intro W base args ds gs before hval0 hW hcnd _
  have hval : ∀ (j : Nat) t v, Try.f13.params[j]? = some t → args[j]? = some v → Value.okWide Try.prog W .any base t v := hval0
  have hW' := hW
  obtain ⟨p, q, hA0, hV, rfl, hfz, hnd⟩ := hW
  have hA : DataW.TrodAll enc Try.prog W 0 (fun _ => true) true Try.f13.params.toList args.toList ds p := hA0
  have hA1 := hA
  rw [Try.params13] at hA hval
  obtain ⟨v0, vs0, d0, ds0, p0, q0, hargs, rfl, rfl, h0, r0⟩ := trodAll_cons hA
  obtain ⟨v1, vs1, d1, ds1, p1, q1, rfl, rfl, rfl, h1, r1⟩ := trodAll_cons r0
  obtain ⟨rfl, rfl, rfl⟩ := trodAll_nil r1
  obtain rfl : args = #[v0, v1] := by cases args; simp_all
  obtain ⟨rfl, rfl⟩ := trodVars_none hV
  obtain ⟨A0, n0, c0, M0, gs0, rfl, hn0, hl0, hf0, h0'⟩ := Grid.open_grid (hval 0 24 v0 rfl rfl) h0
  obtain ⟨A1, n1, c1, M1, gs1, rfl, hn1, hl1, hf1, h1'⟩ := Grid.open_grid (hval 1 24 v1 rfl rfl) h1
  clear hA0 hval0
  rw [List.append_nil] at hW'
  refine (walk A0 n0 c0 M0 gs0 A1 n1 c1 M1 gs1 hn0 hl0 hf0 h0' hn1 hl1 hf1 h1').mono fun e W' ⟨he, hg⟩ => ?_
  subst he
  exact ⟨_, rfl, Mem.post_args Grid.laid (by kernel_rfl) rfl rfl rfl hW' hA1 hg (fun _ _ _ => (trodAll_cons_mk (shut_bool Try.underlying4 _) trodAll_mk0)) (ok_one (by kernel_rfl) rfl (okWide_bool_mk Try.underlying4 _))⟩

theorem over : Rows.fnExactSameMemRow.holds Try.pinned (OpenSpec.ofChange Rows.fnExactSameMemSpec) :=
  OpenClaim.holds_of_wide 13 Try.f13 rfl rfl rfl rfl rfl rfl rfl ⟨rfl, rfl, rfl, rfl, rfl⟩ rfl rfl rfl rfl rfl (by kernel_rfl) Try.func13 (by kernel_rfl)
    (of_decide_eq_true (by kernel_rfl)) (by unfold Func.isWrapper; first | (rw [if_pos (by decide +kernel)]; kernel_rfl) | (rw [if_neg (by decide +kernel)]; exact ⟨rfl, rfl⟩))
    (fun os started H enc _ => lifted os started H enc)

/-- The given statement. -/
theorem proved : Rows.FnExactSameMemSaid :=
  over
#print axioms proved
end Go.Proofs.Ytkbcmeachfplnaa.fnExactSameMem
