/-
  At every argument the law FnExactSameProg returns true: the project's SameProg answers as the given model's SameProg, changes no argument, and what it returns is its own. No condition.
-/
import Derived.Test.YtgccejlkjeenpaaInsImpl
import Derived.Test.YtgccejlkjeenpaaVar
import Derived.Test.YtgccejlkjeenpaaOrdT
namespace Go.Proofs.Ytgccejlkjeenpaa.fnExactSameProg
set_option maxRecDepth 100000
open Go.ChangeShapes Go.WideShapes Go.ChangeAt Go.RowKit
open Go.Proofs.Ytgccejlkjeenpaa.Base Go.Proofs.Ytgccejlkjeenpaa.Mem Go.Proofs.Ytgccejlkjeenpaa.Slots Go.Proofs.Ytgccejlkjeenpaa.Ints Go.Proofs.Ytgccejlkjeenpaa.Inss
set_option linter.unusedVariables false
set_option linter.unusedSimpArgs false

set_option maxRecDepth 100000 in
set_option maxHeartbeats 8000000 in
theorem walk (A0 : Option Addr) (n0 c0 : Nat) (l0 : List JT) (A1 : Option Addr) (n1 c1 : Nat) (l1 : List JT) {w : World} (hn0 : n0 ≤ 9223372036854775807) (hl0 : l0.length = n0) (hw0 : wfJL l0) (h0 : Lies w 0 w.heap.size A0 (jcells l0)) (hn1 : n1 ≤ 9223372036854775807) (hl1 : l1.length = n1) (hw1 : wfJL l1) (h1 : Lies w 0 w.heap.size A1 (jcells l1)) :
    Calls Try.prog 8 #[.slice A0 n0 c0, .slice A1 n1 c1] w fun e w' => e = .returned (.bool true) ∧ Below w.heap.size w w' := by
  have HA0 := Lib.hid (show ∀ W, Below w.heap.size w W → Lies W 0 W.heap.size A0 (jcells l0) from fun W hb => (h0.below hb (Nat.le_refl _)).wide (Nat.le_refl _) hb.size)
  have HL0 := Lib.hid hl0
  have HW0 := Lib.hid hw0
  clear hl0 hw0 h0
  have HA1 := Lib.hid (show ∀ W, Below w.heap.size w W → Lies W 0 W.heap.size A1 (jcells l1) from fun W hb => (h1.below hb (Nat.le_refl _)).wide (Nat.le_refl _) hb.size)
  have HL1 := Lib.hid hl1
  have HW1 := Lib.hid hw1
  clear hl1 hw1 h1
  by_cases hbig0 : (1048576 : Int) < (n0 : Int)
  · go_enter Try.func8, Try.ntmps8
    go_wp2_with fail
    refine (szInsS_no A0 n0 c0 (1048576 : Int) _ (by omega) (by omega) hn0 hbig0).mono ?_
    rintro e w' ⟨rfl, rfl⟩
    go_wp2_with fail
    go_ret
    exact ⟨rfl, (Below.refl _ _)⟩
  have hm0 : n0 ≤ 1048576 := by omega
  have hle0 : (n0 : Int) ≤ (1048576 : Int) := by omega
  have hz0 : ¬ ((1048576 : Int) - (n0 : Int) < 0) := by omega
  by_cases hbig1 : ((1048576 : Int) - (n0 : Int)) < (n1 : Int)
  · go_enter Try.func8, Try.ntmps8
    go_wp2_with fail
    refine (szInsS_yes A0 n0 c0 (1048576 : Int) _ (by omega) hle0).mono ?_
    rintro e w' ⟨rfl, rfl⟩
    go_wp2_with fail
    refine (szInsS_no A1 n1 c1 ((1048576 : Int) - (n0 : Int)) _ (by omega) (by omega) hn1 hbig1).mono ?_
    rintro e w' ⟨rfl, rfl⟩
    go_wp2_with fail
    go_ret
    exact ⟨rfl, (Below.refl _ _)⟩
  have hm1 : n1 ≤ 1048576 := by omega
  have hle1 : (n1 : Int) ≤ ((1048576 : Int) - (n0 : Int)) := by omega
  have hz1 : ¬ (((1048576 : Int) - (n0 : Int)) - (n1 : Int) < 0) := by omega
  have hK1 := fun (A B : Option Addr) (c d : Nat) (V : World) (h : Lies V 0 V.heap.size A (jcells l0)) (h2 : Lies V 0 V.heap.size B (jcells l1)) => spec_sameB A B n0 n1 c d l0 l1 V hm0 hm1 HL0.out HL1.out h h2
  have hK2 := fun (A B : Option Addr) (c d : Nat) (V : World) (h : Lies V 0 V.heap.size A (jcells l0)) (h2 : Lies V 0 V.heap.size B (jcells l1)) => impl_same A B n0 n1 c d l0 l1 V hm0 hm1 HL0.out HL1.out h h2 HW0.out HW1.out
  generalize decide (l0 = l1) = x at hK1 hK2
  have HK1 := Lib.hid hK1
  have HK2 := Lib.hid hK2
  clear hK1 hK2
  go_enter Try.func8, Try.ntmps8
  go_wp2_with fail
  refine (szInsS_yes A0 n0 c0 (1048576 : Int) _ (by omega) hle0).mono ?_
  rintro e w' ⟨rfl, rfl⟩
  go_wp2_with fail
  refine (szInsS_yes A1 n1 c1 ((1048576 : Int) - (n0 : Int)) _ (by omega) hle1).mono ?_
  rintro e w' ⟨rfl, rfl⟩
  go_wp2_with fail
  refine (toInsS_any A0 n0 c0 0 l0 _ hm0 HL0.out (HA0.out _ (Below.refl _ _))).mono ?_
  rintro e w1 ⟨ad1, d1, rfl, hc1, ho1, hb1⟩
  have hB1 := btr (Below.refl _ _) hb1
  have hS1 := hb1.size
  have hOa_1 := Lib.hid ho1
  clear hc1 ho1 hb1
  go_wp2_with fail
  refine (toInsS_any A1 n1 c1 0 l1 _ hm1 HL1.out (HA1.out _ hB1)).mono ?_
  rintro e w2 ⟨ad2, d2, rfl, hc2, ho2, hb2⟩
  have hB2 := btr hB1 hb2
  have hS2 := hb2.size
  have hOa_2 := Lib.hid (hOa_1.out.below hb2 (by omega))
  have hOb_2 := Lib.hid ho2
  clear hOa_1 hc2 ho2 hb2
  go_wp2_with fail
  refine (HK1.out _ _ _ _ _ (hOa_2.out.1.wide (Nat.zero_le _) (by omega)) (hOb_2.out.1.wide (Nat.zero_le _) (by omega))).mono ?_
  rintro e w3 ⟨rfl, hb3⟩
  have hB3 := btr hB2 hb3
  have hS3 := hb3.size
  have hOa_3 := Lib.hid (hOa_2.out.below hb3 (by omega))
  have hOb_3 := Lib.hid (hOb_2.out.below hb3 (by omega))
  clear hOa_2 hOb_2 hb3
  clear hOa_3
  clear hOb_3
  go_wp2_with fail
  refine (toInsS_any A0 n0 c0 0 l0 _ hm0 HL0.out (HA0.out _ hB3)).mono ?_
  rintro e w4 ⟨ad4, d4, rfl, hc4, ho4, hb4⟩
  have hB4 := btr hB3 hb4
  have hS4 := hb4.size
  have hOx_4 := Lib.hid ho4
  clear hc4 ho4 hb4
  go_wp2_with fail
  refine (toInsS_any A1 n1 c1 0 l1 _ hm1 HL1.out (HA1.out _ hB4)).mono ?_
  rintro e w5 ⟨ad5, d5, rfl, hc5, ho5, hb5⟩
  have hB5 := btr hB4 hb5
  have hS5 := hb5.size
  have hOx_5 := Lib.hid (hOx_4.out.below hb5 (by omega))
  have hOy_5 := Lib.hid ho5
  clear hOx_4 hc5 ho5 hb5
  go_wp2_with fail
  refine (HK2.out _ _ _ _ _ (hOx_5.out.1.wide (Nat.zero_le _) (by omega)) (hOy_5.out.1.wide (Nat.zero_le _) (by omega))).mono ?_
  rintro e w6 ⟨rfl, hb6⟩
  have hB6 := btr hB5 hb6
  have hS6 := hb6.size
  have hOx_6 := Lib.hid (hOx_5.out.below hb6 (by omega))
  have hOy_6 := Lib.hid (hOy_5.out.below hb6 (by omega))
  clear hOx_5 hOy_5 hb6
  go_wp2_with fail
  refine (toInsS_any A0 n0 c0 0 l0 _ hm0 HL0.out (HA0.out _ hB6)).mono ?_
  rintro e w7 ⟨ad7, d7, rfl, hc7, ho7, hb7⟩
  have hB7 := btr hB6 hb7
  have hS7 := hb7.size
  have hOx_7 := Lib.hid (hOx_6.out.below hb7 (by omega))
  have hOy_7 := Lib.hid (hOy_6.out.below hb7 (by omega))
  have hOp_7 := Lib.hid ho7
  clear hOx_6 hOy_6 hc7 ho7 hb7
  go_wp2_with fail
  refine (eqInsS_same (some ad4) (some ad7) n0 d4 d7 _ _ _ _ l0 _ hm0 HL0.out (by omega) (by omega) hOx_7.out.1 hOp_7.out.1).mono ?_
  rintro e w8 ⟨rfl, hb8⟩
  have hB8 := btr hB7 hb8
  have hS8 := hb8.size
  have hOx_8 := Lib.hid (hOx_7.out.below hb8 (by omega))
  have hOy_8 := Lib.hid (hOy_7.out.below hb8 (by omega))
  have hOp_8 := Lib.hid (hOp_7.out.below hb8 (by omega))
  clear hOx_7 hOy_7 hOp_7 hb8
  clear hOx_8
  clear hOp_8
  go_wp2_with fail
  refine (toInsS_any A1 n1 c1 0 l1 _ hm1 HL1.out (HA1.out _ hB8)).mono ?_
  rintro e w9 ⟨ad9, d9, rfl, hc9, ho9, hb9⟩
  have hB9 := btr hB8 hb9
  have hS9 := hb9.size
  have hOy_9 := Lib.hid (hOy_8.out.below hb9 (by omega))
  have hOq_9 := Lib.hid ho9
  clear hOy_8 hc9 ho9 hb9
  go_wp2_with fail
  refine (eqInsS_same (some ad5) (some ad9) n1 d5 d9 _ _ _ _ l1 _ hm1 HL1.out (by omega) (by omega) hOy_9.out.1 hOq_9.out.1).mono ?_
  rintro e w10 ⟨rfl, hb10⟩
  have hB10 := btr hB9 hb10
  have hS10 := hb10.size
  have hOy_10 := Lib.hid (hOy_9.out.below hb10 (by omega))
  have hOq_10 := Lib.hid (hOq_9.out.below hb10 (by omega))
  clear hOy_9 hOq_9 hb10
  go_wp2_with fail
  go_ret
  exact ⟨rfl, hB10⟩

/-! ### The row's step -/
set_option maxRecDepth 100000 in
theorem lifted (os : Os) (started : os.Started) (H : Type) (enc : TypeId × Value → H) :
    ReturnsInHanded {} Try.checked os 8 .any (Rows.fnExactSameProgSpec.pre6 enc Try.prog Try.f8 Rows.fnExactSameProgRow.domain false) (Rows.fnExactSameProgSpec.post enc Try.prog Try.f8 false true false false) := by
  refine returnsInHanded_of_change (C := Try.checked) Base.own started (by kernel_rfl) Try.func8
    (ChangeSpec.witness6 (enc := enc) (C := Try.checked) false ⟨#[], #[.slice none 0 0, .slice none 0 0], []⟩ 8 (by kernel_rfl) (by kernel_rfl) (by kernel_rfl) (by kernel_rfl)) ?_
  intro W base args ds gs before hval0 hW hcnd _
  have hval : ∀ (j : Nat) t v, Try.f8.params[j]? = some t → args[j]? = some v → Value.okWide Try.prog W .any base t v := hval0
  have hW' := hW
  obtain ⟨p, q, hA0, hV, rfl, hfz, hnd⟩ := hW
  have hA : DataW.TrodAll enc Try.prog W 0 (fun _ => true) true Try.f8.params.toList args.toList ds p := hA0
  have hA1 := hA
  rw [Try.params8] at hA hval
  obtain ⟨v0, vs0, d0, ds0, p0, q0, hargs, rfl, rfl, h0, r0⟩ := trodAll_cons hA
  obtain ⟨v1, vs1, d1, ds1, p1, q1, rfl, rfl, rfl, h1, r1⟩ := trodAll_cons r0
  obtain ⟨rfl, rfl, rfl⟩ := trodAll_nil r1
  obtain rfl : args = #[v0, v1] := by cases args; simp_all
  obtain ⟨rfl, rfl⟩ := trodVars_none hV
  obtain ⟨A0, n0, c0, l0, rfl, hn0, hl0, hw0, h0'⟩ := Inss.open_insts (hval 0 34 v0 rfl rfl) h0
  obtain ⟨A1, n1, c1, l1, rfl, hn1, hl1, hw1, h1'⟩ := Inss.open_insts (hval 1 34 v1 rfl rfl) h1
  clear hA0 hval0
  rw [List.append_nil] at hW'
  refine (walk A0 n0 c0 l0 A1 n1 c1 l1 hn0 hl0 hw0 h0' hn1 hl1 hw1 h1').mono fun e W' ⟨he, hg⟩ => ?_
  subst he
  exact ⟨_, rfl, Mem.post_args Slots.laid (by kernel_rfl) rfl rfl rfl hW' hA1 hg (fun _ _ _ => (trodAll_cons_mk (shut_bool Try.underlying4 _) trodAll_mk0)) (ok_one (by kernel_rfl) rfl (okWide_bool_mk Try.underlying4 _))⟩

theorem over : Rows.fnExactSameProgRow.holds Try.pinned (OpenSpec.ofChange Rows.fnExactSameProgSpec) :=
  OpenClaim.holds_of_wide 8 Try.f8 rfl rfl rfl rfl rfl rfl rfl ⟨rfl, rfl, rfl, rfl, rfl⟩ rfl rfl rfl rfl rfl (by kernel_rfl) Try.func8 (by kernel_rfl)
    (of_decide_eq_true (by kernel_rfl)) (by unfold Func.isWrapper; first | (rw [if_pos (by decide +kernel)]; kernel_rfl) | (rw [if_neg (by decide +kernel)]; exact ⟨rfl, rfl⟩))
    (fun os started H enc _ => lifted os started H enc)

/-- The given statement. -/
theorem proved : Rows.FnExactSameProgSaid :=
  over
#print axioms proved
end Go.Proofs.Ytgccejlkjeenpaa.fnExactSameProg
