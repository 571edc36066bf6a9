/-
  At every argument the law FnExactCellAt returns true: the project's CellAt answers as the given model's CellAt, changes no argument, and what it returns is its own. No condition.
-/
import Derived.Test.YtkbcmeachfplnaaMemPutS
import Derived.Test.YtkbcmeachfplnaaGridArgs
import Derived.Test.YtkbcmeachfplnaaSizes
namespace Go.Proofs.Ytkbcmeachfplnaa.fnExactCellAt
open Go.ChangeShapes Go.WideShapes Go.ChangeAt Go.RowKit
open Go.Proofs.Ytkbcmeachfplnaa.Base Go.Proofs.Ytkbcmeachfplnaa.Mem Go.Proofs.Ytkbcmeachfplnaa.Ints Go.Proofs.Ytkbcmeachfplnaa.Grid
set_option linter.unusedVariables false

set_option maxRecDepth 100000 in
set_option maxHeartbeats 4000000 in
theorem walk (A0 : Option Addr) (n0 c0 : Nat) (M0 : List (List Int)) (gs0 : List Hd) (a1 : Int) (a2 : Int) {w : World} (hn0 : n0 ≤ 9223372036854775807) (hl0 : M0.length = n0) (hf0 : fitG M0) (h0 : RG w 0 w.heap.size A0 M0 gs0) (wf1 : (Lit.int .i64 a1).wf = true) (wf2 : (Lit.int .i64 a2).wf = true) :
    Calls Try.prog 9 #[.slice A0 n0 c0, .int .i64 a1, .int .i64 a2] w fun e w' => e = .returned (.bool true) ∧ Below w.heap.size w w' := by
  have HA0 := Lib.hid (show ∀ W, Below w.heap.size w W → RG W 0 W.heap.size A0 M0 gs0 from fun W hb => (h0.below hb (Nat.le_refl _)).wide (Nat.le_refl _) hb.size)
  have HL0 := Lib.hid hl0
  have HF0 := Lib.hid hf0
  clear hl0 hf0
  by_cases hbig0 : (1048576 : Int) < (n0 : Int) + (tot M0 : Nat)
  · go_enter Try.func9, Try.ntmps9
    go_wp2_with fail
    refine (szIntSS_no A0 n0 c0 0 w.heap.size (1048576) M0 gs0 _ (by omega) (by omega) HL0.out HF0.out hn0 hbig0 h0).mono ?_
    rintro e w' ⟨rfl, rfl⟩
    go_wp2_with fail
    go_ret
    exact ⟨rfl, Below.refl _ _⟩
  have HC0 := Lib.hid (capG.of (M := M0) (by have := HL0.out; omega))
  have hz0 : ¬ ((1048576 : Int) - (n0 : Int) - (tot M0 : Nat) < 0) := by omega
  have hK1 := fun (A : Option Addr) (n c lo hi : Nat) (hs : List Hd) (V : World) (h : M0.length = n) (h1 : RG V lo hi A M0 hs) => spec_cellAt A n c lo hi a1 a2 M0 hs V HC0.out h h1
  have hK2 := fun (A : Option Addr) (n c lo hi : Nat) (hs : List Hd) (V : World) (h : M0.length = n) (h1 : RG V lo hi A M0 hs) => impl_cellAt A n c lo hi a1 a2 M0 hs V HC0.out h h1
  generalize cellAt M0 a1 a2 = b at hK1 hK2
  have HK1 := Lib.hid hK1
  have HK2 := Lib.hid hK2
  clear hK1 hK2
  go_enter Try.func9, Try.ntmps9
  go_wp2_with fail
  refine (szIntSS_yes A0 n0 c0 0 w.heap.size (1048576) M0 gs0 _ (by omega) HL0.out HF0.out (by omega) h0).mono ?_
  rintro e w' ⟨rfl, rfl⟩
  go_wp2_with fail
  refine (toIntSS_any A0 n0 c0 0 M0 gs0 _ HC0.out HL0.out (HA0.out _ (Below.refl _ _))).mono ?_
  rintro e w1 ⟨X1, m1, d1, qs1, rfl, hx1, ho1, hb1⟩
  obtain rfl : n0 = m1 := by have := HL0.out; omega
  have hB1 := btr (Below.refl _ _) hb1
  have hS1 := hb1.size
  have hOa_1 := Lib.hid ho1
  clear hx1 ho1 hb1
  go_wp2_with fail
  refine (HK1.out _ _ _ _ _ _ _ HL0.out hOa_1.out.rg).mono ?_
  rintro e w' ⟨rfl, rfl⟩
  clear hOa_1
  go_wp2_with fail
  refine (toIntSS_any A0 n0 c0 0 M0 gs0 _ HC0.out HL0.out (HA0.out _ hB1)).mono ?_
  rintro e w3 ⟨X3, m3, d3, qs3, rfl, hx3, ho3, hb3⟩
  obtain rfl : n0 = m3 := by have := HL0.out; omega
  have hB3 := btr hB1 hb3
  have hS3 := hb3.size
  have hOx_3 := Lib.hid ho3
  clear hx3 ho3 hb3
  go_wp2_with fail
  refine (HK2.out _ _ _ _ _ _ _ HL0.out hOx_3.out.rg).mono ?_
  rintro e w' ⟨rfl, rfl⟩
  go_wp2_with fail
  refine (toIntSS_any A0 n0 c0 0 M0 gs0 _ HC0.out HL0.out (HA0.out _ hB3)).mono ?_
  rintro e w5 ⟨X5, m5, d5, qs5, rfl, hx5, ho5, hb5⟩
  obtain rfl : n0 = m5 := by have := HL0.out; omega
  have hB5 := btr hB3 hb5
  have hS5 := hb5.size
  have hOx_5 := Lib.hid (hOx_3.out.below hb5 (by omega))
  have hOy_5 := Lib.hid ho5
  clear hOx_3 hx5 ho5 hb5
  go_wp2_with fail
  refine (eqIntSS_same X3 X5 n0 d3 d5 _ _ _ _ M0 qs3 qs5 _ HC0.out HL0.out (by omega) (by omega) hOx_5.out.rg hOy_5.out.rg).mono ?_
  rintro e w6 ⟨rfl, hb6⟩
  have hB6 := btr hB5 hb6
  have hS6 := hb6.size
  have hOx_6 := Lib.hid (hOx_5.out.below hb6 (by omega))
  have hOy_6 := Lib.hid (hOy_5.out.below hb6 (by omega))
  clear hOx_5 hOy_5 hb6
  go_wp2_with fail
  go_ret
  exact ⟨rfl, hB6⟩

/-! ### The row's step -/
set_option maxRecDepth 100000 in
theorem lifted (os : Os) (started : os.Started) (H : Type) (enc : TypeId × Value → H) :
    ReturnsInHanded {} Try.checked os 9 .any (Rows.fnExactCellAtSpec.pre6 enc Try.prog Try.f9 Rows.fnExactCellAtRow.domain false) (Rows.fnExactCellAtSpec.post enc Try.prog Try.f9 false true false false) := by
  refine returnsInHanded_of_change (C := Try.checked) Base.own started (by kernel_rfl) Try.func9
    (ChangeSpec.witness6 (enc := enc) (C := Try.checked) false ⟨#[], #[.slice none 0 0, .int .i64 0, .int .i64 0], []⟩ 8 (by kernel_rfl) (by kernel_rfl) (by kernel_rfl) (by kernel_rfl)) ?_
  intro W base args ds gs before hval0 hW hcnd _
  have hval : ∀ (j : Nat) t v, Try.f9.params[j]? = some t → args[j]? = some v → Value.okWide Try.prog W .any base t v := hval0
  have hW' := hW
  obtain ⟨p, q, hA0, hV, rfl, hfz, hnd⟩ := hW
  have hA : DataW.TrodAll enc Try.prog W 0 (fun _ => true) true Try.f9.params.toList args.toList ds p := hA0
  have hA1 := hA
  rw [Try.params9] at hA hval
  obtain ⟨v0, vs0, d0, ds0, p0, q0, hargs, rfl, rfl, h0, r0⟩ := trodAll_cons hA
  obtain ⟨v1, vs1, d1, ds1, p1, q1, rfl, rfl, rfl, h1, r1⟩ := trodAll_cons r0
  obtain ⟨v2, vs2, d2, ds2, p2, q2, rfl, rfl, rfl, h2, r2⟩ := trodAll_cons r1
  obtain ⟨rfl, rfl, rfl⟩ := trodAll_nil r2
  obtain rfl : args = #[v0, v1, v2] := by cases args; simp_all
  obtain ⟨rfl, rfl⟩ := trodVars_none hV
  obtain ⟨A0, n0, c0, M0, gs0, rfl, hn0, hl0, hf0, h0'⟩ := Grid.open_grid (hval 0 24 v0 rfl rfl) h0
  obtain ⟨a1, rfl, _, _, w1⟩ := open_int Try.underlying3 (hval 1 3 v1 rfl rfl) h1
  obtain ⟨a2, rfl, _, _, w2⟩ := open_int Try.underlying3 (hval 2 3 v2 rfl rfl) h2
  clear hA0 hval0
  rw [List.append_nil] at hW'
  refine (walk A0 n0 c0 M0 gs0 a1 a2 hn0 hl0 hf0 h0' w1 w2).mono fun e W' ⟨he, hg⟩ => ?_
  subst he
  exact ⟨_, rfl, Mem.post_args Grid.laid (by kernel_rfl) rfl rfl rfl hW' hA1 hg (fun _ _ _ => (trodAll_cons_mk (shut_bool Try.underlying4 _) trodAll_mk0)) (ok_one (by kernel_rfl) rfl (okWide_bool_mk Try.underlying4 _))⟩

theorem over : Rows.fnExactCellAtRow.holds Try.pinned (OpenSpec.ofChange Rows.fnExactCellAtSpec) :=
  OpenClaim.holds_of_wide 9 Try.f9 rfl rfl rfl rfl rfl rfl rfl ⟨rfl, rfl, rfl, rfl, rfl⟩ rfl rfl rfl rfl rfl (by kernel_rfl) Try.func9 (by kernel_rfl)
    (of_decide_eq_true (by kernel_rfl)) (by unfold Func.isWrapper; first | (rw [if_pos (by decide +kernel)]; kernel_rfl) | (rw [if_neg (by decide +kernel)]; exact ⟨rfl, rfl⟩))
    (fun os started H enc _ => lifted os started H enc)

/-- The given statement. -/
theorem proved : Rows.FnExactCellAtSaid :=
  over
#print axioms proved
end Go.Proofs.Ytkbcmeachfplnaa.fnExactCellAt
