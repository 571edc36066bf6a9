/-
  At every argument the law FnExactMergedCtl returns true: the project's MergedCtl answers as the given model's MergedCtl, changes no argument, and what it returns is its own. No condition.
-/
import Derived.Test.YtgpckcdkehmpiaaOwnImpl
import Derived.Test.YtgpckcdkehmpiaaSlotArgs
import Derived.Test.YtgpckcdkehmpiaaOrdT
namespace Go.Proofs.Ytgpckcdkehmpiaa.fnExactMergedCtl
set_option maxRecDepth 100000
open Go.ChangeShapes Go.WideShapes Go.ChangeAt Go.RowKit
open Go.Proofs.Ytgpckcdkehmpiaa.Base Go.Proofs.Ytgpckcdkehmpiaa.Mem Go.Proofs.Ytgpckcdkehmpiaa.Slots Go.Proofs.Ytgpckcdkehmpiaa.Ints Go.Proofs.Ytgpckcdkehmpiaa.Ctls Go.Proofs.Ytgpckcdkehmpiaa.Owns
set_option linter.unusedVariables false
set_option linter.unusedSimpArgs false

set_option maxRecDepth 100000 in
set_option maxHeartbeats 8000000 in
theorem walk (a0 : Int) (a10 : Int) (a11 : Int) (a12 : Bool) (w0 : (Lit.int .i64 a0).wf = true) (w1 : wfC (a10, a11, a12)) (w : World) :
    Calls Try.prog 6 #[.int .i64 a0, .agg #[.int .i64 a10, .int .i64 a11, .bool a12]] w fun e w' => e = .returned (.bool true) ∧ Below w.heap.size w w' := by
  have HW0 := Lib.hid w0
  clear w0
  have HW1 := Lib.hid w1
  clear w1
  have hK1 := fun V : World => spec_mergedC a0 a10 a11 a12 V
  have hK2 := fun V : World => impl_mergedC a0 a10 a11 a12 V HW0.out HW1.out
  unfold CtlP at hK1 hK2
  generalize mergedC a0 (a10, a11, a12) = x at hK1 hK2
  obtain ⟨x0, x1, x2⟩ := x
  have HK1 := Lib.hid hK1
  have HK2 := Lib.hid hK2
  clear hK1 hK2
  go_enter Try.func6, Try.ntmps6
  have hB1 : Below w.heap.size w (w.alloc (.cells #[.int .i64 a10, .int .i64 a11, .bool a12] 44)) := (Below.refl _ _).alloc (Nat.le_refl _) _
  have hS1 : w.heap.size < (w.alloc (.cells #[.int .i64 a10, .int .i64 a11, .bool a12] 44)).heap.size := by simp
  have hOb_1 := Lib.hid (Var.new w [.int .i64 a10, .int .i64 a11, .bool a12] 44)
  have zb0 := hOb_1.out.cell 0 (v := .int .i64 a10) rfl
  have zb1 := hOb_1.out.cell 1 (v := .int .i64 a11) rfl
  have zb2 := hOb_1.out.cell 2 (v := .bool a12) rfl
  go_wp2_with fail
  refine (toCtl_any a10 a11 a12 _).mono ?_
  rintro e w2 ⟨rfl, hb2⟩
  have hB2 := btr hB1 hb2
  have hS2 := hb2.size
  have hOb_2 := Lib.hid (hOb_1.out.below hb2 (by omega))
  clear hOb_1 hb2
  clear zb0 zb1 zb2
  go_wp2_with fail
  refine (HK1.out _).mono ?_
  rintro e w3 ⟨rfl, hb3⟩
  have hB3 := btr hB2 hb3
  have hS3 := hb3.size
  have hOb_3 := Lib.hid (hOb_2.out.below hb3 (by omega))
  clear hOb_2 hb3
  have hb4 : Below w3.heap.size w3 (w3.alloc (.cells #[.int .i64 x0, .int .i64 x1, .bool x2] 25)) := (Below.refl _ _).alloc (Nat.le_refl _) _
  have hB4 := btr hB3 hb4
  have hS4 : w3.heap.size < (w3.alloc (.cells #[.int .i64 x0, .int .i64 x1, .bool x2] 25)).heap.size := by simp
  have hOb_4 := Lib.hid (hOb_3.out.below hb4 (by omega))
  have hOs_4 := Lib.hid (Var.new w3 [.int .i64 x0, .int .i64 x1, .bool x2] 25)
  clear hOb_3 hb4
  have zb0 := hOb_4.out.cell 0 (v := .int .i64 a10) rfl
  have zb1 := hOb_4.out.cell 1 (v := .int .i64 a11) rfl
  have zb2 := hOb_4.out.cell 2 (v := .bool a12) rfl
  go_wp2_with fail
  refine (toCtl_any a10 a11 a12 _).mono ?_
  rintro e w5 ⟨rfl, hb5⟩
  have hB5 := btr hB4 hb5
  have hS5 := hb5.size
  have hOb_5 := Lib.hid (hOb_4.out.below hb5 (by omega))
  have hOs_5 := Lib.hid (hOs_4.out.below hb5 (by omega))
  clear hOb_4 hOs_4 hb5
  clear zb0 zb1 zb2
  go_wp2_with fail
  refine (HK2.out _).mono ?_
  rintro e w6 ⟨rfl, hb6⟩
  have hB6 := btr hB5 hb6
  have hS6 := hb6.size
  have hOb_6 := Lib.hid (hOb_5.out.below hb6 (by omega))
  have hOs_6 := Lib.hid (hOs_5.out.below hb6 (by omega))
  clear hOb_5 hOs_5 hb6
  have hb7 : Below w6.heap.size w6 (w6.alloc (.cells #[.int .i64 x0, .int .i64 x1, .bool x2] 25)) := (Below.refl _ _).alloc (Nat.le_refl _) _
  have hB7 := btr hB6 hb7
  have hS7 : w6.heap.size < (w6.alloc (.cells #[.int .i64 x0, .int .i64 x1, .bool x2] 25)).heap.size := by simp
  have hOb_7 := Lib.hid (hOb_6.out.below hb7 (by omega))
  have hOs_7 := Lib.hid (hOs_6.out.below hb7 (by omega))
  have hOg_7 := Lib.hid (Var.new w6 [.int .i64 x0, .int .i64 x1, .bool x2] 25)
  clear hOb_6 hOs_6 hb7
  have zs0 := hOs_7.out.cell 0 (v := .int .i64 x0) rfl
  have zs1 := hOs_7.out.cell 1 (v := .int .i64 x1) rfl
  have zs2 := hOs_7.out.cell 2 (v := .bool x2) rfl
  have zg0 := hOg_7.out.cell 0 (v := .int .i64 x0) rfl
  have zg1 := hOg_7.out.cell 1 (v := .int .i64 x1) rfl
  have zg2 := hOg_7.out.cell 2 (v := .bool x2) rfl
  go_wp2_with fail
  refine (eqCtl_same x0 x1 x2 _).mono ?_
  rintro e w8 ⟨rfl, hb8⟩
  have hB8 := btr hB7 hb8
  have hS8 := hb8.size
  have hOb_8 := Lib.hid (hOb_7.out.below hb8 (by omega))
  have hOs_8 := Lib.hid (hOs_7.out.below hb8 (by omega))
  have hOg_8 := Lib.hid (hOg_7.out.below hb8 (by omega))
  clear hOb_7 hOs_7 hOg_7 hb8
  clear zs0 zs1 zs2 zg0 zg1 zg2
  go_wp2_with fail
  go_ret
  exact ⟨rfl, hB8⟩

/-! ### The row's step -/
set_option maxRecDepth 100000 in
theorem lifted (os : Os) (started : os.Started) (H : Type) (enc : TypeId × Value → H) :
    ReturnsInHanded {} Try.checked os 6 .any (Rows.fnExactMergedCtlSpec.pre6 enc Try.prog Try.f6 Rows.fnExactMergedCtlRow.domain false) (Rows.fnExactMergedCtlSpec.post enc Try.prog Try.f6 false true false false) := by
  refine returnsInHanded_of_change (C := Try.checked) Base.own started (by kernel_rfl) Try.func6
    (ChangeSpec.witness6 (enc := enc) (C := Try.checked) false ⟨#[], #[.int .i64 0, .agg #[.int .i64 0, .int .i64 0, .bool false]], []⟩ 8 (by kernel_rfl) (by kernel_rfl) (by kernel_rfl) (by kernel_rfl)) ?_
  intro W base args ds gs before hval0 hW hcnd _
  have hval : ∀ (j : Nat) t v, Try.f6.params[j]? = some t → args[j]? = some v → Value.okWide Try.prog W .any base t v := hval0
  have hW' := hW
  obtain ⟨p, q, hA0, hV, rfl, hfz, hnd⟩ := hW
  have hA : DataW.TrodAll enc Try.prog W 0 (fun _ => true) true Try.f6.params.toList args.toList ds p := hA0
  have hA1 := hA
  rw [Try.params6] at hA hval
  obtain ⟨v0, vs0, d0, ds0, p0, q0, hargs, rfl, rfl, h0, r0⟩ := trodAll_cons hA
  obtain ⟨v1, vs1, d1, ds1, p1, q1, rfl, rfl, rfl, h1, r1⟩ := trodAll_cons r0
  obtain ⟨rfl, rfl, rfl⟩ := trodAll_nil r1
  obtain rfl : args = #[v0, v1] := by cases args; simp_all
  obtain ⟨rfl, rfl⟩ := trodVars_none hV
  obtain ⟨a0, rfl, _, _, w0⟩ := open_int Try.underlying3 (hval 0 3 v0 rfl rfl) h0
  obtain ⟨a10, a11, a12, rfl, w1⟩ := Ctls.open_ctl (hval 1 44 v1 rfl rfl) h1
  clear hA0 hval0
  rw [List.append_nil] at hW'
  refine (walk a0 a10 a11 a12 w0 w1 W).mono fun e W' ⟨he, hg⟩ => ?_
  subst he
  exact ⟨_, rfl, Mem.post_args Slots.laid (by kernel_rfl) rfl rfl rfl hW' hA1 hg (fun _ _ _ => (trodAll_cons_mk (shut_bool Try.underlying4 _) trodAll_mk0)) (ok_one (by kernel_rfl) rfl (okWide_bool_mk Try.underlying4 _))⟩

theorem over : Rows.fnExactMergedCtlRow.holds Try.pinned (OpenSpec.ofChange Rows.fnExactMergedCtlSpec) :=
  OpenClaim.holds_of_wide 6 Try.f6 rfl rfl rfl rfl rfl rfl rfl ⟨rfl, rfl, rfl, rfl, rfl⟩ rfl rfl rfl rfl rfl (by kernel_rfl) Try.func6 (by kernel_rfl)
    (of_decide_eq_true (by kernel_rfl)) (by unfold Func.isWrapper; first | (rw [if_pos (by decide +kernel)]; kernel_rfl) | (rw [if_neg (by decide +kernel)]; exact ⟨rfl, rfl⟩))
    (fun os started H enc _ => lifted os started H enc)

/-- The given statement. -/
theorem proved : Rows.FnExactMergedCtlSaid :=
  over
#print axioms proved
end Go.Proofs.Ytgpckcdkehmpiaa.fnExactMergedCtl
