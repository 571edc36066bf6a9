/-
  At every argument the law FnExactExitOk returns true: the project's ExitOk answers as the given model's ExitOk, changes no argument, and what it returns is its own. No condition.
-/
import Derived.Test.YtikamndjelamgaaExitImpl
import Derived.Test.YtikamndjelamgaaSlotArgs
import Derived.Test.YtikamndjelamgaaOrdT
namespace Go.Proofs.Ytikamndjelamgaa.fnExactExitOk
set_option maxRecDepth 100000
open Go.ChangeShapes Go.WideShapes Go.ChangeAt Go.RowKit
open Go.Proofs.Ytikamndjelamgaa.Base Go.Proofs.Ytikamndjelamgaa.Mem Go.Proofs.Ytikamndjelamgaa.Slots Go.Proofs.Ytikamndjelamgaa.Ints Go.Proofs.Ytikamndjelamgaa.Exits
set_option linter.unusedVariables false
set_option linter.unusedSimpArgs false

set_option maxRecDepth 100000 in
set_option maxHeartbeats 8000000 in
theorem walk (a00 : Int) (a01 : Int) (a02 : Bool) (a03 : Int) (w0 : wfQ (a00, a01, a02, a03)) (w : World) :
    Calls Try.prog 3 #[.agg #[.int .i64 a00, .int .i64 a01, .bool a02, .int .i64 a03]] w fun e w' => e = .returned (.bool true) ∧ Below w.heap.size w w' := by
  have HW0 := Lib.hid w0
  clear w0
  have hK1 := fun V : World => spec_exitOk a00 a01 a02 a03 V
  have hK2 := fun V : World => impl_exitOk a00 a01 a02 a03 V HW0.out
  generalize exitOk (a00, a01, a02, a03) = x at hK1 hK2
  have HK1 := Lib.hid hK1
  have HK2 := Lib.hid hK2
  clear hK1 hK2
  go_enter Try.func3, Try.ntmps3
  have hB1 : Below w.heap.size w (w.alloc (.cells #[.int .i64 a00, .int .i64 a01, .bool a02, .int .i64 a03] 23)) := (Below.refl _ _).alloc (Nat.le_refl _) _
  have hS1 : w.heap.size < (w.alloc (.cells #[.int .i64 a00, .int .i64 a01, .bool a02, .int .i64 a03] 23)).heap.size := by simp
  have hOb_1 := Lib.hid (Var.new w [.int .i64 a00, .int .i64 a01, .bool a02, .int .i64 a03] 23)
  have zb0 := hOb_1.out.cell 0 (v := .int .i64 a00) rfl
  have zb1 := hOb_1.out.cell 1 (v := .int .i64 a01) rfl
  have zb2 := hOb_1.out.cell 2 (v := .bool a02) rfl
  have zb3 := hOb_1.out.cell 3 (v := .int .i64 a03) rfl
  go_wp2_with fail
  refine (toExit_any a00 a01 a02 a03 _).mono ?_
  rintro e w2 ⟨rfl, hb2⟩
  have hB2 := btr hB1 hb2
  have hS2 := hb2.size
  have hOb_2 := Lib.hid (hOb_1.out.below hb2 (by omega))
  clear hOb_1 hb2
  clear zb0 zb1 zb2 zb3
  go_wp2_with fail
  refine (HK1.out _).mono ?_
  rintro e w3 ⟨rfl, hb3⟩
  have hB3 := btr hB2 hb3
  have hS3 := hb3.size
  have hOb_3 := Lib.hid (hOb_2.out.below hb3 (by omega))
  clear hOb_2 hb3
  have zb0 := hOb_3.out.cell 0 (v := .int .i64 a00) rfl
  have zb1 := hOb_3.out.cell 1 (v := .int .i64 a01) rfl
  have zb2 := hOb_3.out.cell 2 (v := .bool a02) rfl
  have zb3 := hOb_3.out.cell 3 (v := .int .i64 a03) rfl
  go_wp2_with fail
  refine (toExit_any a00 a01 a02 a03 _).mono ?_
  rintro e w4 ⟨rfl, hb4⟩
  have hB4 := btr hB3 hb4
  have hS4 := hb4.size
  have hOb_4 := Lib.hid (hOb_3.out.below hb4 (by omega))
  clear hOb_3 hb4
  clear zb0 zb1 zb2 zb3
  go_wp2_with fail
  refine (HK2.out _).mono ?_
  rintro e w5 ⟨rfl, hb5⟩
  have hB5 := btr hB4 hb5
  have hS5 := hb5.size
  have hOb_5 := Lib.hid (hOb_4.out.below hb5 (by omega))
  clear hOb_4 hb5
  go_wp2_with fail
  go_ret
  exact ⟨rfl, hB5⟩

/-! ### The row's step -/
set_option maxRecDepth 100000 in
theorem lifted (os : Os) (started : os.Started) (H : Type) (enc : TypeId × Value → H) :
    ReturnsInHanded {} Try.checked os 3 .any (Rows.fnExactExitOkSpec.pre6 enc Try.prog Try.f3 Rows.fnExactExitOkRow.domain false) (Rows.fnExactExitOkSpec.post enc Try.prog Try.f3 false true false false) := by
  refine returnsInHanded_of_change (C := Try.checked) Base.own started (by kernel_rfl) Try.func3
    (ChangeSpec.witness6 (enc := enc) (C := Try.checked) false ⟨#[], #[.agg #[.int .i64 0, .int .i64 0, .bool false, .int .i64 0]], []⟩ 8 (by kernel_rfl) (by kernel_rfl) (by kernel_rfl) (by kernel_rfl)) ?_
  intro W base args ds gs before hval0 hW hcnd _
  have hval : ∀ (j : Nat) t v, Try.f3.params[j]? = some t → args[j]? = some v → Value.okWide Try.prog W .any base t v := hval0
  have hW' := hW
  obtain ⟨p, q, hA0, hV, rfl, hfz, hnd⟩ := hW
  have hA : DataW.TrodAll enc Try.prog W 0 (fun _ => true) true Try.f3.params.toList args.toList ds p := hA0
  have hA1 := hA
  rw [Try.params3] at hA hval
  obtain ⟨v0, vs0, d0, ds0, p0, q0, hargs, rfl, rfl, h0, r0⟩ := trodAll_cons hA
  obtain ⟨rfl, rfl, rfl⟩ := trodAll_nil r0
  obtain rfl : args = #[v0] := by cases args; simp_all
  obtain ⟨rfl, rfl⟩ := trodVars_none hV
  obtain ⟨a00, a01, a02, a03, rfl, w0⟩ := Exits.open_exit (hval 0 23 v0 rfl rfl) h0
  clear hA0 hval0
  rw [List.append_nil] at hW'
  refine (walk a00 a01 a02 a03 w0 W).mono fun e W' ⟨he, hg⟩ => ?_
  subst he
  exact ⟨_, rfl, Mem.post_args Slots.laid (by kernel_rfl) rfl rfl rfl hW' hA1 hg (fun _ _ _ => (trodAll_cons_mk (shut_bool Try.underlying4 _) trodAll_mk0)) (ok_one (by kernel_rfl) rfl (okWide_bool_mk Try.underlying4 _))⟩

theorem over : Rows.fnExactExitOkRow.holds Try.pinned (OpenSpec.ofChange Rows.fnExactExitOkSpec) :=
  OpenClaim.holds_of_wide 3 Try.f3 rfl rfl rfl rfl rfl rfl rfl ⟨rfl, rfl, rfl, rfl, rfl⟩ rfl rfl rfl rfl rfl (by kernel_rfl) Try.func3 (by kernel_rfl)
    (of_decide_eq_true (by kernel_rfl)) (by unfold Func.isWrapper; first | (rw [if_pos (by decide +kernel)]; kernel_rfl) | (rw [if_neg (by decide +kernel)]; exact ⟨rfl, rfl⟩))
    (fun os started H enc _ => lifted os started H enc)

/-- The given statement. -/
theorem proved : Rows.FnExactExitOkSaid :=
  over
#print axioms proved
end Go.Proofs.Ytikamndjelamgaa.fnExactExitOk
