/-
  At every argument the law FnExactFaultExit returns true: the project's FaultExit answers as the given model's FaultExit, changes no argument, and what it returns is its own. No condition.
-/
import Derived.Test.YtikamndjelamgaaExitImpl
import Derived.Test.YtikamndjelamgaaSlotArgs
import Derived.Test.YtikamndjelamgaaOrdT
namespace Go.Proofs.Ytikamndjelamgaa.fnExactFaultExit
set_option maxRecDepth 100000
open Go.ChangeShapes Go.WideShapes Go.ChangeAt Go.RowKit
open Go.Proofs.Ytikamndjelamgaa.Base Go.Proofs.Ytikamndjelamgaa.Mem Go.Proofs.Ytikamndjelamgaa.Slots Go.Proofs.Ytikamndjelamgaa.Ints Go.Proofs.Ytikamndjelamgaa.Exits
set_option linter.unusedVariables false
set_option linter.unusedSimpArgs false

set_option maxRecDepth 100000 in
set_option maxHeartbeats 8000000 in
theorem walk (a0 : Int) (a1 : Bool) (w0 : (Lit.int .i64 a0).wf = true) (w : World) :
    Calls Try.prog 4 #[.int .i64 a0, .bool a1] w fun e w' => e = .returned (.bool true) ∧ Below w.heap.size w w' := by
  have HW0 := Lib.hid w0
  clear w0
  have hK1 := fun V : World => spec_fault a0 a1 V
  have hK2 := fun V : World => impl_fault a0 a1 V HW0.out
  unfold ExitP at hK1 hK2
  dsimp only at hK1 hK2
  have HK1 := Lib.hid hK1
  have HK2 := Lib.hid hK2
  clear hK1 hK2
  go_enter Try.func4, Try.ntmps4
  go_wp2_with fail
  refine (HK1.out _).mono ?_
  rintro e w1 ⟨rfl, hb1⟩
  have hB1 := btr (Below.refl _ _) hb1
  have hS1 := hb1.size
  clear hb1
  have hb2 : Below w1.heap.size w1 (w1.alloc (.cells #[.int .i64 1, .int .i64 a0, .bool a1, .int .i64 0] 25)) := (Below.refl _ _).alloc (Nat.le_refl _) _
  have hB2 := btr hB1 hb2
  have hS2 : w1.heap.size < (w1.alloc (.cells #[.int .i64 1, .int .i64 a0, .bool a1, .int .i64 0] 25)).heap.size := by simp
  have hOs_2 := Lib.hid (Var.new w1 [.int .i64 1, .int .i64 a0, .bool a1, .int .i64 0] 25)
  clear hb2
  go_wp2_with fail
  refine (HK2.out _).mono ?_
  rintro e w3 ⟨rfl, hb3⟩
  have hB3 := btr hB2 hb3
  have hS3 := hb3.size
  have hOs_3 := Lib.hid (hOs_2.out.below hb3 (by omega))
  clear hOs_2 hb3
  have hb4 : Below w3.heap.size w3 (w3.alloc (.cells #[.int .i64 1, .int .i64 a0, .bool a1, .int .i64 0] 25)) := (Below.refl _ _).alloc (Nat.le_refl _) _
  have hB4 := btr hB3 hb4
  have hS4 : w3.heap.size < (w3.alloc (.cells #[.int .i64 1, .int .i64 a0, .bool a1, .int .i64 0] 25)).heap.size := by simp
  have hOs_4 := Lib.hid (hOs_3.out.below hb4 (by omega))
  have hOg_4 := Lib.hid (Var.new w3 [.int .i64 1, .int .i64 a0, .bool a1, .int .i64 0] 25)
  clear hOs_3 hb4
  have zs0 := hOs_4.out.cell 0 (v := .int .i64 1) rfl
  have zs1 := hOs_4.out.cell 1 (v := .int .i64 a0) rfl
  have zs2 := hOs_4.out.cell 2 (v := .bool a1) rfl
  have zs3 := hOs_4.out.cell 3 (v := .int .i64 0) rfl
  have zg0 := hOg_4.out.cell 0 (v := .int .i64 1) rfl
  have zg1 := hOg_4.out.cell 1 (v := .int .i64 a0) rfl
  have zg2 := hOg_4.out.cell 2 (v := .bool a1) rfl
  have zg3 := hOg_4.out.cell 3 (v := .int .i64 0) rfl
  go_wp2_with fail
  refine (eqExit_same 1 a0 a1 0 _).mono ?_
  rintro e w5 ⟨rfl, hb5⟩
  have hB5 := btr hB4 hb5
  have hS5 := hb5.size
  have hOs_5 := Lib.hid (hOs_4.out.below hb5 (by omega))
  have hOg_5 := Lib.hid (hOg_4.out.below hb5 (by omega))
  clear hOs_4 hOg_4 hb5
  clear zs0 zs1 zs2 zs3 zg0 zg1 zg2 zg3
  go_wp2_with fail
  go_ret
  exact ⟨rfl, hB5⟩

/-! ### The row's step -/
set_option maxRecDepth 100000 in
theorem lifted (os : Os) (started : os.Started) (H : Type) (enc : TypeId × Value → H) :
    ReturnsInHanded {} Try.checked os 4 .any (Rows.fnExactFaultExitSpec.pre6 enc Try.prog Try.f4 Rows.fnExactFaultExitRow.domain false) (Rows.fnExactFaultExitSpec.post enc Try.prog Try.f4 false true false false) := by
  refine returnsInHanded_of_change (C := Try.checked) Base.own started (by kernel_rfl) Try.func4
    (ChangeSpec.witness6 (enc := enc) (C := Try.checked) false ⟨#[], #[.int .i64 0, .bool false], []⟩ 8 (by kernel_rfl) (by kernel_rfl) (by kernel_rfl) (by kernel_rfl)) ?_
  intro W base args ds gs before hval0 hW hcnd _
  have hval : ∀ (j : Nat) t v, Try.f4.params[j]? = some t → args[j]? = some v → Value.okWide Try.prog W .any base t v := hval0
  have hW' := hW
  obtain ⟨p, q, hA0, hV, rfl, hfz, hnd⟩ := hW
  have hA : DataW.TrodAll enc Try.prog W 0 (fun _ => true) true Try.f4.params.toList args.toList ds p := hA0
  have hA1 := hA
  rw [Try.params4] at hA hval
  obtain ⟨v0, vs0, d0, ds0, p0, q0, hargs, rfl, rfl, h0, r0⟩ := trodAll_cons hA
  obtain ⟨v1, vs1, d1, ds1, p1, q1, rfl, rfl, rfl, h1, r1⟩ := trodAll_cons r0
  obtain ⟨rfl, rfl, rfl⟩ := trodAll_nil r1
  obtain rfl : args = #[v0, v1] := by cases args; simp_all
  obtain ⟨rfl, rfl⟩ := trodVars_none hV
  obtain ⟨a0, rfl, _, _, w0⟩ := open_int Try.underlying3 (hval 0 3 v0 rfl rfl) h0
  obtain ⟨a1, rfl, _, _⟩ := open_bool Try.underlying4 (hval 1 4 v1 rfl rfl) h1
  clear hA0 hval0
  rw [List.append_nil] at hW'
  refine (walk a0 a1 w0 W).mono fun e W' ⟨he, hg⟩ => ?_
  subst he
  exact ⟨_, rfl, Mem.post_args Slots.laid (by kernel_rfl) rfl rfl rfl hW' hA1 hg (fun _ _ _ => (trodAll_cons_mk (shut_bool Try.underlying4 _) trodAll_mk0)) (ok_one (by kernel_rfl) rfl (okWide_bool_mk Try.underlying4 _))⟩

theorem over : Rows.fnExactFaultExitRow.holds Try.pinned (OpenSpec.ofChange Rows.fnExactFaultExitSpec) :=
  OpenClaim.holds_of_wide 4 Try.f4 rfl rfl rfl rfl rfl rfl rfl ⟨rfl, rfl, rfl, rfl, rfl⟩ rfl rfl rfl rfl rfl (by kernel_rfl) Try.func4 (by kernel_rfl)
    (of_decide_eq_true (by kernel_rfl)) (by unfold Func.isWrapper; first | (rw [if_pos (by decide +kernel)]; kernel_rfl) | (rw [if_neg (by decide +kernel)]; exact ⟨rfl, rfl⟩))
    (fun os started H enc _ => lifted os started H enc)

/-- The given statement. -/
theorem proved : Rows.FnExactFaultExitSaid :=
  over
#print axioms proved
end Go.Proofs.Ytikamndjelamgaa.fnExactFaultExit
