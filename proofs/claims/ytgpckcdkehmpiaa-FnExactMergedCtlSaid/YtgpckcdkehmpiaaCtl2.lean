/-
  Control blocks: the given model's CtlOk, HasTrap and Posts; no statement about the project's code stands here. No condition.
-/
import Derived.Test.YtgpckcdkehmpiaaCtl
namespace Go.Proofs.Ytgpckcdkehmpiaa.Ctls
set_option maxRecDepth 100000
open Go.ChangeShapes Go.WideShapes Go.ChangeAt Go.RowKit
open Go.Proofs.Ytgpckcdkehmpiaa.Base Go.Proofs.Ytgpckcdkehmpiaa.Mem Go.Proofs.Ytgpckcdkehmpiaa.Data Go.Proofs.Ytgpckcdkehmpiaa.Ints Go.Proofs.Ytgpckcdkehmpiaa.Slots
set_option linter.unusedVariables false
set_option linter.unusedSimpArgs false

theorem spec_ctlOk (a b : Int) (o : Bool) (w : World) :
    Calls Try.prog 27 #[.agg #[.int .i64 a, .int .i64 b, .bool o]] w fun e w' => e = .returned (.bool (ctlOk (a, b, o))) ∧ Below w.heap.size w w' := by
  have hb0 : Below w.heap.size w (w.alloc (.cells #[.int .i64 a, .int .i64 b, .bool o] 25)) := (Below.refl _ _).alloc (Nat.le_refl _) _
  have HK := Lib.hid (fun V : World => spec_ctlF a b o V)
  have HB := Lib.hid hb0
  clear hb0
  go_enter Try.func27, Try.ntmps27
  go_wp2_with fail
  refine (HK.out _).mono ?_
  rintro e w1 ⟨A, n, c, rfl, hl, _, hb1⟩
  have HB1 := Lib.hid (btr HB.out hb1)
  have HV := Lib.hid (show ctlOk (a, b, o) = (n == 0) from by unfold ctlOk; rw [hl])
  clear hb1 hl
  by_cases h0 : n = 0
  · subst h0
    go_wp2_with fail
    go_ret
    exact ⟨by rw [HV.out]; rfl, HB1.out⟩
  · have h0' : ((n : Int) == 0) = false := by simpa using h0
    have h0'' : (n == 0) = false := by simpa using h0
    go_wp2_with fail
    go_ret
    exact ⟨by rw [HV.out, h0'']; rfl, HB1.out⟩

set_option maxHeartbeats 1000000 in
theorem spec_hasTrap (a b : Int) (w : World) :
    Calls Try.prog 28 #[.int .i64 a, .int .i64 b] w fun e w' => e = .returned (.bool (hasTrap a b)) ∧ w = w' := by
  have K1 := Lib.hid (fun V : World => spec_in a 0 3 V)
  have K2 := Lib.hid (fun V : World => spec_in b 1 2 V)
  have hv : hasTrap a b = (inB a 0 3 && inB b 1 2 && (bits .and .i64 a b != 0)) := rfl
  generalize inB a 0 3 = x at K1 hv
  generalize inB b 1 2 = y at K2 hv
  cases x
  · simp only [Bool.false_and] at hv
    have HV := Lib.hid hv
    clear hv
    go_enter Try.func28, Try.ntmps28
    go_wp2_with fail
    refine (K1.out _).mono ?_
    rintro e w' ⟨rfl, rfl⟩
    go_wp2_with fail
    go_ret
    exact ⟨by rw [HV.out]; rfl, rfl⟩
  · cases y
    · simp only [Bool.and_false, Bool.false_and] at hv
      have HV := Lib.hid hv
      clear hv
      go_enter Try.func28, Try.ntmps28
      go_wp2_with fail
      refine (K1.out _).mono ?_
      rintro e w' ⟨rfl, rfl⟩
      go_wp2_with fail
      refine (K2.out _).mono ?_
      rintro e w' ⟨rfl, rfl⟩
      go_wp2_with fail
      go_ret
      exact ⟨by rw [HV.out]; rfl, rfl⟩
    · simp only [Bool.true_and] at hv
      have HV := Lib.hid hv
      clear hv
      go_enter Try.func28, Try.ntmps28
      go_wp2_with fail
      refine (K1.out _).mono ?_
      rintro e w' ⟨rfl, rfl⟩
      go_wp2_with fail
      refine (K2.out _).mono ?_
      rintro e w' ⟨rfl, rfl⟩
      go_wp2_with fail
      go_ret
      exact ⟨by rw [HV.out]; rfl, rfl⟩

end Go.Proofs.Ytgpckcdkehmpiaa.Ctls
