/-
  Exits: the project's functions of chapter 13 but ExitName and ExitText. Conditions: ints of 64 bits.
-/
import Derived.Test.YtdbhfadiinmgiaaExit
import Derived.Test.YtdbhfadiinmgiaaOrdT
import Derived.Laws.Build
namespace Go.Proofs.Ytdbhfadiinmgiaa.Exits
set_option maxRecDepth 100000
open Go.ChangeShapes Go.WideShapes Go.ChangeAt Go.RowKit
open Go.Proofs.Ytdbhfadiinmgiaa.Base Go.Proofs.Ytdbhfadiinmgiaa.Mem Go.Proofs.Ytdbhfadiinmgiaa.Data
set_option linter.unusedVariables false
set_option linter.unusedSimpArgs false

theorem impl_cellOkE (v : Int) (w : World) :
    Calls Try.prog 95 #[.int .i64 v] w fun e w' => e = .returned (.bool (inB v 0 99)) ∧ Below w.heap.size w w' := by
  by_cases h0 : v < 0
  · have HV := Lib.hid (inB_false.2 (show v < 0 ∨ 99 < v from .inl h0))
    have h1 : ¬ v ≥ 0 := by omega
    clear h0
    go_enter Try.func95, Try.ntmps95
    go_wp2_with fail
    go_ret
    exact ⟨by rw [HV.out]; rfl, Below.refl _ _⟩
  · have h1 : v ≥ 0 := by omega
    by_cases h2 : v ≤ 99
    · have HV := Lib.hid (inB_iff.2 (show 0 ≤ v ∧ v ≤ 99 from ⟨h1, h2⟩))
      clear h0
      go_enter Try.func95, Try.ntmps95
      go_wp2_with fail
      go_ret
      exact ⟨by rw [HV.out]; rfl, Below.refl _ _⟩
    · have HV := Lib.hid (inB_false.2 (show v < 0 ∨ 99 < v from .inr (by omega)))
      clear h0
      go_enter Try.func95, Try.ntmps95
      go_wp2_with fail
      go_ret
      exact ⟨by rw [HV.out]; rfl, Below.refl _ _⟩

theorem wf_k (x : Int) (h : 0 ≤ x ∧ x ≤ 4) : (Lit.int .i64 x).wf = true := by
  simp [Lit.wf]
  have e1 : IntKind.i64.min = -9223372036854775808 := by decide
  have e2 : IntKind.i64.max = 9223372036854775807 := by decide
  omega

end Go.Proofs.Ytdbhfadiinmgiaa.Exits
