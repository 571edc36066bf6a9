/-
  The given model's SlotOk. No condition beyond the number of pages being of an int's range.
-/
import Derived.Test.YtmiokacihcpepaaSlotOne
import Derived.Test.YtmiokacihcpepaaOrd
namespace Go.Proofs.Ytmiokacihcpepaa.Slots
set_option maxRecDepth 100000
open Go.ChangeShapes Go.WideShapes Go.ChangeAt Go.RowKit
open Go.Proofs.Ytmiokacihcpepaa.Base Go.Proofs.Ytmiokacihcpepaa.Mem Go.Proofs.Ytmiokacihcpepaa.Ints

theorem okS_cases2 (p r pages : Int) (hp : (Lit.int .i64 pages).wf = true) : (p = -1 ∧ r = 0 ∧ okS p r pages = true) ∨ (p = -1 ∧ r ≠ 0 ∧ inB p 0 (IntKind.i64.wrap (pages - 1)) = false ∧ okS p r pages = false) ∨
    (p ≠ -1 ∧ inB p 0 (IntKind.i64.wrap (pages - 1)) = false ∧ okS p r pages = false) ∨ (p ≠ -1 ∧ inB p 0 (IntKind.i64.wrap (pages - 1)) = true ∧ ¬ 0 < pages ∧ okS p r pages = false) ∨
    (p ≠ -1 ∧ inB p 0 (IntKind.i64.wrap (pages - 1)) = true ∧ 0 < pages ∧ inB r 1 3 = false ∧ okS p r pages = false) ∨ (p ≠ -1 ∧ inB p 0 (IntKind.i64.wrap (pages - 1)) = true ∧ 0 < pages ∧ inB r 1 3 = true ∧ okS p r pages = true) := by
  simp [Lit.wf] at hp
  have hp' : -9223372036854775808 ≤ pages ∧ pages ≤ 9223372036854775807 := hp
  rw [IntKind.wrap_i64]
  simp only [okS, decide_eq_true_eq, decide_eq_false_iff_not, inB_iff, inB_false]
  omega

end Go.Proofs.Ytmiokacihcpepaa.Slots
