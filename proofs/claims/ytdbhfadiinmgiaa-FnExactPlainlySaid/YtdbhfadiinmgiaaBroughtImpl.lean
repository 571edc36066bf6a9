/-
  The project's Brought, called at any three integers: the clamped number; the world is as it was. No condition.
-/
import Derived.Test.YtdbhfadiinmgiaaRows
import Derived.WalkKit
import Derived.ProofKit
import Derived.OpenShut
namespace Go.Proofs.Ytdbhfadiinmgiaa.BroughtW
set_option maxRecDepth 100000
open Go.ChangeShapes Go.WideShapes Go.ChangeAt Go.RowKit

/-- What both functions compute. -/
def brought (n l m : Int) : Int := if m < l ∨ n < l then l else if m < n then m else n

theorem ret_int {k : IntKind} {a b : Int} (h : a = b) : Ending.returned (.int k a) = .returned (.int k b) := by rw [h]

theorem impl_any (n l m : Int) (w : World) :
    Calls Try.prog 107 #[.int .i64 n, .int .i64 l, .int .i64 m] w fun e w' => e = .returned (.int .i64 (brought n l m)) ∧ w = w' := by
  go_enter Try.func107, Try.ntmps107
  go_wp2
  all_goals
    go_ret
    refine ⟨ret_int ?_, rfl⟩
    unfold brought
    repeat' split
    all_goals (repeat' split at *)
    all_goals omega

end Go.Proofs.Ytdbhfadiinmgiaa.BroughtW
