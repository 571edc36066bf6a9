/-
  The given model's test of a range (l01In); no statement about the project's code stands here. No condition.
-/
import Derived.Test.YtmfileflmpmkpaaBase
namespace Go.Proofs.Ytmfileflmpmkpaa.Base
set_option maxRecDepth 100000
open Go.ChangeShapes Go.WideShapes Go.ChangeAt Go.RowKit

def inB (n a b : Int) : Bool := decide (a ≤ n) && decide (n ≤ b)
theorem inB_iff {n a b : Int} : inB n a b = true ↔ a ≤ n ∧ n ≤ b := by simp [inB]
theorem inB_false {n a b : Int} : inB n a b = false ↔ n < a ∨ b < n := by simp [inB]; omega

end Go.Proofs.Ytmfileflmpmkpaa.Base
