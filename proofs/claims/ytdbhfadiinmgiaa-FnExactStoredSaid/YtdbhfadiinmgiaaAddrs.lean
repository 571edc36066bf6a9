/-
  Addresses: AddrPage and AddrCell of the project and of the given model. No condition beyond an int's range.
-/
import Derived.Test.YtdbhfadiinmgiaaBase
namespace Go.Proofs.Ytdbhfadiinmgiaa.Addrs
set_option maxRecDepth 100000
open Go.ChangeShapes Go.WideShapes Go.ChangeAt Go.RowKit
open Go.Proofs.Ytdbhfadiinmgiaa.Base
set_option linter.unusedVariables false

def addrP (x : Int) : Int := if x < 0 then -1 else x / 4
def addrC (x : Int) : Int := if x < 0 then -1 else x % 4
theorem range {x : Int} (h : (Lit.int .i64 x).wf = true) : -9223372036854775808 ≤ x ∧ x ≤ 9223372036854775807 := by
  have hm : IntKind.i64.min = -9223372036854775808 := by decide
  rw [← hm]; simpa [Lit.wf] using h

end Go.Proofs.Ytdbhfadiinmgiaa.Addrs
