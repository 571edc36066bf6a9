/-
  A slice of bytes that came in: its bytes lie in memory, and it reads the same in every world that agrees with the old one on what was there; no statement about the project's code stands here. No condition.
-/
import Derived.Test.YtmiokacihcpepaaDraw
namespace Go.Proofs.Ytmiokacihcpepaa.Draw
set_option maxRecDepth 100000
open Go.ChangeShapes Go.WideShapes Go.ChangeAt Go.RowKit
open Go.Proofs.Ytmiokacihcpepaa.Base

theorem cellsByte : Try.prog.cellsOf 5 = 1 := by kernel_rfl
section
variable {H : Type} {enc : TypeId × Value → H}

end
end Go.Proofs.Ytmiokacihcpepaa.Draw
