/-
  Control blocks: the given model's CtlOk, HasTrap and Posts; no statement about the project's code stands here. No condition.
-/
import Derived.Test.YtmiokacihcpepaaCtl
namespace Go.Proofs.Ytmiokacihcpepaa.Ctls
set_option maxRecDepth 100000
open Go.ChangeShapes Go.WideShapes Go.ChangeAt Go.RowKit
open Go.Proofs.Ytmiokacihcpepaa.Base Go.Proofs.Ytmiokacihcpepaa.Mem Go.Proofs.Ytmiokacihcpepaa.Data Go.Proofs.Ytmiokacihcpepaa.Ints Go.Proofs.Ytmiokacihcpepaa.Slots
set_option linter.unusedVariables false
set_option linter.unusedSimpArgs false

end Go.Proofs.Ytmiokacihcpepaa.Ctls
