/-
  Control blocks: what chapter 11 computes, and the given model's CtlFaults, CtlOk, HasTrap and Posts; no statement about the project's code stands here. No condition.
-/
import Derived.Test.YtmiokacihcpepaaCtlH
import Derived.Test.YtmiokacihcpepaaIn
import Derived.Test.YtmiokacihcpepaaVar
import Derived.Test.YtmiokacihcpepaaUses
namespace Go.Proofs.Ytmiokacihcpepaa.Ctls
set_option maxRecDepth 100000
open Go.ChangeShapes Go.WideShapes Go.ChangeAt Go.RowKit
open Go.Proofs.Ytmiokacihcpepaa.Base Go.Proofs.Ytmiokacihcpepaa.Mem Go.Proofs.Ytmiokacihcpepaa.Data Go.Proofs.Ytmiokacihcpepaa.Ints Go.Proofs.Ytmiokacihcpepaa.Slots
set_option linter.unusedVariables false
set_option linter.unusedSimpArgs false

def ctlF (s : CT) : List Int :=
  (if inB s.1 0 3 = true then [] else [1]) ++ ((if inB s.2.1 0 255 = true then [] else [2]) ++ ((if s.2.1 ≠ 0 ∧ s.2.2 = false then [3] else []) ++ (if s.1 = 2 ∧ s.2.1 ≠ 0 then [4] else [])))
def ctlOk (s : CT) : Bool := (ctlF s).length == 0
def hasTrap (a b : Int) : Bool := inB a 0 3 && inB b 1 2 && (bits .and .i64 a b != 0)
/-- Bit n of a number (n from 0 to 7). -/
def bitAt (x n : Int) : Bool := bits .and .i64 (x / 2 ^ n.toNat) 1 == 1
def posts (s : CT) (n : Int) : Bool := ctlOk s && inB n 0 7 && bitAt s.2.1 n
theorem ctlF_le (s : CT) : (ctlF s).length ≤ 4 := by
  unfold ctlF
  simp only [List.length_append]
  split <;> split <;> split <;> split <;> simp

end Go.Proofs.Ytmiokacihcpepaa.Ctls
