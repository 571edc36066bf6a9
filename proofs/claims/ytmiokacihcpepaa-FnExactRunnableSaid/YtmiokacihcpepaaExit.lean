/-
  Exits: what chapter 13 computes, and the given model's ExitOk, FaultExit, CallExit, OutExit and ExitName; no statement about the project's code stands here. No condition.
-/
import Derived.Test.YtmiokacihcpepaaExitH
import Derived.Test.YtmiokacihcpepaaIn
import Derived.Test.YtmiokacihcpepaaVar
namespace Go.Proofs.Ytmiokacihcpepaa.Exits
set_option maxRecDepth 100000
open Go.ChangeShapes Go.WideShapes Go.ChangeAt Go.RowKit
open Go.Proofs.Ytmiokacihcpepaa.Base Go.Proofs.Ytmiokacihcpepaa.Mem Go.Proofs.Ytmiokacihcpepaa.Data
set_option linter.unusedVariables false
set_option linter.unusedSimpArgs false

def exitOk (s : QT) : Bool :=
  if s.1 = 0 ∨ s.1 = 4 then (s.2.1 == 0) && (!s.2.2.1) && (s.2.2.2 == 0)
  else if s.1 = 1 then inB s.2.1 0 3 && (s.2.2.2 == 0)
  else if s.1 = 2 ∨ s.1 = 3 then inB s.2.2.2 0 99 && (s.2.1 == 0) && (!s.2.2.1)
  else false
def exitNames : List ByteArray := [⟨#[110, 111, 110, 101]⟩, ⟨#[102, 97, 117, 108, 116]⟩, ⟨#[99, 97, 108, 108]⟩, ⟨#[111, 117, 116]⟩, ⟨#[104, 97, 108, 116]⟩]
def exitName (k : Int) : ByteArray := if inB k 0 4 then exitNames.getD k.toNat ⟨#[]⟩ else ⟨#[63]⟩
def ExitP (w : World) (s : QT) (e : Ending) (w' : World) : Prop := e = .returned (.agg #[.int .i64 s.1, .int .i64 s.2.1, .bool s.2.2.1, .int .i64 s.2.2.2]) ∧ Below w.heap.size w w'
theorem kind_cases (k : Int) : k = 0 ∨ k = 4 ∨ k = 1 ∨ k = 2 ∨ k = 3 ∨ ((k == 0) = false ∧ (k == 1) = false ∧ (k == 2) = false ∧ (k == 3) = false ∧ (k == 4) = false) := by
  simp only [beq_eq_false_iff_ne, ne_eq]
  omega
theorem exitOk_else {k p n : Int} {w : Bool} (h : (k == 0) = false ∧ (k == 1) = false ∧ (k == 2) = false ∧ (k == 3) = false ∧ (k == 4) = false) : exitOk (k, p, w, n) = false := by
  simp only [beq_eq_false_iff_ne, ne_eq] at h
  simp [exitOk, h]
theorem exitName_out {o : Int} (h : inB o 0 4 = false) : exitName o = ⟨#[63]⟩ := by unfold exitName; rw [h]; rfl

end Go.Proofs.Ytmiokacihcpepaa.Exits
