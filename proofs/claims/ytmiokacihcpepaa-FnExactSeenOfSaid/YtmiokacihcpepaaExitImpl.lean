/-
  Exits: the project's functions of chapter 13 but ExitName and ExitText. Conditions: ints of 64 bits.
-/
import Derived.Test.YtmiokacihcpepaaSq
import Derived.Test.YtmiokacihcpepaaSxEq
import Derived.Test.YtmiokacihcpepaaExit
import Derived.Test.YtmiokacihcpepaaOrdT
import Derived.Laws.Build
namespace Go.Proofs.Ytmiokacihcpepaa.Exits
set_option maxRecDepth 100000
open Go.ChangeShapes Go.WideShapes Go.ChangeAt Go.RowKit
open Go.Proofs.Ytmiokacihcpepaa.Base Go.Proofs.Ytmiokacihcpepaa.Mem Go.Proofs.Ytmiokacihcpepaa.Data Go.Proofs.Ytmiokacihcpepaa.Stt
set_option linter.unusedVariables false
set_option linter.unusedSimpArgs false

theorem wf_k (x : Int) (h : 0 ≤ x ∧ x ≤ 4) : (Lit.int .i64 x).wf = true := by
  simp [Lit.wf]
  have e1 : IntKind.i64.min = -9223372036854775808 := by decide
  have e2 : IntKind.i64.max = 9223372036854775807 := by decide
  omega
theorem eqvE_Exit_eql (a0 : Int) (a1 : Int) (a2 : Bool) (a3 : Int) (b0 : Int) (b1 : Int) (b2 : Bool) (b3 : Int) (W : World) : (binOp .eql 41 (.agg #[.int .i64 a0, .int .i64 a1, .bool a2, .int .i64 a3]) (.agg #[.int .i64 b0, .int .i64 b1, .bool b2, .int .i64 b3])).run Try.prog W = .ok (.bool (a0 == b0 && a1 == b1 && a2 == b2 && a3 == b3)) W := by
  have ku3 := Try.underlying3
  have ka3 := Try.isAgg3
  have kz3 := Try.sizeOf3
  have ku4 := Try.underlying4
  have ka4 := Try.isAgg4
  have kz4 := Try.sizeOf4
  have hS : Try.prog.underlying 41 = some (.struct (Try.prog.fieldsOf 41)) := by kernel_rfl
  have hp : Try.prog.stoodInHeld 41 = false := by kernel_rfl
  rw [run_eql_struct, show (10000 : Nat) = 9999 + 1 from rfl, run_equalIn_agg W 9999 41 _ _ hS hp]
  simp only [Program.fieldsOf, Try.underlying41]
  go_simp
  by_cases h0 : a0 = b0 <;> by_cases h1 : a1 = b1 <;> cases a2 <;> cases b2 <;> by_cases h3 : a3 = b3 <;> simp [h0, h1, h3]
theorem xok_one (p : Int) (q : Bool) (n : Int) : exitOk (1, p, q, n) = (inB p 0 3 && (n == 0)) := rfl
theorem inB_03 (p : Int) : inB p 0 3 = (decide (p ≥ 0) && decide (p < 4)) := by
  rw [Bool.eq_iff_iff, inB_iff]; simp; omega
theorem exitE_else {k : Int} (p : Int) (q : Bool) (n : Int) (h : (k == 0) = false ∧ (k == 1) = false ∧ (k == 2) = false ∧ (k == 3) = false ∧ (k == 4) = false) : false = exitOk (k, p, q, n) := by
  obtain ⟨h0, h1, h2, h3, h4⟩ := h
  simp only [beq_eq_false_iff_ne, ne_eq] at h0 h1 h2 h3 h4
  simp [exitOk, h0, h1, h2, h3, h4]

end Go.Proofs.Ytmiokacihcpepaa.Exits
