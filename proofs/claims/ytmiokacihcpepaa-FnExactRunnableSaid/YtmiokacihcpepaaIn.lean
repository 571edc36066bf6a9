/-
  The given model's test of a range (l01In); no statement about the project's code stands here. No condition.
-/
import Derived.Test.YtmiokacihcpepaaBase
namespace Go.Proofs.Ytmiokacihcpepaa.Base
set_option maxRecDepth 100000
open Go.ChangeShapes Go.WideShapes Go.ChangeAt Go.RowKit

def inB (n a b : Int) : Bool := decide (a ≤ n) && decide (n ≤ b)
theorem inB_iff {n a b : Int} : inB n a b = true ↔ a ≤ n ∧ n ≤ b := by simp [inB]
theorem inB_false {n a b : Int} : inB n a b = false ↔ n < a ∨ b < n := by simp [inB]; omega

theorem spec_in (n a b : Int) (w : World) :
    Calls Try.prog 41 #[.int .i64 n, .int .i64 a, .int .i64 b] w fun e w' => e = .returned (.bool (inB n a b)) ∧ w = w' := by
  cases h1 : decide (a ≤ n)
  all_goals
    cases h2 : decide (n ≤ b)
    all_goals
      have hv : inB n a b = (decide (a ≤ n) && decide (n ≤ b)) := rfl
      rw [h1, h2] at hv
      simp only [Bool.and_false, Bool.and_true] at hv
      rw [hv]; clear hv
      go_enter Try.func41, Try.ntmps41
      go_wp2
      go_ret
      exact ⟨rfl, rfl⟩
end Go.Proofs.Ytmiokacihcpepaa.Base
