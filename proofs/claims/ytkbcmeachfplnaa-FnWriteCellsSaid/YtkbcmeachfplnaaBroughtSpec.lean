/-
  The given model's Brought, called at any three integers: the clamped number; the world is as it was. No condition.
-/
import Derived.Test.YtkbcmeachfplnaaBroughtImpl
namespace Go.Proofs.Ytkbcmeachfplnaa.Grid
open Go.ChangeShapes Go.WideShapes Go.ChangeAt Go.RowKit
open Go.Proofs.Ytkbcmeachfplnaa.BroughtW
theorem spec_brought (n l m : Int) (w : World) :
    Calls Try.prog 68 #[.int .i64 n, .int .i64 l, .int .i64 m] w fun e w' => e = .returned (.int .i64 (brought n l m)) ∧ w = w' := by
  by_cases h1 : m < l
  · have hb : brought n l m = l := by unfold brought; rw [if_pos (Or.inl h1)]
    rw [hb]; clear hb
    go_enter Try.func68, Try.ntmps68
    go_wp2
    go_ret
    exact ⟨rfl, rfl⟩
  · by_cases h2 : n < l
    · have hb : brought n l m = l := by unfold brought; rw [if_pos (Or.inr h2)]
      rw [hb]; clear hb
      go_enter Try.func68, Try.ntmps68
      go_wp2
      go_ret
      exact ⟨rfl, rfl⟩
    · by_cases h3 : m < n
      · have hb : brought n l m = m := by unfold brought; rw [if_neg (by omega), if_pos h3]
        rw [hb]; clear hb
        go_enter Try.func68, Try.ntmps68
        go_wp2
        go_ret
        exact ⟨rfl, rfl⟩
      · have hb : brought n l m = n := by unfold brought; rw [if_neg (by omega), if_neg h3]
        rw [hb]; clear hb
        go_enter Try.func68, Try.ntmps68
        go_wp2
        go_ret
        exact ⟨rfl, rfl⟩
end Go.Proofs.Ytkbcmeachfplnaa.Grid
