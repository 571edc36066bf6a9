/-
  Composition of page tables: Below and TableBelow of the project and of the given model. No condition beyond a table's length and its numbers being of an int's range.
-/
import Derived.Test.YtfgckkgakghenaaTwoImpl
namespace Go.Proofs.Ytfgckkgakghenaa.Slots
set_option maxRecDepth 100000
open Go.ChangeShapes Go.WideShapes Go.ChangeAt Go.RowKit
open Go.Proofs.Ytfgckkgakghenaa.Base Go.Proofs.Ytfgckkgakghenaa.Mem Go.Proofs.Ytfgckkgakghenaa.Ints
set_option linter.unusedVariables false

/-- The ways of a comparison of slots. -/
theorem belowS_cases (p r p' r' : Int) : (p = -1 ∧ r = 0 ∧ belowS (p, r) (p', r') = true) ∨ (p = -1 ∧ r ≠ 0 ∧ p' ≠ -1 ∧ belowS (p, r) (p', r') = false) ∨ (p ≠ -1 ∧ p ≠ p' ∧ belowS (p, r) (p', r') = false) ∨
    (p = -1 ∧ r ≠ 0 ∧ p' = -1 ∧ belowS (p, r) (p', r') = Rights.enough r' r) ∨ (p ≠ -1 ∧ p = p' ∧ belowS (p, r) (p', r') = Rights.enough r' r) := by
  by_cases h0 : p = -1
  · subst h0
    by_cases h1 : r = 0
    · subst h1; exact .inl ⟨rfl, rfl, rfl⟩
    · by_cases h2 : p' = -1
      · subst h2; exact .inr (.inr (.inr (.inl ⟨rfl, h1, rfl, by simp [belowS, h1]⟩)))
      · exact .inr (.inl ⟨rfl, h1, h2, by simp [belowS, h1, Ne.symm h2]⟩)
  · by_cases h2 : p = p'
    · subst h2; exact .inr (.inr (.inr (.inr ⟨h0, rfl, by simp [belowS, h0]⟩)))
    · exact .inr (.inr (.inl ⟨h0, h2, by simp [belowS, h0, h2]⟩))

theorem below_first {l m : List Sl} {k : Nat} {b : Bool} (hl : k < l.length) (hm : k < m.length) (h : belowL (l.take k) (m.take k) = true) (hb : belowS l[k] m[k] = b) :
    (b = true → belowL (l.take (k + 1)) (m.take (k + 1)) = true) ∧ (b = false → belowL l m = false) :=
  ⟨fun e => by rw [belowL_take hl hm h, hb, e], fun e => belowL_stop hl hm (hb.trans e)⟩

end Go.Proofs.Ytfgckkgakghenaa.Slots
