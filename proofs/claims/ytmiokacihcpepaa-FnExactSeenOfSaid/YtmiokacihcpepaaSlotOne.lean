/-
  Single slots: NoSlot and SlotOk of the project and of the given model. No condition beyond a slot's numbers being of an int's range.
-/
import Derived.Test.YtmiokacihcpepaaSlotMath
import Derived.Deep.RegionHeld3
namespace Go.Proofs.Ytmiokacihcpepaa.Slots
set_option maxRecDepth 100000
open Go.ChangeShapes Go.WideShapes Go.ChangeAt Go.RowKit
open Go.Proofs.Ytmiokacihcpepaa.Base Go.Proofs.Ytmiokacihcpepaa.Mem Go.Proofs.Ytmiokacihcpepaa.Ints

/-- A slot in a block of its own. -/
theorem boxed (w : World) (u v : Value) (T : TypeId) : (w.alloc (.cells #[u, v] T)).cell? ⟨w.heap.size, 0, none⟩ = some u ∧ (w.alloc (.cells #[u, v] T)).cell? ⟨w.heap.size, 1, none⟩ = some v ∧ Below w.heap.size w (w.alloc (.cells #[u, v] T)) ∧ w.heap.size < (w.alloc (.cells #[u, v] T)).heap.size :=
  ⟨cell_of_row _ _ 0 _ _ _ (heap_alloc_new w _), cell_of_row _ _ 1 _ _ _ (heap_alloc_new w _), (Below.refl _ _).alloc (Nat.le_refl _) _, by simp⟩

def OkPost (w : World) (x : Bool) (e : Ending) (w' : World) : Prop := e = .returned (.bool x) ∧ Below w.heap.size w w'

theorem okS_cases (p r pages : Int) : (p = -1 ∧ r = 0 ∧ okS p r pages = true) ∨ (((p = -1 ∧ r ≠ 0) ∨ p ≠ -1) ∧
    ((¬ 0 ≤ p ∧ okS p r pages = false) ∨ (0 ≤ p ∧ ¬ p < pages ∧ okS p r pages = false) ∨ (0 ≤ p ∧ p < pages ∧ r = 0 ∧ okS p r pages = false) ∨
      (0 ≤ p ∧ p < pages ∧ r ≠ 0 ∧ Rights.rok r = false ∧ okS p r pages = false) ∨ (0 ≤ p ∧ p < pages ∧ r ≠ 0 ∧ Rights.rok r = true ∧ okS p r pages = true))) := by
  simp only [okS, decide_eq_true_eq, decide_eq_false_iff_not, Rights.rok_iff, Rights.rok_false]
  omega

end Go.Proofs.Ytmiokacihcpepaa.Slots
