/-
  Page tables: SlotAt, Mapped, UsesOf and WithSlot of the project and of the given model. No condition beyond a table's length.
-/
import Derived.Test.YtdbhfadiinmgiaaSlotOne
namespace Go.Proofs.Ytdbhfadiinmgiaa.Slots
set_option maxRecDepth 100000
open Go.ChangeShapes Go.WideShapes Go.ChangeAt Go.RowKit
open Go.Proofs.Ytdbhfadiinmgiaa.Base Go.Proofs.Ytdbhfadiinmgiaa.Mem Go.Proofs.Ytdbhfadiinmgiaa.Ints
set_option linter.unusedVariables false

theorem atS_no {l : List Sl} {page : Int} (h : ¬ (0 ≤ page ∧ page < l.length)) : atS l page = (-1, 0) := by
  unfold atS
  split
  · rw [List.getD_eq_getElem?_getD, List.getElem?_eq_none (by omega)]; rfl
  · rfl
theorem atS_yes {l : List Sl} {k : Nat} (h : k < l.length) : atS l k = l[k] := by
  unfold atS
  rw [if_pos (by omega), Int.toNat_natCast, List.getD_eq_getElem?_getD, List.getElem?_eq_getElem h]; rfl

/-- A block of two cells behind a call that left it alone. -/
theorem two_kept {w w1 : World} {u v : Value} {T : TypeId} (hb : Below (w.alloc (.cells #[u, v] T)).heap.size (w.alloc (.cells #[u, v] T)) w1) :
    w1.cell? ⟨w.heap.size, 0, none⟩ = some u ∧ w1.cell? ⟨w.heap.size, 1, none⟩ = some v ∧ w1.frozen? ⟨w.heap.size, 0, none⟩ = false ∧ w1.frozen? ⟨w.heap.size, 1, none⟩ = false ∧ Below w.heap.size w w1 := by
  obtain ⟨k0, k1, hW, hsz⟩ := boxed w u v T
  refine ⟨(hb.cell (p := ⟨w.heap.size, 0, none⟩) hsz).trans k0, (hb.cell (p := ⟨w.heap.size, 1, none⟩) hsz).trans k1, ?_, ?_, btr hW hb⟩
  · exact (hb.frozen (p := ⟨w.heap.size, 0, none⟩) hsz).trans (frozen_of_row _ _ _ _ _ (heap_alloc_new w _))
  · exact (hb.frozen (p := ⟨w.heap.size, 1, none⟩) hsz).trans (frozen_of_row _ _ _ _ _ (heap_alloc_new w _))

def AtPost (w : World) (s : Sl) (e : Ending) (w' : World) : Prop := e = .returned (.agg #[.int .i64 s.1, .int .i64 s.2]) ∧ Below w.heap.size w w'

theorem mapS_snoc (l : List Sl) (x y : Int) : mapS (l ++ [(x, y)]) = mapS l + if x = -1 then 0 else 1 := by
  unfold mapS
  rw [List.countP_append]
  by_cases h : x = -1 <;> simp [h]
theorem mapS_le (l : List Sl) : mapS l ≤ l.length := List.countP_le_length

end Go.Proofs.Ytdbhfadiinmgiaa.Slots
