/-
  Page tables: UsesOf of the project and of the given model. No condition beyond a table's length.
-/
import Derived.Test.YtmiokacihcpepaaSlotMath
namespace Go.Proofs.Ytmiokacihcpepaa.Slots
set_option maxRecDepth 100000
open Go.ChangeShapes Go.WideShapes Go.ChangeAt Go.RowKit
open Go.Proofs.Ytmiokacihcpepaa.Base Go.Proofs.Ytmiokacihcpepaa.Mem Go.Proofs.Ytmiokacihcpepaa.Ints

theorem Try.infoNum : (Try.prog.info? 3).map (fun i => (i.zero, i.size, i.bytes)) = some (some (.int .i64 0), 1, 8) := by kernel_rfl

theorem heap_new2 (w : World) (o o' : Obj) : ((w.alloc o).alloc o').heap[w.heap.size + 1]? = some o' := by
  have := heap_alloc_new (w.alloc o) o'
  rwa [show (w.alloc o).heap.size = w.heap.size + 1 by simp] at this
def UsesPost (w : World) (u : List Int) (e : Ending) (w' : World) : Prop :=
  ∃ A n c, e = .returned (.slice A n c) ∧ u.length = n ∧ Owned w' w.heap.size w'.heap.size A (ncells u) ∧ Below w.heap.size w w'

theorem useS_snoc (l : List Sl) (x y page : Int) : useS (l ++ [(x, y)]) page = useS l page ++ if x = page then [(l.length : Int)] else [] := by
  unfold useS
  rw [List.length_append, List.length_singleton, List.range_succ, List.filter_append, List.map_append]
  congr 1
  · congr 1
    apply List.filter_congr
    intro i hi
    have hi' := List.mem_range.1 hi
    rw [List.getD_eq_getElem?_getD, List.getD_eq_getElem?_getD, List.getElem?_append_left hi']
  · by_cases h : x = page <;> simp [h]
theorem useS_le (l : List Sl) (page : Int) : (useS l page).length ≤ l.length := by
  unfold useS
  rw [List.length_map]
  exact Nat.le_trans (List.length_filter_le _ _) (by simp)

end Go.Proofs.Ytmiokacihcpepaa.Slots
