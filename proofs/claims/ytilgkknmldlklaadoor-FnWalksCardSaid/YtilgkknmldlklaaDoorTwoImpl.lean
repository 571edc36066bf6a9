/-
  Composition of page tables: the project's functions of chapter 5. No condition beyond a table's length and its numbers being of an int's range.
-/
import Derived.Test.YtilgkknmldlklaaDoorTabA
import Derived.Test.YtilgkknmldlklaaDoorTwoMath
import Derived.Test.YtilgkknmldlklaaDoorRights
import Derived.Test.YtilgkknmldlklaaDoorOrd
namespace Go.Proofs.YtilgkknmldlklaaDoor.Slots
set_option maxRecDepth 100000
open Go.ChangeShapes Go.WideShapes Go.ChangeAt Go.RowKit
open Go.Proofs.YtilgkknmldlklaaDoor.Base Go.Proofs.YtilgkknmldlklaaDoor.Mem Go.Proofs.YtilgkknmldlklaaDoor.Ints
set_option linter.unusedVariables false

/-- A variable at q holds a table. -/
def MapAt (W : World) (q : Nat) (l : List Sl) : Prop := ∃ A n c, W.cell? ⟨q, 0, none⟩ = some (.slice A n c) ∧ l.length = n ∧ n ≤ 1048576 ∧ Lies W 0 W.heap.size A (scells l)

theorem MapAt.below {W W' : World} {q : Nat} {l : List Sl} (h : MapAt W q l) (hb : Below W.heap.size W W') : MapAt W' q l := by
  obtain ⟨A, n, c, h1, h2, h3, h4⟩ := h
  exact ⟨A, n, c, (hb.cell (p := ⟨q, 0, none⟩) (World.block_lt_of_cell? W _ h1)).trans h1, h2, h3, (h4.below hb (Nat.le_refl _)).wide (Nat.le_refl _) hb.size⟩

/-- Two cells at b that may be written. -/
def Two (W : World) (b : Nat) (u v : Value) : Prop :=
  W.cell? ⟨b, 0, none⟩ = some u ∧ W.cell? ⟨b, 1, none⟩ = some v ∧ W.frozen? ⟨b, 0, none⟩ = false ∧ W.frozen? ⟨b, 1, none⟩ = false ∧ b < W.heap.size
theorem Two.new (w : World) (u v : Value) (T : TypeId) : Two (w.alloc (.cells #[u, v] T)) w.heap.size u v :=
  ⟨cell_of_row _ _ 0 _ _ _ (heap_alloc_new w _), cell_of_row _ _ 1 _ _ _ (heap_alloc_new w _), frozen_of_row _ _ _ _ _ (heap_alloc_new w _), frozen_of_row _ _ _ _ _ (heap_alloc_new w _), by simp⟩
theorem Two.below {W W' : World} {b : Nat} {u v : Value} (h : Two W b u v) (hb : Below W.heap.size W W') : Two W' b u v :=
  ⟨(hb.cell (p := ⟨b, 0, none⟩) h.2.2.2.2).trans h.1, (hb.cell (p := ⟨b, 1, none⟩) h.2.2.2.2).trans h.2.1, (hb.frozen (p := ⟨b, 0, none⟩) h.2.2.2.2).trans h.2.2.1, (hb.frozen (p := ⟨b, 1, none⟩) h.2.2.2.2).trans h.2.2.2.1, Nat.lt_of_lt_of_le h.2.2.2.2 hb.size⟩
theorem Two.drew {W : World} {b : Nat} {u v : Value} (h : Two W b u v) : Two W.drew b u v := h
theorem Two.alloc {W : World} {b : Nat} {u v : Value} (h : Two W b u v) (o : Obj) : Two (W.alloc o) b u v := h.below ((Below.refl _ _).alloc (Nat.le_refl _) _)
theorem two_two (w : World) (u v u' v' : Value) (T T' : TypeId) : Two ((w.alloc (.cells #[u, v] T)).alloc (.cells #[u', v'] T')) w.heap.size u v ∧ Two ((w.alloc (.cells #[u, v] T)).alloc (.cells #[u', v'] T')) (w.heap.size + 1) u' v' ∧
    Below w.heap.size w ((w.alloc (.cells #[u, v] T)).alloc (.cells #[u', v'] T')) := by
  refine ⟨(Two.new w u v T).alloc _, ?_, ((Below.refl _ _).alloc (Nat.le_refl _) _).alloc (by simp) _⟩
  have := Two.new (w.alloc (.cells #[u, v] T)) u' v' T'
  simpa using this
theorem set_two {B : Nat} {a w : World} {b : Nat} (h : Below B a w) (hb : B ≤ b) (u v : Value) : Below B a ((w.setCell ⟨b, 0, none⟩ u).setCell ⟨b, 1, none⟩ v) :=
  (h.setCell (p := ⟨b, 0, none⟩) hb u).setCell (p := ⟨b, 1, none⟩) hb v

theorem keep_set {w : World} {b c i : Nat} {u v x : Value} (h : w.cell? ⟨c, i, none⟩ = some x) (hne : c ≠ b) : ((w.setCell ⟨b, 0, none⟩ u).setCell ⟨b, 1, none⟩ v).cell? ⟨c, i, none⟩ = some x := by
  rw [World.cell?_setCell_other _ _ _ v (by intro e; injection e; omega), World.cell?_setCell_other _ _ _ u (by intro e; injection e; omega)]
  exact h

theorem new_one (w : World) (v : Value) (T : TypeId) : (w.alloc (.cells #[v] T)).cell? ⟨w.heap.size, 0, none⟩ = some v := cell_of_row _ _ 0 _ _ _ (heap_alloc_new w _)
theorem new_ones (w : World) (u v : Value) (T T' : TypeId) : ((w.alloc (.cells #[u] T)).alloc (.cells #[v] T')).cell? ⟨w.heap.size, 0, none⟩ = some u ∧ ((w.alloc (.cells #[u] T)).alloc (.cells #[v] T')).cell? ⟨w.heap.size + 1, 0, none⟩ = some v ∧
    Below w.heap.size w ((w.alloc (.cells #[u] T)).alloc (.cells #[v] T')) := by
  refine ⟨(World.cell?_alloc_lt _ _ _ (by simp)).trans (new_one w u T), ?_, ((Below.refl _ _).alloc (Nat.le_refl _) _).alloc (by simp) _⟩
  have := new_one (w.alloc (.cells #[u] T)) v T'
  rwa [show (w.alloc (.cells #[u] T)).heap.size = w.heap.size + 1 by simp] at this

theorem Tryd.infoSlotT : (Tryd.prog.info? 39).map (fun i => (i.zero, i.size, i.bytes)) = some (some (.agg #[.int .i64 0, .int .i64 0]), 2, 16) := by kernel_rfl

end Go.Proofs.YtilgkknmldlklaaDoor.Slots
