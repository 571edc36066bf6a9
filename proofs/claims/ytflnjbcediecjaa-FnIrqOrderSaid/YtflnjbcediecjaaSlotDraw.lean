/-
  The given model's draws of slots (l03Slot, l03Any) and of numbers for them (l03Page, l02Rights): numbers of an int's range; no statement about the project's code stands here. No condition.
-/
import Derived.Test.YtflnjbcediecjaaPick
import Derived.Test.YtflnjbcediecjaaTabA
namespace Go.Proofs.Ytflnjbcediecjaa.SDraw
set_option maxRecDepth 100000
open Go.ChangeShapes Go.WideShapes Go.ChangeAt Go.RowKit
open Go.Proofs.Ytflnjbcediecjaa.Base Go.Proofs.Ytflnjbcediecjaa.Mem Go.Proofs.Ytflnjbcediecjaa.Slots Go.Proofs.Ytflnjbcediecjaa.Draw
set_option linter.unusedVariables false

def SlotPost (w0 : World) (A : Option Addr) (n c : Nat) (w : World) (g : Nat) (e : Ending) (w' : World) : Prop :=
  ∃ x y : Int, e = .returned (.agg #[.int .i64 x, .int .i64 y]) ∧ wfS (x, y) ∧ Cur w0 A n c w' g ∧ w.grownBy w' (some g)
def NumPost (w0 : World) (A : Option Addr) (n c : Nat) (w : World) (g : Nat) (e : Ending) (w' : World) : Prop :=
  ∃ x : Int, e = .returned (.int .i64 x) ∧ (Lit.int .i64 x).wf = true ∧ Cur w0 A n c w' g ∧ w.grownBy w' (some g)

section
variable {w w1 w2 : World} {g : Nat} {u v : Value} {T : TypeId}
/-- A variable of two cells, made ahead of draws. -/
theorem var_cells (hG : (w.alloc (.cells #[u, v] T)).grownBy w1 (some g)) (hg : g < w.heap.size) :
    w1.cell? ⟨w.heap.size, 0, none⟩ = some u ∧ w1.cell? ⟨w.heap.size, 1, none⟩ = some v ∧ w1.frozen? ⟨w.heap.size, 0, none⟩ = false ∧ w1.frozen? ⟨w.heap.size, 1, none⟩ = false := by
  have hb : w1.heap[w.heap.size]? = some (.cells #[u, v] T (0, 0)) := (hG.block w.heap.size (by simp) (by simp; omega)).trans (heap_alloc_new w _)
  exact ⟨cell_of_row _ _ 0 _ _ _ hb, cell_of_row _ _ 1 _ _ _ hb, frozen_of_row _ _ _ _ _ hb, frozen_of_row _ _ _ _ _ hb⟩
theorem var_grown (o : Obj) (hG : (w.alloc o).grownBy w1 (some g)) (u v : Value) : w.grownBy ((w1.setCell ⟨w.heap.size, 0, none⟩ u).setCell ⟨w.heap.size, 1, none⟩ v) (some g) :=
  ⟨hG.os, hG.tape, hG.output, by have := hG.size; simp at this; simp; omega, fun k hk hne => by
    rw [Below.heap_setCell _ _ _ k (by show k ≠ w.heap.size; omega), Below.heap_setCell _ _ _ k (by show k ≠ w.heap.size; omega)]
    exact (hG.block k (by simp; omega) hne).trans (Below.heap_alloc w o k hk)⟩
theorem var_cur {w0 : World} {A : Option Addr} {n c : Nat} {b : Nat} (h : Cur w0 A n c w1 g) (hg : g < b) (h0 : w0.heap.size ≤ b) (i : Nat) (u : Value) : Cur w0 A n c (w1.setCell ⟨b, i, none⟩ u) g :=
  h.grown (grown_set w1 b i u) (by simp; omega) (fun k hk => by cases hk; exact h0)
theorem grown_new (w : World) (o : Obj) (row : Option Nat) : w.grownBy (w.alloc o) row := World.grownBy_alloc w o row
theorem gtr {a b c : World} {row : Option Nat} (h : a.grownBy b row) (k : b.grownBy c row) : a.grownBy c row := grown_trans h k
theorem of_below (h : Below w.heap.size w w1) (row : Option Nat) : w.grownBy w1 row := Slots.grown_of_below h row
end

def slotList : List Int := [3, 3, 3, 1, 2]
theorem slotList_wf : ∀ x ∈ slotList, (Lit.int .i64 x).wf = true := by decide

theorem wf_small {x m : Int} (h0 : 0 ≤ x) (h1 : x < m) (hm : m ≤ 1048576) : (Lit.int .i64 x).wf = true := by
  simp [Lit.wf]
  have e1 : IntKind.i64.min = -9223372036854775808 := by decide
  have e2 : IntKind.i64.max = 9223372036854775807 := by decide
  omega

def pageList : List Int := [0, 1, 2, 3, 3, 4, 7, 8, -1, 9223372036854775807, -9223372036854775808]
theorem pageList_wf : ∀ x ∈ pageList, (Lit.int .i64 x).wf = true := by decide
def rightsL : List Int := [3, 3, 1, 2, 0, 3, 1, -1, 4, 9223372036854775807]
theorem rightsL_wf : ∀ x ∈ rightsL, (Lit.int .i64 x).wf = true := by decide

/-- A block is as it was behind draws. -/
theorem blk_kept {w w1 : World} {g b : Nat} {o : Obj} (hG : w.grownBy w1 (some g)) (hb : w.heap[b]? = some o) (hne : b ≠ g) : w1.heap[b]? = some o :=
  (hG.block b (by
    rcases Nat.lt_or_ge b w.heap.size with h | h
    · exact h
    · rw [Array.getElem?_eq_none h] at hb; cases hb) (by simpa using hne)).trans hb
theorem two_of_blk {w : World} {b : Nat} {u v : Value} {T : TypeId} (hb : w.heap[b]? = some (.cells #[u, v] T (0, 0))) :
    w.cell? ⟨b, 0, none⟩ = some u ∧ w.cell? ⟨b, 1, none⟩ = some v ∧ w.frozen? ⟨b, 0, none⟩ = false ∧ w.frozen? ⟨b, 1, none⟩ = false :=
  ⟨cell_of_row _ _ 0 _ _ _ hb, cell_of_row _ _ 1 _ _ _ hb, frozen_of_row _ _ _ _ _ hb, frozen_of_row _ _ _ _ _ hb⟩

theorem grown_far {w W : World} {g b : Nat} (hG : w.grownBy W (some g)) (hb : w.heap.size ≤ b) (i : Nat) (u : Value) : w.grownBy (W.setCell ⟨b, i, none⟩ u) (some g) :=
  ⟨hG.os, hG.tape, hG.output, by simpa using hG.size, fun k hk hne => (Below.heap_setCell _ _ _ k (by show k ≠ b; omega)).trans (hG.block k hk hne)⟩
theorem anyList_wf {pages p : Int} (hp : (Lit.int .i64 pages).wf = true) (h : p ∈ [-1, -2, pages, 9223372036854775807, -9223372036854775808]) : (Lit.int .i64 p).wf = true := by
  simp only [List.mem_cons, List.not_mem_nil, or_false] at h
  rcases h with rfl | rfl | rfl | rfl | rfl
  · decide
  · decide
  · exact hp
  · decide
  · decide

end Go.Proofs.Ytflnjbcediecjaa.SDraw
