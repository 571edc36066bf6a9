/-
  A variable of any number of cells: what it holds, and that nothing that leaves its block alone changes it. No statement about any code stands here.
-/
import Derived.Test.YtmiokacihcpepaaMem
namespace Go.Proofs.Ytmiokacihcpepaa.Mem
set_option maxRecDepth 100000
open Go.ChangeShapes Go.WideShapes Go.ChangeAt Go.RowKit
open Go.Proofs.Ytmiokacihcpepaa.Base

def Var (w : World) (b : Nat) (vs : List Value) : Prop :=
  (∀ (i : Nat) (v : Value), vs[i]? = some v → w.cell? ⟨b, i, none⟩ = some v ∧ w.frozen? ⟨b, i, none⟩ = false) ∧ b < w.heap.size
theorem Var.new (w : World) (vs : List Value) (T : TypeId) : Var (w.alloc (.cells vs.toArray T)) w.heap.size vs :=
  ⟨fun i v hv => ⟨cell_of_row _ _ i _ _ _ (heap_alloc_new w _) |>.trans (by simpa using hv), frozen_of_row _ _ _ _ _ (heap_alloc_new w _)⟩, by simp⟩
theorem Var.below {w w' : World} {b : Nat} {vs : List Value} {B : Nat} (h : Var w b vs) (hb : Below B w w') (hB : b + 1 ≤ B) : Var w' b vs :=
  ⟨fun i v hv => ⟨(hb.cell (p := ⟨b, i, none⟩) hB).trans (h.1 i v hv).1, (hb.frozen (p := ⟨b, i, none⟩) hB).trans (h.1 i v hv).2⟩, Nat.lt_of_lt_of_le h.2 hb.size⟩
theorem Var.turned {w w' : World} {b lo hi : Nat} {vs : List Value} (h : Var w b vs) (hb : ∀ k, k < w.heap.size → (k < lo ∨ hi ≤ k) → w'.heap[k]? = w.heap[k]?) (hz : w.heap.size ≤ w'.heap.size) (hd : b + 1 ≤ lo ∨ hi ≤ b) : Var w' b vs :=
  have hk := hb b h.2 (by omega)
  ⟨fun i v hv => ⟨(World.cell?_of_block (w := w) (a := ⟨b, i, none⟩) hk).trans (h.1 i v hv).1, (World.frozen?_of_block (w := w) (a := ⟨b, i, none⟩) hk).trans (h.1 i v hv).2⟩, Nat.lt_of_lt_of_le h.2 hz⟩
theorem Var.grown {w w' : World} {b g : Nat} {vs : List Value} (h : Var w b vs) (hG : w.grownBy w' (some g)) (hne : b ≠ g) : Var w' b vs :=
  h.turned (lo := g) (hi := g + 1) (fun k hk hd => hG.block k hk (by simp; omega)) hG.size (by omega)
theorem Var.far {w : World} {b b' : Nat} {vs : List Value} (h : Var w b vs) (hne : b ≠ b') (i : Nat) (x : Value) : Var (w.setCell ⟨b', i, none⟩ x) b vs :=
  have hk := Below.heap_setCell w ⟨b', i, none⟩ x b hne
  ⟨fun j v hv => ⟨(World.cell?_of_block (w := w) (a := ⟨b, j, none⟩) hk).trans (h.1 j v hv).1, (World.frozen?_of_block (w := w) (a := ⟨b, j, none⟩) hk).trans (h.1 j v hv).2⟩, by simpa using h.2⟩
theorem Var.set {w : World} {b : Nat} {vs : List Value} (h : Var w b vs) (i : Nat) (x : Value) : Var (w.setCell ⟨b, i, none⟩ x) b (vs.set i x) :=
  ⟨fun j v hv => by
    refine ⟨?_, (World.frozen?_setCell _ _ _ _).trans ?_⟩
    · rw [List.getElem?_set] at hv
      by_cases hij : i = j
      · subst hij
        rw [if_pos rfl] at hv
        by_cases hl : i < vs.length
        · rw [if_pos hl] at hv
          cases hv
          exact World.cell?_setCell_same _ _ _ (h.1 i vs[i] (by simp [hl])).1
        · rw [if_neg hl] at hv
          cases hv
      · rw [if_neg hij] at hv
        rw [World.cell?_setCell_other _ _ _ x (by intro e; injection e; omega)]
        exact (h.1 j v hv).1
    · have hl : j < vs.length := by have := (List.getElem?_eq_some_iff.1 hv).1; simpa using this
      exact (h.1 j vs[j] (by simp [hl])).2, by simpa using h.2⟩
theorem Var.cell {w : World} {b : Nat} {vs : List Value} (h : Var w b vs) (i : Nat) {v : Value} (hv : vs[i]? = some v) : w.cell? ⟨b, i, none⟩ = some v := (h.1 i v hv).1
theorem Var.loose {w : World} {b : Nat} {vs : List Value} (h : Var w b vs) (i : Nat) {v : Value} (hv : vs[i]? = some v) : w.frozen? ⟨b, i, none⟩ = false := (h.1 i v hv).2
end Go.Proofs.Ytmiokacihcpepaa.Mem
