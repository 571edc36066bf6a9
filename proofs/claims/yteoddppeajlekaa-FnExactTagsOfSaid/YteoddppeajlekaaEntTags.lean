/-
  The buffer of entries: the given model's TagsIn. No condition beyond a buffer's length.
-/
import Derived.Test.YteoddppeajlekaaEntPut
namespace Go.Proofs.Yteoddppeajlekaa.Ents
set_option maxRecDepth 100000
open Go.ChangeShapes Go.WideShapes Go.ChangeAt Go.RowKit
open Go.Proofs.Yteoddppeajlekaa.Base Go.Proofs.Yteoddppeajlekaa.Mem Go.Proofs.Yteoddppeajlekaa.Data Go.Proofs.Yteoddppeajlekaa.Ints Go.Proofs.Yteoddppeajlekaa.Slots
set_option linter.unusedVariables false
set_option linter.unusedSimpArgs false

theorem n_one (l : List Int) : ∀ u ∈ ncells l, u.oneCell' = true := by
  intro u hu
  obtain ⟨b, _, rfl⟩ := List.mem_map.1 hu
  rfl
theorem news_one {w : World} {b : Nat} {v : Value} (h : w.cell? ⟨b, 0, none⟩ = some v) : ∀ j u, [v][j]? = some u → w.cell? ((⟨b, 0, none⟩ : Addr).add j) = some u := fun j u hu => by
  have hj := (List.getElem?_eq_some_iff.1 hu).1
  simp at hj
  subst hj
  simp at hu
  subst hu
  rw [Addr.add_lit]
  exact h
theorem row_kept {w w' : World} {base size n g cap : Nat} {e : TypeId} {xs : List Value} (h : w.ownsRow base e size (.slice (some ⟨g, 0, none⟩) n cap) n xs) (hb : Below w.heap.size w w') : w'.ownsRow base e size (.slice (some ⟨g, 0, none⟩) n cap) n xs := h.kept (Slots.grown_of_below hb none) (.inr (by simp [Value.ownBlock]))
theorem row_take {w : World} {base n g cap : Nat} {e : TypeId} {L : List Int} (h : w.ownsRow base e 1 (.slice (some ⟨g, 0, none⟩) n cap) n (ncells L)) (a : Nat) (ha : a ≤ n) : ∀ j u, (ncells (L.take a))[j]? = some u → ∃ ad, (some ⟨g, 0, none⟩ : Option Addr) = some ad ∧ w.cell? (ad.add j) = some u := fun j u hu => by
  have hl := (Owned.of_row h).1
  have hj := (List.getElem?_eq_some_iff.1 hu).1
  rw [ncells_len, List.length_take] at hj
  have hu2 : (ncells L)[j]? = some u := by
    rw [← hu]
    simp only [ncells, List.getElem?_map, List.getElem?_take]
    rw [if_pos (by omega)]
  obtain ⟨b, off, e', _, _, hc⟩ := hl j u hu2
  cases e'
  exact ⟨_, rfl, by rw [Addr.add_lit]; exact hc⟩
theorem n_drop {w : World} {base n g cap : Nat} {e : TypeId} {L : List Int} (h : w.ownsRow base e 1 (.slice (some ⟨g, 0, none⟩) n cap) n (ncells L)) (a : Nat) (j : Nat) (u : Value) (hu : (ncells (L.drop a))[j]? = some u) : w.cell? ((⟨g, a, none⟩ : Addr).add j) = some u := by
  have hl := (Owned.of_row h).1
  have hu2 : (ncells L)[a + j]? = some u := by
    rw [← hu]
    simp only [ncells, List.getElem?_map, List.getElem?_drop]
  obtain ⟨b, off, e', _, _, hc⟩ := hl _ u hu2
  cases e'
  rw [Addr.add_lit]
  simpa using hc

end Go.Proofs.Yteoddppeajlekaa.Ents
