/-
  Contracts of the law package's helpers over slices of ints (equality, marking, looking the marks up); no statement about the project's code stands here. No condition.
-/
import Derived.Test.YtflnjbcediecjaaMem
namespace Go.Proofs.Ytflnjbcediecjaa.Ints
set_option maxRecDepth 100000
open Go.ChangeShapes Go.WideShapes Go.ChangeAt Go.RowKit
open Go.Proofs.Ytflnjbcediecjaa.Base Go.Proofs.Ytflnjbcediecjaa.Mem

/-- The cells of a list of numbers. -/
def ncells (l : List Int) : List Value := l.map (Value.int .i64)
theorem ncells_len (l : List Int) : (ncells l).length = l.length := by simp [ncells]
theorem ncells_at (l : List Int) (k : Nat) (h : k < l.length) : (ncells l)[k]? = some (.int .i64 l[k]) := by simp [ncells, h]
theorem ncells_append (l m : List Int) : ncells (l ++ m) = ncells l ++ ncells m := by simp [ncells]
theorem int_at {w : World} {lo hi : Nat} {A : Option Addr} {l : List Int} (h : Lies w lo hi A (ncells l)) (k : Nat) (hk : k < l.length) :
    ∃ b off, A = some ⟨b, off, none⟩ ∧ lo ≤ b ∧ b < hi ∧ w.cell? ⟨b, off + k, none⟩ = some (.int .i64 l[k]) := by
  obtain ⟨b, off, e, x, y, hc⟩ := h.at_ (by rw [ncells_len]; omega)
  exact ⟨b, off, e, x, y, hc _ _ (ncells_at l k hk)⟩

/-- The marks k, k + 1, .. -/
def nmarks (k n : Nat) : List Int := (List.range n).map fun (j : Nat) => (k : Int) + j
theorem nmarks_len (k n : Nat) : (nmarks k n).length = n := by simp [nmarks]
theorem nmarks_at (k n j : Nat) (h : j < (nmarks k n).length) : (nmarks k n)[j] = (k : Int) + j := by simp [nmarks]

theorem nmarks_step (k0 k : Nat) (l : List Int) (hk : k < l.length) :
    ((ncells (nmarks k0 k ++ l.drop k)).set k (.int .i64 ((k0 : Int) + k))) = ncells (nmarks k0 (k + 1) ++ l.drop (k + 1)) := by
  have h1 : l.drop k = l[k] :: l.drop (k + 1) := List.drop_eq_getElem_cons hk
  have h2 : (ncells (nmarks k0 k)).length = k := by rw [ncells_len, nmarks_len]
  have h3 : nmarks k0 (k + 1) = nmarks k0 k ++ [(k0 : Int) + k] := by simp [nmarks, List.range_succ]
  rw [h1, h3, ncells_append, ncells_append, ncells_append]
  rw [List.set_append_right _ _ (by omega), h2, Nat.sub_self]
  simp only [ncells, List.map_cons, List.map_nil, List.set_cons_zero, List.append_assoc, List.cons_append, List.nil_append]

end Go.Proofs.Ytflnjbcediecjaa.Ints
