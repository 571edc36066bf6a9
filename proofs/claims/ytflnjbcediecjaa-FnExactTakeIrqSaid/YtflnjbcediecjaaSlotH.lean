/-
  Contracts of the law package's helpers over slots and slices of slots (equality, conversion, marking, looking the marks up, size); no statement about the project's code stands here. No condition.
-/
import Derived.Test.YtflnjbcediecjaaMem
import Derived.Test.YtflnjbcediecjaaRegion
import Derived.Deep.RegionHeld3
namespace Go.Proofs.Ytflnjbcediecjaa.Slots
set_option maxRecDepth 100000
open Go.ChangeShapes Go.WideShapes Go.ChangeAt Go.RowKit
open Go.Proofs.Ytflnjbcediecjaa.Base Go.Proofs.Ytflnjbcediecjaa.Mem

/-- The cells of a list of slots. -/
def scells : List (Int × Int) → List Value
  | [] => []
  | p :: l => .int .i64 p.1 :: .int .i64 p.2 :: scells l
theorem scells_len : ∀ l, (scells l).length = 2 * l.length
  | [] => rfl
  | p :: l => by simp [scells, scells_len l]; omega
theorem scells_fst : ∀ (l : List (Int × Int)) (k : Nat) (h : k < l.length), (scells l)[k * 2]? = some (.int .i64 l[k].1)
  | p :: l, 0, _ => rfl
  | p :: l, k + 1, h => by
    have := scells_fst l k (by simpa using h)
    rw [show (k + 1) * 2 = k * 2 + 1 + 1 by omega]
    simpa [scells] using this
theorem scells_snd : ∀ (l : List (Int × Int)) (k : Nat) (h : k < l.length), (scells l)[k * 2 + 1]? = some (.int .i64 l[k].2)
  | p :: l, 0, _ => rfl
  | p :: l, k + 1, h => by
    have := scells_snd l k (by simpa using h)
    rw [show (k + 1) * 2 + 1 = k * 2 + 1 + 1 + 1 by omega]
    simpa [scells] using this
theorem scells_append : ∀ l m, scells (l ++ m) = scells l ++ scells m
  | [], m => rfl
  | p :: l, m => by simp [scells, scells_append l m]
theorem scells_one : ∀ l, ∀ u ∈ scells l, u.oneCell' = true
  | [], u, h => by simp [scells] at h
  | p :: l, u, h => by
    simp [scells] at h
    rcases h with rfl | rfl | h
    · rfl
    · rfl
    · exact scells_one l u h
theorem slot_at {w : World} {lo hi : Nat} {A : Option Addr} {l : List (Int × Int)} (h : Lies w lo hi A (scells l)) (k : Nat) (hk : k < l.length) :
    ∃ b off, A = some ⟨b, off, none⟩ ∧ lo ≤ b ∧ b < hi ∧ w.cell? ⟨b, off + k * 2, none⟩ = some (.int .i64 l[k].1) ∧ w.cell? ⟨b, off + k * 2 + 1, none⟩ = some (.int .i64 l[k].2) := by
  obtain ⟨b, off, e, x, y, hc⟩ := h.at_ (by rw [scells_len]; omega)
  exact ⟨b, off, e, x, y, hc _ _ (scells_fst l k hk), by rw [Nat.add_assoc]; exact hc _ _ (scells_snd l k hk)⟩

theorem grown_of_below {w w' : World} (h : Below w.heap.size w w') (row : Option Nat) : w.grownBy w' row := ⟨h.os, h.tape, h.output, h.size, fun i hi _ => h.block i hi⟩
/-- Two cells of a row may be written. -/
theorem row_two {w : World} {base g n c : Nat} {e : TypeId} {xs : List Value} (h : w.ownsRow base e 2 (.slice (some ⟨g, 0, none⟩) n c) n xs) {k : Nat} (hk : k < n) :
    (∃ u, w.cell? ⟨g, k * 2, none⟩ = some u) ∧ (∃ u, w.cell? ⟨g, k * 2 + 1, none⟩ = some u) ∧ w.frozen? ⟨g, k * 2, none⟩ = false ∧ w.frozen? ⟨g, k * 2 + 1, none⟩ = false := by
  have hl := h.1
  refine ⟨⟨xs[k * 2]'(by omega), ?_⟩, ⟨xs[k * 2 + 1]'(by omega), ?_⟩, h.frozenAt _, h.frozenAt _⟩
  · rw [h.cellAt _ (by omega)]; exact List.getElem?_eq_getElem _
  · rw [h.cellAt _ (by omega)]; exact List.getElem?_eq_getElem _
theorem row_set2 {w : World} {base g n c : Nat} {e : TypeId} {xs : List Value} (h : w.ownsRow base e 2 (.slice (some ⟨g, 0, none⟩) n c) n xs) (k : Nat) (u v : Value) :
    ((w.setCell ⟨g, k * 2, none⟩ u).setCell ⟨g, k * 2 + 1, none⟩ v).ownsRow base e 2 (.slice (some ⟨g, 0, none⟩) n c) n ((xs.set (k * 2) u).set (k * 2 + 1) v) :=
  ((h.stored (k * 2) u).1.stored (k * 2 + 1) v).1
theorem take_set2 {xs : List Value} {k : Nat} {l : List (Int × Int)} {x y : Int} (h : xs.take (k * 2) = scells (l.take k)) (hl : k * 2 + 1 < xs.length) (ht : l.take (k + 1) = l.take k ++ [(x, y)]) :
    ((xs.set (k * 2) (.int .i64 x)).set (k * 2 + 1) (.int .i64 y)).take ((k + 1) * 2) = scells (l.take (k + 1)) := by
  rw [ht, scells_append, ← h]
  rw [show (k + 1) * 2 = k * 2 + 1 + 1 by omega, List.take_succ_eq_append_getElem (by simp; omega), List.take_succ_eq_append_getElem (by simp; omega)]
  simp [scells, List.take_set_of_le]

def RowPost (w : World) (n : Nat) (l : List (Int × Int)) (e : Ending) (w' : World) : Prop :=
  ∃ ad c, e = .returned (.slice (some ad) n c) ∧ n ≤ c ∧ Owned w' w.heap.size w'.heap.size (some ad) (scells l) ∧ Below w.heap.size w w'

/-- The marks k, k + 1, .. -/
def smarks (k n : Nat) : List (Int × Int) := (List.range n).map fun (j : Nat) => ((k : Int) + 2 * j, (k : Int) + 2 * j + 1)
theorem smarks_len (k n : Nat) : (smarks k n).length = n := by simp [smarks]
theorem smarks_at (k n j : Nat) (h : j < (smarks k n).length) : (smarks k n)[j] = ((k : Int) + 2 * j, (k : Int) + 2 * j + 1) := by simp [smarks]

theorem smarks_step (k0 k : Nat) (l : List (Int × Int)) (hk : k < l.length) :
    (((scells (smarks k0 k ++ l.drop k)).set (k * 2) (.int .i64 ((k0 : Int) + 2 * k))).set (k * 2 + 1) (.int .i64 ((k0 : Int) + 2 * k + 1))) = scells (smarks k0 (k + 1) ++ l.drop (k + 1)) := by
  have h1 : l.drop k = l[k] :: l.drop (k + 1) := List.drop_eq_getElem_cons hk
  have h2 : (scells (smarks k0 k)).length = k * 2 := by rw [scells_len, smarks_len]; omega
  have h3 : smarks k0 (k + 1) = smarks k0 k ++ [((k0 : Int) + 2 * k, (k0 : Int) + 2 * k + 1)] := by simp [smarks, List.range_succ]
  rw [h1, h3, scells_append, scells_append, scells_append]
  rw [List.set_append_right _ _ (by omega), h2, Nat.sub_self, List.set_append_right _ _ (by omega), h2]
  simp [scells]

end Go.Proofs.Ytflnjbcediecjaa.Slots
