/-
  The given model's draws of page tables (l03Table, l03AnyTable): at most so many slots, whose numbers are of an int's range, in new memory; no statement about the project's code stands here. No condition.
-/
import Derived.Test.YtflnjbcediecjaaSlotDraw
import Derived.Test.YtflnjbcediecjaaWith
namespace Go.Proofs.Ytflnjbcediecjaa.SDraw
set_option maxRecDepth 100000
open Go.ChangeShapes Go.WideShapes Go.ChangeAt Go.RowKit
open Go.Proofs.Ytflnjbcediecjaa.Base Go.Proofs.Ytflnjbcediecjaa.Mem Go.Proofs.Ytflnjbcediecjaa.Slots Go.Proofs.Ytflnjbcediecjaa.Draw
set_option linter.unusedVariables false

theorem grown_own {w a b : World} {g : Nat} {row : Option Nat} (h : w.grownBy a (some g)) (k : a.grownBy b row) (hr : ∀ j, row = some j → w.heap.size ≤ j) : w.grownBy b (some g) :=
  ⟨k.os.trans h.os, k.tape.trans h.tape, k.output.trans h.output, Nat.le_trans h.size k.size, fun i hi hne => (k.block i (Nat.lt_of_lt_of_le hi h.size) (fun e => by have := hr i e.symm; omega)).trans (h.block i hi hne)⟩
theorem wfL_snoc {l : List Sl} {s : Sl} (h : wfL l) (hs : wfS s) : wfL (l ++ [s]) := fun t ht => by
  rcases List.mem_append.1 ht with h1 | h1
  · exact h t h1
  · have : t = s := by simpa using h1
    rw [this]; exact hs

def TabPost (w0 : World) (A : Option Addr) (n c : Nat) (w : World) (g sz : Nat) (e : Ending) (w' : World) : Prop :=
  ∃ ad m cap l, e = .returned (.slice (some ad) m cap) ∧ m ≤ sz ∧ l.length = m ∧ wfL l ∧ Lies w' w.heap.size w'.heap.size (some ad) (scells l) ∧ Cur w0 A n c w' g ∧ w.grownBy w' (some g)

theorem wfL_set {l : List Sl} {k : Nat} {s : Sl} (h : wfL l) (hs : wfS s) : wfL (l.set k s) := fun t ht => by
  rcases List.mem_or_eq_of_mem_set ht with h1 | h1
  · exact h t h1
  · rw [h1]; exact hs
theorem wfL_take {l : List Sl} (k : Nat) (h : wfL l) : wfL (l.take k) := fun t ht => h t (List.mem_of_mem_take ht)
theorem lies_take {w : World} {lo hi : Nat} {A : Option Addr} {l : List Sl} (k : Nat) (h : Lies w lo hi A (scells l)) : Lies w lo hi A (scells (l.take k)) := fun j u hu => by
  refine h j u ?_
  have e : l = l.take k ++ l.drop k := (List.take_append_drop k l).symm
  rw [e, scells_append, List.getElem?_append_left (List.getElem?_eq_some_iff.1 hu).1]
  exact hu

end Go.Proofs.Ytflnjbcediecjaa.SDraw
