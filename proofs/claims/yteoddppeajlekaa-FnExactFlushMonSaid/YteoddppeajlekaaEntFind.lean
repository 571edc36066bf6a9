/-
  The buffer of entries: the project's comparison of an entry, FindEntry and BufferOk. No condition beyond a buffer's length and its numbers being of an int's range.
-/
import Derived.Test.YteoddppeajlekaaEntPut
import Derived.Test.YteoddppeajlekaaEntOk
namespace Go.Proofs.Yteoddppeajlekaa.Ents
set_option maxRecDepth 100000
open Go.ChangeShapes Go.WideShapes Go.ChangeAt Go.RowKit
open Go.Proofs.Yteoddppeajlekaa.Base Go.Proofs.Yteoddppeajlekaa.Mem Go.Proofs.Yteoddppeajlekaa.Data
set_option linter.unusedVariables false
set_option linter.unusedSimpArgs false

def YesP (w : World) (b : Bool) (e : Ending) (w' : World) : Prop := e = .returned (.bool b) ∧ Below w.heap.size w w'

/-- A variable of four cells made behind what was. -/
theorem four_made {w V : World} (h : Below w.heap.size w V) (s : ET) (T : TypeId) :
    Four (V.alloc (.cells #[.int .i64 s.1, .int .i64 s.2.1, .int .i64 s.2.2.1, .int .i64 s.2.2.2] T)) V.heap.size s ∧ Below w.heap.size w (V.alloc (.cells #[.int .i64 s.1, .int .i64 s.2.1, .int .i64 s.2.2.1, .int .i64 s.2.2.2] T)) :=
  ⟨Four.new V s T, h.alloc h.size _⟩

theorem bufOk_big {l : List ET} (h : l.length > 6) : bufOk l = false := by
  unfold bufOk
  rw [Bool.and_eq_false_iff]
  right
  rw [decide_eq_false_iff_not]
  omega
theorem found_take {l : List ET} {k : Nat} (hk : k < l.length) (h : (findE (l.take k) l[k].1 l[k].2.1).2 = true) : bufOk l = false := by
  rw [show (findE (l.take k) l[k].1 l[k].2.1).2 = (l.take k).any fun e => isE e l[k].1 l[k].2.1 by
    unfold findE
    cases h : (l.take k).find? fun e => isE e l[k].1 l[k].2.1 with
    | none => rw [List.find?_eq_none] at h; symm; rw [List.any_eq_false]; exact h
    | some e => symm; rw [List.any_eq_true]; exact ⟨e, List.mem_of_find?_eq_some h, List.find?_some (p := fun e => isE e l[k].1 l[k].2.1) h⟩, List.any_eq_true] at h
  obtain ⟨e, he, hx⟩ := h
  obtain ⟨i, hi, rfl⟩ := List.mem_iff_getElem.1 he
  have hik : i < k := by rw [List.length_take] at hi; omega
  rw [List.getElem_take] at hx
  refine bufOk_pair hk hik ?_
  unfold apart
  obtain ⟨h1, h2⟩ := isE_yes hx
  rw [h1, h2]
  simp
theorem found_not {l : List ET} {k : Nat} (hk : k < l.length) (hp : (l.take k).Pairwise apart) (h : (findE (l.take k) l[k].1 l[k].2.1).2 = false) : (l.take (k + 1)).Pairwise apart := by
  rw [show (findE (l.take k) l[k].1 l[k].2.1).2 = (l.take k).any fun e => isE e l[k].1 l[k].2.1 by
    unfold findE
    cases h : (l.take k).find? fun e => isE e l[k].1 l[k].2.1 with
    | none => rw [List.find?_eq_none] at h; symm; rw [List.any_eq_false]; exact h
    | some e => symm; rw [List.any_eq_true]; exact ⟨e, List.mem_of_find?_eq_some h, List.find?_some (p := fun e => isE e l[k].1 l[k].2.1) h⟩, List.any_eq_false] at h
  refine pair_snoc hk hp fun i hi => ?_
  have h1 := h l[i] (by rw [List.mem_iff_getElem]; exact ⟨i, by rw [List.length_take]; omega, by rw [List.getElem_take]⟩)
  have h2 := isE_no (by simpa using h1)
  unfold apart
  rintro ⟨h3, h4⟩
  exact h2 ⟨h3.symm, h4.symm⟩
theorem e_take {w : World} {lo hi : Nat} {A : Option Addr} {l : List ET} (h : Lies w lo hi A (ecells l)) (k : Nat) : Lies w lo hi A (ecells (l.take k)) := fun j u hu => by
  refine h j u ?_
  have hl : ecells l = ecells (l.take k) ++ ecells (l.drop k) := by rw [← ecells_append, List.take_append_drop]
  rw [hl, List.getElem?_append_left (by have := (List.getElem?_eq_some_iff.1 hu).1; exact this)]
  exact hu

end Go.Proofs.Yteoddppeajlekaa.Ents
