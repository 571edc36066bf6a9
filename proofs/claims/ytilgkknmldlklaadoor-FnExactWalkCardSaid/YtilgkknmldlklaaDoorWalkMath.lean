/-
  Walks through page tables, in plain mathematics; no statement about the program stands here. No condition.
-/
import Derived.Test.YtilgkknmldlklaaDoorTwoMath
namespace Go.Proofs.YtilgkknmldlklaaDoor.Slots
set_option maxRecDepth 100000
open Go.ChangeShapes Go.WideShapes Go.ChangeAt Go.RowKit
open Go.Proofs.YtilgkknmldlklaaDoor.Base Go.Proofs.YtilgkknmldlklaaDoor.Mem Go.Proofs.YtilgkknmldlklaaDoor.Ints
set_option linter.unusedVariables false

/-- A slot lets an access of that need pass. -/
def perm (s : Sl) (need : Int) : Bool := decide (s.1 ≠ -1) && (decide (need ≠ 0) && Rights.enough s.2 need)
def innerW (l : List Sl) (page need : Int) : Int × Bool := if perm (atS l page) need = true then ((atS l page).1, true) else (-1, false)
def walkW (l o : List Sl) (page need : Int) : Int × Int :=
  if perm (atS l page) need = true then (if perm (atS o (atS l page).1) need = true then ((atS o (atS l page).1).1, 0) else (-1, 2)) else (-1, 1)
def faultsW (l o : List Sl) (need : Int) : List Int := (List.range l.length).map fun (k : Nat) => (walkW l o (k : Int) need).2
theorem faultsW_len (l o : List Sl) (need : Int) : (faultsW l o need).length = l.length := by simp [faultsW]
theorem faultsW_at (l o : List Sl) (need : Int) (k : Nat) (h : k < (faultsW l o need).length) : (faultsW l o need)[k] = (walkW l o (k : Int) need).2 := by simp [faultsW]
theorem perm_no1 {r need : Int} : perm (-1, r) need = false := by simp [perm]
theorem perm_no0 {s : Sl} : perm s 0 = false := by simp [perm]
theorem perm_en {p r need : Int} (h1 : p ≠ -1) (h2 : need ≠ 0) : perm (p, r) need = Rights.enough r need := by simp [perm, h1, h2]
theorem innerW_yes {l : List Sl} {page need : Int} (h : perm (atS l page) need = true) : innerW l page need = ((atS l page).1, true) := if_pos h
theorem innerW_no {l : List Sl} {page need : Int} (h : perm (atS l page) need = false) : innerW l page need = (-1, false) := if_neg (by simp [h])
theorem walkW_no {l o : List Sl} {page need : Int} (h : perm (atS l page) need = false) : walkW l o page need = (-1, 1) := if_neg (by simp [h])
theorem walkW_out {l o : List Sl} {page need : Int} (h : perm (atS l page) need = true) (h' : perm (atS o (atS l page).1) need = false) : walkW l o page need = (-1, 2) := by
  unfold walkW
  rw [if_pos h, if_neg (by simp [h'])]
theorem walkW_yes {l o : List Sl} {page need : Int} (h : perm (atS l page) need = true) (h' : perm (atS o (atS l page).1) need = true) : walkW l o page need = ((atS o (atS l page).1).1, 0) := by
  unfold walkW
  rw [if_pos h, if_pos h']
theorem wf_walkW (l o : List Sl) (page need : Int) (wo : wfL o) : (Lit.int .i64 (walkW l o page need).1).wf = true ∧ 0 ≤ (walkW l o page need).2 ∧ (walkW l o page need).2 ≤ 2 := by
  unfold walkW
  split
  · split
    · exact ⟨(wf_atS wo _).1, by simp, by simp⟩
    · exact ⟨by decide, by simp, by simp⟩
  · exact ⟨by decide, by simp, by simp⟩
end Go.Proofs.YtilgkknmldlklaaDoor.Slots
