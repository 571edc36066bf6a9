/-
  Shadow tables in plain mathematics: what chapter 7's functions compute; no statement about the program stands here. No condition.
-/
import Derived.Test.YtfgckkgakghenaaKeptH
import Derived.Test.YtfgckkgakghenaaTwoMath
namespace Go.Proofs.Ytfgckkgakghenaa.Kepts
set_option maxRecDepth 100000
open Go.ChangeShapes Go.WideShapes Go.ChangeAt Go.RowKit
open Go.Proofs.Ytfgckkgakghenaa.Base Go.Proofs.Ytfgckkgakghenaa.Mem Go.Proofs.Ytfgckkgakghenaa.Slots Go.Proofs.Ytfgckkgakghenaa.Bools Go.Proofs.Ytfgckkgakghenaa.Data
set_option linter.unusedVariables false
set_option linter.unusedSimpArgs false

def newK (n : Nat) : KD := (List.replicate n false, List.replicate n (-1, 0))
/-- Known and Slots both have an element at that index. -/
def hasK (k : KD) (page : Int) : Bool := decide (0 ≤ page ∧ page < k.1.length ∧ page < k.2.length)
def putK (k : KD) (i : Nat) (b : Bool) (s : Sl) : KD := (k.1.set i b, k.2.set i s)
def fillK (k : KD) (l o : List Sl) (page : Int) : KD :=
  if hasK k page = true ∧ page < l.length then putK k page.toNat true (compS (atS l page) o) else k
def forgetK (k : KD) (page : Int) : KD := if hasK k page = true then putK k page.toNat false (-1, 0) else k
def forgetsK (k : KD) : List Int → KD
  | [] => k
  | p :: ps => forgetsK (forgetK k p) ps
def usesK (k : KD) (l : List Sl) (page : Int) : KD := forgetsK k (useS l page)
def allK (k : KD) : KD := forgetsK k ((List.range k.1.length).map fun (i : Nat) => (i : Int))
def askK (k : KD) (page : Int) : Sl × Bool := if hasK k page = true ∧ k.1.getD page.toNat false = true then (k.2.getD page.toNat (-1, 0), true) else ((-1, 0), false)
def knownK (k : KD) : Nat := k.1.countP id
def wantK (k : KD) (l o : List Sl) (i : Nat) : Sl := if k.1.getD i false = true then compS (l.getD i (-1, 0)) o else (-1, 0)
def okK (k : KD) (l o : List Sl) : Bool := decide (k.1.length = l.length ∧ k.2.length = l.length) && (List.range l.length).all fun i => decide (k.2.getD i (-1, 0) = wantK k l o i)

theorem putK_len (k : KD) (i : Nat) (b : Bool) (s : Sl) : (putK k i b s).1.length = k.1.length ∧ (putK k i b s).2.length = k.2.length := by simp [putK]
theorem fillK_len (k : KD) (l o : List Sl) (page : Int) : (fillK k l o page).1.length = k.1.length ∧ (fillK k l o page).2.length = k.2.length := by
  unfold fillK; split
  · exact putK_len _ _ _ _
  · exact ⟨rfl, rfl⟩
theorem forgetK_len (k : KD) (page : Int) : (forgetK k page).1.length = k.1.length ∧ (forgetK k page).2.length = k.2.length := by
  unfold forgetK; split
  · exact putK_len _ _ _ _
  · exact ⟨rfl, rfl⟩
theorem forgetsK_len : ∀ (ps : List Int) (k : KD), (forgetsK k ps).1.length = k.1.length ∧ (forgetsK k ps).2.length = k.2.length
  | [], k => ⟨rfl, rfl⟩
  | p :: ps, k => by
    obtain ⟨h1, h2⟩ := forgetsK_len ps (forgetK k p)
    obtain ⟨h3, h4⟩ := forgetK_len k p
    exact ⟨h1.trans h3, h2.trans h4⟩
theorem forgetsK_append : ∀ (ps qs : List Int) (k : KD), forgetsK k (ps ++ qs) = forgetsK (forgetsK k ps) qs
  | [], qs, k => rfl
  | p :: ps, qs, k => forgetsK_append ps qs (forgetK k p)
theorem forgetsK_snoc (k : KD) (ps : List Int) (p : Int) : forgetsK k (ps ++ [p]) = forgetK (forgetsK k ps) p := by rw [forgetsK_append]; rfl
theorem wf_putK {k : KD} {i : Nat} {b : Bool} {s : Sl} (h : wfL k.2) (hs : wfS s) : wfL (putK k i b s).2 := fun t ht => by
  rcases List.mem_or_eq_of_mem_set ht with h1 | h1
  · exact h t h1
  · rw [h1]; exact hs
theorem wf_fillK {k : KD} {l o : List Sl} {page : Int} (h : wfL k.2) (ho : wfL o) : wfL (fillK k l o page).2 := by
  unfold fillK; split
  · exact wf_putK h (wf_comp ho)
  · exact h
theorem wf_forgetK {k : KD} {page : Int} (h : wfL k.2) : wfL (forgetK k page).2 := by
  unfold forgetK; split
  · exact wf_putK h wfS_no
  · exact h
theorem wf_forgetsK : ∀ (ps : List Int) {k : KD}, wfL k.2 → wfL (forgetsK k ps).2
  | [], k, h => h
  | p :: ps, k, h => wf_forgetsK ps (wf_forgetK h)
theorem hasK_yes {k : KD} {page : Int} (h : hasK k page = true) : 0 ≤ page ∧ page < k.1.length ∧ page < k.2.length := by simpa [hasK] using h
theorem hasK_no {k : KD} {page : Int} (h : hasK k page = false) : ¬ (0 ≤ page ∧ page < k.1.length ∧ page < k.2.length) := by simpa [hasK] using h
end Go.Proofs.Ytfgckkgakghenaa.Kepts
