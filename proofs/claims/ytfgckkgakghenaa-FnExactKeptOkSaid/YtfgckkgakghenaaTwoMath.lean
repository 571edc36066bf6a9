/-
  What the functions of chapter 5 compute, on lists of slots; no statement about the program stands here. No condition.
-/
import Derived.Test.YtfgckkgakghenaaSlotMath
namespace Go.Proofs.Ytfgckkgakghenaa.Slots
set_option maxRecDepth 100000
open Go.ChangeShapes Go.WideShapes Go.ChangeAt Go.RowKit
open Go.Proofs.Ytfgckkgakghenaa.Base Go.Proofs.Ytfgckkgakghenaa.Mem Go.Proofs.Ytfgckkgakghenaa.Ints

def grantS (p r : Int) : Sl := if r = 0 then (-1, 0) else (p, r)
def compS (s : Sl) (o : List Sl) : Sl := if (atS o s.1).1 = -1 then (-1, 0) else grantS (atS o s.1).1 (Rights.both s.2 (atS o s.1).2)
def restS (s : Sl) (r : Int) : Sl := grantS s.1 (Rights.both s.2 r)
def compL (l o : List Sl) : List Sl := l.map fun s => compS s o
def restL (l : List Sl) (r : Int) : List Sl := l.map fun s => restS s r
def belowS (a b : Sl) : Bool := decide (a = (-1, 0)) || (decide (a.1 = b.1) && Rights.enough b.2 a.2)
def belowL : List Sl → List Sl → Bool
  | [], [] => true
  | a :: l, b :: m => belowS a b && belowL l m
  | _, _ => false

theorem grantS_0 (p : Int) : grantS p 0 = (-1, 0) := rfl
theorem grantS_no {p r : Int} (h : r ≠ 0) : grantS p r = (p, r) := if_neg h
theorem wfS_no : wfS (-1, 0) := by unfold wfS; decide
theorem wf_grant {p r : Int} (hp : (Lit.int .i64 p).wf = true) (hr : (Lit.int .i64 r).wf = true) : wfS (grantS p r) := by
  unfold grantS
  split
  · exact wfS_no
  · exact ⟨hp, hr⟩
theorem wf_atS {l : List Sl} (h : wfL l) (page : Int) : wfS (atS l page) := by
  unfold atS
  split
  · rw [List.getD_eq_getElem?_getD]
    cases e : l[page.toNat]? with
    | none => exact wfS_no
    | some x => exact h x (List.mem_of_getElem? e)
  · exact wfS_no
theorem wf_comp {s : Sl} {o : List Sl} (ho : wfL o) : wfS (compS s o) := by
  unfold compS
  split
  · exact wfS_no
  · exact wf_grant (wf_atS ho _).1 (Rights.wf_both _ _)
theorem wf_rest {s : Sl} (hs : wfS s) (r : Int) : wfS (restS s r) := wf_grant hs.1 (Rights.wf_both _ _)
theorem wf_compL {l o : List Sl} (ho : wfL o) : wfL (compL l o) := fun t ht => by
  obtain ⟨s, _, rfl⟩ := List.mem_map.1 ht
  exact wf_comp ho
theorem wf_restL {l : List Sl} (hl : wfL l) (r : Int) : wfL (restL l r) := fun t ht => by
  obtain ⟨s, hs, rfl⟩ := List.mem_map.1 ht
  exact wf_rest (hl s hs) r
theorem compL_len (l o : List Sl) : (compL l o).length = l.length := by simp [compL]
theorem restL_len (l : List Sl) (r : Int) : (restL l r).length = l.length := by simp [restL]
theorem atS_at {l : List Sl} {k : Nat} (h : k < l.length) : atS l (k : Int) = l[k] := by
  unfold atS
  rw [if_pos (by omega), Int.toNat_natCast, List.getD_eq_getElem?_getD, List.getElem?_eq_getElem h]; rfl
theorem atS_out {l : List Sl} {page : Int} (h : ¬ (0 ≤ page ∧ page < l.length)) : atS l page = (-1, 0) := by
  unfold atS
  split
  · rw [List.getD_eq_getElem?_getD, List.getElem?_eq_none (by omega)]; rfl
  · rfl
/-- A table made page by page. -/
def mapL (m : Int → Sl) (n : Nat) : List Sl := (List.range n).map fun (i : Nat) => m (i : Int)
theorem mapL_len (m : Int → Sl) (n : Nat) : (mapL m n).length = n := by simp [mapL]
theorem mapL_at (m : Int → Sl) (n k : Nat) (h : k < (mapL m n).length) : (mapL m n)[k] = m (k : Int) := by simp [mapL]
theorem mapL_map {m : Int → Sl} {l : List Sl} {f : Sl → Sl} (h : ∀ i, m i = f (atS l i)) : mapL m l.length = l.map f := by
  apply List.ext_getElem
  · simp [mapL]
  · intro k h1 h2
    rw [mapL_at, List.getElem_map, h, atS_at (by simpa using h2)]
theorem belowL_len : ∀ {l m : List Sl}, belowL l m = true → l.length = m.length
  | [], [], _ => rfl
  | a :: l, b :: m, h => by
    simp only [belowL, Bool.and_eq_true] at h
    simp [belowL_len h.2]
  | [], b :: m, h => by simp [belowL] at h
  | a :: l, [], h => by simp [belowL] at h
theorem belowL_take {l m : List Sl} {k : Nat} (hl : k < l.length) (hm : k < m.length) (h : belowL (l.take k) (m.take k) = true) :
    belowL (l.take (k + 1)) (m.take (k + 1)) = belowS l[k] m[k] := by
  induction k generalizing l m with
  | zero =>
    cases l with
    | nil => simp at hl
    | cons a l =>
      cases m with
      | nil => simp at hm
      | cons b m => simp [belowL]
  | succ k ih =>
    cases l with
    | nil => simp at hl
    | cons a l =>
      cases m with
      | nil => simp at hm
      | cons b m =>
        simp only [List.take_succ_cons, belowL, Bool.and_eq_true] at h
        simp only [List.take_succ_cons, belowL, h.1, Bool.true_and, List.getElem_cons_succ]
        exact ih (by simpa using hl) (by simpa using hm) h.2
theorem belowL_stop {l m : List Sl} {k : Nat} (hl : k < l.length) (hm : k < m.length) (h : belowS l[k] m[k] = false) : belowL l m = false := by
  induction k generalizing l m with
  | zero =>
    cases l with
    | nil => simp at hl
    | cons a l =>
      cases m with
      | nil => simp at hm
      | cons b m => simp at h; simp [belowL, h]
  | succ k ih =>
    cases l with
    | nil => simp at hl
    | cons a l =>
      cases m with
      | nil => simp at hm
      | cons b m => simp only [belowL]; rw [ih (by simpa using hl) (by simpa using hm) (by simpa using h), Bool.and_false]
theorem belowL_ne {l m : List Sl} (h : l.length ≠ m.length) : belowL l m = false := by
  cases e : belowL l m with
  | false => rfl
  | true => exact absurd (belowL_len e) h

/-! ### The laws of chapter 5 -/
theorem compS_below {s : Sl} {o : List Sl} (h : compS s o ≠ (-1, 0)) : belowS (compS s o) (atS o s.1) = true ∧ Rights.enough s.2 (compS s o).2 = true := by
  unfold compS at h ⊢
  by_cases h1 : (atS o s.1).1 = -1
  · rw [if_pos h1] at h; exact absurd rfl h
  · rw [if_neg h1] at h ⊢
    by_cases h2 : Rights.both s.2 (atS o s.1).2 = 0
    · rw [h2] at h; exact absurd rfl h
    · rw [grantS_no h2]
      have := Rights.enough_both _ _ h2
      exact ⟨by simp [belowS, this.2], this.1⟩
theorem restS_below (s : Sl) (r : Int) : belowS (restS s r) s = true := by
  unfold restS
  by_cases h2 : Rights.both s.2 r = 0
  · rw [h2]; simp [belowS, grantS]
  · rw [grantS_no h2]; simp [belowS, (Rights.enough_both _ _ h2).1]
theorem belowL_map {f g : Sl → Sl} : ∀ (l : List Sl), (∀ s, belowS (f s) (g s) = true) → belowL (l.map f) (l.map g) = true
  | [], _ => rfl
  | a :: l, h => by simp [belowL, h a, belowL_map l h]
theorem restL_below (l : List Sl) (r : Int) : belowL (restL l r) l = true := by
  have := belowL_map (f := fun s => restS s r) (g := id) l (fun s => restS_below s r)
  simpa [restL] using this
theorem both_rok {a b : Int} (h : Rights.both a b ≠ 0) : Rights.rok a = true ∧ Rights.rok b = true := by
  by_cases h2 : Rights.rok a = true ∧ Rights.rok b = true
  · exact h2
  · exact absurd (by unfold Rights.both; rw [if_neg h2]) h
theorem both_0 (b : Int) : Rights.both 0 b = 0 := by
  by_cases h : Rights.rok b = true
  · rcases Rights.rok_four h with rfl | rfl | rfl | rfl <;> decide +kernel
  · unfold Rights.both; rw [if_neg (fun k => h k.2)]
theorem both_assoc (a b c : Int) : Rights.both (Rights.both a b) c = Rights.both a (Rights.both b c) := by
  by_cases ha : Rights.rok a = true
  · by_cases hb : Rights.rok b = true
    · by_cases hc : Rights.rok c = true
      · rcases Rights.rok_four ha with rfl | rfl | rfl | rfl <;> rcases Rights.rok_four hb with rfl | rfl | rfl | rfl <;> rcases Rights.rok_four hc with rfl | rfl | rfl | rfl <;> decide +kernel
      · have e1 : Rights.both (Rights.both a b) c = 0 := by unfold Rights.both; rw [if_neg (fun k => hc k.2)]
        have e2 : Rights.both b c = 0 := by unfold Rights.both; rw [if_neg (fun k => hc k.2)]
        rw [e1, e2, Rights.both_comm, both_0]
    · have e1 : Rights.both a b = 0 := by unfold Rights.both; rw [if_neg (fun k => hb k.2)]
      have e2 : Rights.both b c = 0 := by unfold Rights.both; rw [if_neg (fun k => hb k.1)]
      rw [e1, e2, both_0, Rights.both_comm, both_0]
  · have e1 : Rights.both a b = 0 := by unfold Rights.both; rw [if_neg (fun k => ha k.1)]
    have e2 : Rights.both a (Rights.both b c) = 0 := by
      conv => lhs; unfold Rights.both
      rw [if_neg (fun k => ha k.1)]
    rw [e1, e2, both_0]
theorem atS_restL (o : List Sl) (r page : Int) : atS (restL o r) page = if 0 ≤ page ∧ page < o.length then restS (atS o page) r else (-1, 0) := by
  by_cases h : 0 ≤ page ∧ page < o.length
  · rw [if_pos h]
    obtain ⟨k, rfl⟩ := Int.eq_ofNat_of_zero_le h.1
    have hk : k < o.length := by omega
    rw [atS_at hk, atS_at (by rw [restL_len]; exact hk)]
    simp [restL]
  · rw [if_neg h, atS_out (by rw [restL_len]; exact h)]
/-- Restricting the one table or the other. -/
theorem comp_rest (s : Sl) (o : List Sl) (r : Int) : compS (restS s r) o = compS s (restL o r) := by
  unfold compS
  rw [atS_restL]
  by_cases hin : 0 ≤ s.1 ∧ s.1 < o.length
  · rw [if_pos hin]
    generalize hx : atS o s.1 = x
    obtain ⟨p, q⟩ := s
    obtain ⟨x1, x2⟩ := x
    have hneg : atS o (-1) = (-1, 0) := atS_out (by omega)
    unfold restS
    simp only at hx ⊢
    by_cases h1 : Rights.both q r = 0
    · rw [h1, grantS_0]
      simp only [hneg, if_true]
      by_cases h2 : Rights.both x2 r = 0
      · rw [h2, grantS_0]; simp
      · rw [grantS_no h2]
        simp only
        rw [show Rights.both q (Rights.both x2 r) = 0 by rw [Rights.both_comm x2 r, ← both_assoc, h1, both_0]]
        split <;> simp [grantS]
    · rw [grantS_no h1]
      simp only [hx]
      by_cases h2 : Rights.both x2 r = 0
      · rw [h2, grantS_0]
        simp only [if_true]
        rw [show Rights.both (Rights.both q r) x2 = 0 by rw [both_assoc, Rights.both_comm r x2, h2, Rights.both_comm, both_0]]
        split <;> simp [grantS]
      · rw [grantS_no h2]
        simp only
        rw [show Rights.both (Rights.both q r) x2 = Rights.both q (Rights.both x2 r) by rw [both_assoc, Rights.both_comm r x2]]
  · rw [if_neg hin, if_pos rfl]
    have hneg : atS o (-1) = (-1, 0) := atS_out (by omega)
    unfold restS
    by_cases h1 : Rights.both s.2 r = 0
    · rw [h1, grantS_0]; simp [hneg]
    · rw [grantS_no h1]; simp [atS_out hin]
theorem compL_rest (l o : List Sl) (r : Int) : compL (restL l r) o = compL l (restL o r) := by
  unfold compL restL
  rw [List.map_map]
  apply List.map_congr_left
  intro s _
  exact comp_rest s o r
theorem comp_rest_below (s : Sl) (o : List Sl) (r : Int) : belowS (compS (restS s r) o) (compS s o) = true := by
  unfold restS
  by_cases h1 : Rights.both s.2 r = 0
  · rw [h1, grantS_0]
    have hneg : atS o (-1) = (-1, 0) := atS_out (by omega)
    simp [compS, hneg, belowS]
  · rw [grantS_no h1]
    unfold compS
    simp only
    generalize atS o s.1 = x
    by_cases h2 : x.1 = -1
    · rw [if_pos h2]; simp [belowS]
    · rw [if_neg h2, if_neg h2]
      by_cases h3 : Rights.both (Rights.both s.2 r) x.2 = 0
      · rw [h3, grantS_0]; simp [belowS]
      · rw [grantS_no h3]
        have e : Rights.both (Rights.both s.2 r) x.2 = Rights.both (Rights.both s.2 x.2) r := by rw [both_assoc, both_assoc, Rights.both_comm r]
        rw [e] at h3 ⊢
        have h4 : Rights.both s.2 x.2 ≠ 0 := fun h => h3 (by rw [h, both_0])
        rw [grantS_no h4]
        simp [belowS, (Rights.enough_both _ _ h3).1]
theorem compL_rest_below (l o : List Sl) (r : Int) : belowL (compL (restL l r) o) (compL l o) = true := by
  unfold compL restL
  rw [List.map_map]
  exact belowL_map l (fun s => comp_rest_below s o r)
theorem enough_self {a : Int} (h : Rights.rok a = true) : Rights.enough a a = true := by
  rcases Rights.rok_four h with rfl | rfl | rfl | rfl <;> decide +kernel
theorem rok_both (a b : Int) : Rights.rok (Rights.both a b) = true := by
  by_cases h : Rights.rok a = true ∧ Rights.rok b = true
  · rcases Rights.rok_four h.1 with rfl | rfl | rfl | rfl <;> rcases Rights.rok_four h.2 with rfl | rfl | rfl | rfl <;> decide +kernel
  · unfold Rights.both; rw [if_neg h]; rfl
theorem comp_self (s : Sl) (o : List Sl) : belowS (compS s o) (compS s o) = true := by
  unfold compS
  split
  · rfl
  · unfold grantS
    split
    · rfl
    · simp [belowS, enough_self (rok_both _ _)]
theorem compL_self (l o : List Sl) : belowL (compL l o) (compL l o) = true := belowL_map l (fun s => comp_self s o)
end Go.Proofs.Ytfgckkgakghenaa.Slots
