/-
  A walk leads where the composed table leads: plain mathematics; no statement about the program stands here. No condition.
-/
import Derived.Test.YtilgkknmldlklaaDoorWalkMath
namespace Go.Proofs.YtilgkknmldlklaaDoor.Slots
set_option maxRecDepth 100000
open Go.ChangeShapes Go.WideShapes Go.ChangeAt Go.RowKit
open Go.Proofs.YtilgkknmldlklaaDoor.Base Go.Proofs.YtilgkknmldlklaaDoor.Mem Go.Proofs.YtilgkknmldlklaaDoor.Ints
set_option linter.unusedVariables false

theorem atS_m1 (o : List Sl) : atS o (-1) = (-1, 0) := atS_out (by omega)
theorem compS_m1 (r : Int) (o : List Sl) : compS (-1, r) o = (-1, 0) := by
  unfold compS
  rw [show ((-1, r) : Sl).1 = -1 from rfl, atS_m1]
  rfl
theorem atS_compL (l o : List Sl) (page : Int) : atS (compL l o) page = compS (atS l page) o := by
  by_cases h : 0 ≤ page ∧ page < l.length
  · obtain ⟨k, rfl⟩ := Int.eq_ofNat_of_zero_le h.1
    have hk : k < l.length := by omega
    rw [atS_at hk, atS_at (by rw [compL_len]; exact hk)]
    simp [compL]
  · rw [atS_out h, atS_out (by rw [compL_len]; exact h)]
    exact (compS_m1 0 o).symm
theorem enough_rok {a b : Int} (h : Rights.enough a b = true) : Rights.rok a = true := by
  unfold Rights.enough at h
  simp only [Bool.and_eq_true] at h
  exact h.1.1
theorem enough_both_two {a b need : Int} (hn : need = 1 ∨ need = 2) :
    (Rights.both a b ≠ 0 ∧ Rights.enough (Rights.both a b) need = true) ↔ (Rights.enough a need = true ∧ Rights.enough b need = true) := by
  by_cases h : Rights.rok a = true ∧ Rights.rok b = true
  · rcases Rights.rok_four h.1 with rfl | rfl | rfl | rfl <;> rcases Rights.rok_four h.2 with rfl | rfl | rfl | rfl <;> rcases hn with rfl | rfl <;> decide +kernel
  · constructor
    · rintro ⟨h1, _⟩
      exact absurd (by unfold Rights.both; rw [if_neg h]) h1
    · rintro ⟨h1, h2⟩
      exact absurd ⟨enough_rok h1, enough_rok h2⟩ h
theorem perm_iff {p r need : Int} (hn : need = 1 ∨ need = 2) : perm (p, r) need = true ↔ p ≠ -1 ∧ Rights.enough r need = true := by
  have h0 : need ≠ 0 := by omega
  simp [perm, h0]
theorem comp_perm (p r : Int) (o : List Sl) {need : Int} (hn : need = 1 ∨ need = 2) :
    ((perm (p, r) need = true ∧ perm (atS o p) need = true) ↔ ((compS (p, r) o).1 ≠ -1 ∧ Rights.enough (compS (p, r) o).2 need = true)) ∧
    (perm (p, r) need = true → perm (atS o p) need = true → (compS (p, r) o).1 = (atS o p).1) := by
  by_cases hp : p = -1
  · subst hp
    rw [compS_m1, perm_no1]
    simp
  · have hc : compS (p, r) o = if (atS o p).1 = -1 then (-1, 0) else grantS (atS o p).1 (Rights.both r (atS o p).2) := rfl
    rw [hc]
    clear hc
    generalize atS o p = s
    obtain ⟨x, y⟩ := s
    have h1 := perm_iff (p := p) (r := r) hn
    have h2 := perm_iff (p := x) (r := y) hn
    have h3 := enough_both_two (a := r) (b := y) hn
    by_cases hx : x = -1
    · subst hx
      rw [if_pos rfl, perm_no1]
      simp
    · rw [if_neg hx]
      by_cases hb : Rights.both r y = 0
      · have h4 : ¬ (perm (p, r) need = true ∧ perm (x, y) need = true) := fun h => (h3.2 ⟨(h1.1 h.1).2, (h2.1 h.2).2⟩).1 hb
        rw [hb, grantS_0]
        exact ⟨⟨fun h => absurd h h4, fun h => absurd rfl h.1⟩, fun a b => absurd ⟨a, b⟩ h4⟩
      · rw [grantS_no hb]
        exact ⟨⟨fun h => ⟨hx, (h3.2 ⟨(h1.1 h.1).2, (h2.1 h.2).2⟩).2⟩, fun h => ⟨h1.2 ⟨hp, (h3.1 ⟨hb, h.2⟩).1⟩, h2.2 ⟨hx, (h3.1 ⟨hb, h.2⟩).2⟩⟩⟩, fun _ _ => rfl⟩
/-- For one right: the walk succeeds exactly where the composed table permits it, and leads to the same page. -/
theorem walk_comp (l o : List Sl) (page : Int) {need : Int} (hn : need = 1 ∨ need = 2) :
    ((walkW l o page need).2 = 0 ↔ ((atS (compL l o) page).1 ≠ -1 ∧ Rights.enough (atS (compL l o) page).2 need = true)) ∧
    ((walkW l o page need).2 = 0 → (walkW l o page need).1 = (atS (compL l o) page).1) := by
  rw [atS_compL]
  obtain ⟨⟨p, r⟩, hs⟩ : ∃ s, atS l page = s := ⟨_, rfl⟩
  have h := comp_perm p r o hn
  rw [hs]
  cases hp : perm (p, r) need
  · rw [walkW_no (by rw [hs]; exact hp)]
    rw [hp] at h
    exact ⟨⟨fun x => by simp at x, fun x => by have := (h.1.2 x).1; simp at this⟩, fun x => by simp at x⟩
  · cases hq : perm (atS o p) need
    · rw [walkW_out (by rw [hs]; exact hp) (by rw [hs]; exact hq)]
      rw [hq] at h
      exact ⟨⟨fun x => by simp at x, fun x => by have := (h.1.2 x).2; simp at this⟩, fun x => by simp at x⟩
    · rw [walkW_yes (by rw [hs]; exact hp) (by rw [hs]; exact hq), hs]
      exact ⟨⟨fun _ => h.1.1 ⟨hp, hq⟩, fun _ => rfl⟩, fun _ => (h.2 hp hq).symm⟩
theorem walk_m1 (l o : List Sl) (page need : Int) : (walkW l o page need).2 = 0 ∨ (walkW l o page need).1 = -1 := by
  unfold walkW
  split
  · split
    · exact .inl rfl
    · exact .inr rfl
  · exact .inr rfl
end Go.Proofs.YtilgkknmldlklaaDoor.Slots
