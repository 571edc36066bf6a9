/-
  Shadow tables: filling and forgetting keep them consistent; plain mathematics; no statement about the program stands here. No condition.
-/
import Derived.Test.YtfgckkgakghenaaKeptMath
namespace Go.Proofs.Ytfgckkgakghenaa.Kepts
set_option maxRecDepth 100000
open Go.ChangeShapes Go.WideShapes Go.ChangeAt Go.RowKit
open Go.Proofs.Ytfgckkgakghenaa.Base Go.Proofs.Ytfgckkgakghenaa.Mem Go.Proofs.Ytfgckkgakghenaa.Slots Go.Proofs.Ytfgckkgakghenaa.Bools Go.Proofs.Ytfgckkgakghenaa.Data
set_option linter.unusedVariables false
set_option linter.unusedSimpArgs false

theorem okK_iff {k : KD} {l o : List Sl} : okK k l o = true ↔ k.1.length = l.length ∧ k.2.length = l.length ∧ ∀ i, i < l.length → k.2.getD i (-1, 0) = wantK k l o i := by
  unfold okK
  simp only [Bool.and_eq_true, decide_eq_true_eq, List.all_eq_true, List.mem_range]
  exact ⟨fun h => ⟨h.1.1, h.1.2, h.2⟩, fun h => ⟨⟨h.1, h.2.1⟩, h.2.2⟩⟩
theorem getD_set {α : Type} (l : List α) (j i : Nat) (x z : α) (hj : j < l.length) : (l.set j x).getD i z = if i = j then x else l.getD i z := by
  rw [List.getD_eq_getElem?_getD, List.getElem?_set]
  by_cases h : j = i
  · subst h; simp [hj]
  · rw [if_neg h, if_neg (fun e => h e.symm)]; exact List.getD_eq_getElem?_getD.symm
theorem atS_getD (l : List Sl) (j : Nat) : atS l (j : Int) = l.getD j (-1, 0) := by
  unfold atS
  rw [if_pos (by omega), Int.toNat_natCast]
theorem want_yes {k : KD} {l o : List Sl} {i : Nat} (h : k.1.getD i false = true) : wantK k l o i = compS (l.getD i (-1, 0)) o := if_pos h
theorem want_no {k : KD} {l o : List Sl} {i : Nat} (h : k.1.getD i false = false) : wantK k l o i = (-1, 0) := if_neg (by rw [h]; decide)
theorem want_same {k k' : KD} {l o : List Sl} {i : Nat} (h : k.1.getD i false = k'.1.getD i false) : wantK k l o i = wantK k' l o i := by
  cases hk : k'.1.getD i false
  · rw [want_no hk, want_no (h.trans hk)]
  · rw [want_yes hk, want_yes (h.trans hk)]
theorem ok_fill {k : KD} {l o : List Sl} (page : Int) (h : okK k l o = true) : okK (fillK k l o page) l o = true := by
  unfold fillK
  split
  · rename_i hc
    obtain ⟨h0, h1, h2⟩ := hasK_yes hc.1
    obtain ⟨j, rfl⟩ := Int.eq_ofNat_of_zero_le h0
    obtain ⟨a, b, c⟩ := okK_iff.1 h
    have hj1 : j < k.1.length := by omega
    have hj2 : j < k.2.length := by omega
    rw [okK_iff]
    refine ⟨by rw [(putK_len _ _ _ _).1]; exact a, by rw [(putK_len _ _ _ _).2]; exact b, fun i hi => ?_⟩
    rw [Int.toNat_natCast, atS_getD]
    have e1 : (putK k j true (compS (l.getD j (-1, 0)) o)).1.getD i false = if i = j then true else k.1.getD i false := getD_set _ _ _ _ _ hj1
    have e2 : (putK k j true (compS (l.getD j (-1, 0)) o)).2.getD i (-1, 0) = if i = j then compS (l.getD j (-1, 0)) o else k.2.getD i (-1, 0) := getD_set _ _ _ _ _ hj2
    by_cases hij : i = j
    · subst hij
      rw [if_pos rfl] at e1 e2
      rw [e2, want_yes e1]
    · rw [if_neg hij] at e1 e2
      rw [e2, want_same e1]
      exact c i hi
  · exact h
theorem ok_forget {k : KD} {l o : List Sl} (page : Int) (h : okK k l o = true) : okK (forgetK k page) l o = true := by
  unfold forgetK
  split
  · rename_i hc
    obtain ⟨h0, h1, h2⟩ := hasK_yes hc
    obtain ⟨j, rfl⟩ := Int.eq_ofNat_of_zero_le h0
    obtain ⟨a, b, c⟩ := okK_iff.1 h
    have hj1 : j < k.1.length := by omega
    have hj2 : j < k.2.length := by omega
    rw [okK_iff]
    refine ⟨by rw [(putK_len _ _ _ _).1]; exact a, by rw [(putK_len _ _ _ _).2]; exact b, fun i hi => ?_⟩
    rw [Int.toNat_natCast]
    have e1 : (putK k j false (-1, 0)).1.getD i false = if i = j then false else k.1.getD i false := getD_set _ _ _ _ _ hj1
    have e2 : (putK k j false (-1, 0)).2.getD i (-1, 0) = if i = j then (-1, 0) else k.2.getD i (-1, 0) := getD_set _ _ _ _ _ hj2
    by_cases hij : i = j
    · subst hij
      rw [if_pos rfl] at e1 e2
      rw [e2, want_no e1]
    · rw [if_neg hij] at e1 e2
      rw [e2, want_same e1]
      exact c i hi
  · exact h
theorem ok_forgets {l o : List Sl} : ∀ (ps : List Int) {k : KD}, okK k l o = true → okK (forgetsK k ps) l o = true
  | [], k, h => h
  | p :: ps, k, h => ok_forgets ps (ok_forget p h)
/-- What is known behind a list of forgettings. -/
theorem forgets_known : ∀ (ps : List Int) (k : KD) (i : Nat), k.1.length ≤ k.2.length → (forgetsK k ps).1.getD i false = if (i : Int) ∈ ps then false else k.1.getD i false
  | [], k, i, _ => by simp [forgetsK]
  | p :: ps, k, i, h => by
    obtain ⟨l1, l2⟩ := forgetK_len k p
    have ih := forgets_known ps (forgetK k p) i (by omega)
    show (forgetsK (forgetK k p) ps).1.getD i false = _
    rw [ih]
    have one : (forgetK k p).1.getD i false = if (i : Int) = p then false else k.1.getD i false := by
      unfold forgetK
      cases hp : hasK k p
      · have hn := hasK_no hp
        by_cases e : (i : Int) = p
        · subst e
          rw [if_pos rfl]
          have : k.1.length ≤ i := by omega
          simp [List.getD_eq_getElem?_getD, List.getElem?_eq_none this]
        · rw [if_neg e]; rfl
      · obtain ⟨h0, h1, h2⟩ := hasK_yes hp
        obtain ⟨j, rfl⟩ := Int.eq_ofNat_of_zero_le h0
        rw [if_pos rfl]
        simp only [putK, Int.toNat_natCast]
        rw [getD_set _ _ _ _ _ (by omega)]
        by_cases e : i = j
        · subst e; simp
        · rw [if_neg e, if_neg (by omega)]
    rw [one]
    by_cases h1 : (i : Int) ∈ ps
    · simp [h1]
    · by_cases h2 : (i : Int) = p
      · simp [h2]
      · simp [h1, h2]
theorem known_all {k : KD} (h : k.1.length ≤ k.2.length) : knownK (allK k) = 0 := by
  unfold knownK
  rw [List.countP_eq_zero]
  intro b hb
  obtain ⟨i, hi, rfl⟩ := List.getElem_of_mem hb
  have hl : (allK k).1.length = k.1.length := (forgetsK_len _ k).1
  have h1 := forgets_known ((List.range k.1.length).map fun (i : Nat) => (i : Int)) k i h
  rw [if_pos (List.mem_map.2 ⟨i, List.mem_range.2 (by omega), rfl⟩)] at h1
  have h2 : (allK k).1.getD i false = (allK k).1[i] := by rw [List.getD_eq_getElem?_getD, List.getElem?_eq_getElem hi]; rfl
  rw [← h2]
  simp only [id]
  rw [show (allK k).1.getD i false = false from h1]
  simp
theorem ask_ok {k : KD} {l o : List Sl} {page : Int} (h : okK k l o = true) (hk : (askK k page).2 = true) : (askK k page).1 = compS (atS l page) o := by
  unfold askK at hk ⊢
  split at hk
  · rename_i hc
    rw [if_pos hc]
    obtain ⟨h0, h1, h2⟩ := hasK_yes hc.1
    obtain ⟨j, rfl⟩ := Int.eq_ofNat_of_zero_le h0
    obtain ⟨a, b, c⟩ := okK_iff.1 h
    have := c j (by omega)
    have hkj : k.1.getD j false = true := hc.2
    rw [want_yes hkj] at this
    rw [atS_getD]
    exact this
  · cases hk
theorem known_forget (k : KD) (p : Int) : knownK (forgetK k p) ≤ knownK k ∧ knownK k ≤ knownK (forgetK k p) + 1 := by
  unfold forgetK
  split
  · rename_i hp
    obtain ⟨h0, h1, h2⟩ := hasK_yes hp
    obtain ⟨j, rfl⟩ := Int.eq_ofNat_of_zero_le h0
    have hj : j < k.1.length := by omega
    have hc := List.countP_set (p := (id : Bool → Bool)) (l := k.1) (i := j) (a := false) hj
    unfold knownK
    simp only [putK, Int.toNat_natCast]
    rw [hc]
    simp only [id, Bool.false_eq_true, if_false, Nat.add_zero]
    split <;> omega
  · omega
theorem known_forgets : ∀ (ps : List Int) (k : KD), knownK (forgetsK k ps) ≤ knownK k ∧ knownK k ≤ knownK (forgetsK k ps) + ps.length
  | [], k => by simp [forgetsK]
  | p :: ps, k => by
    have h1 := known_forgets ps (forgetK k p)
    have h2 := known_forget k p
    simp only [forgetsK, List.length_cons]
    omega
theorem mem_useS {l : List Sl} {page : Int} {i : Nat} (h : i < l.length) : (i : Int) ∈ useS l page ↔ (l.getD i (0, 0)).1 = page := by
  unfold useS
  rw [List.mem_map]
  constructor
  · rintro ⟨j, hj, e⟩
    obtain rfl : j = i := by omega
    exact of_decide_eq_true (List.mem_filter.1 hj).2
  · intro e
    exact ⟨i, List.mem_filter.2 ⟨List.mem_range.2 h, decide_eq_true e⟩, rfl⟩
theorem atS_with {o : List Sl} {page q : Int} {s : Sl} (h : q ≠ page) : atS (withS o page s) q = atS o q := by
  unfold withS
  split
  · unfold atS
    split
    · rename_i h1 h2
      rw [List.getD_eq_getElem?_getD, List.getD_eq_getElem?_getD, List.getElem?_set_ne (by omega)]
    · rfl
  · rfl
/-- After a change of the outer table and the forgetting of all uses the table is consistent again. -/
theorem ok_uses {k : KD} {l o : List Sl} {page : Int} {s : Sl} (h : okK k l o = true) : okK (usesK k l page) l (withS o page s) = true := by
  have h' := ok_forgets (useS l page) h
  obtain ⟨a, b, c⟩ := okK_iff.1 h
  obtain ⟨a', b', c'⟩ := okK_iff.1 h'
  refine okK_iff.2 ⟨a', b', fun i hi => (c' i hi).trans ?_⟩
  have hk := forgets_known (useS l page) k i (by omega)
  show wantK (usesK k l page) l o i = wantK (usesK k l page) l (withS o page s) i
  by_cases hm : (i : Int) ∈ useS l page
  · rw [if_pos hm] at hk
    rw [want_no (k := usesK k l page) hk, want_no (k := usesK k l page) hk]
  · have hne : (l.getD i (-1, 0)).1 ≠ page := by
      have := mt (mem_useS hi).2 hm
      rw [List.getD_eq_getElem?_getD, List.getElem?_eq_getElem hi] at this ⊢
      exact this
    have e : compS (l.getD i (-1, 0)) o = compS (l.getD i (-1, 0)) (withS o page s) := by
      unfold compS
      rw [atS_with hne]
    cases hq : (usesK k l page).1.getD i false
    · rw [want_no hq, want_no hq]
    · rw [want_yes hq, want_yes hq, e]
/-- A new table filled up to j. -/
def upK (l o : List Sl) (j : Nat) : KD := (List.replicate j true ++ List.replicate (l.length - j) false, (compL l o).take j ++ List.replicate (l.length - j) (-1, 0))
theorem upK_0 (l o : List Sl) : upK l o 0 = newK l.length := by simp [upK, newK]
theorem upK_step {l o : List Sl} {j : Nat} (hj : j < l.length) : fillK (upK l o j) l o (j : Int) = upK l o (j + 1) := by
  have hc : (compL l o).length = l.length := compL_len l o
  have h1 : (upK l o j).1.length = l.length := by simp [upK]; omega
  have h2 : (upK l o j).2.length = l.length := by simp [upK, hc]; omega
  have hh : hasK (upK l o j) (j : Int) = true := by unfold hasK; rw [h1, h2]; simp; omega
  unfold fillK
  rw [if_pos ⟨hh, by omega⟩, Int.toNat_natCast, atS_at hj]
  obtain ⟨r, hr⟩ : ∃ r, l.length - j = r + 1 := ⟨l.length - j - 1, by omega⟩
  have hr' : l.length - (j + 1) = r := by omega
  unfold upK putK
  rw [hr, hr']
  simp only
  refine Prod.ext ?_ ?_
  · simp only
    rw [List.replicate_succ, List.set_append_right _ _ (by simp), List.length_replicate, Nat.sub_self, List.set_cons_zero, List.replicate_succ', List.append_assoc]
    rfl
  · simp only
    rw [List.replicate_succ, List.set_append_right _ _ (by simp [hc]; omega), List.length_take, hc, Nat.min_eq_left (by omega), Nat.sub_self, List.set_cons_zero, List.take_succ_eq_append_getElem (by omega), List.append_assoc]
    simp [compL]
theorem upK_end (l o : List Sl) : upK l o l.length = (List.replicate l.length true, compL l o) := by
  have hc : (compL l o).length = l.length := compL_len l o
  simp [upK, ← hc]
theorem ok_up (l o : List Sl) : okK (List.replicate l.length true, compL l o) l o = true := by
  refine okK_iff.2 ⟨by simp, compL_len l o, fun i hi => ?_⟩
  rw [want_yes (by simp [List.getD_eq_getElem?_getD, hi])]
  rw [List.getD_eq_getElem?_getD, List.getD_eq_getElem?_getD, List.getElem?_eq_getElem hi, List.getElem?_eq_getElem (by rw [compL_len]; exact hi)]
  simp [compL]
theorem known_up (l o : List Sl) : knownK (List.replicate l.length true, compL l o) = l.length := by
  unfold knownK
  simp [List.countP_replicate]
end Go.Proofs.Ytfgckkgakghenaa.Kepts
