/-
  The buffer of entries in plain mathematics: what chapter 8's functions compute; no statement about the program stands here. No condition.
-/
import Derived.Test.YteoddppeajlekaaEntryH
namespace Go.Proofs.Yteoddppeajlekaa.Ents
set_option maxRecDepth 100000
open Go.ChangeShapes Go.WideShapes Go.ChangeAt Go.RowKit
open Go.Proofs.Yteoddppeajlekaa.Base Go.Proofs.Yteoddppeajlekaa.Mem Go.Proofs.Yteoddppeajlekaa.Data
set_option linter.unusedVariables false
set_option linter.unusedSimpArgs false

def isE (e : ET) (t p : Int) : Bool := decide (e.1 = t ∧ e.2.1 = p)
def flushP (l : List ET) (t p : Int) : List ET := l.filter fun e => !isE e t p
def flushT (l : List ET) (t : Int) : List ET := l.filter fun e => !decide (e.1 = t)
def flushH (l : List ET) (h : Int) : List ET := l.filter fun e => !decide (e.2.2.1 = h)
def lastS (l : List ET) : List ET := l.drop (l.length - 6)
def putE (l : List ET) (e : ET) : List ET := lastS (flushP l e.1 e.2.1 ++ [e])
def noE : ET := (0, 0, 0, 0)
def findE (l : List ET) (t p : Int) : ET × Bool := match l.find? fun e => isE e t p with
  | some e => (e, true)
  | none => (noE, false)
def apart (a b : ET) : Prop := ¬ (b.1 = a.1 ∧ b.2.1 = a.2.1)
instance (a b : ET) : Decidable (apart a b) := by unfold apart; infer_instance
def bufOk (l : List ET) : Bool := decide (l.Pairwise apart) && decide (l.length ≤ 6)
/-- A tag put into an ascending list, unless it is there. -/
def insT (t : Int) : List Int → List Int
  | [] => [t]
  | x :: L => if x < t then x :: insT t L else if x = t then x :: L else t :: x :: L
def tagsL (l : List ET) : List Int := l.foldl (fun L e => insT e.1 L) []

theorem flushP_snoc (l : List ET) (e : ET) (t p : Int) : flushP (l ++ [e]) t p = flushP l t p ++ if isE e t p = true then [] else [e] := by
  unfold flushP
  rw [List.filter_append]
  by_cases h : isE e t p = true <;> simp [h]
theorem flushT_snoc (l : List ET) (e : ET) (t : Int) : flushT (l ++ [e]) t = flushT l t ++ if e.1 = t then [] else [e] := by
  unfold flushT
  rw [List.filter_append]
  by_cases h : e.1 = t <;> simp [h]
theorem flushH_snoc (l : List ET) (e : ET) (t : Int) : flushH (l ++ [e]) t = flushH l t ++ if e.2.2.1 = t then [] else [e] := by
  unfold flushH
  rw [List.filter_append]
  by_cases h : e.2.2.1 = t <;> simp [h]
theorem flushP_le (l : List ET) (t p : Int) : (flushP l t p).length ≤ l.length := List.length_filter_le _ _
theorem flushT_le (l : List ET) (t : Int) : (flushT l t).length ≤ l.length := List.length_filter_le _ _
theorem flushH_le (l : List ET) (t : Int) : (flushH l t).length ≤ l.length := List.length_filter_le _ _
theorem wf_filter {l : List ET} {f : ET → Bool} (h : wfEL l) : wfEL (l.filter f) := fun s hs => h s (List.mem_filter.1 hs).1
theorem wf_flushP {l : List ET} {t p : Int} (h : wfEL l) : wfEL (flushP l t p) := wf_filter h
theorem wf_flushT {l : List ET} {t : Int} (h : wfEL l) : wfEL (flushT l t) := wf_filter h
theorem wf_flushH {l : List ET} {t : Int} (h : wfEL l) : wfEL (flushH l t) := wf_filter h
theorem wf_putE {l : List ET} {e : ET} (h : wfEL l) (he : wfE e) : wfEL (putE l e) := fun s hs => by
  have h1 := List.mem_of_mem_drop hs
  rcases List.mem_append.1 h1 with h2 | h2
  · exact wf_flushP h s h2
  · rw [List.mem_singleton.1 h2]; exact he
theorem lastS_len (l : List ET) : (lastS l).length = min l.length 6 := by unfold lastS; simp; omega
theorem putE_len (l : List ET) (e : ET) : (putE l e).length ≤ 6 := by unfold putE; rw [lastS_len]; omega
theorem isE_yes {e : ET} {t p : Int} (h : isE e t p = true) : e.1 = t ∧ e.2.1 = p := by simpa [isE] using h
theorem isE_no {e : ET} {t p : Int} (h : isE e t p = false) : ¬ (e.1 = t ∧ e.2.1 = p) := by simpa [isE] using h
theorem find_take_none {l : List ET} {t p : Int} {k : Nat} (hk : k < l.length) (h : (l.take k).find? (fun e => isE e t p) = none) (hx : isE l[k] t p = false) : (l.take (k + 1)).find? (fun e => isE e t p) = none := by
  rw [List.take_succ_eq_append_getElem hk, List.find?_append, h]
  simp [hx]
theorem find_take_some {l : List ET} {t p : Int} {k : Nat} (hk : k < l.length) (h : (l.take k).find? (fun e => isE e t p) = none) (hx : isE l[k] t p = true) : findE l t p = (l[k], true) := by
  have h1 : l.find? (fun e => isE e t p) = some l[k] := by
    conv => lhs; rw [← List.take_append_drop k l]
    rw [List.find?_append, h, List.drop_eq_getElem_cons hk, Option.none_or]
    exact List.find?_cons_of_pos hx
  unfold findE
  rw [h1]
theorem findE_none {l : List ET} {t p : Int} (h : l.find? (fun e => isE e t p) = none) : findE l t p = (noE, false) := by unfold findE; rw [h]
theorem findE_wf {l : List ET} {t p : Int} (h : wfEL l) : wfE (findE l t p).1 := by
  unfold findE
  split
  · rename_i e he; exact h e (List.mem_of_find?_eq_some he)
  · exact ⟨rfl, rfl, rfl, rfl⟩

/-! ### Tags in ascending order -/
theorem mem_insT (t u : Int) : ∀ (L : List Int), u ∈ insT t L ↔ u = t ∨ u ∈ L
  | [] => by simp [insT]
  | x :: L => by
    unfold insT
    split
    · rw [List.mem_cons, mem_insT t u L, List.mem_cons]; constructor
      · rintro (h | h | h)
        · exact .inr (.inl h)
        · exact .inl h
        · exact .inr (.inr h)
      · rintro (h | h | h)
        · exact .inr (.inl h)
        · exact .inl h
        · exact .inr (.inr h)
    · split
      · rename_i h1 h2
        subst h2
        simp
      · simp
theorem asc_insT (t : Int) : ∀ (L : List Int), L.Pairwise (· < ·) → (insT t L).Pairwise (· < ·)
  | [], _ => by simp [insT]
  | x :: L, h => by
    obtain ⟨h1, h2⟩ := List.pairwise_cons.1 h
    unfold insT
    split
    · rename_i hx
      refine List.pairwise_cons.2 ⟨fun u hu => ?_, asc_insT t L h2⟩
      rcases (mem_insT t u L).1 hu with rfl | h3
      · exact hx
      · exact h1 u h3
    · split
      · exact h
      · rename_i h3 h4
        refine List.pairwise_cons.2 ⟨fun u hu => ?_, h⟩
        rcases List.mem_cons.1 hu with rfl | h5
        · omega
        · have := h1 u h5; omega
theorem tagsL_snoc (l : List ET) (e : ET) : tagsL (l ++ [e]) = insT e.1 (tagsL l) := by simp [tagsL]
theorem asc_foldl : ∀ (l : List ET) (L : List Int), L.Pairwise (· < ·) → (l.foldl (fun L e => insT e.1 L) L).Pairwise (· < ·)
  | [], L, h => h
  | e :: l, L, h => asc_foldl l _ (asc_insT e.1 L h)
theorem asc_tagsL (l : List ET) : (tagsL l).Pairwise (· < ·) := asc_foldl l [] List.Pairwise.nil
theorem mem_foldl (u : Int) : ∀ (l : List ET) (L : List Int), u ∈ l.foldl (fun L e => insT e.1 L) L ↔ u ∈ L ∨ ∃ e ∈ l, e.1 = u
  | [], L => by simp
  | e :: l, L => by
    rw [List.foldl_cons, mem_foldl u l, mem_insT]
    simp only [List.mem_cons, exists_eq_or_imp]
    constructor
    · rintro ((h | h) | h)
      · exact .inr (.inl h.symm)
      · exact .inl h
      · exact .inr (.inr h)
    · rintro (h | h | h)
      · exact .inl (.inr h)
      · exact .inl (.inl h.symm)
      · exact .inr h
theorem mem_tagsL (u : Int) (l : List ET) : u ∈ tagsL l ↔ ∃ e ∈ l, e.1 = u := by
  unfold tagsL
  rw [mem_foldl]
  simp
/-- Two ascending lists with the same members are the same. -/
theorem asc_unique : ∀ {L M : List Int}, L.Pairwise (· < ·) → M.Pairwise (· < ·) → (∀ u, u ∈ L ↔ u ∈ M) → L = M
  | [], [], _, _, _ => rfl
  | [], y :: M, _, _, h => by have := (h y).2 (List.mem_cons_self ..); cases this
  | x :: L, [], _, _, h => by have := (h x).1 (List.mem_cons_self ..); cases this
  | x :: L, y :: M, hL, hM, h => by
    obtain ⟨a1, a2⟩ := List.pairwise_cons.1 hL
    obtain ⟨b1, b2⟩ := List.pairwise_cons.1 hM
    have hxy : x = y := by
      rcases List.mem_cons.1 ((h x).1 (List.mem_cons_self ..)) with h1 | h1
      · exact h1
      · rcases List.mem_cons.1 ((h y).2 (List.mem_cons_self ..)) with h2 | h2
        · exact h2.symm
        · have := b1 x h1; have := a1 y h2; omega
    subst hxy
    rw [asc_unique a2 b2 fun u => ?_]
    constructor
    · intro hu
      rcases List.mem_cons.1 ((h u).1 (List.mem_cons_of_mem _ hu)) with h1 | h1
      · have := a1 u hu; omega
      · exact h1
    · intro hu
      rcases List.mem_cons.1 ((h u).2 (List.mem_cons_of_mem _ hu)) with h1 | h1
      · have := b1 u hu; omega
      · exact h1
theorem insT_le (t : Int) : ∀ (L : List Int), (insT t L).length ≤ L.length + 1
  | [] => by simp [insT]
  | x :: L => by
    unfold insT
    split
    · have := insT_le t L; simp; omega
    · split <;> simp
theorem foldl_le : ∀ (l : List ET) (L : List Int), (l.foldl (fun L e => insT e.1 L) L).length ≤ L.length + l.length
  | [], L => by simp
  | e :: l, L => by have := foldl_le l (insT e.1 L); have := insT_le e.1 L; simp; omega
theorem tagsL_le (l : List ET) : (tagsL l).length ≤ l.length := by have := foldl_le l []; simpa [tagsL] using this
/-- Where a tag goes: behind all that are less. -/
theorem insT_at (t : Int) : ∀ (L : List Int) (a : Nat), L.Pairwise (· < ·) → a ≤ L.length → (∀ j (h : j < L.length), j < a → L[j] < t) → (∀ (h : a < L.length), ¬ L[a] < t) →
    insT t L = if h : a < L.length then (if L[a] = t then L else L.take a ++ t :: L.drop a) else L ++ [t]
  | [], a, _, ha, _, _ => by simp [insT]
  | x :: L, 0, _, _, _, h2 => by
    have h3 := h2 (by simp)
    simp only [List.getElem_cons_zero] at h3
    unfold insT
    rw [if_neg h3]
    simp
  | x :: L, a + 1, hp, ha, h1, h2 => by
    have hx : x < t := h1 0 (by simp) (by omega)
    unfold insT
    rw [if_pos hx, insT_at t L a (List.pairwise_cons.1 hp).2 (by simpa using ha) (fun j hj hja => by have h3 := h1 (j + 1) (by simpa using hj) (by omega); rwa [List.getElem_cons_succ] at h3) (fun h => by have h3 := h2 (by simpa using h); rwa [List.getElem_cons_succ] at h3)]
    by_cases hal : a < L.length
    · rw [dif_pos hal, dif_pos (by simpa using hal)]
      simp only [List.getElem_cons_succ]
      split <;> simp
    · rw [dif_neg hal, dif_neg (by simpa using hal)]
      rfl
end Go.Proofs.Yteoddppeajlekaa.Ents
