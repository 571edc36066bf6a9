/-
  The buffer of entries in plain mathematics: what the named laws of chapter 8 ask. No condition.
-/
import Derived.Test.YtmfileflmpmkpaaEntMath
namespace Go.Proofs.Ytmfileflmpmkpaa.Ents
set_option maxRecDepth 100000
open Go.ChangeShapes Go.WideShapes Go.ChangeAt Go.RowKit
open Go.Proofs.Ytmfileflmpmkpaa.Base Go.Proofs.Ytmfileflmpmkpaa.Mem Go.Proofs.Ytmfileflmpmkpaa.Data
set_option linter.unusedVariables false
set_option linter.unusedSimpArgs false

/-- The entry that was put is found. -/
theorem put_find (l : List ET) (e : ET) : findE (putE l e) e.1 e.2.1 = (e, true) := by
  have h1 : (flushP l e.1 e.2.1).find? (fun x => isE x e.1 e.2.1) = none := by
    rw [List.find?_eq_none]
    intro x hx
    have := (List.mem_filter.1 hx).2
    simpa using this
  have hd : (flushP l e.1 e.2.1 ++ [e]).drop ((flushP l e.1 e.2.1 ++ [e]).length - 6) = (flushP l e.1 e.2.1).drop ((flushP l e.1 e.2.1 ++ [e]).length - 6) ++ [e] := by
    rw [List.drop_append_of_le_length (by simp)]
  have h2 : (putE l e).find? (fun x => isE x e.1 e.2.1) = some e := by
    unfold putE lastS
    rw [hd, List.find?_append]
    have h3 : ((flushP l e.1 e.2.1).drop ((flushP l e.1 e.2.1 ++ [e]).length - 6)).find? (fun x => isE x e.1 e.2.1) = none := by
      rw [List.find?_eq_none] at h1 ⊢
      intro x hx
      exact h1 x (List.mem_of_mem_drop hx)
    rw [h3]
    simp [isE]
  unfold findE
  rw [h2]
theorem apart_flush {l : List ET} {e : ET} : ∀ x ∈ flushP l e.1 e.2.1, apart x e := fun x hx => by
  have := (List.mem_filter.1 hx).2
  simp [isE] at this
  unfold apart
  rintro ⟨h1, h2⟩
  rcases this with h | h
  · exact h h1.symm
  · exact h h2.symm
theorem bufOk_put {l : List ET} (e : ET) (h : bufOk l = true) : bufOk (putE l e) = true := by
  unfold bufOk at h ⊢
  rw [Bool.and_eq_true, decide_eq_true_eq, decide_eq_true_eq] at h ⊢
  refine ⟨?_, putE_len l e⟩
  unfold putE lastS
  refine List.Pairwise.sublist (List.drop_sublist _ _) ?_
  rw [List.pairwise_append]
  refine ⟨h.1.sublist List.filter_sublist, List.pairwise_singleton _ _, fun a ha b hb => ?_⟩
  rw [List.mem_singleton.1 hb]
  exact apart_flush a ha
theorem find_any (l : List ET) (t p : Int) : (findE l t p).2 = l.any fun e => isE e t p := by
  unfold findE
  cases h : l.find? fun e => isE e t p with
  | none =>
    rw [List.find?_eq_none] at h
    symm
    rw [List.any_eq_false]
    exact h
  | some e =>
    symm
    rw [List.any_eq_true]
    exact ⟨e, List.mem_of_find?_eq_some h, List.find?_some (p := fun e => isE e t p) h⟩
/-- After a page was flushed, just the other entries are found. -/
theorem flush_find {l : List ET} {e : ET} (t p : Int) (h : e ∈ l) : (findE (flushP l t p) e.1 e.2.1).2 = !isE e t p := by
  rw [find_any]
  cases hx : isE e t p
  · show _ = true
    rw [List.any_eq_true]
    exact ⟨e, List.mem_filter.2 ⟨h, by rw [hx]; rfl⟩, by simp [isE]⟩
  · show _ = false
    obtain ⟨h1, h2⟩ := isE_yes hx
    rw [h1, h2, List.any_eq_false]
    intro x hx2
    have := (List.mem_filter.1 hx2).2
    simpa using this
theorem flush_gone (l : List ET) (t p : Int) : (findE (flushP l t p) t p).2 = false := by
  rw [find_any, List.any_eq_false]
  intro x hx2
  have := (List.mem_filter.1 hx2).2
  simpa using this

/-! ### The last six -/
def ent (h : Int) (i : Nat) : ET := (1 + (i : Int).tmod 2, (i : Int), h, 3)
def bufK (k : Nat) (h : Int) : List ET := lastS ((List.range k).map (ent h))
theorem lastS_snoc (L : List ET) (x : ET) : lastS (lastS L ++ [x]) = lastS (L ++ [x]) := by
  unfold lastS
  simp only [List.length_append, List.length_drop, List.length_singleton]
  by_cases h : L.length ≤ 6
  · rw [show L.length - 6 = 0 by omega, List.drop_zero, Nat.sub_zero]
  · rw [show L.length - (L.length - 6) + 1 - 6 = 1 by omega, show L.length + 1 - 6 = (L.length - 6) + 1 by omega, List.drop_append_of_le_length (by simp; omega), List.drop_append_of_le_length (by omega), List.drop_drop]
theorem bufK_put (k : Nat) (h : Int) : putE (bufK k h) (ent h k) = bufK (k + 1) h := by
  have h1 : flushP (bufK k h) (ent h k).1 (ent h k).2.1 = bufK k h := by
    unfold flushP
    rw [List.filter_eq_self]
    intro e he
    obtain ⟨i, hi, rfl⟩ := List.mem_map.1 (List.mem_of_mem_drop he)
    have := List.mem_range.1 hi
    simp [isE, ent]
    right
    omega
  unfold putE
  rw [h1]
  unfold bufK
  rw [lastS_snoc, List.range_succ, List.map_append]
  rfl
theorem bufK_len (k : Nat) (h : Int) : (bufK k h).length = min k 6 := by unfold bufK; rw [lastS_len]; simp
theorem bufK_host (k : Nat) (h : Int) : flushH (bufK k h) h = [] := by
  unfold flushH
  rw [List.filter_eq_nil_iff]
  intro e he
  obtain ⟨i, _, rfl⟩ := List.mem_map.1 (List.mem_of_mem_drop he)
  simp [ent]
theorem bufK_find (n i : Nat) (h : Int) (hi : i < n) : (findE (bufK n h) (1 + (i : Int).tmod 2) (i : Int)).2 = decide (n - 6 ≤ i) := by
  rw [find_any]
  by_cases hx : n - 6 ≤ i
  · rw [decide_eq_true hx, List.any_eq_true]
    refine ⟨ent h i, ?_, by simp [isE, ent]⟩
    unfold bufK lastS
    rw [List.length_map, List.length_range, ← List.map_drop]
    refine List.mem_map.2 ⟨i, ?_, rfl⟩
    rw [List.mem_drop_iff_getElem]
    exact ⟨i - (n - 6), by simp; omega, by simp; omega⟩
  · rw [decide_eq_false hx, List.any_eq_false]
    intro e he
    unfold bufK lastS at he
    rw [List.length_map, List.length_range, ← List.map_drop] at he
    obtain ⟨j, hj, rfl⟩ := List.mem_map.1 he
    obtain ⟨q, hq, hq2⟩ := List.mem_drop_iff_getElem.1 hj
    simp at hq2
    simp [isE, ent]
    intro _
    omega
theorem wf_ent {h : Int} {i : Nat} (hh : (Lit.int .i64 h).wf = true) (hi : i ≤ 1048576) : wfE (ent h i) := by
  refine ⟨?_, ?_, hh, by show (Lit.int .i64 3).wf = true; decide⟩
  · have : (i : Int).tmod 2 = 0 ∨ (i : Int).tmod 2 = 1 := by rw [Int.tmod_eq_emod_of_nonneg (Int.natCast_nonneg _)]; omega
    unfold ent
    rcases this with e | e <;> simp only [e] <;> decide
  · show (Lit.int .i64 (i : Int)).wf = true
    simp [Lit.wf]
    have e1 : IntKind.i64.min = -9223372036854775808 := by decide
    have e2 : IntKind.i64.max = 9223372036854775807 := by decide
    omega
theorem wf_bufK {h : Int} {k : Nat} (hh : (Lit.int .i64 h).wf = true) (hk : k ≤ 1048576) : wfEL (bufK k h) := fun s hs => by
  obtain ⟨i, hi, rfl⟩ := List.mem_map.1 (List.mem_of_mem_drop hs)
  exact wf_ent hh (by have := List.mem_range.1 hi; omega)
end Go.Proofs.Ytmfileflmpmkpaa.Ents
