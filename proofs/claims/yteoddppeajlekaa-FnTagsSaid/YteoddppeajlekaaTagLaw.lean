/-
  Address space tags: what the named laws of chapter 9 want, in plain mathematics; no statement about any code stands here. No condition.
-/
import Derived.Test.YteoddppeajlekaaTag
namespace Go.Proofs.Yteoddppeajlekaa.Tags
set_option maxRecDepth 100000
open Go.ChangeShapes Go.WideShapes Go.ChangeAt Go.RowKit
open Go.Proofs.Yteoddppeajlekaa.Base Go.Proofs.Yteoddppeajlekaa.Mem Go.Proofs.Yteoddppeajlekaa.Data Go.Proofs.Yteoddppeajlekaa.Ints Go.Proofs.Yteoddppeajlekaa.Slots Go.Proofs.Yteoddppeajlekaa.Ents
set_option linter.unusedVariables false
set_option linter.unusedSimpArgs false

theorem flushM_gone {e : ET} {l : List ET} {m : Int} (he : e ∈ flushM l m) : ¬ (0 ≤ m ∧ tagMon e.1 = m) := fun h => by
  rw [flushM_filter] at he
  have h2 := (List.mem_filter.1 he).2
  simp [mem_tags.2 h] at h2
theorem flushM_take (l : List ET) (m : Int) (k : Nat) (hk : k < l.length) : (flushM (l.take (k + 1)) m).length = if 0 ≤ m ∧ tagMon l[k].1 = m then (flushM (l.take k) m).length else (flushM (l.take k) m).length + 1 := by
  rw [flushM_filter, flushM_filter, List.take_succ_eq_append_getElem hk, List.filter_append, List.length_append]
  by_cases h : 0 ≤ m ∧ tagMon l[k].1 = m
  · rw [if_pos h]
    simp [List.filter_cons, mem_tags.2 h]
  · rw [if_neg h]
    have : ¬ l[k].1 ∈ tagsM m := fun hm => h (mem_tags.1 hm)
    simp [List.filter_cons, this]
theorem wf_few {m : Nat} (h : m ≤ 100) : (Lit.int .i64 (m : Int)).wf = true := by
  simp [Lit.wf]
  have e1 : IntKind.i64.min = -9223372036854775808 := by decide
  have e2 : IntKind.i64.max = 9223372036854775807 := by decide
  omega
theorem tag_back {m g : Nat} (hm : m < 3) (hg : g < 2) : 1 ≤ tagOf m g ∧ tagMon (tagOf m g) = m ∧ tagGuest (tagOf m g) = g ∧ (Lit.int .i64 (tagOf m g)).wf = true := by
  have h1 : tagOf m g = 1 + g + m * 2 := by
    unfold tagOf
    rw [inB_iff.2 (show (0 : Int) ≤ m ∧ (m : Int) ≤ 2 by omega), inB_iff.2 (show (0 : Int) ≤ g ∧ (g : Int) ≤ 1 by omega)]; rfl
  have h2 : inB (1 + g + m * 2) 1 6 = true := inB_iff.2 (by omega)
  rw [h1]
  unfold tagMon tagGuest
  rw [h2]
  refine ⟨by omega, ?_, ?_, ?_⟩
  · show (1 + (g : Int) + m * 2 - 1) / 2 = m; omega
  · show (1 + (g : Int) + m * 2 - 1) % 2 = g; omega
  · simp [Lit.wf]
    have e1 : IntKind.i64.min = -9223372036854775808 := by decide
    have e2 : IntKind.i64.max = 9223372036854775807 := by decide
    omega
theorem tagOf_range {m g : Int} : tagOf m g = 0 ∨ (0 ≤ m ∧ m ≤ 2 ∧ 0 ≤ g ∧ g ≤ 1) := by
  unfold tagOf
  by_cases h1 : 0 ≤ m ∧ m ≤ 2
  · by_cases h2 : 0 ≤ g ∧ g ≤ 1
    · exact .inr ⟨h1.1, h1.2, h2.1, h2.2⟩
    · left; rw [show inB g 0 1 = false from inB_false.2 (by omega), Bool.and_false]; rfl
  · left; rw [show inB m 0 2 = false from inB_false.2 (by omega), Bool.false_and]; rfl
theorem tagOf_back {m g : Int} : tagOf m g = 0 ∨ (tagOf m g ≠ 0 ∧ tagMon (tagOf m g) = m ∧ tagGuest (tagOf m g) = g) := by
  rcases tagOf_range (m := m) (g := g) with h | ⟨h1, h2, h3, h4⟩
  · exact .inl h
  · right
    obtain ⟨a, rfl⟩ := Int.eq_ofNat_of_zero_le h1
    obtain ⟨b, rfl⟩ := Int.eq_ofNat_of_zero_le h3
    obtain ⟨x, y, z, _⟩ := tag_back (m := a) (g := b) (by omega) (by omega)
    exact ⟨by omega, y, z⟩
theorem wf_tagOf {m g : Int} : (Lit.int .i64 (tagOf m g)).wf = true := by
  rcases tagOf_range (m := m) (g := g) with h | ⟨h1, h2, h3, h4⟩
  · rw [h]; decide
  · obtain ⟨a, rfl⟩ := Int.eq_ofNat_of_zero_le h1
    obtain ⟨b, rfl⟩ := Int.eq_ofNat_of_zero_le h3
    exact (tag_back (m := a) (g := b) (by omega) (by omega)).2.2.2
end Go.Proofs.Yteoddppeajlekaa.Tags
