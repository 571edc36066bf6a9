/-
  The buffer of entries: the given model's BufferOk. No condition beyond a buffer's length.
-/
import Derived.Test.YteoddppeajlekaaEntSpec
namespace Go.Proofs.Yteoddppeajlekaa.Ents
set_option maxRecDepth 100000
open Go.ChangeShapes Go.WideShapes Go.ChangeAt Go.RowKit
open Go.Proofs.Yteoddppeajlekaa.Base Go.Proofs.Yteoddppeajlekaa.Mem Go.Proofs.Yteoddppeajlekaa.Data
set_option linter.unusedVariables false
set_option linter.unusedSimpArgs false

theorem pair_snoc {l : List ET} {k : Nat} (hk : k < l.length) (h : (l.take k).Pairwise apart) (hx : ∀ i (hi : i < k), apart (l[i]'(by omega)) l[k]) : (l.take (k + 1)).Pairwise apart := by
  rw [List.take_succ_eq_append_getElem hk, List.pairwise_append]
  refine ⟨h, List.pairwise_singleton _ _, fun a ha b hb => ?_⟩
  rw [List.mem_singleton.1 hb]
  obtain ⟨i, hi, rfl⟩ := List.mem_iff_getElem.1 ha
  rw [List.getElem_take]
  exact hx i (by rw [List.length_take] at hi; omega)
theorem bufOk_pair {l : List ET} {i k : Nat} (hk : k < l.length) (hi : i < k) (h : ¬ apart (l[i]'(by omega)) l[k]) : bufOk l = false := by
  unfold bufOk
  rw [Bool.and_eq_false_iff]
  left
  rw [decide_eq_false_iff_not]
  intro hp
  exact h (List.pairwise_iff_getElem.1 hp i k (by omega) hk hi)
theorem bufOk_end {l : List ET} {n : Nat} (hl : l.length = n) (h : (l.take n).Pairwise apart) : bufOk l = decide (n ≤ 6) := by
  rw [List.take_of_length_le (by omega)] at h
  unfold bufOk
  rw [decide_eq_true h, hl]
  rfl

end Go.Proofs.Yteoddppeajlekaa.Ents
