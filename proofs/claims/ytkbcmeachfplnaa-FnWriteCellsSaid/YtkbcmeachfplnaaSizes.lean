/-
  Small lemmas for the exact laws of chapter 4: sizes of what the functions return, the size test in two forms; no statement about the project's code stands here. No condition.
-/
import Derived.Test.YtkbcmeachfplnaaMemPutS
namespace Go.Proofs.Ytkbcmeachfplnaa.Grid
open Go.ChangeShapes Go.WideShapes Go.ChangeAt Go.RowKit
open Go.Proofs.Ytkbcmeachfplnaa.Base Go.Proofs.Ytkbcmeachfplnaa.Mem Go.Proofs.Ytkbcmeachfplnaa.Ints

theorem szIntSS_yes (A : Option Addr) (n c lo hi : Nat) (k : Int) (M : List (List Int)) (hs : List Hd) (w : World) (hk1 : k ≤ 1048576) (hl : M.length = n) (hf : fitG M) (h : (n : Int) + (tot M : Nat) ≤ k) (h1 : RG w lo hi A M hs) :
    Calls Try.prog 43 #[.slice A n c, .int .i64 k] w fun e w' => e = .returned (.int .i64 (k - n - (tot M : Nat))) ∧ w = w' :=
  (szIntSS_walk A n c lo hi k M hs w hk1 hl hf (by omega) h1).mono fun e w' ⟨he, hw⟩ => ⟨by rw [he, szv_yes h], hw⟩
theorem szIntSS_no (A : Option Addr) (n c lo hi : Nat) (k : Int) (M : List (List Int)) (hs : List Hd) (w : World) (hk : 0 ≤ k) (hk1 : k ≤ 1048576) (hl : M.length = n) (hf : fitG M) (hn : n ≤ 9223372036854775807) (h : k < (n : Int) + (tot M : Nat)) (h1 : RG w lo hi A M hs) :
    Calls Try.prog 43 #[.slice A n c, .int .i64 k] w fun e w' => e = .returned (.int .i64 (-1)) ∧ w = w' := by
  by_cases hs' : k < n
  · exact szIntSS_short A n c k w hk hk1 hn hs'
  · exact (szIntSS_walk A n c lo hi k M hs w hk1 hl hf (by omega) h1).mono fun e w' ⟨he, hw⟩ => ⟨by rw [he, szv_no h], hw⟩
theorem Drawn.below {w w' : World} (h : ∃ q, w' = w.drewN q) : Below w.heap.size w w' := by
  obtain ⟨q, rfl⟩ := h
  exact below_drewN (Below.refl _ _) q
theorem tot_set : ∀ (M : List (List Int)) (k : Nat) (r : List Int) (hk : k < M.length), tot (M.set k r) + M[k].length = tot M + r.length
  | q :: M, 0, r, _ => by simp [tot]; omega
  | q :: M, k + 1, r, h => by
    have := tot_set M k r (by simpa using h)
    simp [tot]
    omega
theorem zeros_cap (n : Nat) (h : n ≤ 24) : capG (zeros n) := by
  have ht : tot (zeros n) = 4 * n := by
    clear h
    induction n with
    | zero => rfl
    | succ n ih => rw [zeros_snoc, tot_append, ih]; simp [tot, zero4]; omega
  exact capG.of (by rw [ht, zeros_len]; omega)
theorem set_cap {M : List (List Int)} {k : Nat} {r : List Int} (hk : k < M.length) (h : M.length + tot M ≤ 1048576) (hr : r.length ≤ 4) : capG (M.set k r) := by
  have h1 := tot_set M k r hk
  have h2 := tot_at hk
  refine ⟨by rw [List.length_set]; omega, by omega, fun q hq => ?_⟩
  obtain ⟨i, hi, rfl⟩ := List.getElem_of_mem hq
  rw [List.length_set] at hi
  rw [List.getElem_set]
  have hL : 0 < M.length := by omega
  split
  · omega
  · have := tot_at hi
    omega
theorem withC_cap (M : List (List Int)) (page cell v : Int) (h : capG M) : capG (withC M page cell v) := by
  by_cases hv : hasCB M page cell = true ∧ cellB v = true
  · obtain ⟨k, j, rfl, rfl, hk, hj⟩ := hasCB_yes hv.1
    rw [withC_yes hv.1 hv.2 hk]
    have h1 := tot_set M k (M[k].set j v) hk
    rw [List.length_set] at h1
    refine ⟨by rw [List.length_set]; exact h.len, by have := h.all; omega, fun q hq => ?_⟩
    obtain ⟨i, hi, rfl⟩ := List.getElem_of_mem hq
    rw [List.length_set] at hi
    rw [List.getElem_set]
    split
    · rw [List.length_set]
      exact h.at_ hk
    · exact h.at_ hi
  · rw [withC_no (by simpa [Decidable.imp_iff_not_or] using hv)]
    exact h
theorem withP_cap (M : List (List Int)) (page : Int) (l : List Int) (h : M.length + tot M ≤ 1048576) : capG (withP M page l) := by
  by_cases hv : hasPB M.length page = true ∧ pageB l = true
  · obtain ⟨k, rfl, hk⟩ := hasPB_yes hv.1
    rw [withP_yes hk hv.2]
    refine set_cap hk h ?_
    have := hv.2
    simp only [pageB, Bool.and_eq_true, decide_eq_true_eq] at this
    omega
  · rw [withP_no (by simpa [Decidable.imp_iff_not_or] using hv)]
    exact capG.of h
theorem pageAt_len (M : List (List Int)) (page : Int) (h : capG M) : (pageAt M page).length ≤ 1048576 := by
  cases hv : hasPB M.length page
  · rw [pageAt_no hv]
    simp [zero4]
  · obtain ⟨k, rfl, hk⟩ := hasPB_yes hv
    rw [pageAt_yes hk]
    exact h.at_ hk
end Go.Proofs.Ytkbcmeachfplnaa.Grid
