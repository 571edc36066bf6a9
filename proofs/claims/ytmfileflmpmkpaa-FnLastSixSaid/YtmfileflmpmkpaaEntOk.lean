/-
  The buffer of entries: the given model's BufferOk. No condition beyond a buffer's length.
-/
import Derived.Test.YtmfileflmpmkpaaEntSpec
namespace Go.Proofs.Ytmfileflmpmkpaa.Ents
set_option maxRecDepth 100000
open Go.ChangeShapes Go.WideShapes Go.ChangeAt Go.RowKit
open Go.Proofs.Ytmfileflmpmkpaa.Base Go.Proofs.Ytmfileflmpmkpaa.Mem Go.Proofs.Ytmfileflmpmkpaa.Data
set_option linter.unusedVariables false
set_option linter.unusedSimpArgs false

theorem pair_snoc {l : List ET} {k : Nat} (hk : k < l.length) (h : (l.take k).Pairwise apart) (hx : ∀ i (hi : i < k), apart (l[i]'(by omega)) l[k]) : (l.take (k + 1)).Pairwise apart := by
  rw [List.take_succ_eq_append_getElem hk, List.pairwise_append]
  refine ⟨h, List.pairwise_singleton _ _, fun a ha b hb => ?_⟩
  rw [List.mem_singleton.1 hb]
  obtain ⟨i, hi, rfl⟩ := List.mem_iff_getElem.1 ha
  rw [List.getElem_take]
  exact hx i (by rw [List.length_take] at hi; omega)
theorem bufOk_pair {l : List ET} {i k : Nat} (hk : k < l.length) (hi : i < k) (h : ¬ apart (l[i]'(by omega)) l[k]) : bufOk l = false := by
  unfold bufOk
  rw [Bool.and_eq_false_iff]
  left
  rw [decide_eq_false_iff_not]
  intro hp
  exact h (List.pairwise_iff_getElem.1 hp i k (by omega) hk hi)
theorem bufOk_end {l : List ET} {n : Nat} (hl : l.length = n) (h : (l.take n).Pairwise apart) : bufOk l = decide (n ≤ 6) := by
  rw [List.take_of_length_le (by omega)] at h
  unfold bufOk
  rw [decide_eq_true h, hl]
  rfl

set_option maxHeartbeats 4000000 in
theorem spec_bufOk (A : Option Addr) (n c lo hi : Nat) (l : List ET) (w : World) (hn : n ≤ 1048576) (hl : l.length = n) (h1 : Lies w lo hi A (ecells l)) :
    Calls Try.prog 19 #[.slice A n c] w fun e w' => e = .returned (.bool (bufOk l)) ∧ ∃ q, w' = w.drewN q := by
  have H1 := Lib.hid h1
  have HL := Lib.hid hl
  clear h1 hl
  go_enter Try.func19, Try.ntmps19
  go_wp2
  go_loopw [3] (fun i wr => ∃ (k q : Nat), k ≤ n ∧ i = .int .i64 k ∧ (l.take k).Pairwise apart ∧ wr = w.drewN q) (fun i _ => n - (intOf i).toNat)
  case atStart => exact ⟨0, 0, Nat.zero_le _, rfl, by simp, rfl⟩
  case round =>
    obtain ⟨k, q, hk, rfl, hp, rfl⟩ := hrel
    have HP := Lib.hid hp
    clear hp
    by_cases hlt : k < n
    · have hkl : k < l.length := by have := HL.out; omega
      obtain ⟨b, off, rfl, g1, hbw, c0, c1, c2, c3⟩ := e_at H1.out k hkl
      have hi0 : (0 : Int) ≤ (k : Int) := Int.natCast_nonneg _
      have hi1 : (k : Int) < (n : Int) := by omega
      obtain ⟨⟨x0, x1, x2, x3⟩, hxy⟩ : ∃ s, s = l[k] := ⟨_, rfl⟩
      rw [← hxy] at c0 c1 c2 c3
      dsimp only at c0 c1 c2 c3
      have HX := Lib.hid hxy
      clear hxy g1 hbw c2 c3
      go_wp2
      go_loopw [4] (fun j wr => ∃ (m q' : Nat), m ≤ k ∧ j = .int .i64 m ∧ (∀ i (hi : i < m) (hil : i < l.length), apart l[i] (x0, x1, x2, x3)) ∧ wr = w.drewN q') (fun j _ => k - (intOf j).toNat)
      case atStart => exact ⟨0, q, Nat.zero_le _, rfl, fun i hi => by omega, rfl⟩
      case round =>
        obtain ⟨m, q', hm, rfl, hap, rfl⟩ := hrel
        by_cases hlt2 : m < k
        · have hml : m < l.length := by omega
          obtain ⟨b', off', e', g1, hbw, d0, d1, d2, d3⟩ := e_at H1.out m hml
          cases e'
          have hj0 : (0 : Int) ≤ (m : Int) := Int.natCast_nonneg _
          have hj1 : (m : Int) < (k : Int) := by omega
          have hj2 : (m : Int) < (n : Int) := by omega
          have hbad : ¬ apart l[m] (x0, x1, x2, x3) → bufOk l = false := fun h => bufOk_pair hkl hlt2 (by rw [← HX.out]; exact h)
          have hstep : apart l[m] (x0, x1, x2, x3) → ∀ i (hi : i < m + 1) (hil : i < l.length), apart l[i] (x0, x1, x2, x3) := fun h i hi hil => by
            rcases Nat.lt_succ_iff_lt_or_eq.1 hi with h2 | rfl
            · exact hap i h2 hil
            · exact h
          clear hap
          obtain ⟨⟨y0, y1, y2, y3⟩, hxy⟩ : ∃ s, s = l[m] := ⟨_, rfl⟩
          rw [← hxy] at d0 d1 d2 d3 hbad hstep
          dsimp only at d0 d1 d2 d3
          clear hxy g1 hbw d2 d3
          by_cases hx : x0 = y0
          · by_cases hy : x1 = y1
            · have HBAD := Lib.hid (hbad (by unfold apart; simp [hx, hy]))
              subst hx
              subst hy
              clear hbad hstep
              go_wp2
              go_quiet (fail)
              go_wp2
              go_ret
              exact ⟨by rw [HBAD.out]; rfl, _, World.drewN_drewN ..⟩
            · have hy' : (x1 == y1) = false := by simpa using hy
              have HS := Lib.hid (hstep (by unfold apart; simp [hy]))
              subst hx
              clear hbad hstep hy
              go_wp2
              go_quiet (fail)
              go_wp2
              go_roundw
              case rel => exact ⟨m + 1, _, by omega, by go_num, HS.out, rfl⟩
              case measure => simp [intOf]; omega
          · have hx' : (x0 == y0) = false := by simpa using hx
            have HS := Lib.hid (hstep (by unfold apart; simp [hx]))
            clear hbad hstep hx
            go_wp2
            go_quiet (fail)
            go_wp2
            go_roundw
            case rel => exact ⟨m + 1, _, by omega, by go_num, HS.out, rfl⟩
            case measure => simp [intOf]; omega
        · obtain rfl : m = k := by omega
          have HS := Lib.hid (pair_snoc hkl HP.out (fun i hi => by rw [← HX.out]; exact hap i hi (by omega)))
          clear hap
          go_wp2
          go_roundw
          case rel => exact ⟨m + 1, _, by omega, by go_num, HS.out, rfl⟩
          case measure => simp [intOf]; omega
    · obtain rfl : k = n := by omega
      have HE := Lib.hid (bufOk_end HL.out HP.out)
      go_wp2
      go_ret
      exact ⟨by rw [HE.out]; congr 2; simp; omega, q, rfl⟩
theorem spec_bufOkB (A : Option Addr) (n c lo hi : Nat) (l : List ET) (w : World) (hn : n ≤ 1048576) (hl : l.length = n) (h1 : Lies w lo hi A (ecells l)) :
    Calls Try.prog 19 #[.slice A n c] w fun e w' => e = .returned (.bool (bufOk l)) ∧ Below w.heap.size w w' :=
  (spec_bufOk A n c lo hi l w hn hl h1).mono fun e w' ⟨h, q, hq⟩ => ⟨h, hq ▸ below_drewN (Below.refl _ _) _⟩
end Go.Proofs.Ytmfileflmpmkpaa.Ents
