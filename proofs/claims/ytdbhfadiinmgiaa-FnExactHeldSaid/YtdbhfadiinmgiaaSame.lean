/-
  Comparing two slices of slots: the project's SameTable (over the library's slices.Equal), the given model's, and the law package's sameSlots. No condition.
-/
import Derived.Test.YtdbhfadiinmgiaaSlotMath
namespace Go.Proofs.Ytdbhfadiinmgiaa.Slots
set_option maxRecDepth 100000
open Go.ChangeShapes Go.WideShapes Go.ChangeAt Go.RowKit
open Go.Proofs.Ytdbhfadiinmgiaa.Base Go.Proofs.Ytdbhfadiinmgiaa.Mem Go.Proofs.Ytdbhfadiinmgiaa.Ints

def SamePost (w : World) (l m : List Sl) (e : Ending) (w' : World) : Prop := e = .returned (.bool (decide (l = m))) ∧ ∃ q, w' = w.drewN q
theorem same_step {l m : List Sl} {k : Nat} (hl : k < l.length) (hm : k < m.length) (h : l.take k = m.take k) :
    (l[k].1 = m[k].1 ∧ l[k].2 = m[k].2 → l.take (k + 1) = m.take (k + 1)) ∧ (¬ (l[k].1 = m[k].1 ∧ l[k].2 = m[k].2) → l ≠ m) := by
  refine ⟨fun e => ?_, fun e => ?_⟩
  · rw [List.take_succ_eq_append_getElem hl, List.take_succ_eq_append_getElem hm, h, Prod.ext e.1 e.2]
  · rintro rfl
    exact e ⟨rfl, rfl⟩
theorem same_no {w : World} {l m : List Sl} (q : Nat) (h : l ≠ m) : SamePost w l m (.returned (.bool false)) (w.drewN q) := ⟨by rw [decide_eq_false h], q, rfl⟩
theorem same_no2 {w : World} {l m : List Sl} (q r : Nat) (h : l ≠ m) : SamePost w l m (.returned (.bool false)) ((w.drewN q).drewN r) := ⟨by rw [decide_eq_false h], q + r, World.drewN_drewN ..⟩
theorem same_yes {w : World} {l m : List Sl} {n : Nat} (q : Nat) (h : l.take n = m.take n) (hl : l.length = n) (hm : m.length = n) : SamePost w l m (.returned (.bool true)) (w.drewN q) := by
  rw [List.take_of_length_le (by omega), List.take_of_length_le (by omega)] at h
  exact ⟨by rw [decide_eq_true h], q, rfl⟩

set_option maxHeartbeats 1000000 in
theorem law_same (A B : Option Addr) (n n' c d lo lo' hi hi' : Nat) (l m : List Sl) (w : World) (hn : n ≤ 1048576) (hn' : n' ≤ 1048576) (hl : l.length = n) (hm : m.length = n')
    (h1 : Lies w lo hi A (scells l)) (h2 : Lies w lo' hi' B (scells m)) :
    Calls Try.prog 33 #[.slice A n c, .slice B n' d] w (SamePost w l m) := by
  have H1 := Lib.hid h1
  have H2 := Lib.hid h2
  have HL := Lib.hid hl
  have HM := Lib.hid hm
  clear h1 h2 hl hm
  by_cases hnn : n = n'
  · subst hnn
    go_enter Try.func33, Try.ntmps33
    go_wp2
    go_loopw [5] (fun i wr => ∃ (k q : Nat), k ≤ n ∧ i = .int .i64 k ∧ l.take k = m.take k ∧ wr = w.drewN q) (fun i _ => n - (intOf i).toNat)
    case atStart => exact ⟨0, 0, Nat.zero_le _, rfl, rfl, rfl⟩
    case round =>
      obtain ⟨k, q, hk, rfl, ht, rfl⟩ := hrel
      have HT := Lib.hid ht
      clear ht
      by_cases hlt : k < n
      · have hkl : k < l.length := by have := HL.out; omega
        have hkm : k < m.length := by have := HM.out; omega
        obtain ⟨b, off, rfl, _, hbw, c1, c2⟩ := slot_at H1.out k hkl
        obtain ⟨b', off', rfl, _, hbw', c1', c2'⟩ := slot_at H2.out k hkm
        have hi0 : (0 : Int) ≤ (k : Int) := Int.natCast_nonneg _
        have hi1 : (k : Int) < (n : Int) := by omega
        have hstep := same_step hkl hkm HT.out
        have HP := Lib.hid hstep
        clear hstep
        generalize l[k].1 = x at c1 HP
        generalize l[k].2 = y at c2 HP
        generalize m[k].1 = x' at c1' HP
        generalize m[k].2 = y' at c2' HP
        by_cases hx : x = x'
        · subst hx
          by_cases hy : y = y'
          · subst hy
            go_wp2
            go_quiet (fail)
            go_wp2
            go_roundw
            case rel => exact ⟨k + 1, _, by omega, by go_num, HP.out.1 (by simp), rfl⟩
            case measure => simp [intOf]; omega
          · have hy' : (y == y') = false := by simpa using hy
            go_wp2
            go_quiet (fail)
            go_wp2
            go_ret
            exact same_no2 _ _ (HP.out.2 (fun h => hy h.2))
        · have hx' : (x == x') = false := by simpa using hx
          go_wp2
          go_quiet (fail)
          go_wp2
          go_ret
          exact same_no2 _ _ (HP.out.2 (fun h => hx h.1))
      · have hkn : k = n := by omega
        subst hkn
        go_wp2
        go_ret
        exact same_yes _ HT.out HL.out HM.out
  · have hd : (n == n') = false := by simpa using hnn
    have hd' : ((n : Int) == (n' : Int)) = false := by simp; omega
    go_enter Try.func33, Try.ntmps33
    go_wp2
    go_ret
    exact same_no 0 (fun e => hnn (by rw [← HL.out, ← HM.out, e]))

end Go.Proofs.Ytdbhfadiinmgiaa.Slots
