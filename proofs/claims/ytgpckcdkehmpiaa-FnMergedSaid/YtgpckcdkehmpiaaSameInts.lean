/-
  Contract of the law package's comparison of slices of ints (sameInts) at equal lists; no statement about the project's code stands here. No condition.
-/
import Derived.Test.YtgpckcdkehmpiaaIntH
namespace Go.Proofs.Ytgpckcdkehmpiaa.Ints
set_option maxRecDepth 100000
open Go.ChangeShapes Go.WideShapes Go.ChangeAt Go.RowKit
open Go.Proofs.Ytgpckcdkehmpiaa.Base Go.Proofs.Ytgpckcdkehmpiaa.Mem

set_option maxHeartbeats 1000000 in
theorem sameInts_same (A B : Option Addr) (n c d lo lo' hi hi' : Nat) (l : List Int) (w : World) (hn : n ≤ 1048576) (hl : l.length = n)
    (h1 : Lies w lo hi A (ncells l)) (h2 : Lies w lo' hi' B (ncells l)) :
    Calls Try.prog 20 #[.slice A n c, .slice B n d] w fun e w' => e = .returned (.bool true) ∧ Below w.heap.size w w' := by
  have H1 := Lib.hid h1
  have H2 := Lib.hid h2
  have HL := Lib.hid hl
  clear h1 h2 hl
  go_enter Try.func20, Try.ntmps20
  go_wp2
  go_loopw [5] (fun i wr => ∃ (k m : Nat), k ≤ n ∧ i = .int .i64 k ∧ wr = w.drewN m) (fun i _ => n - (intOf i).toNat)
  case atStart => exact ⟨0, 0, Nat.zero_le _, rfl, rfl⟩
  case round =>
    obtain ⟨k, m, hk, rfl, rfl⟩ := hrel
    by_cases hlt : k < n
    · have hkl : k < l.length := by have := HL.out; omega
      obtain ⟨b, off, rfl, _, hbw, c1⟩ := int_at H1.out k hkl
      obtain ⟨b', off', rfl, _, hbw', c2⟩ := int_at H2.out k hkl
      have hi0 : (0 : Int) ≤ (k : Int) := Int.natCast_nonneg _
      have hi1 : (k : Int) < (n : Int) := by omega
      generalize l[k] = x at c1 c2
      go_wp2
      go_quiet (fail)
      go_wp2
      go_roundw
      case rel => exact ⟨k + 1, _, by omega, by go_num, rfl⟩
      case measure => simp [intOf]; omega
    · go_wp2
      go_ret
      exact ⟨rfl, below_drewN (Below.refl _ _) _⟩

end Go.Proofs.Ytgpckcdkehmpiaa.Ints
