/-
  The law package's comparison of shadow tables at equal values; no statement about the project's code stands here. No condition beyond their lengths.
-/
import Derived.Test.YtfgckkgakghenaaKeptH
import Derived.Test.YtfgckkgakghenaaTwoLaws
namespace Go.Proofs.Ytfgckkgakghenaa.Kepts
set_option maxRecDepth 100000
open Go.ChangeShapes Go.WideShapes Go.ChangeAt Go.RowKit
open Go.Proofs.Ytfgckkgakghenaa.Base Go.Proofs.Ytfgckkgakghenaa.Mem Go.Proofs.Ytfgckkgakghenaa.Slots Go.Proofs.Ytfgckkgakghenaa.Bools Go.Proofs.Ytfgckkgakghenaa.Data
set_option linter.unusedVariables false
set_option linter.unusedSimpArgs false

set_option maxHeartbeats 1000000 in
theorem sameBools_same (A B : Option Addr) (n c d lo lo' hi hi' : Nat) (l : List Bool) (w : World) (hn : n ≤ 1048576) (hl : l.length = n)
    (h1 : Lies w lo hi A (tcells l)) (h2 : Lies w lo' hi' B (tcells l)) :
    Calls Try.prog 62 #[.slice A n c, .slice B n d] w fun e w' => e = .returned (.bool true) ∧ Below w.heap.size w w' := by
  have H1 := Lib.hid h1
  have H2 := Lib.hid h2
  have HL := Lib.hid hl
  clear h1 h2 hl
  go_enter Try.func62, Try.ntmps62
  go_wp2
  go_loopw [5] (fun i wr => ∃ (k m : Nat), k ≤ n ∧ i = .int .i64 k ∧ wr = w.drewN m) (fun i _ => n - (intOf i).toNat)
  case atStart => exact ⟨0, 0, Nat.zero_le _, rfl, rfl⟩
  case round =>
    obtain ⟨k, m, hk, rfl, rfl⟩ := hrel
    by_cases hlt : k < n
    · have hkl : k < l.length := by have := HL.out; omega
      obtain ⟨b, off, rfl, _, hbw, c1⟩ := bool_at H1.out k hkl
      obtain ⟨b', off', rfl, _, hbw', c2⟩ := bool_at H2.out k hkl
      have hi0 : (0 : Int) ≤ (k : Int) := Int.natCast_nonneg _
      have hi1 : (k : Int) < (n : Int) := by omega
      generalize l[k] = x at c1 c2
      go_wp2
      go_quiet (fail)
      go_wp2
      go_roundw
      case rel => exact ⟨k + 1, _, by omega, by go_num, rfl⟩
      case measure => simp [intOf]; omega
    · go_wp2
      go_ret
      exact ⟨rfl, below_drewN (Below.refl _ _) _⟩

section
variable (A B : Option Addr) (n m c d lo : Nat) (k : KD) (w : World)
set_option maxHeartbeats 2000000 in
theorem sameKept_same (A' B' : Option Addr) (c' d' lo' hi hi' : Nat) (hn : n ≤ 1048576) (hm : m ≤ 1048576) (hh : hi ≤ w.heap.size) (hh' : hi' ≤ w.heap.size) (h : KR w lo hi k A B n m) (h' : KR w lo' hi' k A' B' n m) :
    Calls Try.prog 17 #[.agg #[.slice A n c, .slice B m d], .agg #[.slice A' n c', .slice B' m d']] w fun e w' => e = .returned (.bool true) ∧ Below w.heap.size w w' := by
  obtain ⟨t1, t2, hb2⟩ := two_two w (.slice A n c) (.slice B m d) (.slice A' n c') (.slice B' m d') 27 27
  have H1 := Lib.hid h
  have H2 := Lib.hid h'
  clear h h'
  go_enter Try.func17, Try.ntmps17
  go_wp2_with fail
  generalize (w.alloc (.cells #[.slice A n c, .slice B m d] 27)).alloc (.cells #[.slice A' n c', .slice B' m d'] 27) = W at t1 t2 hb2 ⊢
  have hx := hb2.size
  refine (sameBools_same A A' n c c' lo lo' hi hi' k.1 W (by omega) H1.out.l1 (H1.out.r1.below hb2 hh) (H2.out.r1.below hb2 hh')).mono ?_
  rintro e w1 ⟨rfl, hb1⟩
  obtain ⟨j10, j11, _, _, _⟩ := t1.below hb1
  obtain ⟨j20, j21, _, _, _⟩ := t2.below hb1
  have hx1 := hb1.size
  have HB1 := Lib.hid (show Below w.heap.size w w1 from hb2.trans (hb1.mono hx))
  clear hb1 hb2 t1 t2
  go_wp2_with fail
  refine (same_true B B' m d d' lo lo' hi hi' k.2 w1 (by omega) H1.out.l2 (H1.out.r2.below HB1.out hh) (H2.out.r2.below HB1.out hh')).mono ?_
  rintro e w2 ⟨rfl, hb3⟩
  have HB2 := Lib.hid (btr HB1.out hb3)
  clear hb3
  go_wp2_with fail
  go_ret
  exact ⟨rfl, HB2.out⟩

end
end Go.Proofs.Ytfgckkgakghenaa.Kepts
