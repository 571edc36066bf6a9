/-
  Contracts of the law package's helpers over slices of ints (equality, marking, looking the marks up); no statement about the project's code stands here. No condition.
-/
import Derived.Test.YtmiokacihcpepaaMem
namespace Go.Proofs.Ytmiokacihcpepaa.Ints
set_option maxRecDepth 100000
open Go.ChangeShapes Go.WideShapes Go.ChangeAt Go.RowKit
open Go.Proofs.Ytmiokacihcpepaa.Base Go.Proofs.Ytmiokacihcpepaa.Mem

/-- The cells of a list of numbers. -/
def ncells (l : List Int) : List Value := l.map (Value.int .i64)
theorem ncells_len (l : List Int) : (ncells l).length = l.length := by simp [ncells]
theorem ncells_at (l : List Int) (k : Nat) (h : k < l.length) : (ncells l)[k]? = some (.int .i64 l[k]) := by simp [ncells, h]
theorem ncells_append (l m : List Int) : ncells (l ++ m) = ncells l ++ ncells m := by simp [ncells]
theorem int_at {w : World} {lo hi : Nat} {A : Option Addr} {l : List Int} (h : Lies w lo hi A (ncells l)) (k : Nat) (hk : k < l.length) :
    ∃ b off, A = some ⟨b, off, none⟩ ∧ lo ≤ b ∧ b < hi ∧ w.cell? ⟨b, off + k, none⟩ = some (.int .i64 l[k]) := by
  obtain ⟨b, off, e, x, y, hc⟩ := h.at_ (by rw [ncells_len]; omega)
  exact ⟨b, off, e, x, y, hc _ _ (ncells_at l k hk)⟩

set_option maxHeartbeats 1000000 in
theorem eqIntS_same (A B : Option Addr) (n c d lo lo' hi hi' : Nat) (l : List Int) (w : World) (hn : n ≤ 1048576) (hl : l.length = n)
    (h1 : Lies w lo hi A (ncells l)) (h2 : Lies w lo' hi' B (ncells l)) :
    Calls Try.prog 10 #[.slice A n c, .slice B n d] w fun e w' => e = .returned (.bool true) ∧ Below w.heap.size w w' := by
  have H1 := Lib.hid h1
  have H2 := Lib.hid h2
  have HL := Lib.hid hl
  clear h1 h2 hl
  go_enter Try.func10, Try.ntmps10
  go_wp2
  go_loopw [5] (fun i wr => ∃ (k m : Nat), k ≤ n ∧ i = .int .i64 k ∧ wr = w.drewN m) (fun i _ => n - (intOf i).toNat)
  case atStart => exact ⟨0, 0, Nat.zero_le _, rfl, rfl⟩
  case round =>
    obtain ⟨k, m, hk, rfl, rfl⟩ := hrel
    by_cases hlt : k < n
    · have hkl : k < l.length := by have := HL.out; omega
      obtain ⟨b, off, rfl, _, hbw, c1⟩ := int_at H1.out k hkl
      obtain ⟨b', off', rfl, _, hbw', c2⟩ := int_at H2.out k hkl
      have hi0 : (0 : Int) ≤ (k : Int) := Int.natCast_nonneg _
      have hi1 : (k : Int) < (n : Int) := by omega
      generalize l[k] = x at c1 c2
      go_wp2
      go_quiet (fail)
      go_wp2
      go_roundw
      case rel => exact ⟨k + 1, _, by omega, by go_num, rfl⟩
      case measure => simp [intOf]; omega
    · go_wp2
      go_ret
      exact ⟨rfl, below_drewN (Below.refl _ _) _⟩

/-- The marks k, k + 1, .. -/
def nmarks (k n : Nat) : List Int := (List.range n).map fun (j : Nat) => (k : Int) + j
theorem nmarks_len (k n : Nat) : (nmarks k n).length = n := by simp [nmarks]
theorem nmarks_at (k n j : Nat) (h : j < (nmarks k n).length) : (nmarks k n)[j] = (k : Int) + j := by simp [nmarks]

set_option maxHeartbeats 1000000 in
theorem heldIntS_any (A : Option Addr) (n c lo hi k0 : Nat) (w : World) (hn : n ≤ 1048576) (hk1 : k0 ≤ 4194304)
    (h1 : Lies w lo hi A (ncells (nmarks k0 n))) :
    Calls Try.prog 14 #[.slice A n c, .int .i64 k0] w fun e w' => e = .returned (.int .i64 ((k0 : Int) + n)) ∧ w = w' := by
  have H1 := Lib.hid h1
  clear h1
  go_enter Try.func14, Try.ntmps14
  go_wp2
  go_loop [1, 5] (fun q i => ∃ (k : Nat), k ≤ n ∧ i = .int .i64 k ∧ q = .int .i64 ((k0 : Int) + k)) (fun _ i => n - (intOf i).toNat)
  case atStart => exact ⟨0, Nat.zero_le _, rfl, by simp⟩
  case round =>
    obtain ⟨k, hk, rfl, rfl⟩ := hrel
    by_cases hlt : k < n
    · have hkl : k < (nmarks k0 n).length := by rw [nmarks_len]; exact hlt
      obtain ⟨b, off, rfl, _, hbw, c1⟩ := int_at H1.out k hkl
      rw [nmarks_at] at c1
      have hi0 : (0 : Int) ≤ (k : Int) := Int.natCast_nonneg _
      have hi1 : (k : Int) < (n : Int) := by omega
      go_wp2
      go_round
      case rel => exact ⟨k + 1, by omega, by go_num, by congr 1⟩
      case measure => simp [intOf]; omega
    · have hkn : k = n := by omega
      subst hkn
      go_wp2
      go_ret
      exact ⟨rfl, rfl⟩

theorem nmarks_step (k0 k : Nat) (l : List Int) (hk : k < l.length) :
    ((ncells (nmarks k0 k ++ l.drop k)).set k (.int .i64 ((k0 : Int) + k))) = ncells (nmarks k0 (k + 1) ++ l.drop (k + 1)) := by
  have h1 : l.drop k = l[k] :: l.drop (k + 1) := List.drop_eq_getElem_cons hk
  have h2 : (ncells (nmarks k0 k)).length = k := by rw [ncells_len, nmarks_len]
  have h3 : nmarks k0 (k + 1) = nmarks k0 k ++ [(k0 : Int) + k] := by simp [nmarks, List.range_succ]
  rw [h1, h3, ncells_append, ncells_append, ncells_append]
  rw [List.set_append_right _ _ (by omega), h2, Nat.sub_self]
  simp only [ncells, List.map_cons, List.map_nil, List.set_cons_zero, List.append_assoc, List.cons_append, List.nil_append]

set_option maxHeartbeats 1000000 in
theorem markIntS_any (A : Option Addr) (n c lo hi k0 : Nat) (l : List Int) (w : World) (hn : n ≤ 1048576) (hk1 : k0 ≤ 4194304) (hl : l.length = n)
    (h1 : Owned w lo hi A (ncells l)) :
    Calls Try.prog 13 #[.slice A n c, .int .i64 k0] w fun e w' => e = .returned (.int .i64 ((k0 : Int) + n)) ∧ Owned w' lo hi A (ncells (nmarks k0 n)) ∧ Turned lo hi w w' := by
  have H1 := Lib.hid h1
  have HL := Lib.hid hl
  clear h1 hl
  go_enter Try.func13, Try.ntmps13
  go_wp2
  go_loopw [1, 5] (fun q i wr => ∃ (k : Nat), k ≤ n ∧ i = .int .i64 k ∧ q = .int .i64 ((k0 : Int) + k) ∧ Owned wr lo hi A (ncells (nmarks k0 k ++ l.drop k)) ∧ Turned lo hi w wr) (fun _ i _ => n - (intOf i).toNat)
  case atStart => exact ⟨0, Nat.zero_le _, rfl, by simp, H1.out, Turned.refl _ _ _⟩
  case round =>
    obtain ⟨k, hk, rfl, rfl, hown, ht⟩ := hrel
    by_cases hlt : k < n
    · have hll : k < l.length := by have := HL.out; omega
      have hkl : k < (nmarks k0 k ++ l.drop k).length := by simp [nmarks_len]; omega
      obtain ⟨b, off, rfl, hb1, hb2, c1⟩ := int_at hown.1 k hkl
      have f1 : wr.frozen? ⟨b, off + k, none⟩ = false := hown.2 b off rfl (by rw [ncells_len]; omega) _
      have hs := hown.set k (.int .i64 ((k0 : Int) + k))
      rw [nmarks_step k0 k l hll] at hs
      have HS := Lib.hid hs
      have hi0 : (0 : Int) ≤ (k : Int) := Int.natCast_nonneg _
      have hi1 : (k : Int) < (n : Int) := by omega
      clear hs hown
      go_wp2
      go_roundw
      case rel => exact ⟨k + 1, by omega, by go_num, by congr 1, HS.out, ht.setCell hb1 hb2 _⟩
      case measure => simp [intOf]; omega
    · have hkn : k = n := by omega
      subst hkn
      rw [List.drop_of_length_le (by have := HL.out; omega), List.append_nil] at hown
      go_wp2
      go_ret
      exact ⟨rfl, hown, ht⟩
end Go.Proofs.Ytmiokacihcpepaa.Ints
