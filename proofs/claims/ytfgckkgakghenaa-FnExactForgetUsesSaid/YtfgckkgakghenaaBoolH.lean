/-
  Contracts of the law package's helpers over slices of booleans (conversion, equality, marking, looking the marks up, size); no statement about the project's code stands here. No condition.
-/
import Derived.Test.YtfgckkgakghenaaIntH
namespace Go.Proofs.Ytfgckkgakghenaa.Bools
set_option maxRecDepth 100000
open Go.ChangeShapes Go.WideShapes Go.ChangeAt Go.RowKit
open Go.Proofs.Ytfgckkgakghenaa.Base Go.Proofs.Ytfgckkgakghenaa.Mem
set_option linter.unusedVariables false

def tcells (l : List Bool) : List Value := l.map Value.bool
theorem tcells_len (l : List Bool) : (tcells l).length = l.length := by simp [tcells]
theorem tcells_at (l : List Bool) (k : Nat) (h : k < l.length) : (tcells l)[k]? = some (.bool l[k]) := by simp [tcells, h]
theorem tcells_append (l m : List Bool) : tcells (l ++ m) = tcells l ++ tcells m := by simp [tcells]
theorem bool_at {w : World} {lo hi : Nat} {A : Option Addr} {l : List Bool} (h : Lies w lo hi A (tcells l)) (k : Nat) (hk : k < l.length) :
    ∃ b off, A = some ⟨b, off, none⟩ ∧ lo ≤ b ∧ b < hi ∧ w.cell? ⟨b, off + k, none⟩ = some (.bool l[k]) := h k _ (tcells_at l k hk)
theorem Try.infoBool : (Try.prog.info? 4).map (fun i => (i.zero, i.size, i.bytes)) = some (some (.bool false), 1, 1) := by kernel_rfl
theorem grown_of_below {w w' : World} (h : Below w.heap.size w w') (row : Option Nat) : w.grownBy w' row := ⟨h.os, h.tape, h.output, h.size, fun i hi _ => h.block i hi⟩
theorem row_one {w : World} {base g n c : Nat} {e : TypeId} {xs : List Value} (h : w.ownsRow base e 1 (.slice (some ⟨g, 0, none⟩) n c) n xs) {k : Nat} (hk : k < n) :
    (∃ u, w.cell? ⟨g, k, none⟩ = some u) ∧ w.frozen? ⟨g, k, none⟩ = false := by
  have hl := h.1
  refine ⟨⟨xs[k]'(by omega), ?_⟩, h.frozenAt _⟩
  rw [h.cellAt _ (by omega)]; exact List.getElem?_eq_getElem _
theorem take_set1 {xs : List Value} {k : Nat} {ys : List Value} {u : Value} (h : xs.take k = ys) (hl : k < xs.length) : (xs.set k u).take (k + 1) = ys ++ [u] := by
  rw [← h, List.take_succ_eq_append_getElem (by simpa using hl)]
  simp [List.take_set_of_le]
theorem tcells_snoc {l : List Bool} {k : Nat} (hk : k < l.length) : tcells (l.take (k + 1)) = tcells (l.take k) ++ [.bool l[k]] := by
  rw [List.take_succ_eq_append_getElem hk, tcells_append]
  rfl
def TPost (w : World) (u : List Bool) (e : Ending) (w' : World) : Prop :=
  ∃ A n c, e = .returned (.slice A n c) ∧ u.length = n ∧ Owned w' w.heap.size w'.heap.size A (tcells u) ∧ Below w.heap.size w w'

set_option maxHeartbeats 1000000 in
theorem toBoolS_any (A : Option Addr) (n c lo : Nat) (l : List Bool) (w : World) (hn : n ≤ 1048576) (hl : l.length = n) (h1 : Lies w lo w.heap.size A (tcells l)) :
    Calls Try.prog 86 #[.slice A n c] w (TPost w l) := by
  obtain ⟨i0, hi0, hz0, hz1, hz2⟩ := info_parts Try.infoBool
  have H1 := Lib.hid h1
  have HL := Lib.hid hl
  clear h1 hl
  obtain ⟨wm, hmk, hown, hgm⟩ := run_make_full w w.heap.size 24 4 i0 _ 1 Try.underlying24 hi0 hz0 hz1 .i64 .i64 n (by rw [hz2]; omega) (by simp only [maxLen]; omega) (Nat.le_refl _)
  have HO := Lib.hid (And.intro hown hgm)
  clear hown hgm
  go_enter Try.func86, Try.ntmps86
  go_wp2
  go_loopw [4] (fun i wr => ∃ (k : Nat) (xs : List Value), k ≤ n ∧ i = .int .i64 k ∧ xs.take k = tcells (l.take k) ∧ wr.ownsRow w.heap.size 4 1 (.slice (some ⟨w.heap.size, 0, none⟩) n n) n xs ∧ Below w.heap.size w wr) (fun i _ => n - (intOf i).toNat)
  case atStart => exact ⟨0, _, Nat.zero_le _, rfl, by simp [tcells], HO.out.1, (Below.refl _ _).grown HO.out.2 (Nat.le_refl _) (fun _ h => by cases h)⟩
  case round =>
    obtain ⟨k, xs, hk, rfl, hxs, hown, hb⟩ := hrel
    have HX := Lib.hid hxs
    clear hxs
    by_cases hlt : k < n
    · have hkl : k < l.length := by have := HL.out; omega
      obtain ⟨b, off, rfl, _, hbw, c1⟩ := bool_at H1.out k hkl
      have d1 : wr.cell? ⟨b, off + k, none⟩ = some (.bool l[k]) := (hb.cell hbw).trans c1
      have hi0 : (0 : Int) ≤ (k : Int) := Int.natCast_nonneg _
      have hi1 : (k : Int) < (n : Int) := by omega
      have HT := Lib.hid (tcells_snoc hkl)
      obtain ⟨⟨u1, e1⟩, f1⟩ := row_one hown hlt
      clear c1
      generalize l[k] = x at d1 HT
      have hrow := (hown.stored k (.bool x)).1
      have hbw2 : Below w.heap.size w (wr.setCell ⟨w.heap.size, k, none⟩ (.bool x)) := hb.setCell (p := ⟨w.heap.size, k, none⟩) (Nat.le_refl _) _
      have hts : (xs.set k (.bool x)).take (k + 1) = tcells (l.take (k + 1)) := (take_set1 HX.out (by have := hown.1; omega)).trans HT.out.symm
      have HF := Lib.hid (And.intro hrow (And.intro hbw2 hts))
      clear hrow hbw2 hts
      go_wp2
      go_roundw
      case rel => exact ⟨k + 1, _, by omega, by go_num, HF.out.2.2, HF.out.1, HF.out.2.1⟩
      case measure => simp [intOf]; omega
    · have hkn : k = n := by omega
      subst hkn
      have hx : xs = tcells l := by
        have h1 := HX.out
        have h2 := hown.1
        rw [List.take_of_length_le (by omega), List.take_of_length_le (by have := HL.out; omega)] at h1
        exact h1
      subst hx
      go_wp2
      go_ret
      exact ⟨_, _, _, rfl, HL.out, Owned.of_row hown, hb⟩

set_option maxHeartbeats 1000000 in
theorem eqBoolS_same (A B : Option Addr) (n c d lo lo' hi hi' : Nat) (l : List Bool) (w : World) (hn : n ≤ 1048576) (hl : l.length = n)
    (h1 : Lies w lo hi A (tcells l)) (h2 : Lies w lo' hi' B (tcells l)) :
    Calls Try.prog 81 #[.slice A n c, .slice B n d] w fun e w' => e = .returned (.bool true) ∧ Below w.heap.size w w' := by
  have H1 := Lib.hid h1
  have H2 := Lib.hid h2
  have HL := Lib.hid hl
  clear h1 h2 hl
  go_enter Try.func81, Try.ntmps81
  go_wp2
  go_loopw [5] (fun i wr => ∃ (k m : Nat), k ≤ n ∧ i = .int .i64 k ∧ wr = w.drewN m) (fun i _ => n - (intOf i).toNat)
  case atStart => exact ⟨0, 0, Nat.zero_le _, rfl, rfl⟩
  case round =>
    obtain ⟨k, m, hk, rfl, rfl⟩ := hrel
    by_cases hlt : k < n
    · have hkl : k < l.length := by have := HL.out; omega
      obtain ⟨b, off, rfl, _, hbw, c1⟩ := bool_at H1.out k hkl
      obtain ⟨b', off', rfl, _, hbw', c2⟩ := bool_at H2.out k hkl
      have hi0 : (0 : Int) ≤ (k : Int) := Int.natCast_nonneg _
      have hi1 : (k : Int) < (n : Int) := by omega
      generalize l[k] = x at c1 c2
      go_wp2
      go_quiet (fail)
      go_wp2
      go_roundw
      case rel => exact ⟨k + 1, _, by omega, by go_num, rfl⟩
      case measure => simp [intOf]; omega
    · go_wp2
      go_ret
      exact ⟨rfl, below_drewN (Below.refl _ _) _⟩

/-- The marks from k on. -/
def tmarks (k n : Nat) : List Bool := (List.range n).map fun (j : Nat) => (((k : Int) + j) % 3 == 0)
theorem tmarks_len (k n : Nat) : (tmarks k n).length = n := by simp [tmarks]
theorem tmarks_at (k n j : Nat) (h : j < (tmarks k n).length) : (tmarks k n)[j] = (((k : Int) + j) % 3 == 0) := by simp [tmarks]

set_option maxHeartbeats 1000000 in
theorem heldBoolS_any (A : Option Addr) (n c lo hi k0 : Nat) (w : World) (hn : n ≤ 1048576) (hk1 : k0 ≤ 4194304)
    (h1 : Lies w lo hi A (tcells (tmarks k0 n))) :
    Calls Try.prog 83 #[.slice A n c, .int .i64 k0] w fun e w' => e = .returned (.int .i64 ((k0 : Int) + n)) ∧ w = w' := by
  have H1 := Lib.hid h1
  clear h1
  go_enter Try.func83, Try.ntmps83
  go_wp2
  go_loop [1, 5] (fun q i => ∃ (k : Nat), k ≤ n ∧ i = .int .i64 k ∧ q = .int .i64 ((k0 : Int) + k)) (fun _ i => n - (intOf i).toNat)
  case atStart => exact ⟨0, Nat.zero_le _, rfl, by simp⟩
  case round =>
    obtain ⟨k, hk, rfl, rfl⟩ := hrel
    by_cases hlt : k < n
    · have hkl : k < (tmarks k0 n).length := by rw [tmarks_len]; exact hlt
      obtain ⟨b, off, rfl, _, hbw, c1⟩ := bool_at H1.out k hkl
      rw [tmarks_at] at c1
      have hi0 : (0 : Int) ≤ (k : Int) := Int.natCast_nonneg _
      have hi1 : (k : Int) < (n : Int) := by omega
      go_wp2
      go_round
      case rel => exact ⟨k + 1, by omega, by go_num, by congr 1⟩
      case measure => simp [intOf]; omega
    · have hkn : k = n := by omega
      subst hkn
      go_wp2
      go_ret
      exact ⟨rfl, rfl⟩

theorem tmarks_step (k0 k : Nat) (l : List Bool) (hk : k < l.length) :
    ((tcells (tmarks k0 k ++ l.drop k)).set k (.bool (((k0 : Int) + k) % 3 == 0))) = tcells (tmarks k0 (k + 1) ++ l.drop (k + 1)) := by
  have h1 : l.drop k = l[k] :: l.drop (k + 1) := List.drop_eq_getElem_cons hk
  have h2 : (tcells (tmarks k0 k)).length = k := by rw [tcells_len, tmarks_len]
  have h3 : tmarks k0 (k + 1) = tmarks k0 k ++ [((k0 : Int) + k) % 3 == 0] := by simp [tmarks, List.range_succ]
  rw [h1, h3, tcells_append, tcells_append, tcells_append]
  rw [List.set_append_right _ _ (by omega), h2, Nat.sub_self]
  simp only [tcells, List.map_cons, List.map_nil, List.set_cons_zero, List.append_assoc, List.cons_append, List.nil_append]

set_option maxHeartbeats 1000000 in
theorem markBoolS_any (A : Option Addr) (n c lo hi k0 : Nat) (l : List Bool) (w : World) (hn : n ≤ 1048576) (hk1 : k0 ≤ 4194304) (hl : l.length = n)
    (h1 : Owned w lo hi A (tcells l)) :
    Calls Try.prog 82 #[.slice A n c, .int .i64 k0] w fun e w' => e = .returned (.int .i64 ((k0 : Int) + n)) ∧ Owned w' lo hi A (tcells (tmarks k0 n)) ∧ Turned lo hi w w' := by
  have H1 := Lib.hid h1
  have HL := Lib.hid hl
  clear h1 hl
  go_enter Try.func82, Try.ntmps82
  go_wp2
  go_loopw [1, 5] (fun q i wr => ∃ (k : Nat), k ≤ n ∧ i = .int .i64 k ∧ q = .int .i64 ((k0 : Int) + k) ∧ Owned wr lo hi A (tcells (tmarks k0 k ++ l.drop k)) ∧ Turned lo hi w wr) (fun _ i _ => n - (intOf i).toNat)
  case atStart => exact ⟨0, Nat.zero_le _, rfl, by simp, H1.out, Turned.refl _ _ _⟩
  case round =>
    obtain ⟨k, hk, rfl, rfl, hown, ht⟩ := hrel
    by_cases hlt : k < n
    · have hll : k < l.length := by have := HL.out; omega
      have hkl : k < (tmarks k0 k ++ l.drop k).length := by simp [tmarks_len]; omega
      obtain ⟨b, off, rfl, hb1, hb2, c1⟩ := bool_at hown.1 k hkl
      have f1 : wr.frozen? ⟨b, off + k, none⟩ = false := hown.2 b off rfl (by rw [tcells_len]; omega) _
      have hs := hown.set k (.bool (((k0 : Int) + k) % 3 == 0))
      rw [tmarks_step k0 k l hll] at hs
      have HS := Lib.hid hs
      have hi0 : (0 : Int) ≤ (k : Int) := Int.natCast_nonneg _
      have hi1 : (k : Int) < (n : Int) := by omega
      clear hs hown
      go_wp2
      go_roundw
      case rel => exact ⟨k + 1, by omega, by go_num, by congr 1, HS.out, ht.setCell hb1 hb2 _⟩
      case measure => simp [intOf]; omega
    · have hkn : k = n := by omega
      subst hkn
      rw [List.drop_of_length_le (by have := HL.out; omega), List.append_nil] at hown
      go_wp2
      go_ret
      exact ⟨rfl, hown, ht⟩
theorem szBoolS_no (A : Option Addr) (n c : Nat) (k : Int) (w : World) (hk : 0 ≤ k) (hk1 : k ≤ 1048576) (hn : n ≤ 9223372036854775807) (h : k < n) :
    Calls Try.prog 85 #[.slice A n c, .int .i64 k] w fun e w' => e = .returned (.int .i64 (-1)) ∧ w = w' := by
  go_enter Try.func85, Try.ntmps85
  have hx : k - n < 0 := by omega
  go_wp2
  go_ret
  exact ⟨rfl, rfl⟩
theorem szBoolS_yes (A : Option Addr) (n c : Nat) (k : Int) (w : World) (hk1 : k ≤ 1048576) (h : (n : Int) ≤ k) :
    Calls Try.prog 85 #[.slice A n c, .int .i64 k] w fun e w' => e = .returned (.int .i64 (k - n)) ∧ w = w' := by
  go_enter Try.func85, Try.ntmps85
  have hx : ¬ k - n < 0 := by omega
  go_wp2
  go_ret
  exact ⟨rfl, rfl⟩
end Go.Proofs.Ytfgckkgakghenaa.Bools
