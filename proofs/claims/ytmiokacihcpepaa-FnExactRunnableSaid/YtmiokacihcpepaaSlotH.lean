/-
  Contracts of the law package's helpers over slots and slices of slots (equality, conversion, marking, looking the marks up, size); no statement about the project's code stands here. No condition.
-/
import Derived.Test.YtmiokacihcpepaaMem
import Derived.Test.YtmiokacihcpepaaRegion
import Derived.Deep.RegionHeld3
namespace Go.Proofs.Ytmiokacihcpepaa.Slots
set_option maxRecDepth 100000
open Go.ChangeShapes Go.WideShapes Go.ChangeAt Go.RowKit
open Go.Proofs.Ytmiokacihcpepaa.Base Go.Proofs.Ytmiokacihcpepaa.Mem

/-- The cells of a list of slots. -/
def scells : List (Int × Int) → List Value
  | [] => []
  | p :: l => .int .i64 p.1 :: .int .i64 p.2 :: scells l
theorem scells_len : ∀ l, (scells l).length = 2 * l.length
  | [] => rfl
  | p :: l => by simp [scells, scells_len l]; omega
theorem scells_fst : ∀ (l : List (Int × Int)) (k : Nat) (h : k < l.length), (scells l)[k * 2]? = some (.int .i64 l[k].1)
  | p :: l, 0, _ => rfl
  | p :: l, k + 1, h => by
    have := scells_fst l k (by simpa using h)
    rw [show (k + 1) * 2 = k * 2 + 1 + 1 by omega]
    simpa [scells] using this
theorem scells_snd : ∀ (l : List (Int × Int)) (k : Nat) (h : k < l.length), (scells l)[k * 2 + 1]? = some (.int .i64 l[k].2)
  | p :: l, 0, _ => rfl
  | p :: l, k + 1, h => by
    have := scells_snd l k (by simpa using h)
    rw [show (k + 1) * 2 + 1 = k * 2 + 1 + 1 + 1 by omega]
    simpa [scells] using this
theorem scells_append : ∀ l m, scells (l ++ m) = scells l ++ scells m
  | [], m => rfl
  | p :: l, m => by simp [scells, scells_append l m]
theorem scells_one : ∀ l, ∀ u ∈ scells l, u.oneCell' = true
  | [], u, h => by simp [scells] at h
  | p :: l, u, h => by
    simp [scells] at h
    rcases h with rfl | rfl | h
    · rfl
    · rfl
    · exact scells_one l u h
theorem slot_at {w : World} {lo hi : Nat} {A : Option Addr} {l : List (Int × Int)} (h : Lies w lo hi A (scells l)) (k : Nat) (hk : k < l.length) :
    ∃ b off, A = some ⟨b, off, none⟩ ∧ lo ≤ b ∧ b < hi ∧ w.cell? ⟨b, off + k * 2, none⟩ = some (.int .i64 l[k].1) ∧ w.cell? ⟨b, off + k * 2 + 1, none⟩ = some (.int .i64 l[k].2) := by
  obtain ⟨b, off, e, x, y, hc⟩ := h.at_ (by rw [scells_len]; omega)
  exact ⟨b, off, e, x, y, hc _ _ (scells_fst l k hk), by rw [Nat.add_assoc]; exact hc _ _ (scells_snd l k hk)⟩

set_option maxHeartbeats 1000000 in
theorem eqSlot_same (a b : Int) (w : World) :
    Calls Try.prog 59 #[.agg #[.int .i64 a, .int .i64 b], .agg #[.int .i64 a, .int .i64 b]] w fun e w' => e = .returned (.bool true) ∧ Below w.heap.size w w' := by
  go_enter Try.func59, Try.ntmps59
  go_wp2
  go_ret
  exact ⟨rfl, ((Below.refl _ _).alloc (Nat.le_refl _) _).alloc (by simp) _⟩

set_option maxHeartbeats 1000000 in
theorem toSlot_any (a b : Int) (w : World) :
    Calls Try.prog 57 #[.agg #[.int .i64 a, .int .i64 b]] w fun e w' => e = .returned (.agg #[.int .i64 a, .int .i64 b]) ∧ Below w.heap.size w w' := by
  go_enter Try.func57, Try.ntmps57
  go_wp2
  exact bodyPost_ret (v := .agg #[.int .i64 a, .int .i64 b]) (by simp [results, Try.results57, go_sem]) rfl ⟨rfl, (((Below.refl _ _).alloc (Nat.le_refl _) _).alloc (by simp) _).alloc (by simp; omega) _⟩

theorem grown_of_below {w w' : World} (h : Below w.heap.size w w') (row : Option Nat) : w.grownBy w' row := ⟨h.os, h.tape, h.output, h.size, fun i hi _ => h.block i hi⟩
/-- Two cells of a row may be written. -/
theorem row_two {w : World} {base g n c : Nat} {e : TypeId} {xs : List Value} (h : w.ownsRow base e 2 (.slice (some ⟨g, 0, none⟩) n c) n xs) {k : Nat} (hk : k < n) :
    (∃ u, w.cell? ⟨g, k * 2, none⟩ = some u) ∧ (∃ u, w.cell? ⟨g, k * 2 + 1, none⟩ = some u) ∧ w.frozen? ⟨g, k * 2, none⟩ = false ∧ w.frozen? ⟨g, k * 2 + 1, none⟩ = false := by
  have hl := h.1
  refine ⟨⟨xs[k * 2]'(by omega), ?_⟩, ⟨xs[k * 2 + 1]'(by omega), ?_⟩, h.frozenAt _, h.frozenAt _⟩
  · rw [h.cellAt _ (by omega)]; exact List.getElem?_eq_getElem _
  · rw [h.cellAt _ (by omega)]; exact List.getElem?_eq_getElem _
theorem row_set2 {w : World} {base g n c : Nat} {e : TypeId} {xs : List Value} (h : w.ownsRow base e 2 (.slice (some ⟨g, 0, none⟩) n c) n xs) (k : Nat) (u v : Value) :
    ((w.setCell ⟨g, k * 2, none⟩ u).setCell ⟨g, k * 2 + 1, none⟩ v).ownsRow base e 2 (.slice (some ⟨g, 0, none⟩) n c) n ((xs.set (k * 2) u).set (k * 2 + 1) v) :=
  ((h.stored (k * 2) u).1.stored (k * 2 + 1) v).1
theorem take_set2 {xs : List Value} {k : Nat} {l : List (Int × Int)} {x y : Int} (h : xs.take (k * 2) = scells (l.take k)) (hl : k * 2 + 1 < xs.length) (ht : l.take (k + 1) = l.take k ++ [(x, y)]) :
    ((xs.set (k * 2) (.int .i64 x)).set (k * 2 + 1) (.int .i64 y)).take ((k + 1) * 2) = scells (l.take (k + 1)) := by
  rw [ht, scells_append, ← h]
  rw [show (k + 1) * 2 = k * 2 + 1 + 1 by omega, List.take_succ_eq_append_getElem (by simp; omega), List.take_succ_eq_append_getElem (by simp; omega)]
  simp [scells, List.take_set_of_le]

def RowPost (w : World) (n : Nat) (l : List (Int × Int)) (e : Ending) (w' : World) : Prop :=
  ∃ ad c, e = .returned (.slice (some ad) n c) ∧ n ≤ c ∧ Owned w' w.heap.size w'.heap.size (some ad) (scells l) ∧ Below w.heap.size w w'

theorem Try.infoSlot : (Try.prog.info? 91).map (fun i => (i.zero, i.size, i.bytes)) = some (some (.agg #[.int .i64 0, .int .i64 0]), 2, 16) := by kernel_rfl

set_option maxHeartbeats 1000000 in
theorem toSlotS_any (A : Option Addr) (n c lo : Nat) (l : List (Int × Int)) (w : World) (hn : n ≤ 1048576) (hl : l.length = n) (h1 : Lies w lo w.heap.size A (scells l)) :
    Calls Try.prog 48 #[.slice A n c] w (RowPost w n l) := by
  obtain ⟨i0, hi0, hz0, hz1, hz2⟩ := info_parts Try.infoSlot
  have H1 := Lib.hid h1
  have HL := Lib.hid hl
  clear h1 hl
  obtain ⟨wm, hmk, hown, hgm⟩ := run_make_full w w.heap.size 48 91 i0 _ 2 Try.underlying48 hi0 hz0 hz1 .i64 .i64 n (by rw [hz2]; omega) (by simp only [maxLen]; omega) (Nat.le_refl _)
  have HO := Lib.hid (And.intro hown hgm)
  clear hown hgm
  go_enter Try.func48, Try.ntmps48
  go_wp2
  go_loopw [4] (fun i wr => ∃ (k : Nat) (xs : List Value), k ≤ n ∧ i = .int .i64 k ∧ xs.take (k * 2) = scells (l.take k) ∧ wr.ownsRow w.heap.size 91 2 (.slice (some ⟨w.heap.size, 0, none⟩) n n) n xs ∧ Below w.heap.size w wr) (fun i _ => n - (intOf i).toNat)
  case atStart => exact ⟨0, _, Nat.zero_le _, rfl, by simp [scells], HO.out.1, (Below.refl _ _).grown HO.out.2 (Nat.le_refl _) (fun _ h => by cases h)⟩
  case round =>
    obtain ⟨k, xs, hk, rfl, hxs, hown, hb⟩ := hrel
    have HX := Lib.hid hxs
    clear hxs
    by_cases hlt : k < n
    · have hkl : k < l.length := by have := HL.out; omega
      obtain ⟨b, off, rfl, _, hbw, c1, c2⟩ := slot_at H1.out k hkl
      have d1 : wr.cell? ⟨b, off + k * 2, none⟩ = some (.int .i64 l[k].1) := (hb.cell hbw).trans c1
      have d2 : wr.cell? ⟨b, off + k * 2 + 1, none⟩ = some (.int .i64 l[k].2) := (hb.cell hbw).trans c2
      have hi0 : (0 : Int) ≤ (k : Int) := Int.natCast_nonneg _
      have hi1 : (k : Int) < (n : Int) := by omega
      have hT : l.take (k + 1) = l.take k ++ [(l[k].1, l[k].2)] := by rw [List.take_succ_eq_append_getElem hkl]
      have HT := Lib.hid hT
      clear hT c1 c2
      generalize l[k].1 = x at d1 HT
      generalize l[k].2 = y at d2 HT
      go_wp2_with (go_at_call 57; refine (toSlot_any x y _).mono ?_; rintro e w1 ⟨rfl, hb1⟩; have hown1 := hown.kept (grown_of_below hb1 none) (.inr (by simp [Value.ownBlock])); obtain ⟨⟨u1, e1⟩, ⟨u2, e2⟩, f1, f2⟩ := row_two hown1 hlt)
      have hrow := row_set2 hown1 k (.int .i64 x) (.int .i64 y)
      have hbw2 : Below w.heap.size w ((w1.setCell ⟨w.heap.size, k * 2, none⟩ (.int .i64 x)).setCell ⟨w.heap.size, k * 2 + 1, none⟩ (.int .i64 y)) :=
        ((hb.trans (hb1.mono hb.size)).setCell (p := ⟨w.heap.size, k * 2, none⟩) (Nat.le_refl _) _).setCell (p := ⟨w.heap.size, k * 2 + 1, none⟩) (Nat.le_refl _) _
      have hts := take_set2 (x := x) (y := y) HX.out (by have := hown1.1; omega) HT.out
      go_roundw
      case rel => exact ⟨k + 1, _, by omega, by go_num, hts, hrow, hbw2⟩
      case measure => simp [intOf]; omega
    · have hkn : k = n := by omega
      subst hkn
      have hx : xs = scells l := by
        have h1 := HX.out
        have h2 := hown.1
        rw [List.take_of_length_le (by omega), List.take_of_length_le (by have := HL.out; omega)] at h1
        exact h1
      subst hx
      go_wp2
      go_ret
      exact ⟨_, _, rfl, Nat.le_refl _, Owned.of_row hown, hb⟩

set_option maxHeartbeats 1000000 in
theorem eqSlotS_same (A B : Option Addr) (n c d lo lo' hi hi' : Nat) (l : List (Int × Int)) (w : World) (hn : n ≤ 1048576) (hl : l.length = n) (hh : hi ≤ w.heap.size) (hh' : hi' ≤ w.heap.size)
    (h1 : Lies w lo hi A (scells l)) (h2 : Lies w lo' hi' B (scells l)) :
    Calls Try.prog 52 #[.slice A n c, .slice B n d] w fun e w' => e = .returned (.bool true) ∧ Below w.heap.size w w' := by
  have H1 := Lib.hid h1
  have H2 := Lib.hid h2
  have HL := Lib.hid hl
  clear h1 h2 hl
  go_enter Try.func52, Try.ntmps52
  go_wp2
  go_loopw [5] (fun i wr => ∃ (k : Nat), k ≤ n ∧ i = .int .i64 k ∧ Below w.heap.size w wr) (fun i _ => n - (intOf i).toNat)
  case atStart => exact ⟨0, Nat.zero_le _, rfl, Below.refl _ _⟩
  case round =>
    obtain ⟨k, hk, rfl, hb⟩ := hrel
    by_cases hlt : k < n
    · have hkl : k < l.length := by have := HL.out; omega
      obtain ⟨b, off, rfl, _, hbw, c1, c2⟩ := slot_at H1.out k hkl
      obtain ⟨b', off', rfl, _, hbw', c1', c2'⟩ := slot_at H2.out k hkl
      have d1 : wr.cell? ⟨b, off + k * 2, none⟩ = some (.int .i64 l[k].1) := (hb.cell (by show b < _; omega)).trans c1
      have d2 : wr.cell? ⟨b, off + k * 2 + 1, none⟩ = some (.int .i64 l[k].2) := (hb.cell (by show b < _; omega)).trans c2
      have e1 : wr.cell? ⟨b', off' + k * 2, none⟩ = some (.int .i64 l[k].1) := (hb.cell (by show b' < _; omega)).trans c1'
      have e2 : wr.cell? ⟨b', off' + k * 2 + 1, none⟩ = some (.int .i64 l[k].2) := (hb.cell (by show b' < _; omega)).trans c2'
      have hi0 : (0 : Int) ≤ (k : Int) := Int.natCast_nonneg _
      have hi1 : (k : Int) < (n : Int) := by omega
      clear c1 c2 c1' c2'
      generalize l[k].1 = x at d1 e1
      generalize l[k].2 = y at d2 e2
      go_wp2
      go_still_tail 8, (by kernel_rfl)
      go_wp2_with (go_at_call 59; refine (eqSlot_same x y _).mono ?_; rintro e w1 ⟨rfl, hb1⟩)
      have hbw2 : Below w.heap.size w w1 := hb.drew.trans (hb1.mono hb.size)
      clear hb1
      go_roundw
      case rel => exact ⟨k + 1, by omega, by go_num, hbw2⟩
      case measure => simp [intOf]; omega
    · go_wp2
      go_ret
      exact ⟨rfl, hb⟩

/-- The marks k, k + 1, .. -/
def smarks (k n : Nat) : List (Int × Int) := (List.range n).map fun (j : Nat) => ((k : Int) + 2 * j, (k : Int) + 2 * j + 1)
theorem smarks_len (k n : Nat) : (smarks k n).length = n := by simp [smarks]
theorem smarks_at (k n j : Nat) (h : j < (smarks k n).length) : (smarks k n)[j] = ((k : Int) + 2 * j, (k : Int) + 2 * j + 1) := by simp [smarks]

theorem smarks_step (k0 k : Nat) (l : List (Int × Int)) (hk : k < l.length) :
    (((scells (smarks k0 k ++ l.drop k)).set (k * 2) (.int .i64 ((k0 : Int) + 2 * k))).set (k * 2 + 1) (.int .i64 ((k0 : Int) + 2 * k + 1))) = scells (smarks k0 (k + 1) ++ l.drop (k + 1)) := by
  have h1 : l.drop k = l[k] :: l.drop (k + 1) := List.drop_eq_getElem_cons hk
  have h2 : (scells (smarks k0 k)).length = k * 2 := by rw [scells_len, smarks_len]; omega
  have h3 : smarks k0 (k + 1) = smarks k0 k ++ [((k0 : Int) + 2 * k, (k0 : Int) + 2 * k + 1)] := by simp [smarks, List.range_succ]
  rw [h1, h3, scells_append, scells_append, scells_append]
  rw [List.set_append_right _ _ (by omega), h2, Nat.sub_self, List.set_append_right _ _ (by omega), h2]
  simp [scells]

set_option maxHeartbeats 1000000 in
theorem markSlotS_any (A : Option Addr) (n c lo hi k0 : Nat) (l : List (Int × Int)) (w : World) (hn : n ≤ 1048576) (hk1 : k0 ≤ 4194304) (hl : l.length = n)
    (h1 : Owned w lo hi A (scells l)) :
    Calls Try.prog 40 #[.slice A n c, .int .i64 k0] w fun e w' => e = .returned (.int .i64 ((k0 : Int) + 2 * n)) ∧ Owned w' lo hi A (scells (smarks k0 n)) ∧ Turned lo hi w w' := by
  have H1 := Lib.hid h1
  have HL := Lib.hid hl
  clear h1 hl
  go_enter Try.func40, Try.ntmps40
  go_wp2
  go_loopw [1, 5] (fun q i wr => ∃ (k : Nat), k ≤ n ∧ i = .int .i64 k ∧ q = .int .i64 ((k0 : Int) + 2 * k) ∧ Owned wr lo hi A (scells (smarks k0 k ++ l.drop k)) ∧ Turned lo hi w wr) (fun _ i _ => n - (intOf i).toNat)
  case atStart => exact ⟨0, Nat.zero_le _, rfl, by simp, H1.out, Turned.refl _ _ _⟩
  case round =>
    obtain ⟨k, hk, rfl, rfl, hown, ht⟩ := hrel
    by_cases hlt : k < n
    · have hll : k < l.length := by have := HL.out; omega
      have hkl : k < (smarks k0 k ++ l.drop k).length := by simp [smarks_len]; omega
      obtain ⟨b, off, rfl, hb1, hb2, c1, c2⟩ := slot_at hown.1 k hkl
      have hlen : k * 2 + 1 < (scells (smarks k0 k ++ l.drop k)).length := by rw [scells_len]; omega
      have f1 : wr.frozen? ⟨b, off + k * 2, none⟩ = false := hown.2 b off rfl (by omega) _
      have f2 : wr.frozen? ⟨b, off + k * 2 + 1, none⟩ = false := hown.2 b off rfl (by omega) _
      have hs := (hown.set (k * 2) (.int .i64 ((k0 : Int) + 2 * k))).set (k * 2 + 1) (.int .i64 ((k0 : Int) + 2 * k + 1))
      rw [smarks_step k0 k l hll] at hs
      have HS := Lib.hid hs
      have hi0 : (0 : Int) ≤ (k : Int) := Int.natCast_nonneg _
      have hi1 : (k : Int) < (n : Int) := by omega
      clear hs hown
      go_wp2
      go_roundw
      case rel => exact ⟨k + 1, by omega, by go_num, by congr 1, HS.out, (ht.setCell hb1 hb2 _).setCell hb1 hb2 _⟩
      case measure => simp [intOf]; omega
    · have hkn : k = n := by omega
      subst hkn
      rw [List.drop_of_length_le (by have := HL.out; omega), List.append_nil] at hown
      go_wp2
      go_ret
      exact ⟨rfl, hown, ht⟩

theorem szSlotS_no (A : Option Addr) (n c : Nat) (k : Int) (w : World) (hk : 0 ≤ k) (hk1 : k ≤ 1048576) (hn : n ≤ 9223372036854775807) (h : k < n) :
    Calls Try.prog 46 #[.slice A n c, .int .i64 k] w fun e w' => e = .returned (.int .i64 (-1)) ∧ w = w' := by
  go_enter Try.func46, Try.ntmps46
  have hx : k - n < 0 := by omega
  go_wp2
  go_ret
  exact ⟨rfl, rfl⟩
theorem szSlotS_yes (A : Option Addr) (n c : Nat) (k : Int) (w : World) (hk1 : k ≤ 1048576) (h : (n : Int) ≤ k) :
    Calls Try.prog 46 #[.slice A n c, .int .i64 k] w fun e w' => e = .returned (.int .i64 (k - n)) ∧ w = w' := by
  go_enter Try.func46, Try.ntmps46
  have hx : ¬ k - n < 0 := by omega
  go_wp2
  go_ret
  exact ⟨rfl, rfl⟩
end Go.Proofs.Ytmiokacihcpepaa.Slots
