/-
  Contracts of the law package's helpers over a struct of 4 ints (Entry) and slices of it (equality, conversion, marking, looking the marks up, size), and such arguments opened; no statement about the project's code stands here. No condition.
-/
import Derived.Test.YteoddppeajlekaaSlotArgs
import Derived.Test.YteoddppeajlekaaDataO
import Derived.Deep.RegionHeld3
namespace Go.Proofs.Yteoddppeajlekaa.Ents
set_option maxRecDepth 100000
open Go.ChangeShapes Go.WideShapes Go.ChangeAt Go.RowKit
open Go.Proofs.Yteoddppeajlekaa.Base Go.Proofs.Yteoddppeajlekaa.Mem Go.Proofs.Yteoddppeajlekaa.Data
set_option linter.unusedVariables false
set_option linter.unusedSimpArgs false

abbrev ET := Int × Int × Int × Int
/-- The cells of a list of them. -/
def ecells : List ET → List Value
  | [] => []
  | p :: l => .int .i64 p.1 :: .int .i64 p.2.1 :: .int .i64 p.2.2.1 :: .int .i64 p.2.2.2 :: ecells l
theorem ecells_len : ∀ l, (ecells l).length = 4 * l.length
  | [] => rfl
  | p :: l => by simp [ecells, ecells_len l]; omega
theorem ecells_at0 : ∀ (l : List ET) (k : Nat) (h : k < l.length), (ecells l)[k * 4]? = some (.int .i64 l[k].1)
  | p :: l, 0, _ => rfl
  | p :: l, k + 1, h => by
    have := ecells_at0 l k (by simpa using h)
    rw [show (k + 1) * 4 = k * 4 + 1 + 1 + 1 + 1 by omega]
    simpa [ecells] using this
theorem ecells_at1 : ∀ (l : List ET) (k : Nat) (h : k < l.length), (ecells l)[k * 4 + 1]? = some (.int .i64 l[k].2.1)
  | p :: l, 0, _ => rfl
  | p :: l, k + 1, h => by
    have := ecells_at1 l k (by simpa using h)
    rw [show (k + 1) * 4 + 1 = k * 4 + 1 + 1 + 1 + 1 + 1 by omega]
    simpa [ecells] using this
theorem ecells_at2 : ∀ (l : List ET) (k : Nat) (h : k < l.length), (ecells l)[k * 4 + 2]? = some (.int .i64 l[k].2.2.1)
  | p :: l, 0, _ => rfl
  | p :: l, k + 1, h => by
    have := ecells_at2 l k (by simpa using h)
    rw [show (k + 1) * 4 + 2 = k * 4 + 2 + 1 + 1 + 1 + 1 by omega]
    simpa [ecells] using this
theorem ecells_at3 : ∀ (l : List ET) (k : Nat) (h : k < l.length), (ecells l)[k * 4 + 3]? = some (.int .i64 l[k].2.2.2)
  | p :: l, 0, _ => rfl
  | p :: l, k + 1, h => by
    have := ecells_at3 l k (by simpa using h)
    rw [show (k + 1) * 4 + 3 = k * 4 + 3 + 1 + 1 + 1 + 1 by omega]
    simpa [ecells] using this
theorem ecells_append : ∀ l m, ecells (l ++ m) = ecells l ++ ecells m
  | [], m => rfl
  | p :: l, m => by simp [ecells, ecells_append l m]
theorem ecells_one : ∀ l, ∀ u ∈ ecells l, u.oneCell' = true
  | [], u, h => by simp [ecells] at h
  | p :: l, u, h => by
    simp [ecells] at h
    rcases h with rfl | rfl | rfl | rfl | h
    · rfl
    · rfl
    · rfl
    · rfl
    · exact ecells_one l u h
theorem e_at {w : World} {lo hi : Nat} {A : Option Addr} {l : List ET} (h : Lies w lo hi A (ecells l)) (k : Nat) (hk : k < l.length) :
    ∃ b off, A = some ⟨b, off, none⟩ ∧ lo ≤ b ∧ b < hi ∧ w.cell? ⟨b, off + k * 4, none⟩ = some (.int .i64 l[k].1) ∧ w.cell? ⟨b, off + k * 4 + 1, none⟩ = some (.int .i64 l[k].2.1) ∧ w.cell? ⟨b, off + k * 4 + 2, none⟩ = some (.int .i64 l[k].2.2.1) ∧ w.cell? ⟨b, off + k * 4 + 3, none⟩ = some (.int .i64 l[k].2.2.2) := by
  obtain ⟨b, off, e, x, y, hc⟩ := h.at_ (by rw [ecells_len]; omega)
  exact ⟨b, off, e, x, y, hc _ _ (ecells_at0 l k hk), by rw [Nat.add_assoc]; exact hc _ _ (ecells_at1 l k hk), by rw [Nat.add_assoc]; exact hc _ _ (ecells_at2 l k hk), by rw [Nat.add_assoc]; exact hc _ _ (ecells_at3 l k hk)⟩
theorem eset {l : List ET} {k : Nat} (hk : k < l.length) (x0 x1 x2 x3 : Int) : ((((ecells l).set (k * 4) (.int .i64 x0)).set (k * 4 + 1) (.int .i64 x1)).set (k * 4 + 2) (.int .i64 x2)).set (k * 4 + 3) (.int .i64 x3) = ecells (l.set k (x0, x1, x2, x3)) := by
  induction l generalizing k with
  | nil => simp at hk
  | cons p l ih => cases k with
    | zero => simp [ecells]
    | succ k =>
      have h := ih (k := k) (by simpa using hk)
      simp only [List.set_cons_succ, ecells]
      rw [← h]
      rw [show (k + 1) * 4 + 3 = k * 4 + 3 + 1 + 1 + 1 + 1 by omega]
      rw [show (k + 1) * 4 + 2 = k * 4 + 2 + 1 + 1 + 1 + 1 by omega]
      rw [show (k + 1) * 4 + 1 = k * 4 + 1 + 1 + 1 + 1 + 1 by omega]
      rw [show (k + 1) * 4 = k * 4 + 1 + 1 + 1 + 1 by omega]
      simp only [List.set_cons_succ]

set_option maxHeartbeats 1000000 in
theorem eqEntry_same (x0 x1 x2 x3 : Int) (w : World) :
    Calls Try.prog 48 #[.agg #[.int .i64 x0, .int .i64 x1, .int .i64 x2, .int .i64 x3], .agg #[.int .i64 x0, .int .i64 x1, .int .i64 x2, .int .i64 x3]] w fun e w' => e = .returned (.bool true) ∧ Below w.heap.size w w' := by
  go_enter Try.func48, Try.ntmps48
  go_wp2
  go_ret
  exact ⟨rfl, ((Below.refl _ _).alloc (Nat.le_refl _) _).alloc (by simp) _⟩

set_option maxHeartbeats 1000000 in
theorem toEntry_any (x0 x1 x2 x3 : Int) (w : World) :
    Calls Try.prog 47 #[.agg #[.int .i64 x0, .int .i64 x1, .int .i64 x2, .int .i64 x3]] w fun e w' => e = .returned (.agg #[.int .i64 x0, .int .i64 x1, .int .i64 x2, .int .i64 x3]) ∧ Below w.heap.size w w' := by
  go_enter Try.func47, Try.ntmps47
  go_wp2
  exact bodyPost_ret (v := .agg #[.int .i64 x0, .int .i64 x1, .int .i64 x2, .int .i64 x3]) (by simp [results, Try.results47, go_sem]) rfl ⟨rfl, (((Below.refl _ _).alloc (Nat.le_refl _) _).alloc (by simp) _).alloc (by simp; omega) _⟩

/-- The cells of a row may be written. -/
theorem erow_some {w : World} {base g n c : Nat} {e : TypeId} {xs : List Value} (h : w.ownsRow base e 4 (.slice (some ⟨g, 0, none⟩) n c) n xs) {k : Nat} (hk : k < n) :
    (∃ u, w.cell? ⟨g, k * 4, none⟩ = some u) ∧ (∃ u, w.cell? ⟨g, k * 4 + 1, none⟩ = some u) ∧ (∃ u, w.cell? ⟨g, k * 4 + 2, none⟩ = some u) ∧ (∃ u, w.cell? ⟨g, k * 4 + 3, none⟩ = some u) ∧ w.frozen? ⟨g, k * 4, none⟩ = false ∧ w.frozen? ⟨g, k * 4 + 1, none⟩ = false ∧ w.frozen? ⟨g, k * 4 + 2, none⟩ = false ∧ w.frozen? ⟨g, k * 4 + 3, none⟩ = false := by
  have hl := h.1
  refine ⟨⟨xs[k * 4]'(by omega), ?_⟩, ⟨xs[k * 4 + 1]'(by omega), ?_⟩, ⟨xs[k * 4 + 2]'(by omega), ?_⟩, ⟨xs[k * 4 + 3]'(by omega), ?_⟩, h.frozenAt _, h.frozenAt _, h.frozenAt _, h.frozenAt _⟩
  · rw [h.cellAt _ (by omega)]; exact List.getElem?_eq_getElem _
  · rw [h.cellAt _ (by omega)]; exact List.getElem?_eq_getElem _
  · rw [h.cellAt _ (by omega)]; exact List.getElem?_eq_getElem _
  · rw [h.cellAt _ (by omega)]; exact List.getElem?_eq_getElem _
theorem erow_set {w : World} {base g n c : Nat} {e : TypeId} {xs : List Value} (h : w.ownsRow base e 4 (.slice (some ⟨g, 0, none⟩) n c) n xs) (k : Nat) (u0 u1 u2 u3 : Value) :
    ((((w.setCell ⟨g, k * 4, none⟩ u0).setCell ⟨g, k * 4 + 1, none⟩ u1).setCell ⟨g, k * 4 + 2, none⟩ u2).setCell ⟨g, k * 4 + 3, none⟩ u3).ownsRow base e 4 (.slice (some ⟨g, 0, none⟩) n c) n ((((xs.set (k * 4) u0).set (k * 4 + 1) u1).set (k * 4 + 2) u2).set (k * 4 + 3) u3) :=
  (((h.stored (k * 4) u0).1.stored (k * 4 + 1) u1).1.stored (k * 4 + 2) u2).1.stored (k * 4 + 3) u3 |>.1
theorem etake_set {xs : List Value} {k : Nat} {l : List ET} {x0 x1 x2 x3 : Int} (h : xs.take (k * 4) = ecells (l.take k)) (hl : k * 4 + 3 < xs.length) (ht : l.take (k + 1) = l.take k ++ [(x0, x1, x2, x3)]) :
    ((((xs.set (k * 4) (.int .i64 x0)).set (k * 4 + 1) (.int .i64 x1)).set (k * 4 + 2) (.int .i64 x2)).set (k * 4 + 3) (.int .i64 x3)).take ((k + 1) * 4) = ecells (l.take (k + 1)) := by
  rw [ht, ecells_append, ← h]
  rw [show (k + 1) * 4 = k * 4 + 1 + 1 + 1 + 1 by omega, List.take_succ_eq_append_getElem (by simp; omega), List.take_succ_eq_append_getElem (by simp; omega), List.take_succ_eq_append_getElem (by simp; omega), List.take_succ_eq_append_getElem (by simp; omega)]
  simp [ecells, List.take_set_of_le]

def EntrysP (w : World) (n : Nat) (l : List ET) (e : Ending) (w' : World) : Prop :=
  ∃ ad c, e = .returned (.slice (some ad) n c) ∧ n ≤ c ∧ Owned w' w.heap.size w'.heap.size (some ad) (ecells l) ∧ Below w.heap.size w w'

theorem Try.infoEntry : (Try.prog.info? 37).map (fun i => (i.zero, i.size, i.bytes)) = some (some (.agg #[.int .i64 0, .int .i64 0, .int .i64 0, .int .i64 0]), 4, 32) := by kernel_rfl

set_option maxHeartbeats 2000000 in
theorem toEntryS_any (A : Option Addr) (n c lo : Nat) (l : List ET) (w : World) (hn : n ≤ 1048576) (hl : l.length = n) (h1 : Lies w lo w.heap.size A (ecells l)) :
    Calls Try.prog 31 #[.slice A n c] w (EntrysP w n l) := by
  obtain ⟨i0, hi0, hz0, hz1, hz2⟩ := info_parts Try.infoEntry
  have H1 := Lib.hid h1
  have HL := Lib.hid hl
  clear h1 hl
  obtain ⟨wm, hmk, hown, hgm⟩ := run_make_full w w.heap.size 28 37 i0 _ 4 Try.underlying28 hi0 hz0 hz1 .i64 .i64 n (by rw [hz2]; omega) (by simp only [maxLen]; omega) (Nat.le_refl _)
  have HO := Lib.hid (And.intro hown hgm)
  clear hown hgm
  go_enter Try.func31, Try.ntmps31
  go_wp2
  go_loopw [4] (fun i wr => ∃ (k : Nat) (xs : List Value), k ≤ n ∧ i = .int .i64 k ∧ xs.take (k * 4) = ecells (l.take k) ∧ wr.ownsRow w.heap.size 37 4 (.slice (some ⟨w.heap.size, 0, none⟩) n n) n xs ∧ Below w.heap.size w wr) (fun i _ => n - (intOf i).toNat)
  case atStart => exact ⟨0, _, Nat.zero_le _, rfl, by simp [ecells], HO.out.1, (Below.refl _ _).grown HO.out.2 (Nat.le_refl _) (fun _ h => by cases h)⟩
  case round =>
    obtain ⟨k, xs, hk, rfl, hxs, hown, hb⟩ := hrel
    have HX := Lib.hid hxs
    clear hxs
    by_cases hlt : k < n
    · have hkl : k < l.length := by have := HL.out; omega
      obtain ⟨b, off, rfl, _, hbw, c0, c1, c2, c3⟩ := e_at H1.out k hkl
      have d0 : wr.cell? ⟨b, off + k * 4, none⟩ = some (.int .i64 l[k].1) := (hb.cell hbw).trans c0
      have d1 : wr.cell? ⟨b, off + k * 4 + 1, none⟩ = some (.int .i64 l[k].2.1) := (hb.cell hbw).trans c1
      have d2 : wr.cell? ⟨b, off + k * 4 + 2, none⟩ = some (.int .i64 l[k].2.2.1) := (hb.cell hbw).trans c2
      have d3 : wr.cell? ⟨b, off + k * 4 + 3, none⟩ = some (.int .i64 l[k].2.2.2) := (hb.cell hbw).trans c3
      have hi0 : (0 : Int) ≤ (k : Int) := Int.natCast_nonneg _
      have hi1 : (k : Int) < (n : Int) := by omega
      have hT : l.take (k + 1) = l.take k ++ [(l[k].1, l[k].2.1, l[k].2.2.1, l[k].2.2.2)] := by rw [List.take_succ_eq_append_getElem hkl]
      have HT := Lib.hid hT
      clear hT c0 c1 c2 c3
      generalize l[k].1 = x0 at d0 HT
      generalize l[k].2.1 = x1 at d1 HT
      generalize l[k].2.2.1 = x2 at d2 HT
      generalize l[k].2.2.2 = x3 at d3 HT
      go_wp2_with (go_at_call 47; refine (toEntry_any x0 x1 x2 x3 _).mono ?_; rintro e w1 ⟨rfl, hb1⟩; have hown1 := hown.kept (Slots.grown_of_below hb1 none) (.inr (by simp [Value.ownBlock])); obtain ⟨⟨u0, e0⟩, ⟨u1, e1⟩, ⟨u2, e2⟩, ⟨u3, e3⟩, f0, f1, f2, f3⟩ := erow_some hown1 hlt)
      have hrow := erow_set hown1 k (.int .i64 x0) (.int .i64 x1) (.int .i64 x2) (.int .i64 x3)
      have hbw2 : Below w.heap.size w ((((w1.setCell ⟨w.heap.size, k * 4, none⟩ (.int .i64 x0)).setCell ⟨w.heap.size, k * 4 + 1, none⟩ (.int .i64 x1)).setCell ⟨w.heap.size, k * 4 + 2, none⟩ (.int .i64 x2)).setCell ⟨w.heap.size, k * 4 + 3, none⟩ (.int .i64 x3)) :=
        ((((hb.trans (hb1.mono hb.size)).setCell (p := ⟨w.heap.size, k * 4, none⟩) (Nat.le_refl _) _).setCell (p := ⟨w.heap.size, k * 4 + 1, none⟩) (Nat.le_refl _) _).setCell (p := ⟨w.heap.size, k * 4 + 2, none⟩) (Nat.le_refl _) _).setCell (p := ⟨w.heap.size, k * 4 + 3, none⟩) (Nat.le_refl _) _
      have hts := etake_set (x0 := x0) (x1 := x1) (x2 := x2) (x3 := x3) HX.out (by have := hown1.1; omega) HT.out
      go_roundw
      case rel => exact ⟨k + 1, _, by omega, by go_num, hts, hrow, hbw2⟩
      case measure => simp [intOf]; omega
    · have hkn : k = n := by omega
      subst hkn
      have hx : xs = ecells l := by
        have h1 := HX.out
        have h2 := hown.1
        rw [List.take_of_length_le (by omega), List.take_of_length_le (by have := HL.out; omega)] at h1
        exact h1
      subst hx
      go_wp2
      go_ret
      exact ⟨_, _, rfl, Nat.le_refl _, Owned.of_row hown, hb⟩

set_option maxHeartbeats 2000000 in
theorem eqEntryS_same (A B : Option Addr) (n c d lo lo' hi hi' : Nat) (l : List ET) (w : World) (hn : n ≤ 1048576) (hl : l.length = n) (hh : hi ≤ w.heap.size) (hh' : hi' ≤ w.heap.size)
    (h1 : Lies w lo hi A (ecells l)) (h2 : Lies w lo' hi' B (ecells l)) :
    Calls Try.prog 32 #[.slice A n c, .slice B n d] w fun e w' => e = .returned (.bool true) ∧ Below w.heap.size w w' := by
  have H1 := Lib.hid h1
  have H2 := Lib.hid h2
  have HL := Lib.hid hl
  clear h1 h2 hl
  go_enter Try.func32, Try.ntmps32
  go_wp2
  go_loopw [5] (fun i wr => ∃ (k : Nat), k ≤ n ∧ i = .int .i64 k ∧ Below w.heap.size w wr) (fun i _ => n - (intOf i).toNat)
  case atStart => exact ⟨0, Nat.zero_le _, rfl, Below.refl _ _⟩
  case round =>
    obtain ⟨k, hk, rfl, hb⟩ := hrel
    by_cases hlt : k < n
    · have hkl : k < l.length := by have := HL.out; omega
      obtain ⟨b, off, rfl, _, hbw, c0, c1, c2, c3⟩ := e_at H1.out k hkl
      obtain ⟨b', off', rfl, _, hbw', g0, g1, g2, g3⟩ := e_at H2.out k hkl
      have d0 : wr.cell? ⟨b, off + k * 4, none⟩ = some (.int .i64 l[k].1) := (hb.cell (by show b < _; omega)).trans c0
      have e0 : wr.cell? ⟨b', off' + k * 4, none⟩ = some (.int .i64 l[k].1) := (hb.cell (by show b' < _; omega)).trans g0
      have d1 : wr.cell? ⟨b, off + k * 4 + 1, none⟩ = some (.int .i64 l[k].2.1) := (hb.cell (by show b < _; omega)).trans c1
      have e1 : wr.cell? ⟨b', off' + k * 4 + 1, none⟩ = some (.int .i64 l[k].2.1) := (hb.cell (by show b' < _; omega)).trans g1
      have d2 : wr.cell? ⟨b, off + k * 4 + 2, none⟩ = some (.int .i64 l[k].2.2.1) := (hb.cell (by show b < _; omega)).trans c2
      have e2 : wr.cell? ⟨b', off' + k * 4 + 2, none⟩ = some (.int .i64 l[k].2.2.1) := (hb.cell (by show b' < _; omega)).trans g2
      have d3 : wr.cell? ⟨b, off + k * 4 + 3, none⟩ = some (.int .i64 l[k].2.2.2) := (hb.cell (by show b < _; omega)).trans c3
      have e3 : wr.cell? ⟨b', off' + k * 4 + 3, none⟩ = some (.int .i64 l[k].2.2.2) := (hb.cell (by show b' < _; omega)).trans g3
      have hi0 : (0 : Int) ≤ (k : Int) := Int.natCast_nonneg _
      have hi1 : (k : Int) < (n : Int) := by omega
      clear c0 g0 c1 g1 c2 g2 c3 g3
      generalize l[k].1 = x0 at d0 e0
      generalize l[k].2.1 = x1 at d1 e1
      generalize l[k].2.2.1 = x2 at d2 e2
      generalize l[k].2.2.2 = x3 at d3 e3
      go_wp2
      go_still_tail 8, (by kernel_rfl)
      go_wp2_with (go_at_call 48; refine (eqEntry_same x0 x1 x2 x3 _).mono ?_; rintro e w1 ⟨rfl, hb1⟩)
      have hbw2 : Below w.heap.size w w1 := hb.drew.trans (hb1.mono hb.size)
      clear hb1
      go_roundw
      case rel => exact ⟨k + 1, by omega, by go_num, hbw2⟩
      case measure => simp [intOf]; omega
    · go_wp2
      go_ret
      exact ⟨rfl, hb⟩

/-- The marks k, k + 1, .. -/
def emarks (k n : Nat) : List ET := (List.range n).map fun (j : Nat) => ((k : Int) + 4 * j, (k : Int) + 4 * j + 1, (k : Int) + 4 * j + 2, (k : Int) + 4 * j + 3)
theorem emarks_len (k n : Nat) : (emarks k n).length = n := by simp [emarks]
theorem emarks_at (k n j : Nat) (h : j < (emarks k n).length) : (emarks k n)[j] = ((k : Int) + 4 * j, (k : Int) + 4 * j + 1, (k : Int) + 4 * j + 2, (k : Int) + 4 * j + 3) := by simp [emarks]

set_option maxHeartbeats 2000000 in
theorem heldEntryS_any (A : Option Addr) (n c lo hi k0 : Nat) (w : World) (hn : n ≤ 1048576) (hk1 : k0 ≤ 16777216)
    (h1 : Lies w lo hi A (ecells (emarks k0 n))) :
    Calls Try.prog 34 #[.slice A n c, .int .i64 k0] w fun e w' => e = .returned (.int .i64 ((k0 : Int) + 4 * n)) ∧ w = w' := by
  have H1 := Lib.hid h1
  clear h1
  go_enter Try.func34, Try.ntmps34
  go_wp2
  go_loop [1, 5] (fun q i => ∃ (k : Nat), k ≤ n ∧ i = .int .i64 k ∧ q = .int .i64 ((k0 : Int) + 4 * k)) (fun _ i => n - (intOf i).toNat)
  case atStart => exact ⟨0, Nat.zero_le _, rfl, by simp⟩
  case round =>
    obtain ⟨k, hk, rfl, rfl⟩ := hrel
    by_cases hlt : k < n
    · have hkl : k < (emarks k0 n).length := by rw [emarks_len]; exact hlt
      obtain ⟨b, off, rfl, _, hbw, c0, c1, c2, c3⟩ := e_at H1.out k hkl
      rw [emarks_at] at c0 c1 c2 c3
      dsimp only at c0 c1 c2 c3
      have hi0 : (0 : Int) ≤ (k : Int) := Int.natCast_nonneg _
      have hi1 : (k : Int) < (n : Int) := by omega
      go_wp2
      go_round
      case rel => exact ⟨k + 1, by omega, by go_num, by congr 1⟩
      case measure => simp [intOf]; omega
    · have hkn : k = n := by omega
      subst hkn
      go_wp2
      go_ret
      exact ⟨rfl, rfl⟩

theorem emarks_step (k0 k : Nat) (l : List ET) (hk : k < l.length) :
    ((((ecells (emarks k0 k ++ l.drop k)).set (k * 4) (.int .i64 ((k0 : Int) + 4 * k))).set (k * 4 + 1) (.int .i64 ((k0 : Int) + 4 * k + 1))).set (k * 4 + 2) (.int .i64 ((k0 : Int) + 4 * k + 2))).set (k * 4 + 3) (.int .i64 ((k0 : Int) + 4 * k + 3)) = ecells (emarks k0 (k + 1) ++ l.drop (k + 1)) := by
  have hl : k < (emarks k0 k ++ l.drop k).length := by simp [emarks_len]; omega
  rw [eset hl]
  congr 1
  have h1 : l.drop k = l[k] :: l.drop (k + 1) := List.drop_eq_getElem_cons hk
  have h3 : emarks k0 (k + 1) = emarks k0 k ++ [((k0 : Int) + 4 * k, (k0 : Int) + 4 * k + 1, (k0 : Int) + 4 * k + 2, (k0 : Int) + 4 * k + 3)] := by simp [emarks, List.range_succ]
  rw [List.set_append_right _ _ (Nat.le_of_eq (emarks_len _ _)), emarks_len, Nat.sub_self, h1, h3, List.set_cons_zero, List.append_assoc]
  rfl

set_option maxHeartbeats 2000000 in
theorem markEntryS_any (A : Option Addr) (n c lo hi k0 : Nat) (l : List ET) (w : World) (hn : n ≤ 1048576) (hk1 : k0 ≤ 16777216) (hl : l.length = n)
    (h1 : Owned w lo hi A (ecells l)) :
    Calls Try.prog 33 #[.slice A n c, .int .i64 k0] w fun e w' => e = .returned (.int .i64 ((k0 : Int) + 4 * n)) ∧ Owned w' lo hi A (ecells (emarks k0 n)) ∧ Turned lo hi w w' := by
  have H1 := Lib.hid h1
  have HL := Lib.hid hl
  clear h1 hl
  go_enter Try.func33, Try.ntmps33
  go_wp2
  go_loopw [1, 5] (fun q i wr => ∃ (k : Nat), k ≤ n ∧ i = .int .i64 k ∧ q = .int .i64 ((k0 : Int) + 4 * k) ∧ Owned wr lo hi A (ecells (emarks k0 k ++ l.drop k)) ∧ Turned lo hi w wr) (fun _ i _ => n - (intOf i).toNat)
  case atStart => exact ⟨0, Nat.zero_le _, rfl, by simp, by simpa [emarks] using H1.out, Turned.refl _ _ _⟩
  case round =>
    obtain ⟨k, hk, rfl, rfl, hown, ht⟩ := hrel
    by_cases hlt : k < n
    · have hll : k < l.length := by have := HL.out; omega
      have hkl : k < (emarks k0 k ++ l.drop k).length := by simp [emarks_len]; omega
      obtain ⟨b, off, rfl, hb1, hb2, c0, c1, c2, c3⟩ := e_at hown.1 k hkl
      have hlen : k * 4 + 3 < (ecells (emarks k0 k ++ l.drop k)).length := by rw [ecells_len]; omega
      have f0 : wr.frozen? ⟨b, off + k * 4, none⟩ = false := hown.2 b off rfl (by omega) _
      have f1 : wr.frozen? ⟨b, off + k * 4 + 1, none⟩ = false := hown.2 b off rfl (by omega) _
      have f2 : wr.frozen? ⟨b, off + k * 4 + 2, none⟩ = false := hown.2 b off rfl (by omega) _
      have f3 : wr.frozen? ⟨b, off + k * 4 + 3, none⟩ = false := hown.2 b off rfl (by omega) _
      have hs := (((hown.set (k * 4) (.int .i64 ((k0 : Int) + 4 * k))).set (k * 4 + 1) (.int .i64 ((k0 : Int) + 4 * k + 1))).set (k * 4 + 2) (.int .i64 ((k0 : Int) + 4 * k + 2))).set (k * 4 + 3) (.int .i64 ((k0 : Int) + 4 * k + 3))
      rw [emarks_step k0 k l hll] at hs
      have HS := Lib.hid hs
      have hi0 : (0 : Int) ≤ (k : Int) := Int.natCast_nonneg _
      have hi1 : (k : Int) < (n : Int) := by omega
      clear hs hown
      go_wp2
      go_roundw
      case rel => exact ⟨k + 1, by omega, by go_num, by congr 1, HS.out, (((ht.setCell hb1 hb2 _).setCell hb1 hb2 _).setCell hb1 hb2 _).setCell hb1 hb2 _⟩
      case measure => simp [intOf]; omega
    · have hkn : k = n := by omega
      subst hkn
      rw [List.drop_of_length_le (by have := HL.out; omega), List.append_nil] at hown
      go_wp2
      go_ret
      exact ⟨rfl, hown, ht⟩

theorem szEntryS_no (A : Option Addr) (n c : Nat) (k : Int) (w : World) (hk : 0 ≤ k) (hk1 : k ≤ 1048576) (hn : n ≤ 9223372036854775807) (h : k < n) :
    Calls Try.prog 30 #[.slice A n c, .int .i64 k] w fun e w' => e = .returned (.int .i64 (-1)) ∧ w = w' := by
  go_enter Try.func30, Try.ntmps30
  have hx : k - n < 0 := by omega
  go_wp2
  go_ret
  exact ⟨rfl, rfl⟩
theorem szEntryS_yes (A : Option Addr) (n c : Nat) (k : Int) (w : World) (hk1 : k ≤ 1048576) (h : (n : Int) ≤ k) :
    Calls Try.prog 30 #[.slice A n c, .int .i64 k] w fun e w' => e = .returned (.int .i64 (k - n)) ∧ w = w' := by
  go_enter Try.func30, Try.ntmps30
  have hx : ¬ k - n < 0 := by omega
  go_wp2
  go_ret
  exact ⟨rfl, rfl⟩

/-! ### An argument opened -/
def wfE (s : ET) : Prop := (Lit.int .i64 s.1).wf = true ∧ (Lit.int .i64 s.2.1).wf = true ∧ (Lit.int .i64 s.2.2.1).wf = true ∧ (Lit.int .i64 s.2.2.2).wf = true
def wfEL (l : List ET) : Prop := ∀ s ∈ l, wfE s
def rEntry : Rp ET := rPair rInt (rPair rInt (rPair rInt rInt))
def rEntrys : Rp (List ET) := rList rEntry
section
variable {w : World} {lo hi : Nat}
theorem eone_cells {s : ET} {cs : List Value} (h : rEntry.rd w lo hi s cs) : cs = [.int .i64 s.1, .int .i64 s.2.1, .int .i64 s.2.2.1, .int .i64 s.2.2.2] := by
  obtain ⟨a0, b0, rfl, h0, h⟩ := h
  obtain ⟨a1, b1, rfl, h1, h⟩ := h
  obtain ⟨a2, b2, rfl, h2, h⟩ := h
  rw [show a0 = _ from h0]
  rw [show a1 = _ from h1]
  rw [show a2 = _ from h2]
  rw [show b2 = _ from h]
  rfl
theorem eall_cells : ∀ {l : List ET} {ds : List Value}, rdAll rEntry w lo hi l ds → ds = ecells l
  | [], ds, h => h
  | s :: l, ds, h => by
    obtain ⟨c1, c2, rfl, h1, h2⟩ := h
    rw [eone_cells h1, eall_cells h2]
    rfl
end
theorem entryCells : Try.prog.cellsOf 61 = 4 := by kernel_rfl
theorem opens_entry : Opens Try.prog rEntry 61 :=
  opens_struct Try.underlying61 entryCells (fields_cons (opens_int Try.underlying3) rfl Slots.intCells (fields_cons (opens_int Try.underlying3) rfl Slots.intCells (fields_cons (opens_int Try.underlying3) rfl Slots.intCells (fields_one (opens_int Try.underlying3) rfl Slots.intCells))))
theorem opens_entries : Opens Try.prog rEntrys 42 := opens_list (by decide) Try.underlying42 entryCells opens_entry
section
variable {H : Type} {enc : TypeId × Value → H}
theorem open_entries {W : World} {base : Nat} {v : Value} {d : DataW H} {p : List MemPlace} (hval : Value.okWide Try.prog W .any base 42 v) (h : DataW.Trod enc Try.prog W 0 (fun _ => true) true 42 v d p) :
    ∃ A n c l, v = .slice A n c ∧ n ≤ 9223372036854775807 ∧ l.length = n ∧ wfEL l ∧ Lies W 0 W.heap.size A (ecells l) := by
  obtain ⟨a1, len, cap, rfl⟩ := okWide_slice Try.underlying42 hval
  obtain ⟨fuel, hf⟩ := h
  obtain ⟨l, ⟨A, c, ds, hcs, h1, h2⟩, wl, hq⟩ := opens_entries H enc W fuel _ _ hf
  simp [Value.cells] at hcs
  obtain ⟨rfl, rfl, rfl⟩ := hcs
  have hlm : maxLen ≤ 9223372036854775807 := by decide
  exact ⟨_, _, _, l, rfl, Nat.le_trans wl hlm, rfl, fun s hs => hq s hs, eall_cells h1 ▸ h2⟩
theorem open_entry {W : World} {base : Nat} {v : Value} {d : DataW H} {p : List MemPlace} (hval : Value.okWide Try.prog W .any base 61 v) (h : DataW.Trod enc Try.prog W 0 (fun _ => true) true 61 v d p) :
    ∃ x0 x1 x2 x3, v = .agg #[.int .i64 x0, .int .i64 x1, .int .i64 x2, .int .i64 x3] ∧ wfE (x0, x1, x2, x3) := by
  obtain ⟨fuel, hf⟩ := h
  obtain ⟨s, hs, wk⟩ := opens_entry H enc W fuel _ _ hf
  have hv : ∃ cs, v = .agg cs := by
    unfold Value.okWide at hval
    rw [Try.underlying61] at hval
    obtain ⟨cs, e, _⟩ := hval
    exact ⟨cs, e⟩
  obtain ⟨cs, rfl⟩ := hv
  have hcs := eone_cells hs
  simp [Value.cells] at hcs
  refine ⟨s.1, s.2.1, s.2.2.1, s.2.2.2, ?_, wk⟩
  rw [← Array.toArray_toList (xs := cs), hcs]
end
end Go.Proofs.Yteoddppeajlekaa.Ents
