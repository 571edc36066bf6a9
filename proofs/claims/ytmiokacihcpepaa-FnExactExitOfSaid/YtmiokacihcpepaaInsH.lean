/-
  Contracts of the law package's helpers over a struct of 2 ints (Ins) and slices of it (equality, conversion, marking, looking the marks up, size), and such arguments opened; no statement about the project's code stands here. No condition.
-/
import Derived.Test.YtmiokacihcpepaaSlotArgs
import Derived.Test.YtmiokacihcpepaaDataO
import Derived.Deep.RegionHeld3
namespace Go.Proofs.Ytmiokacihcpepaa.Inss
set_option maxRecDepth 100000
open Go.ChangeShapes Go.WideShapes Go.ChangeAt Go.RowKit
open Go.Proofs.Ytmiokacihcpepaa.Base Go.Proofs.Ytmiokacihcpepaa.Mem Go.Proofs.Ytmiokacihcpepaa.Data
set_option linter.unusedVariables false
set_option linter.unusedSimpArgs false

abbrev JT := Int × Int
/-- The cells of a list of them. -/
def jcells : List JT → List Value
  | [] => []
  | p :: l => .int .i64 p.1 :: .int .i64 p.2 :: jcells l
theorem jcells_len : ∀ l, (jcells l).length = 2 * l.length
  | [] => rfl
  | p :: l => by simp [jcells, jcells_len l]; omega
theorem jcells_at0 : ∀ (l : List JT) (k : Nat) (h : k < l.length), (jcells l)[k * 2]? = some (.int .i64 l[k].1)
  | p :: l, 0, _ => rfl
  | p :: l, k + 1, h => by
    have := jcells_at0 l k (by simpa using h)
    rw [show (k + 1) * 2 = k * 2 + 1 + 1 by omega]
    simpa [jcells] using this
theorem jcells_at1 : ∀ (l : List JT) (k : Nat) (h : k < l.length), (jcells l)[k * 2 + 1]? = some (.int .i64 l[k].2)
  | p :: l, 0, _ => rfl
  | p :: l, k + 1, h => by
    have := jcells_at1 l k (by simpa using h)
    rw [show (k + 1) * 2 + 1 = k * 2 + 1 + 1 + 1 by omega]
    simpa [jcells] using this
theorem jcells_append : ∀ l m, jcells (l ++ m) = jcells l ++ jcells m
  | [], m => rfl
  | p :: l, m => by simp [jcells, jcells_append l m]
theorem jcells_one : ∀ l, ∀ u ∈ jcells l, u.oneCell' = true
  | [], u, h => by simp [jcells] at h
  | p :: l, u, h => by
    simp [jcells] at h
    rcases h with rfl | rfl | h
    · rfl
    · rfl
    · exact jcells_one l u h
theorem j_at {w : World} {lo hi : Nat} {A : Option Addr} {l : List JT} (h : Lies w lo hi A (jcells l)) (k : Nat) (hk : k < l.length) :
    ∃ b off, A = some ⟨b, off, none⟩ ∧ lo ≤ b ∧ b < hi ∧ w.cell? ⟨b, off + k * 2, none⟩ = some (.int .i64 l[k].1) ∧ w.cell? ⟨b, off + k * 2 + 1, none⟩ = some (.int .i64 l[k].2) := by
  obtain ⟨b, off, e, x, y, hc⟩ := h.at_ (by rw [jcells_len]; omega)
  exact ⟨b, off, e, x, y, hc _ _ (jcells_at0 l k hk), by rw [Nat.add_assoc]; exact hc _ _ (jcells_at1 l k hk)⟩
theorem jset {l : List JT} {k : Nat} (hk : k < l.length) (x0 x1 : Int) : ((jcells l).set (k * 2) (.int .i64 x0)).set (k * 2 + 1) (.int .i64 x1) = jcells (l.set k (x0, x1)) := by
  induction l generalizing k with
  | nil => simp at hk
  | cons p l ih => cases k with
    | zero => simp [jcells]
    | succ k =>
      have h := ih (k := k) (by simpa using hk)
      simp only [List.set_cons_succ, jcells]
      rw [← h]
      rw [show (k + 1) * 2 + 1 = k * 2 + 1 + 1 + 1 by omega]
      rw [show (k + 1) * 2 = k * 2 + 1 + 1 by omega]
      simp only [List.set_cons_succ]

set_option maxHeartbeats 1000000 in
theorem eqIns_same (x0 x1 : Int) (w : World) :
    Calls Try.prog 58 #[.agg #[.int .i64 x0, .int .i64 x1], .agg #[.int .i64 x0, .int .i64 x1]] w fun e w' => e = .returned (.bool true) ∧ Below w.heap.size w w' := by
  go_enter Try.func58, Try.ntmps58
  go_wp2
  go_ret
  exact ⟨rfl, ((Below.refl _ _).alloc (Nat.le_refl _) _).alloc (by simp) _⟩

set_option maxHeartbeats 1000000 in
theorem toIns_any (x0 x1 : Int) (w : World) :
    Calls Try.prog 56 #[.agg #[.int .i64 x0, .int .i64 x1]] w fun e w' => e = .returned (.agg #[.int .i64 x0, .int .i64 x1]) ∧ Below w.heap.size w w' := by
  go_enter Try.func56, Try.ntmps56
  go_wp2
  exact bodyPost_ret (v := .agg #[.int .i64 x0, .int .i64 x1]) (by simp [results, Try.results56, go_sem]) rfl ⟨rfl, (((Below.refl _ _).alloc (Nat.le_refl _) _).alloc (by simp) _).alloc (by simp; omega) _⟩

/-- The cells of a row may be written. -/
theorem jrow_some {w : World} {base g n c : Nat} {e : TypeId} {xs : List Value} (h : w.ownsRow base e 2 (.slice (some ⟨g, 0, none⟩) n c) n xs) {k : Nat} (hk : k < n) :
    (∃ u, w.cell? ⟨g, k * 2, none⟩ = some u) ∧ (∃ u, w.cell? ⟨g, k * 2 + 1, none⟩ = some u) ∧ w.frozen? ⟨g, k * 2, none⟩ = false ∧ w.frozen? ⟨g, k * 2 + 1, none⟩ = false := by
  have hl := h.1
  refine ⟨⟨xs[k * 2]'(by omega), ?_⟩, ⟨xs[k * 2 + 1]'(by omega), ?_⟩, h.frozenAt _, h.frozenAt _⟩
  · rw [h.cellAt _ (by omega)]; exact List.getElem?_eq_getElem _
  · rw [h.cellAt _ (by omega)]; exact List.getElem?_eq_getElem _
theorem jrow_set {w : World} {base g n c : Nat} {e : TypeId} {xs : List Value} (h : w.ownsRow base e 2 (.slice (some ⟨g, 0, none⟩) n c) n xs) (k : Nat) (u0 u1 : Value) :
    ((w.setCell ⟨g, k * 2, none⟩ u0).setCell ⟨g, k * 2 + 1, none⟩ u1).ownsRow base e 2 (.slice (some ⟨g, 0, none⟩) n c) n ((xs.set (k * 2) u0).set (k * 2 + 1) u1) :=
  (h.stored (k * 2) u0).1.stored (k * 2 + 1) u1 |>.1
theorem jtake_set {xs : List Value} {k : Nat} {l : List JT} {x0 x1 : Int} (h : xs.take (k * 2) = jcells (l.take k)) (hl : k * 2 + 1 < xs.length) (ht : l.take (k + 1) = l.take k ++ [(x0, x1)]) :
    ((xs.set (k * 2) (.int .i64 x0)).set (k * 2 + 1) (.int .i64 x1)).take ((k + 1) * 2) = jcells (l.take (k + 1)) := by
  rw [ht, jcells_append, ← h]
  rw [show (k + 1) * 2 = k * 2 + 1 + 1 by omega, List.take_succ_eq_append_getElem (by simp; omega), List.take_succ_eq_append_getElem (by simp; omega)]
  simp [jcells, List.take_set_of_le]

def InssP (w : World) (n : Nat) (l : List JT) (e : Ending) (w' : World) : Prop :=
  ∃ ad c, e = .returned (.slice (some ad) n c) ∧ n ≤ c ∧ Owned w' w.heap.size w'.heap.size (some ad) (jcells l) ∧ Below w.heap.size w w'

theorem Try.infoIns : (Try.prog.info? 89).map (fun i => (i.zero, i.size, i.bytes)) = some (some (.agg #[.int .i64 0, .int .i64 0]), 2, 16) := by kernel_rfl

set_option maxHeartbeats 2000000 in
theorem toInsS_any (A : Option Addr) (n c lo : Nat) (l : List JT) (w : World) (hn : n ≤ 1048576) (hl : l.length = n) (h1 : Lies w lo w.heap.size A (jcells l)) :
    Calls Try.prog 47 #[.slice A n c] w (InssP w n l) := by
  obtain ⟨i0, hi0, hz0, hz1, hz2⟩ := info_parts Try.infoIns
  have H1 := Lib.hid h1
  have HL := Lib.hid hl
  clear h1 hl
  obtain ⟨wm, hmk, hown, hgm⟩ := run_make_full w w.heap.size 47 89 i0 _ 2 Try.underlying47 hi0 hz0 hz1 .i64 .i64 n (by rw [hz2]; omega) (by simp only [maxLen]; omega) (Nat.le_refl _)
  have HO := Lib.hid (And.intro hown hgm)
  clear hown hgm
  go_enter Try.func47, Try.ntmps47
  go_wp2
  go_loopw [4] (fun i wr => ∃ (k : Nat) (xs : List Value), k ≤ n ∧ i = .int .i64 k ∧ xs.take (k * 2) = jcells (l.take k) ∧ wr.ownsRow w.heap.size 89 2 (.slice (some ⟨w.heap.size, 0, none⟩) n n) n xs ∧ Below w.heap.size w wr) (fun i _ => n - (intOf i).toNat)
  case atStart => exact ⟨0, _, Nat.zero_le _, rfl, by simp [jcells], HO.out.1, (Below.refl _ _).grown HO.out.2 (Nat.le_refl _) (fun _ h => by cases h)⟩
  case round =>
    obtain ⟨k, xs, hk, rfl, hxs, hown, hb⟩ := hrel
    have HX := Lib.hid hxs
    clear hxs
    by_cases hlt : k < n
    · have hkl : k < l.length := by have := HL.out; omega
      obtain ⟨b, off, rfl, _, hbw, c0, c1⟩ := j_at H1.out k hkl
      have d0 : wr.cell? ⟨b, off + k * 2, none⟩ = some (.int .i64 l[k].1) := (hb.cell hbw).trans c0
      have d1 : wr.cell? ⟨b, off + k * 2 + 1, none⟩ = some (.int .i64 l[k].2) := (hb.cell hbw).trans c1
      have hi0 : (0 : Int) ≤ (k : Int) := Int.natCast_nonneg _
      have hi1 : (k : Int) < (n : Int) := by omega
      have hT : l.take (k + 1) = l.take k ++ [(l[k].1, l[k].2)] := by rw [List.take_succ_eq_append_getElem hkl]
      have HT := Lib.hid hT
      clear hT c0 c1
      generalize l[k].1 = x0 at d0 HT
      generalize l[k].2 = x1 at d1 HT
      go_wp2_with (go_at_call 56; refine (toIns_any x0 x1 _).mono ?_; rintro e w1 ⟨rfl, hb1⟩; have hown1 := hown.kept (Slots.grown_of_below hb1 none) (.inr (by simp [Value.ownBlock])); obtain ⟨⟨u0, e0⟩, ⟨u1, e1⟩, f0, f1⟩ := jrow_some hown1 hlt)
      have hrow := jrow_set hown1 k (.int .i64 x0) (.int .i64 x1)
      have hbw2 : Below w.heap.size w ((w1.setCell ⟨w.heap.size, k * 2, none⟩ (.int .i64 x0)).setCell ⟨w.heap.size, k * 2 + 1, none⟩ (.int .i64 x1)) :=
        ((hb.trans (hb1.mono hb.size)).setCell (p := ⟨w.heap.size, k * 2, none⟩) (Nat.le_refl _) _).setCell (p := ⟨w.heap.size, k * 2 + 1, none⟩) (Nat.le_refl _) _
      have hts := jtake_set (x0 := x0) (x1 := x1) HX.out (by have := hown1.1; omega) HT.out
      go_roundw
      case rel => exact ⟨k + 1, _, by omega, by go_num, hts, hrow, hbw2⟩
      case measure => simp [intOf]; omega
    · have hkn : k = n := by omega
      subst hkn
      have hx : xs = jcells l := by
        have h1 := HX.out
        have h2 := hown.1
        rw [List.take_of_length_le (by omega), List.take_of_length_le (by have := HL.out; omega)] at h1
        exact h1
      subst hx
      go_wp2
      go_ret
      exact ⟨_, _, rfl, Nat.le_refl _, Owned.of_row hown, hb⟩

set_option maxHeartbeats 2000000 in
theorem eqInsS_same (A B : Option Addr) (n c d lo lo' hi hi' : Nat) (l : List JT) (w : World) (hn : n ≤ 1048576) (hl : l.length = n) (hh : hi ≤ w.heap.size) (hh' : hi' ≤ w.heap.size)
    (h1 : Lies w lo hi A (jcells l)) (h2 : Lies w lo' hi' B (jcells l)) :
    Calls Try.prog 51 #[.slice A n c, .slice B n d] w fun e w' => e = .returned (.bool true) ∧ Below w.heap.size w w' := by
  have H1 := Lib.hid h1
  have H2 := Lib.hid h2
  have HL := Lib.hid hl
  clear h1 h2 hl
  go_enter Try.func51, Try.ntmps51
  go_wp2
  go_loopw [5] (fun i wr => ∃ (k : Nat), k ≤ n ∧ i = .int .i64 k ∧ Below w.heap.size w wr) (fun i _ => n - (intOf i).toNat)
  case atStart => exact ⟨0, Nat.zero_le _, rfl, Below.refl _ _⟩
  case round =>
    obtain ⟨k, hk, rfl, hb⟩ := hrel
    by_cases hlt : k < n
    · have hkl : k < l.length := by have := HL.out; omega
      obtain ⟨b, off, rfl, _, hbw, c0, c1⟩ := j_at H1.out k hkl
      obtain ⟨b', off', rfl, _, hbw', g0, g1⟩ := j_at H2.out k hkl
      have d0 : wr.cell? ⟨b, off + k * 2, none⟩ = some (.int .i64 l[k].1) := (hb.cell (by show b < _; omega)).trans c0
      have e0 : wr.cell? ⟨b', off' + k * 2, none⟩ = some (.int .i64 l[k].1) := (hb.cell (by show b' < _; omega)).trans g0
      have d1 : wr.cell? ⟨b, off + k * 2 + 1, none⟩ = some (.int .i64 l[k].2) := (hb.cell (by show b < _; omega)).trans c1
      have e1 : wr.cell? ⟨b', off' + k * 2 + 1, none⟩ = some (.int .i64 l[k].2) := (hb.cell (by show b' < _; omega)).trans g1
      have hi0 : (0 : Int) ≤ (k : Int) := Int.natCast_nonneg _
      have hi1 : (k : Int) < (n : Int) := by omega
      clear c0 g0 c1 g1
      generalize l[k].1 = x0 at d0 e0
      generalize l[k].2 = x1 at d1 e1
      go_wp2
      go_still_tail 8, (by kernel_rfl)
      go_wp2_with (go_at_call 58; refine (eqIns_same x0 x1 _).mono ?_; rintro e w1 ⟨rfl, hb1⟩)
      have hbw2 : Below w.heap.size w w1 := hb.drew.trans (hb1.mono hb.size)
      clear hb1
      go_roundw
      case rel => exact ⟨k + 1, by omega, by go_num, hbw2⟩
      case measure => simp [intOf]; omega
    · go_wp2
      go_ret
      exact ⟨rfl, hb⟩

/-- The marks k, k + 1, .. -/
def jmarks (k n : Nat) : List JT := (List.range n).map fun (j : Nat) => ((k : Int) + 2 * j, (k : Int) + 2 * j + 1)
theorem jmarks_len (k n : Nat) : (jmarks k n).length = n := by simp [jmarks]
theorem jmarks_at (k n j : Nat) (h : j < (jmarks k n).length) : (jmarks k n)[j] = ((k : Int) + 2 * j, (k : Int) + 2 * j + 1) := by simp [jmarks]

theorem jmarks_step (k0 k : Nat) (l : List JT) (hk : k < l.length) :
    ((jcells (jmarks k0 k ++ l.drop k)).set (k * 2) (.int .i64 ((k0 : Int) + 2 * k))).set (k * 2 + 1) (.int .i64 ((k0 : Int) + 2 * k + 1)) = jcells (jmarks k0 (k + 1) ++ l.drop (k + 1)) := by
  have hl : k < (jmarks k0 k ++ l.drop k).length := by simp [jmarks_len]; omega
  rw [jset hl]
  congr 1
  have h1 : l.drop k = l[k] :: l.drop (k + 1) := List.drop_eq_getElem_cons hk
  have h3 : jmarks k0 (k + 1) = jmarks k0 k ++ [((k0 : Int) + 2 * k, (k0 : Int) + 2 * k + 1)] := by simp [jmarks, List.range_succ]
  rw [List.set_append_right _ _ (Nat.le_of_eq (jmarks_len _ _)), jmarks_len, Nat.sub_self, h1, h3, List.set_cons_zero, List.append_assoc]
  rfl

set_option maxHeartbeats 2000000 in
theorem markInsS_any (A : Option Addr) (n c lo hi k0 : Nat) (l : List JT) (w : World) (hn : n ≤ 1048576) (hk1 : k0 ≤ 16777216) (hl : l.length = n)
    (h1 : Owned w lo hi A (jcells l)) :
    Calls Try.prog 39 #[.slice A n c, .int .i64 k0] w fun e w' => e = .returned (.int .i64 ((k0 : Int) + 2 * n)) ∧ Owned w' lo hi A (jcells (jmarks k0 n)) ∧ Turned lo hi w w' := by
  have H1 := Lib.hid h1
  have HL := Lib.hid hl
  clear h1 hl
  go_enter Try.func39, Try.ntmps39
  go_wp2
  go_loopw [1, 5] (fun q i wr => ∃ (k : Nat), k ≤ n ∧ i = .int .i64 k ∧ q = .int .i64 ((k0 : Int) + 2 * k) ∧ Owned wr lo hi A (jcells (jmarks k0 k ++ l.drop k)) ∧ Turned lo hi w wr) (fun _ i _ => n - (intOf i).toNat)
  case atStart => exact ⟨0, Nat.zero_le _, rfl, by simp, by simpa [jmarks] using H1.out, Turned.refl _ _ _⟩
  case round =>
    obtain ⟨k, hk, rfl, rfl, hown, ht⟩ := hrel
    by_cases hlt : k < n
    · have hll : k < l.length := by have := HL.out; omega
      have hkl : k < (jmarks k0 k ++ l.drop k).length := by simp [jmarks_len]; omega
      obtain ⟨b, off, rfl, hb1, hb2, c0, c1⟩ := j_at hown.1 k hkl
      have hlen : k * 2 + 1 < (jcells (jmarks k0 k ++ l.drop k)).length := by rw [jcells_len]; omega
      have f0 : wr.frozen? ⟨b, off + k * 2, none⟩ = false := hown.2 b off rfl (by omega) _
      have f1 : wr.frozen? ⟨b, off + k * 2 + 1, none⟩ = false := hown.2 b off rfl (by omega) _
      have hs := (hown.set (k * 2) (.int .i64 ((k0 : Int) + 2 * k))).set (k * 2 + 1) (.int .i64 ((k0 : Int) + 2 * k + 1))
      rw [jmarks_step k0 k l hll] at hs
      have HS := Lib.hid hs
      have hi0 : (0 : Int) ≤ (k : Int) := Int.natCast_nonneg _
      have hi1 : (k : Int) < (n : Int) := by omega
      clear hs hown
      go_wp2
      go_roundw
      case rel => exact ⟨k + 1, by omega, by go_num, by congr 1, HS.out, (ht.setCell hb1 hb2 _).setCell hb1 hb2 _⟩
      case measure => simp [intOf]; omega
    · have hkn : k = n := by omega
      subst hkn
      rw [List.drop_of_length_le (by have := HL.out; omega), List.append_nil] at hown
      go_wp2
      go_ret
      exact ⟨rfl, hown, ht⟩

theorem szInsS_no (A : Option Addr) (n c : Nat) (k : Int) (w : World) (hk : 0 ≤ k) (hk1 : k ≤ 1048576) (hn : n ≤ 9223372036854775807) (h : k < n) :
    Calls Try.prog 45 #[.slice A n c, .int .i64 k] w fun e w' => e = .returned (.int .i64 (-1)) ∧ w = w' := by
  go_enter Try.func45, Try.ntmps45
  have hx : k - n < 0 := by omega
  go_wp2
  go_ret
  exact ⟨rfl, rfl⟩
theorem szInsS_yes (A : Option Addr) (n c : Nat) (k : Int) (w : World) (hk1 : k ≤ 1048576) (h : (n : Int) ≤ k) :
    Calls Try.prog 45 #[.slice A n c, .int .i64 k] w fun e w' => e = .returned (.int .i64 (k - n)) ∧ w = w' := by
  go_enter Try.func45, Try.ntmps45
  have hx : ¬ k - n < 0 := by omega
  go_wp2
  go_ret
  exact ⟨rfl, rfl⟩

/-! ### An argument opened -/
def wfJ (s : JT) : Prop := (Lit.int .i64 s.1).wf = true ∧ (Lit.int .i64 s.2).wf = true
def wfJL (l : List JT) : Prop := ∀ s ∈ l, wfJ s
def rIns : Rp JT := rPair rInt rInt
def rInss : Rp (List JT) := rList rIns
section
variable {w : World} {lo hi : Nat}
theorem jone_cells {s : JT} {cs : List Value} (h : rIns.rd w lo hi s cs) : cs = [.int .i64 s.1, .int .i64 s.2] := by
  obtain ⟨a0, b0, rfl, h0, h⟩ := h
  rw [show a0 = _ from h0]
  rw [show b0 = _ from h]
  rfl
theorem jall_cells : ∀ {l : List JT} {ds : List Value}, rdAll rIns w lo hi l ds → ds = jcells l
  | [], ds, h => h
  | s :: l, ds, h => by
    obtain ⟨c1, c2, rfl, h1, h2⟩ := h
    rw [jone_cells h1, jall_cells h2]
    rfl
end
theorem insCells : Try.prog.cellsOf 96 = 2 := by kernel_rfl
theorem opens_ins : Opens Try.prog rIns 96 :=
  opens_struct Try.underlying96 insCells (fields_cons (opens_int Try.underlying3) rfl Slots.intCells (fields_one (opens_int Try.underlying3) rfl Slots.intCells))
theorem opens_insts : Opens Try.prog rInss 62 := opens_list (by decide) Try.underlying62 insCells opens_ins
section
variable {H : Type} {enc : TypeId × Value → H}
theorem open_insts {W : World} {base : Nat} {v : Value} {d : DataW H} {p : List MemPlace} (hval : Value.okWide Try.prog W .any base 62 v) (h : DataW.Trod enc Try.prog W 0 (fun _ => true) true 62 v d p) :
    ∃ A n c l, v = .slice A n c ∧ n ≤ 9223372036854775807 ∧ l.length = n ∧ wfJL l ∧ Lies W 0 W.heap.size A (jcells l) := by
  obtain ⟨a1, len, cap, rfl⟩ := okWide_slice Try.underlying62 hval
  obtain ⟨fuel, hf⟩ := h
  obtain ⟨l, ⟨A, c, ds, hcs, h1, h2⟩, wl, hq⟩ := opens_insts H enc W fuel _ _ hf
  simp [Value.cells] at hcs
  obtain ⟨rfl, rfl, rfl⟩ := hcs
  have hlm : maxLen ≤ 9223372036854775807 := by decide
  exact ⟨_, _, _, l, rfl, Nat.le_trans wl hlm, rfl, fun s hs => hq s hs, jall_cells h1 ▸ h2⟩
theorem open_ins {W : World} {base : Nat} {v : Value} {d : DataW H} {p : List MemPlace} (hval : Value.okWide Try.prog W .any base 96 v) (h : DataW.Trod enc Try.prog W 0 (fun _ => true) true 96 v d p) :
    ∃ x0 x1, v = .agg #[.int .i64 x0, .int .i64 x1] ∧ wfJ (x0, x1) := by
  obtain ⟨fuel, hf⟩ := h
  obtain ⟨s, hs, wk⟩ := opens_ins H enc W fuel _ _ hf
  have hv : ∃ cs, v = .agg cs := by
    unfold Value.okWide at hval
    rw [Try.underlying96] at hval
    obtain ⟨cs, e, _⟩ := hval
    exact ⟨cs, e⟩
  obtain ⟨cs, rfl⟩ := hv
  have hcs := jone_cells hs
  simp [Value.cells] at hcs
  refine ⟨s.1, s.2, ?_, wk⟩
  rw [← Array.toArray_toList (xs := cs), hcs]
end
end Go.Proofs.Ytmiokacihcpepaa.Inss
