/-
  The buffer of entries: the given model's FindEntry, BufferOk and the three functions that flush. No condition beyond a buffer's length.
-/
import Derived.Test.YteoddppeajlekaaEntMath
import Derived.Test.YteoddppeajlekaaAppend
import Derived.Test.YteoddppeajlekaaUses
import Derived.Test.YteoddppeajlekaaOrd
import Derived.BigQuiet
namespace Go.Proofs.Yteoddppeajlekaa.Ents
set_option maxRecDepth 100000
open Go.ChangeShapes Go.WideShapes Go.ChangeAt Go.RowKit
open Go.Proofs.Yteoddppeajlekaa.Base Go.Proofs.Yteoddppeajlekaa.Mem Go.Proofs.Yteoddppeajlekaa.Data
set_option linter.unusedVariables false
set_option linter.unusedSimpArgs false

/-- A buffer in a row of its own is handed back. -/
def EntRow (w : World) (l : List ET) (e : Ending) (w' : World) : Prop :=
  ∃ g n cap, e = .returned (.slice (some ⟨g, 0, none⟩) n cap) ∧ l.length = n ∧ w'.ownsRow w.heap.size 37 4 (.slice (some ⟨g, 0, none⟩) n cap) n (ecells l) ∧ Below w.heap.size w w'
/-- A buffer of its own is handed back. -/
def EntsP (w : World) (l : List ET) (e : Ending) (w' : World) : Prop :=
  ∃ A n c, e = .returned (.slice A n c) ∧ l.length = n ∧ Owned w' w.heap.size w'.heap.size A (ecells l) ∧ Below w.heap.size w w'
theorem EntRow.ents {w : World} {l : List ET} (e : Ending) (w' : World) (h : EntRow w l e w') : EntsP w l e w' := by
  obtain ⟨g, n, cap, h1, h2, h3, h4⟩ := h
  exact ⟨_, n, cap, h1, h2, Owned.of_row h3, h4⟩
def EntP (w : World) (s : ET × Bool) (e : Ending) (w' : World) : Prop := e = .returned (.tuple #[.agg #[.int .i64 s.1.1, .int .i64 s.1.2.1, .int .i64 s.1.2.2.1, .int .i64 s.1.2.2.2], .bool s.2]) ∧ Below w.heap.size w w'
/-- A variable of four cells. -/
def Four (w : World) (b : Nat) (s : ET) : Prop :=
  w.cell? ⟨b, 0, none⟩ = some (.int .i64 s.1) ∧ w.cell? ⟨b, 1, none⟩ = some (.int .i64 s.2.1) ∧ w.cell? ⟨b, 2, none⟩ = some (.int .i64 s.2.2.1) ∧ w.cell? ⟨b, 3, none⟩ = some (.int .i64 s.2.2.2) ∧
  w.frozen? ⟨b, 0, none⟩ = false ∧ w.frozen? ⟨b, 1, none⟩ = false ∧ w.frozen? ⟨b, 2, none⟩ = false ∧ w.frozen? ⟨b, 3, none⟩ = false ∧ b < w.heap.size
theorem Four.new (w : World) (s : ET) (T : TypeId) : Four (w.alloc (.cells #[.int .i64 s.1, .int .i64 s.2.1, .int .i64 s.2.2.1, .int .i64 s.2.2.2] T)) w.heap.size s := by
  exact ⟨cell_of_row _ _ 0 _ _ _ (heap_alloc_new w _), cell_of_row _ _ 1 _ _ _ (heap_alloc_new w _), cell_of_row _ _ 2 _ _ _ (heap_alloc_new w _), cell_of_row _ _ 3 _ _ _ (heap_alloc_new w _),
    frozen_of_row _ _ _ _ _ (heap_alloc_new w _), frozen_of_row _ _ _ _ _ (heap_alloc_new w _), frozen_of_row _ _ _ _ _ (heap_alloc_new w _), frozen_of_row _ _ _ _ _ (heap_alloc_new w _), by simp⟩
theorem Four.below {w w' : World} {b : Nat} {s : ET} {B : Nat} (h : Four w b s) (hb : Below B w w') (hB : b + 1 ≤ B) : Four w' b s := by
  obtain ⟨h0, h1, h2, h3, f0, f1, f2, f3, hl⟩ := h
  exact ⟨(hb.cell (p := ⟨b, 0, none⟩) hB).trans h0, (hb.cell (p := ⟨b, 1, none⟩) hB).trans h1, (hb.cell (p := ⟨b, 2, none⟩) hB).trans h2, (hb.cell (p := ⟨b, 3, none⟩) hB).trans h3,
    (hb.frozen (p := ⟨b, 0, none⟩) hB).trans f0, (hb.frozen (p := ⟨b, 1, none⟩) hB).trans f1, (hb.frozen (p := ⟨b, 2, none⟩) hB).trans f2, (hb.frozen (p := ⟨b, 3, none⟩) hB).trans f3, Nat.lt_of_lt_of_le hl hb.size⟩
theorem Four.turned {w w' : World} {b lo hi : Nat} {s : ET} (h : Four w b s) (hb : ∀ k, k < w.heap.size → (k < lo ∨ hi ≤ k) → w'.heap[k]? = w.heap[k]?) (hz : w.heap.size ≤ w'.heap.size) (hd : b + 1 ≤ lo ∨ hi ≤ b) : Four w' b s := by
  obtain ⟨h0, h1, h2, h3, f0, f1, f2, f3, hl⟩ := h
  have hk := hb b hl (by omega)
  exact ⟨(World.cell?_of_block (w := w) (a := ⟨b, 0, none⟩) hk).trans h0, (World.cell?_of_block (w := w) (a := ⟨b, 1, none⟩) hk).trans h1, (World.cell?_of_block (w := w) (a := ⟨b, 2, none⟩) hk).trans h2, (World.cell?_of_block (w := w) (a := ⟨b, 3, none⟩) hk).trans h3,
    (World.frozen?_of_block (w := w) (a := ⟨b, 0, none⟩) hk).trans f0, (World.frozen?_of_block (w := w) (a := ⟨b, 1, none⟩) hk).trans f1, (World.frozen?_of_block (w := w) (a := ⟨b, 2, none⟩) hk).trans f2, (World.frozen?_of_block (w := w) (a := ⟨b, 3, none⟩) hk).trans f3, Nat.lt_of_lt_of_le hl hz⟩
theorem set_four {B : Nat} {a w : World} {b : Nat} (h : Below B a w) (hb : B ≤ b) (u v x y : Value) : Below B a ((((w.setCell ⟨b, 0, none⟩ u).setCell ⟨b, 1, none⟩ v).setCell ⟨b, 2, none⟩ x).setCell ⟨b, 3, none⟩ y) :=
  (((h.setCell (p := ⟨b, 0, none⟩) hb u).setCell (p := ⟨b, 1, none⟩) hb v).setCell (p := ⟨b, 2, none⟩) hb x).setCell (p := ⟨b, 3, none⟩) hb y

set_option maxHeartbeats 4000000 in
theorem spec_flushPr (A : Option Addr) (n c lo : Nat) (t : Int) (p : Int) (l : List ET) (w : World) (hn : n ≤ 1048576) (hl : l.length = n) (h1 : Lies w lo w.heap.size A (ecells l)) :
    Calls Try.prog 55 #[.slice A n c, .int .i64 t, .int .i64 p] w (EntRow w (flushP l t p)) := by
  obtain ⟨i0, hi0, hz0, hz1, hz2⟩ := info_parts Try.infoEntry
  have H1 := Lib.hid h1
  have HL := Lib.hid hl
  clear h1 hl
  go_enter Try.func55, Try.ntmps55
  go_wp2
  go_loopw [7, 8] (fun v i wr => ∃ (k g cap m : Nat), k ≤ n ∧ i = .int .i64 k ∧ m ≤ k ∧ v = .slice (some ⟨g, 0, none⟩) m cap ∧ (flushP (l.take k) t p).length = m ∧ wr.ownsRow w.heap.size 37 4 (.slice (some ⟨g, 0, none⟩) m cap) m (ecells (flushP (l.take k) t p)) ∧ Below w.heap.size w wr) (fun _ i _ => n - (intOf i).toNat)
  case atStart => exact ⟨0, w.heap.size, 0, 0, Nat.zero_le _, rfl, Nat.le_refl _, rfl, rfl, World.ownsRow_made w #[] 0 (Nat.le_refl _) (Nat.zero_le _) rfl, (Below.refl _ _).alloc (Nat.le_refl _) _⟩
  case round =>
    obtain ⟨k, g, cap, m, hk, rfl, hmk, rfl, hlen, hown, hb⟩ := hrel
    have HN := Lib.hid hlen
    clear hlen
    by_cases hlt : k < n
    · have hkl : k < l.length := by have := HL.out; omega
      obtain ⟨b, off, rfl, _, hbw, c0, c1, c2, c3⟩ := e_at H1.out k hkl
      have d0 := (hb.cell (p := ⟨b, off + k * 4, none⟩) hbw).trans c0
      have d1 := (hb.cell (p := ⟨b, off + k * 4 + 1, none⟩) hbw).trans c1
      have d2 := (hb.cell (p := ⟨b, off + k * 4 + 2, none⟩) hbw).trans c2
      have d3 := (hb.cell (p := ⟨b, off + k * 4 + 3, none⟩) hbw).trans c3
      have hj0 : (0 : Int) ≤ (k : Int) := Int.natCast_nonneg _
      have hj1 : (k : Int) < (n : Int) := by omega
      have hs := flushP_snoc (l.take k) l[k] t p
      rw [← List.take_succ_eq_append_getElem hkl] at hs
      clear c0 c1 c2 c3
      obtain ⟨⟨x0, x1, x2, x3⟩, hxy⟩ : ∃ s, s = l[k] := ⟨_, rfl⟩
      rw [← hxy] at d0 d1 d2 d3 hs
      dsimp only at d0 d1 d2 d3
      clear hxy
      have hbs := hb.size
      by_cases hx : x0 = t
      · have hx2 := hx.symm
        subst hx2
        by_cases hy : x1 = p
        · have hy2 := hy.symm
          subst hy2
          rw [show isE (t, p, x2, x3) t p = true by simp [isE], if_pos rfl, List.append_nil] at hs
          have HS := Lib.hid hs
          have hbW := hb
          have hownW := hown
          clear hs
          go_wp2
          go_roundw
          case rel => exact ⟨k + 1, g, cap, m, by omega, by go_num, by omega, rfl, by rw [HS.out]; exact HN.out, by rw [HS.out]; exact hownW, hbW⟩
          case measure => simp [intOf]; omega
        · have hy' : (x1 != p) = true := by simpa using hy
          rw [show isE (t, x1, x2, x3) t p = false by simpa [isE] using hy, if_neg (by simp)] at hs
          clear hy
          have HS := Lib.hid hs
          clear hs
          go_wp2_with (at_builtin; refine wpList_append_lies _ rfl _ _ 28 rfl w.heap.size 37 i0 _ 4 32 Try.underlying28 hi0 hz0 hz1 hz2 rfl (by omega) (.slice (some ⟨g, 0, none⟩) m cap) m _ rfl (hown.alloc _) ⟨wr.heap.size, 0, none⟩ 1 1 [.int .i64 t, .int .i64 x1, .int .i64 x2, .int .i64 x3] rfl rfl (World.news_of_block (heap_alloc_new wr _)) (by simp [Value.oneCell']) (by omega) (by simp only [maxLen]; omega) (by omega) (by simp; omega) (wr.heap.size + 1) (by simp) ?_; intro g' cap' w2 hown2 hgrow hat hg2)
          have hown3 : w2.ownsRow w.heap.size 37 4 (.slice (some ⟨g', 0, none⟩) (m + 1) cap') (m + 1) (ecells (flushP (l.take (k + 1)) t p)) := by rw [HS.out, ecells_append]; simpa [ecells] using hown2
          have hbw2 : Below w.heap.size w w2 := (hb.alloc (by first | omega | (simp; omega)) _).grown hgrow (by first | omega | (simp; omega)) (fun j hj => (hown.lt j hj).1)
          have hlen2 : (flushP (l.take (k + 1)) t p).length = m + 1 := by rw [HS.out]; simp [HN.out]
          have HF := Lib.hid (And.intro hown3 (And.intro hbw2 hlen2))
          clear hown2 hgrow hat hg2 hown3 hbw2 hlen2
          go_roundw
          case rel => exact ⟨k + 1, g', cap', m + 1, by omega, by go_num, by omega, rfl, HF.out.2.2, HF.out.1, HF.out.2.1⟩
          case measure => simp [intOf]; omega
      · have hx' : (x0 != t) = true := by simpa using hx
        rw [show isE (x0, x1, x2, x3) t p = false by simp [isE, hx], if_neg (by simp)] at hs
        clear hx
        have HS := Lib.hid hs
        clear hs
        go_wp2_with (at_builtin; refine wpList_append_lies _ rfl _ _ 28 rfl w.heap.size 37 i0 _ 4 32 Try.underlying28 hi0 hz0 hz1 hz2 rfl (by omega) (.slice (some ⟨g, 0, none⟩) m cap) m _ rfl (hown.alloc _) ⟨wr.heap.size, 0, none⟩ 1 1 [.int .i64 x0, .int .i64 x1, .int .i64 x2, .int .i64 x3] rfl rfl (World.news_of_block (heap_alloc_new wr _)) (by simp [Value.oneCell']) (by omega) (by simp only [maxLen]; omega) (by omega) (by simp; omega) (wr.heap.size + 1) (by simp) ?_; intro g' cap' w2 hown2 hgrow hat hg2)
        have hown3 : w2.ownsRow w.heap.size 37 4 (.slice (some ⟨g', 0, none⟩) (m + 1) cap') (m + 1) (ecells (flushP (l.take (k + 1)) t p)) := by rw [HS.out, ecells_append]; simpa [ecells] using hown2
        have hbw2 : Below w.heap.size w w2 := (hb.alloc (by first | omega | (simp; omega)) _).grown hgrow (by first | omega | (simp; omega)) (fun j hj => (hown.lt j hj).1)
        have hlen2 : (flushP (l.take (k + 1)) t p).length = m + 1 := by rw [HS.out]; simp [HN.out]
        have HF := Lib.hid (And.intro hown3 (And.intro hbw2 hlen2))
        clear hown2 hgrow hat hg2 hown3 hbw2 hlen2
        go_roundw
        case rel => exact ⟨k + 1, g', cap', m + 1, by omega, by go_num, by omega, rfl, HF.out.2.2, HF.out.1, HF.out.2.1⟩
        case measure => simp [intOf]; omega
    · have hkn : k = n := by omega
      subst hkn
      rw [List.take_of_length_le (by have := HL.out; omega)] at hown
      have hlen2 := HN.out
      rw [List.take_of_length_le (by have := HL.out; omega)] at hlen2
      have HN := Lib.hid hlen2
      clear hlen2
      go_wp2
      go_ret
      exact ⟨_, _, _, rfl, HN.out, hown, hb⟩
theorem spec_flushP (A : Option Addr) (n c lo : Nat) (t : Int) (p : Int) (l : List ET) (w : World) (hn : n ≤ 1048576) (hl : l.length = n) (h1 : Lies w lo w.heap.size A (ecells l)) :
    Calls Try.prog 55 #[.slice A n c, .int .i64 t, .int .i64 p] w (EntsP w (flushP l t p)) := (spec_flushPr A n c lo t p l w hn hl h1).mono EntRow.ents

set_option maxHeartbeats 4000000 in
theorem spec_flushTr (A : Option Addr) (n c lo : Nat) (t : Int) (l : List ET) (w : World) (hn : n ≤ 1048576) (hl : l.length = n) (h1 : Lies w lo w.heap.size A (ecells l)) :
    Calls Try.prog 46 #[.slice A n c, .int .i64 t] w (EntRow w (flushT l t)) := by
  obtain ⟨i0, hi0, hz0, hz1, hz2⟩ := info_parts Try.infoEntry
  have H1 := Lib.hid h1
  have HL := Lib.hid hl
  clear h1 hl
  go_enter Try.func46, Try.ntmps46
  go_wp2
  go_loopw [5, 6] (fun v i wr => ∃ (k g cap m : Nat), k ≤ n ∧ i = .int .i64 k ∧ m ≤ k ∧ v = .slice (some ⟨g, 0, none⟩) m cap ∧ (flushT (l.take k) t).length = m ∧ wr.ownsRow w.heap.size 37 4 (.slice (some ⟨g, 0, none⟩) m cap) m (ecells (flushT (l.take k) t)) ∧ Below w.heap.size w wr) (fun _ i _ => n - (intOf i).toNat)
  case atStart => exact ⟨0, w.heap.size, 0, 0, Nat.zero_le _, rfl, Nat.le_refl _, rfl, rfl, World.ownsRow_made w #[] 0 (Nat.le_refl _) (Nat.zero_le _) rfl, (Below.refl _ _).alloc (Nat.le_refl _) _⟩
  case round =>
    obtain ⟨k, g, cap, m, hk, rfl, hmk, rfl, hlen, hown, hb⟩ := hrel
    have HN := Lib.hid hlen
    clear hlen
    by_cases hlt : k < n
    · have hkl : k < l.length := by have := HL.out; omega
      obtain ⟨b, off, rfl, _, hbw, c0, c1, c2, c3⟩ := e_at H1.out k hkl
      have d0 := (hb.cell (p := ⟨b, off + k * 4, none⟩) hbw).trans c0
      have d1 := (hb.cell (p := ⟨b, off + k * 4 + 1, none⟩) hbw).trans c1
      have d2 := (hb.cell (p := ⟨b, off + k * 4 + 2, none⟩) hbw).trans c2
      have d3 := (hb.cell (p := ⟨b, off + k * 4 + 3, none⟩) hbw).trans c3
      have hj0 : (0 : Int) ≤ (k : Int) := Int.natCast_nonneg _
      have hj1 : (k : Int) < (n : Int) := by omega
      have hs := flushT_snoc (l.take k) l[k] t
      rw [← List.take_succ_eq_append_getElem hkl] at hs
      clear c0 c1 c2 c3
      obtain ⟨⟨x0, x1, x2, x3⟩, hxy⟩ : ∃ s, s = l[k] := ⟨_, rfl⟩
      rw [← hxy] at d0 d1 d2 d3 hs
      dsimp only at d0 d1 d2 d3
      clear hxy
      have hbs := hb.size
      by_cases hx : x0 = t
      · have hx2 := hx.symm
        subst hx2
        rw [if_pos rfl, List.append_nil] at hs
        have HS := Lib.hid hs
        have hbW := hb
        have hownW := hown
        clear hs
        go_wp2
        go_roundw
        case rel => exact ⟨k + 1, g, cap, m, by omega, by go_num, by omega, rfl, by rw [HS.out]; exact HN.out, by rw [HS.out]; exact hownW, hbW⟩
        case measure => simp [intOf]; omega
      · have hx' : (x0 != t) = true := by simpa using hx
        rw [if_neg hx] at hs
        clear hx
        have HS := Lib.hid hs
        clear hs
        go_wp2_with (at_builtin; refine wpList_append_lies _ rfl _ _ 28 rfl w.heap.size 37 i0 _ 4 32 Try.underlying28 hi0 hz0 hz1 hz2 rfl (by omega) (.slice (some ⟨g, 0, none⟩) m cap) m _ rfl (hown.alloc _) ⟨wr.heap.size, 0, none⟩ 1 1 [.int .i64 x0, .int .i64 x1, .int .i64 x2, .int .i64 x3] rfl rfl (World.news_of_block (heap_alloc_new wr _)) (by simp [Value.oneCell']) (by omega) (by simp only [maxLen]; omega) (by omega) (by simp; omega) (wr.heap.size + 1) (by simp) ?_; intro g' cap' w2 hown2 hgrow hat hg2)
        have hown3 : w2.ownsRow w.heap.size 37 4 (.slice (some ⟨g', 0, none⟩) (m + 1) cap') (m + 1) (ecells (flushT (l.take (k + 1)) t)) := by rw [HS.out, ecells_append]; simpa [ecells] using hown2
        have hbw2 : Below w.heap.size w w2 := (hb.alloc (by first | omega | (simp; omega)) _).grown hgrow (by first | omega | (simp; omega)) (fun j hj => (hown.lt j hj).1)
        have hlen2 : (flushT (l.take (k + 1)) t).length = m + 1 := by rw [HS.out]; simp [HN.out]
        have HF := Lib.hid (And.intro hown3 (And.intro hbw2 hlen2))
        clear hown2 hgrow hat hg2 hown3 hbw2 hlen2
        go_roundw
        case rel => exact ⟨k + 1, g', cap', m + 1, by omega, by go_num, by omega, rfl, HF.out.2.2, HF.out.1, HF.out.2.1⟩
        case measure => simp [intOf]; omega
    · have hkn : k = n := by omega
      subst hkn
      rw [List.take_of_length_le (by have := HL.out; omega)] at hown
      have hlen2 := HN.out
      rw [List.take_of_length_le (by have := HL.out; omega)] at hlen2
      have HN := Lib.hid hlen2
      clear hlen2
      go_wp2
      go_ret
      exact ⟨_, _, _, rfl, HN.out, hown, hb⟩
theorem spec_flushT (A : Option Addr) (n c lo : Nat) (t : Int) (l : List ET) (w : World) (hn : n ≤ 1048576) (hl : l.length = n) (h1 : Lies w lo w.heap.size A (ecells l)) :
    Calls Try.prog 46 #[.slice A n c, .int .i64 t] w (EntsP w (flushT l t)) := (spec_flushTr A n c lo t l w hn hl h1).mono EntRow.ents

end Go.Proofs.Yteoddppeajlekaa.Ents
