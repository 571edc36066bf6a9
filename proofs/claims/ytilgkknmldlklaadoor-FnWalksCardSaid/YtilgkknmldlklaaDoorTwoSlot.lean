/-
  Composition of page tables: ComposeSlot of the project; ComposeSlot, Compose and Restrict of the given model. No condition beyond a table's length and its numbers being of an int's range.
-/
import Derived.Test.YtilgkknmldlklaaDoorTwoImpl
namespace Go.Proofs.YtilgkknmldlklaaDoor.Slots
set_option maxRecDepth 100000
open Go.ChangeShapes Go.WideShapes Go.ChangeAt Go.RowKit
open Go.Proofs.YtilgkknmldlklaaDoor.Base Go.Proofs.YtilgkknmldlklaaDoor.Mem Go.Proofs.YtilgkknmldlklaaDoor.Ints
set_option linter.unusedVariables false

/-- The three ways of a composed slot. -/
theorem compS_cases (p r : Int) (o : List Sl) : (p = -1 ∧ compS (p, r) o = (-1, 0)) ∨ (p ≠ -1 ∧ (atS o p).1 = -1 ∧ compS (p, r) o = (-1, 0)) ∨
    (p ≠ -1 ∧ (atS o p).1 ≠ -1 ∧ Rights.both r (atS o p).2 = 0 ∧ compS (p, r) o = (-1, 0)) ∨ (p ≠ -1 ∧ (atS o p).1 ≠ -1 ∧ Rights.both r (atS o p).2 ≠ 0 ∧ compS (p, r) o = ((atS o p).1, Rights.both r (atS o p).2)) := by
  by_cases h0 : p = -1
  · subst h0
    exact .inl ⟨rfl, by unfold compS; rw [show atS o (-1) = (-1, 0) from atS_out (by omega)]; rfl⟩
  · by_cases h1 : (atS o p).1 = -1
    · exact .inr (.inl ⟨h0, h1, by unfold compS; rw [if_pos h1]⟩)
    · by_cases h2 : Rights.both r (atS o p).2 = 0
      · exact .inr (.inr (.inl ⟨h0, h1, h2, by unfold compS; rw [if_neg h1, h2]; rfl⟩))
      · exact .inr (.inr (.inr ⟨h0, h1, h2, by unfold compS; rw [if_neg h1]; exact grantS_no h2⟩))

set_option maxHeartbeats 2000000 in
theorem spec_compSlot (B : Option Addr) (n' d : Nat) (p r : Int) (o : List Sl) (w : World) (hn' : n' ≤ 1048576) (ho : o.length = n')
    (h2 : Lies w 0 w.heap.size B (scells o)) :
    Calls Tryd.prog 43 #[.agg #[.int .i64 p, .int .i64 r], .slice B n' d] w (AtPost w (compS (p, r) o)) := by
  obtain ⟨t1, t2, hb2⟩ := two_two w (.int .i64 p) (.int .i64 r) (.int .i64 0) (.int .i64 0) 39 39
  have hK := spec_at B n' d 0 p o ((w.alloc (.cells #[.int .i64 p, .int .i64 r] 39)).alloc (.cells #[.int .i64 0, .int .i64 0] 39)) hn' ho ((h2.below hb2 (Nat.le_refl _)).wide (Nat.le_refl _) hb2.size)
  clear h2 ho
  have hcs := compS_cases p r o
  generalize compS (p, r) o = z at hcs ⊢
  generalize atS o p = s at hK hcs
  obtain ⟨x, y⟩ := s
  dsimp only at hcs
  have hB := fun V : World => Rights.spec_both r y V
  generalize Rights.both r y = v at hB hcs
  have HB := Lib.hid hB
  have HK := Lib.hid hK
  clear hB hK
  rcases hcs with ⟨rfl, rfl⟩ | ⟨h0, rfl, rfl⟩ | ⟨h0, h1, rfl, rfl⟩ | ⟨h0, h1, h2, rfl⟩
  · skip
    go_enter Tryd.func43, Tryd.ntmps43
    go_wp2_with fail
    generalize (w.alloc (.cells #[.int .i64 (-1), .int .i64 r] 39)).alloc (.cells #[.int .i64 0, .int .i64 0] 39) = W2 at t1 t2 hb2 HK ⊢
    refine (HK.out).mono ?_
    rintro e w1 ⟨rfl, hb1⟩
    have hB1 := Lib.hid ((btr hb2 hb1).alloc (btr hb2 hb1).size (.cells #[.int .i64 x, .int .i64 y] 39))
    have hs1 := (btr hb2 hb1).size
    obtain ⟨p0, p1, _, _, hpl⟩ := (t1.below hb1).alloc (.cells #[.int .i64 x, .int .i64 y] 39)
    have t2' := Lib.hid ((t2.below hb1).alloc (.cells #[.int .i64 x, .int .i64 y] 39))
    obtain ⟨x0, x1, _, _, hxl⟩ := Two.new w1 (.int .i64 x) (.int .i64 y) 39
    have hsz2 : W2.heap.size ≤ w1.heap.size := hb1.size
    have hlt2 := t2.2.2.2.2
    clear t1 t2 hb1 hb2
    go_wp2_with fail
    refine (HB.out _).mono ?_
    rintro e w' ⟨rfl, rfl⟩
    go_wp2_with fail
    refine (spec_no _).mono ?_
    rintro e w4 ⟨rfl, hb4⟩
    obtain ⟨j0, j1, f0, f1, hjl⟩ := t2'.out.below hb4
    have HB4 := Lib.hid (btr hB1.out hb4)
    clear hb4
    go_wp2
    exact bodyPost_ret (v := .agg #[.int .i64 (-1), .int .i64 0]) (by simp [results, Tryd.results43, go_sem, j0, j1]) rfl ⟨rfl, set_two HB4.out (by omega) _ _⟩
  · have h0' : (p == -1) = false := by simpa using h0
    clear h0
    go_enter Tryd.func43, Tryd.ntmps43
    go_wp2_with fail
    generalize (w.alloc (.cells #[.int .i64 p, .int .i64 r] 39)).alloc (.cells #[.int .i64 0, .int .i64 0] 39) = W2 at t1 t2 hb2 HK ⊢
    refine (HK.out).mono ?_
    rintro e w1 ⟨rfl, hb1⟩
    have hB1 := Lib.hid ((btr hb2 hb1).alloc (btr hb2 hb1).size (.cells #[.int .i64 (-1), .int .i64 y] 39))
    have hs1 := (btr hb2 hb1).size
    obtain ⟨p0, p1, _, _, hpl⟩ := (t1.below hb1).alloc (.cells #[.int .i64 (-1), .int .i64 y] 39)
    have t2' := Lib.hid ((t2.below hb1).alloc (.cells #[.int .i64 (-1), .int .i64 y] 39))
    obtain ⟨x0, x1, _, _, hxl⟩ := Two.new w1 (.int .i64 (-1)) (.int .i64 y) 39
    have hsz2 : W2.heap.size ≤ w1.heap.size := hb1.size
    have hlt2 := t2.2.2.2.2
    clear t1 t2 hb1 hb2
    go_wp2_with fail
    refine (HB.out _).mono ?_
    rintro e w' ⟨rfl, rfl⟩
    go_wp2_with fail
    refine (spec_no _).mono ?_
    rintro e w4 ⟨rfl, hb4⟩
    obtain ⟨j0, j1, f0, f1, hjl⟩ := t2'.out.below hb4
    have HB4 := Lib.hid (btr hB1.out hb4)
    clear hb4
    go_wp2
    exact bodyPost_ret (v := .agg #[.int .i64 (-1), .int .i64 0]) (by simp [results, Tryd.results43, go_sem, j0, j1]) rfl ⟨rfl, set_two HB4.out (by omega) _ _⟩
  · have h0' : (p == -1) = false := by simpa using h0
    have h1' : (x == -1) = false := by simpa using h1
    clear h0 h1
    go_enter Tryd.func43, Tryd.ntmps43
    go_wp2_with fail
    generalize (w.alloc (.cells #[.int .i64 p, .int .i64 r] 39)).alloc (.cells #[.int .i64 0, .int .i64 0] 39) = W2 at t1 t2 hb2 HK ⊢
    refine (HK.out).mono ?_
    rintro e w1 ⟨rfl, hb1⟩
    have hB1 := Lib.hid ((btr hb2 hb1).alloc (btr hb2 hb1).size (.cells #[.int .i64 x, .int .i64 y] 39))
    have hs1 := (btr hb2 hb1).size
    obtain ⟨p0, p1, _, _, hpl⟩ := (t1.below hb1).alloc (.cells #[.int .i64 x, .int .i64 y] 39)
    have t2' := Lib.hid ((t2.below hb1).alloc (.cells #[.int .i64 x, .int .i64 y] 39))
    obtain ⟨x0, x1, _, _, hxl⟩ := Two.new w1 (.int .i64 x) (.int .i64 y) 39
    have hsz2 : W2.heap.size ≤ w1.heap.size := hb1.size
    have hlt2 := t2.2.2.2.2
    clear t1 t2 hb1 hb2
    go_wp2_with fail
    refine (HB.out _).mono ?_
    rintro e w' ⟨rfl, rfl⟩
    go_wp2_with fail
    refine (spec_no _).mono ?_
    rintro e w4 ⟨rfl, hb4⟩
    obtain ⟨j0, j1, f0, f1, hjl⟩ := t2'.out.below hb4
    have HB4 := Lib.hid (btr hB1.out hb4)
    clear hb4
    go_wp2
    exact bodyPost_ret (v := .agg #[.int .i64 (-1), .int .i64 0]) (by simp [results, Tryd.results43, go_sem, j0, j1]) rfl ⟨rfl, set_two HB4.out (by omega) _ _⟩
  · have h0' : (p == -1) = false := by simpa using h0
    have h1' : (x == -1) = false := by simpa using h1
    have h2' : (v == 0) = false := by simpa using h2
    clear h0 h1 h2
    go_enter Tryd.func43, Tryd.ntmps43
    go_wp2_with fail
    generalize (w.alloc (.cells #[.int .i64 p, .int .i64 r] 39)).alloc (.cells #[.int .i64 0, .int .i64 0] 39) = W2 at t1 t2 hb2 HK ⊢
    refine (HK.out).mono ?_
    rintro e w1 ⟨rfl, hb1⟩
    have hB1 := Lib.hid ((btr hb2 hb1).alloc (btr hb2 hb1).size (.cells #[.int .i64 x, .int .i64 y] 39))
    have hs1 := (btr hb2 hb1).size
    obtain ⟨p0, p1, _, _, hpl⟩ := (t1.below hb1).alloc (.cells #[.int .i64 x, .int .i64 y] 39)
    have t2' := Lib.hid ((t2.below hb1).alloc (.cells #[.int .i64 x, .int .i64 y] 39))
    obtain ⟨x0, x1, _, _, hxl⟩ := Two.new w1 (.int .i64 x) (.int .i64 y) 39
    have hsz2 : W2.heap.size ≤ w1.heap.size := hb1.size
    have hlt2 := t2.2.2.2.2
    clear t1 t2 hb1 hb2
    go_wp2_with fail
    refine (HB.out _).mono ?_
    rintro e w' ⟨rfl, rfl⟩
    obtain ⟨j0, j1, f0, f1, hjl⟩ := t2'.out
    go_wp2
    exact bodyPost_ret (v := .agg #[.int .i64 x, .int .i64 v]) (by simp [results, Tryd.results43, go_sem, j0, j1]) rfl ⟨rfl, set_two hB1.out (by omega) _ _⟩

theorem row_cap {w : World} {base size g n cap : Nat} {e : TypeId} {cs : List Value} (h : w.ownsRow base e size (.slice (some ⟨g, 0, none⟩) n cap) n cs) : n ≤ cap := by
  rcases h.2 with ⟨h', _⟩ | ⟨g', cap', cur, h', _, _, hnc, _⟩
  · cases h'
  · injection h' with _ _ h3
    omega

set_option maxHeartbeats 4000000 in
theorem spec_compose (A B : Option Addr) (n n' c d : Nat) (l o : List Sl) (w : World) (hn : n ≤ 1048576) (hn' : n' ≤ 1048576) (hl : l.length = n) (ho : o.length = n') (h1 : Lies w 0 w.heap.size A (scells l)) (h2 : Lies w 0 w.heap.size B (scells o)) :
    Calls Tryd.prog 19 #[.slice A n c, .slice B n' d] w (RowPost w n (compL l o)) := by
  obtain ⟨i0, hi0, hz0, hz1, hz2⟩ := info_parts Tryd.infoSlotT
  have hul : (compL l o).length = n := by rw [compL_len]; exact hl
  have hua : ∀ (k : Nat) (h : k < (compL l o).length) (h' : k < l.length), (compL l o)[k] = compS l[k] o := fun k h h' => by simp [compL]
  generalize compL l o = u at hul hua ⊢
  have HUL := Lib.hid hul
  have HU := Lib.hid hua
  have HL := Lib.hid hl
  have H1 := Lib.hid h1
  clear hul hua hl h1
  have HO := Lib.hid ho
  have H2 := Lib.hid h2
  clear ho h2
  go_enter Tryd.func19, Tryd.ntmps19
  go_wp2_with fail
  go_loopw [5, 6] (fun v i wr => ∃ (k g cap : Nat), k ≤ n ∧ i = .int .i64 k ∧ v = .slice (some ⟨g, 0, none⟩) k cap ∧ wr.ownsRow w.heap.size 39 2 (.slice (some ⟨g, 0, none⟩) k cap) k (scells (u.take k)) ∧ Below w.heap.size w wr) (fun _ i _ => n - (intOf i).toNat)
  case atStart => exact ⟨0, w.heap.size, 0, Nat.zero_le _, rfl, rfl, World.ownsRow_made w #[] 0 (Nat.le_refl _) (Nat.zero_le _) rfl, (Below.refl _ _).alloc (Nat.le_refl _) _⟩
  case round =>
    obtain ⟨k, g, cap, hk, rfl, rfl, hown, hb⟩ := hrel
    have hbs := hb.size
    by_cases hlt : k < n
    · have hkl : k < l.length := by have := HL.out; omega
      have hku : k < u.length := by have := HUL.out; omega
      obtain ⟨b, off, rfl, _, hbw, c1, c2⟩ := slot_at H1.out k hkl
      have d1 : wr.cell? ⟨b, off + k * 2, none⟩ = some (.int .i64 l[k].1) := (hb.cell hbw).trans c1
      have d2 : wr.cell? ⟨b, off + k * 2 + 1, none⟩ = some (.int .i64 l[k].2) := (hb.cell hbw).trans c2
      have hj0 : (0 : Int) ≤ (k : Int) := Int.natCast_nonneg _
      have hj1 : (k : Int) < (n : Int) := by omega
      have hT : u.take (k + 1) = u.take k ++ [u[k]] := List.take_succ_eq_append_getElem hku
      rw [HU.out k hku hkl] at hT
      clear c1 c2
      obtain ⟨⟨x, y⟩, hxy⟩ : ∃ s, s = l[k] := ⟨_, rfl⟩
      rw [← hxy] at d1 d2 hT
      dsimp only at d1 d2
      clear hxy
      have hK := spec_compSlot B n' d x y o wr hn' HO.out ((H2.out.below hb (Nat.le_refl _)).wide (Nat.le_refl _) hb.size)
      generalize compS (x, y) o = s at hK hT
      obtain ⟨x', y'⟩ := s
      have HK := Lib.hid hK
      have HT := Lib.hid hT
      clear hK hT
      go_wp2_with fail
      refine (HK.out).mono ?_
      rintro e w1 ⟨rfl, hb1⟩
      have hown1 := hown.kept (grown_of_below hb1 none) (.inr (by simp [Value.ownBlock]))
      have hbw1 : Below w.heap.size w w1 := hb.trans (hb1.mono hb.size)
      have hbs1 := hbw1.size
      clear hb1
      go_wp2_with (at_builtin; refine wpList_append_lies _ rfl _ _ 24 rfl w.heap.size 39 i0 _ 2 16 Tryd.underlying24 hi0 hz0 hz1 hz2 rfl (by omega) (.slice (some ⟨g, 0, none⟩) k cap) k _ rfl (hown1.alloc _) ⟨w1.heap.size, 0, none⟩ 1 1 [.int .i64 x', .int .i64 y'] rfl rfl (World.news_of_block (heap_alloc_new w1 _)) (by simp [Value.oneCell']) (by omega) (by simp only [maxLen]; omega) (by omega) (by simp; omega) (w1.heap.size + 1) (by simp) ?_; intro g' cap' w2 hown2 hgrow hat hg2)
      have hown3 : w2.ownsRow w.heap.size 39 2 (.slice (some ⟨g', 0, none⟩) (k + 1) cap') (k + 1) (scells (u.take (k + 1))) := by rw [HT.out, scells_append]; exact hown2
      have hbw2 : Below w.heap.size w w2 := (hbw1.alloc (by first | omega | (simp; omega)) _).grown hgrow (by first | omega | (simp; omega)) (fun j hj => (hown1.lt j hj).1)
      have HF := Lib.hid (And.intro hown3 hbw2)
      clear hown2 hgrow hat hg2 hown3 hbw2
      go_roundw
      case rel => exact ⟨k + 1, g', cap', by omega, by go_num, rfl, HF.out.1, HF.out.2⟩
      case measure => simp [intOf]; omega
    · obtain rfl : k = n := by omega
      rw [List.take_of_length_le (by have := HUL.out; omega)] at hown
      go_wp2_with fail
      go_ret
      exact ⟨_, _, rfl, (row_cap hown), Owned.of_row hown, hb⟩

end Go.Proofs.YtilgkknmldlklaaDoor.Slots
