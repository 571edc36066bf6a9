/-
  The buffer of entries: the project's three functions that flush, and entriesWithout at the closures that they hand it. No condition beyond a buffer's length.
-/
import Derived.Test.YtmfileflmpmkpaaEntFind
import Derived.Test.YtmfileflmpmkpaaEntTags
namespace Go.Proofs.Ytmfileflmpmkpaa.Ents
set_option maxRecDepth 100000
open Go.ChangeShapes Go.WideShapes Go.ChangeAt Go.RowKit
open Go.Proofs.Ytmfileflmpmkpaa.Base Go.Proofs.Ytmfileflmpmkpaa.Mem Go.Proofs.Ytmfileflmpmkpaa.Data
set_option linter.unusedVariables false
set_option linter.unusedSimpArgs false

set_option maxHeartbeats 2000000 in
theorem flushP_yes (z0 z1 : Nat) (t p x0 x1 x2 x3 : Int) (w : World) (k0 : w.cell? ⟨z0, 0, none⟩ = some (.int .i64 t)) (k1 : w.cell? ⟨z1, 0, none⟩ = some (.int .i64 p)) :
    Calls Try.prog 54 #[.agg #[.int .i64 x0, .int .i64 x1, .int .i64 x2, .int .i64 x3], .pointer (some ⟨z0, 0, none⟩), .pointer (some ⟨z1, 0, none⟩)] w (YesP w (isE (x0, x1, x2, x3) t p)) := by
  have hb0 : Below w.heap.size w (w.alloc (.cells #[.int .i64 x0, .int .i64 x1, .int .i64 x2, .int .i64 x3] 26)) := (Below.refl _ _).alloc (Nat.le_refl _) _
  have t0 := Four.new w (x0, x1, x2, x3) 26
  have j0 := (hb0.cell (p := ⟨z0, 0, none⟩) (World.block_lt_of_cell? w _ k0)).trans k0
  have j1 := (hb0.cell (p := ⟨z1, 0, none⟩) (World.block_lt_of_cell? w _ k1)).trans k1
  clear k0 k1
  have HK := Lib.hid (fun V : World => impl_translates x0 x1 x2 x3 t p V)
  generalize isE (x0, x1, x2, x3) t p = o at HK ⊢
  have HB := Lib.hid hb0
  clear hb0
  go_enter Try.func54, Try.ntmps54
  go_wp2_with fail
  refine (HK.out _).mono ?_
  rintro e w1 ⟨rfl, hb1⟩
  have HR := Lib.hid (HB.out.trans (hb1.mono HB.out.size))
  clear hb1 HK
  go_wp2_with fail
  go_ret
  exact ⟨rfl, HR.out⟩

set_option maxHeartbeats 8000000 in
theorem flushP_rest (A : Option Addr) (n c z0 z1 : Nat) (t p : Int) (l : List ET) (w : World) (hn : n ≤ 1048576) (hl : l.length = n) (h1 : Lies w 0 w.heap.size A (ecells l)) (k0 : w.cell? ⟨z0, 0, none⟩ = some (.int .i64 t)) (k1 : w.cell? ⟨z1, 0, none⟩ = some (.int .i64 p)) :
    Calls Try.prog 53 #[.slice A n c, .func (.func 54) #[] #[.pointer (some ⟨z0, 0, none⟩), .pointer (some ⟨z1, 0, none⟩)]] w (EntRow w (flushP l t p)) := by
  obtain ⟨i0, hi0, hz0, hz1, hz2⟩ := info_parts Try.infoEntry
  have HK := Lib.hid (show ∀ V, Below w.heap.size w V → ∀ x0 x1 x2 x3, Calls Try.prog 54 #[.agg #[.int .i64 x0, .int .i64 x1, .int .i64 x2, .int .i64 x3], .pointer (some ⟨z0, 0, none⟩), .pointer (some ⟨z1, 0, none⟩)] V (YesP V (isE (x0, x1, x2, x3) t p)) from fun V hb x0 x1 x2 x3 => flushP_yes z0 z1 t p x0 x1 x2 x3 V ((hb.cell (p := ⟨z0, 0, none⟩) (World.block_lt_of_cell? w _ k0)).trans k0) ((hb.cell (p := ⟨z1, 0, none⟩) (World.block_lt_of_cell? w _ k1)).trans k1))
  have H1 := Lib.hid h1
  have HL := Lib.hid hl
  clear h1 hl k0 k1
  go_enter Try.func53, Try.ntmps53
  go_wp2
  go_loopw [5, 11] (fun v i wr => ∃ (k g cap m : Nat), k ≤ n ∧ i = .int .i64 k ∧ m ≤ k ∧ v = .slice (some ⟨g, 0, none⟩) m cap ∧ (flushP (l.take k) t p).length = m ∧ wr.ownsRow w.heap.size 26 4 (.slice (some ⟨g, 0, none⟩) m cap) m (ecells (flushP (l.take k) t p)) ∧ Below w.heap.size w wr) (fun _ i _ => n - (intOf i).toNat)
  case atStart => exact ⟨0, w.heap.size, 0, 0, Nat.zero_le _, rfl, Nat.le_refl _, rfl, rfl, World.ownsRow_made w #[] 0 (Nat.le_refl _) (Nat.zero_le _) rfl, (Below.refl _ _).alloc (Nat.le_refl _) _⟩
  case round =>
    obtain ⟨k, g, cap, m, hk, rfl, hmk, rfl, hlen, hown, hb⟩ := hrel
    have HN := Lib.hid hlen
    clear hlen
    by_cases hlt : k < n
    · have hkl : k < l.length := by have := HL.out; omega
      obtain ⟨b, off, rfl, _, hbw, c0, c1, c2, c3⟩ := e_at H1.out k hkl
      have d0 := (hb.cell (p := ⟨b, off + k * 4, none⟩) hbw).trans c0
      have d1 := (hb.cell (p := ⟨b, off + k * 4 + 1, none⟩) hbw).trans c1
      have d2 := (hb.cell (p := ⟨b, off + k * 4 + 2, none⟩) hbw).trans c2
      have d3 := (hb.cell (p := ⟨b, off + k * 4 + 3, none⟩) hbw).trans c3
      have hj0 : (0 : Int) ≤ (k : Int) := Int.natCast_nonneg _
      have hj1 : (k : Int) < (n : Int) := by omega
      have hs := flushP_snoc (l.take k) l[k] t p
      rw [← List.take_succ_eq_append_getElem hkl] at hs
      clear c0 c1 c2 c3
      obtain ⟨⟨x0, x1, x2, x3⟩, hxy⟩ : ∃ s, s = l[k] := ⟨_, rfl⟩
      rw [← hxy] at d0 d1 d2 d3 hs
      dsimp only at d0 d1 d2 d3 hs
      clear hxy
      have hs' : flushP (l.take (k + 1)) t p = flushP (l.take k) t p ++ if (isE (x0, x1, x2, x3) t p) = true then [] else [(x0, x1, x2, x3)] := by first | exact hs | (rw [hs]; simp)
      clear hs
      obtain ⟨t1, hb1⟩ := four_made hb (x0, x1, x2, x3) 26
      have hsz := hb.size
      have hown1 := hown.alloc (.cells #[.int .i64 x0, .int .i64 x1, .int .i64 x2, .int .i64 x3] 26)
      have HO := Lib.hid hown1
      have HB1 := Lib.hid hb1
      have HT1 := Lib.hid t1
      have HS := Lib.hid hs'
      clear hb1 t1 hown1 hs'
      go_wp2_with fail
      have hb1 := HB1.out
      have t1 := HT1.out
      have hown1 := HO.out
      (try dsimp only at hb1 t1)
      have hzz : wr.heap.size < (wr.alloc (.cells #[.int .i64 x0, .int .i64 x1, .int .i64 x2, .int .i64 x3] 26)).heap.size := by simp
      clear HB1 HT1 HO
      generalize wr.alloc (.cells #[.int .i64 x0, .int .i64 x1, .int .i64 x2, .int .i64 x3] 26) = W1 at t1 hb1 hown1 hzz ⊢
      refine (HK.out W1 hb1 x0 x1 x2 x3).mono ?_
      rintro e w2 ⟨rfl, hb2⟩
      have hs1 := hb1.size
      have t2 := t1.below hb2 (by omega)
      have hb3 := hb1.trans (hb2.mono hs1)
      have hs3 := hb3.size
      have hown2 := row_kept hown1 hb2
      clear t1 hb1 hb2 hown1
      obtain ⟨j0, j1, j2, j3, _, _, _, _, _⟩ := t2
      (try dsimp only at j0 j1 j2 j3)
      have HB3 := Lib.hid hb3
      have HO := Lib.hid hown2
      clear hb3 hown2
      cases hE : isE (x0, x1, x2, x3) t p
      · have hs := HS.out
        rw [hE, if_neg (by simp)] at hs
        have HS := Lib.hid hs
        clear hs
        go_wp2_with (at_builtin; refine wpList_append_lies _ rfl _ _ 24 rfl w.heap.size 26 i0 _ 4 32 Try.underlying24 hi0 hz0 hz1 hz2 rfl (by omega) (.slice (some ⟨g, 0, none⟩) m cap) m _ rfl (HO.out.alloc _) ⟨w2.heap.size, 0, none⟩ 1 1 [.int .i64 x0, .int .i64 x1, .int .i64 x2, .int .i64 x3] rfl rfl (World.news_of_block (heap_alloc_new w2 _)) (by simp [Value.oneCell']) (by omega) (by simp only [maxLen]; omega) (by omega) (by simp; omega) (w2.heap.size + 1) (by simp) ?_; intro g' cap' w4 hown4 hgrow hat hg2)
        have hown5 : w4.ownsRow w.heap.size 26 4 (.slice (some ⟨g', 0, none⟩) (m + 1) cap') (m + 1) (ecells (flushP (l.take (k + 1)) t p)) := by rw [HS.out, ecells_append]; simpa [ecells] using hown4
        have hbw5 : Below w.heap.size w w4 := (HB3.out.alloc (by first | omega | (simp; omega)) _).grown hgrow (by first | omega | (simp; omega)) (fun j hj => (HO.out.lt j hj).1)
        have hlen5 : (flushP (l.take (k + 1)) t p).length = m + 1 := by rw [HS.out]; simp [HN.out]
        have HF := Lib.hid (And.intro hown5 (And.intro hbw5 hlen5))
        clear hown4 hgrow hat hg2 hown5 hbw5 hlen5
        go_roundw
        case rel => exact ⟨k + 1, g', cap', m + 1, by omega, by go_num, by omega, rfl, HF.out.2.2, HF.out.1, HF.out.2.1⟩
        case measure => simp [intOf]; omega
      · have hs := HS.out
        rw [hE, if_pos rfl, List.append_nil] at hs
        have HS := Lib.hid hs
        clear hs
        go_wp2_with fail
        go_roundw
        case rel => exact ⟨k + 1, g, cap, m, by omega, by go_num, by omega, rfl, by rw [HS.out]; exact HN.out, by rw [HS.out]; exact HO.out, HB3.out⟩
        case measure => simp [intOf]; omega
    · have hkn : k = n := by omega
      subst hkn
      rw [List.take_of_length_le (by have := HL.out; omega)] at hown
      have hlen2 := HN.out
      rw [List.take_of_length_le (by have := HL.out; omega)] at hlen2
      have HN := Lib.hid hlen2
      clear hlen2
      go_wp2
      go_ret
      exact ⟨_, _, _, rfl, HN.out, hown, hb⟩

set_option maxHeartbeats 2000000 in
theorem impl_flushPr (A : Option Addr) (n c : Nat) (l : List ET) (w : World) (t p : Int) (hn : n ≤ 1048576) (hl : l.length = n) (h1 : Lies w 0 w.heap.size A (ecells l)) :
    Calls Try.prog 27 #[.slice A n c, .int .i64 t, .int .i64 p] w (EntRow w (flushP l t p)) := by
  have hb : Below w.heap.size w ((w.alloc (.cells #[.int .i64 t] 3)).alloc (.cells #[.int .i64 p] 3)) := ((Below.refl _ _).alloc (Nat.le_refl _) _).alloc (by simp) _
  have k0 : ((w.alloc (.cells #[.int .i64 t] 3)).alloc (.cells #[.int .i64 p] 3)).cell? ⟨w.heap.size, 0, none⟩ = some (.int .i64 t) := (World.cell?_alloc_lt _ _ _ (by simp)).trans (cell_of_row _ _ 0 _ _ _ (heap_alloc_new w _))
  have k1 : ((w.alloc (.cells #[.int .i64 t] 3)).alloc (.cells #[.int .i64 p] 3)).cell? ⟨w.heap.size + 1, 0, none⟩ = some (.int .i64 p) := by
    simp
  obtain ⟨V, hV⟩ : ∃ V, V = ((w.alloc (.cells #[.int .i64 t] 3)).alloc (.cells #[.int .i64 p] 3)) := ⟨_, rfl⟩
  rw [← hV] at hb k0 k1
  have HK := Lib.hid (flushP_rest A n c w.heap.size (w.heap.size + 1) t p l V hn hl ((h1.below hb (Nat.le_refl _)).wide (Nat.le_refl _) hb.size) k0 k1)
  have HB := Lib.hid hb
  clear hb k0 k1 h1 hl
  go_enter Try.func27, Try.ntmps27
  go_wp2_with fail
  rw [← hV]
  refine HK.out.mono ?_
  rintro e w1 ⟨g, m, cap, rfl, hlen, hown, hb1⟩
  have HR := Lib.hid (And.intro hlen (And.intro (row_mono hown HB.out.size) (HB.out.trans (hb1.mono HB.out.size))))
  clear hlen hown hb1
  go_wp2_with fail
  go_ret
  exact ⟨_, _, _, rfl, HR.out.1, HR.out.2.1, HR.out.2.2⟩

set_option maxHeartbeats 2000000 in
theorem flushT_yes (z0 : Nat) (t x0 x1 x2 x3 : Int) (w : World) (k0 : w.cell? ⟨z0, 0, none⟩ = some (.int .i64 t)) :
    Calls Try.prog 55 #[.agg #[.int .i64 x0, .int .i64 x1, .int .i64 x2, .int .i64 x3], .pointer (some ⟨z0, 0, none⟩)] w (YesP w (decide (x0 = t))) := by
  have hb0 : Below w.heap.size w (w.alloc (.cells #[.int .i64 x0, .int .i64 x1, .int .i64 x2, .int .i64 x3] 26)) := (Below.refl _ _).alloc (Nat.le_refl _) _
  have t0 := Four.new w (x0, x1, x2, x3) 26
  have j0 := (hb0.cell (p := ⟨z0, 0, none⟩) (World.block_lt_of_cell? w _ k0)).trans k0
  clear k0
  obtain ⟨q0, q1, q2, q3, _⟩ := t0
  dsimp only at q0 q1 q2 q3
  by_cases hx : x0 = t
  · subst hx
    rw [show decide (x0 = x0) = true by simp]
    go_enter Try.func55, Try.ntmps55
    go_wp2
    go_ret
    exact ⟨by simp, hb0⟩
  · have hx' : (x0 == t) = false := by simpa using hx
    rw [decide_eq_false hx]
    clear hx
    go_enter Try.func55, Try.ntmps55
    go_wp2
    go_ret
    exact ⟨rfl, hb0⟩

set_option maxHeartbeats 8000000 in
theorem flushT_rest (A : Option Addr) (n c z0 : Nat) (t : Int) (l : List ET) (w : World) (hn : n ≤ 1048576) (hl : l.length = n) (h1 : Lies w 0 w.heap.size A (ecells l)) (k0 : w.cell? ⟨z0, 0, none⟩ = some (.int .i64 t)) :
    Calls Try.prog 53 #[.slice A n c, .func (.func 55) #[] #[.pointer (some ⟨z0, 0, none⟩)]] w (EntRow w (flushT l t)) := by
  obtain ⟨i0, hi0, hz0, hz1, hz2⟩ := info_parts Try.infoEntry
  have HK := Lib.hid (show ∀ V, Below w.heap.size w V → ∀ x0 x1 x2 x3, Calls Try.prog 55 #[.agg #[.int .i64 x0, .int .i64 x1, .int .i64 x2, .int .i64 x3], .pointer (some ⟨z0, 0, none⟩)] V (YesP V (decide (x0 = t))) from fun V hb x0 x1 x2 x3 => flushT_yes z0 t x0 x1 x2 x3 V ((hb.cell (p := ⟨z0, 0, none⟩) (World.block_lt_of_cell? w _ k0)).trans k0))
  have H1 := Lib.hid h1
  have HL := Lib.hid hl
  clear h1 hl k0
  go_enter Try.func53, Try.ntmps53
  go_wp2
  go_loopw [5, 11] (fun v i wr => ∃ (k g cap m : Nat), k ≤ n ∧ i = .int .i64 k ∧ m ≤ k ∧ v = .slice (some ⟨g, 0, none⟩) m cap ∧ (flushT (l.take k) t).length = m ∧ wr.ownsRow w.heap.size 26 4 (.slice (some ⟨g, 0, none⟩) m cap) m (ecells (flushT (l.take k) t)) ∧ Below w.heap.size w wr) (fun _ i _ => n - (intOf i).toNat)
  case atStart => exact ⟨0, w.heap.size, 0, 0, Nat.zero_le _, rfl, Nat.le_refl _, rfl, rfl, World.ownsRow_made w #[] 0 (Nat.le_refl _) (Nat.zero_le _) rfl, (Below.refl _ _).alloc (Nat.le_refl _) _⟩
  case round =>
    obtain ⟨k, g, cap, m, hk, rfl, hmk, rfl, hlen, hown, hb⟩ := hrel
    have HN := Lib.hid hlen
    clear hlen
    by_cases hlt : k < n
    · have hkl : k < l.length := by have := HL.out; omega
      obtain ⟨b, off, rfl, _, hbw, c0, c1, c2, c3⟩ := e_at H1.out k hkl
      have d0 := (hb.cell (p := ⟨b, off + k * 4, none⟩) hbw).trans c0
      have d1 := (hb.cell (p := ⟨b, off + k * 4 + 1, none⟩) hbw).trans c1
      have d2 := (hb.cell (p := ⟨b, off + k * 4 + 2, none⟩) hbw).trans c2
      have d3 := (hb.cell (p := ⟨b, off + k * 4 + 3, none⟩) hbw).trans c3
      have hj0 : (0 : Int) ≤ (k : Int) := Int.natCast_nonneg _
      have hj1 : (k : Int) < (n : Int) := by omega
      have hs := flushT_snoc (l.take k) l[k] t
      rw [← List.take_succ_eq_append_getElem hkl] at hs
      clear c0 c1 c2 c3
      obtain ⟨⟨x0, x1, x2, x3⟩, hxy⟩ : ∃ s, s = l[k] := ⟨_, rfl⟩
      rw [← hxy] at d0 d1 d2 d3 hs
      dsimp only at d0 d1 d2 d3 hs
      clear hxy
      have hs' : flushT (l.take (k + 1)) t = flushT (l.take k) t ++ if (decide (x0 = t)) = true then [] else [(x0, x1, x2, x3)] := by first | exact hs | (rw [hs]; simp)
      clear hs
      obtain ⟨t1, hb1⟩ := four_made hb (x0, x1, x2, x3) 26
      have hsz := hb.size
      have hown1 := hown.alloc (.cells #[.int .i64 x0, .int .i64 x1, .int .i64 x2, .int .i64 x3] 26)
      have HO := Lib.hid hown1
      have HB1 := Lib.hid hb1
      have HT1 := Lib.hid t1
      have HS := Lib.hid hs'
      clear hb1 t1 hown1 hs'
      go_wp2_with fail
      have hb1 := HB1.out
      have t1 := HT1.out
      have hown1 := HO.out
      (try dsimp only at hb1 t1)
      have hzz : wr.heap.size < (wr.alloc (.cells #[.int .i64 x0, .int .i64 x1, .int .i64 x2, .int .i64 x3] 26)).heap.size := by simp
      clear HB1 HT1 HO
      generalize wr.alloc (.cells #[.int .i64 x0, .int .i64 x1, .int .i64 x2, .int .i64 x3] 26) = W1 at t1 hb1 hown1 hzz ⊢
      refine (HK.out W1 hb1 x0 x1 x2 x3).mono ?_
      rintro e w2 ⟨rfl, hb2⟩
      have hs1 := hb1.size
      have t2 := t1.below hb2 (by omega)
      have hb3 := hb1.trans (hb2.mono hs1)
      have hs3 := hb3.size
      have hown2 := row_kept hown1 hb2
      clear t1 hb1 hb2 hown1
      obtain ⟨j0, j1, j2, j3, _, _, _, _, _⟩ := t2
      (try dsimp only at j0 j1 j2 j3)
      have HB3 := Lib.hid hb3
      have HO := Lib.hid hown2
      clear hb3 hown2
      cases hE : decide (x0 = t)
      · have hs := HS.out
        rw [hE, if_neg (by simp)] at hs
        have HS := Lib.hid hs
        clear hs
        go_wp2_with (at_builtin; refine wpList_append_lies _ rfl _ _ 24 rfl w.heap.size 26 i0 _ 4 32 Try.underlying24 hi0 hz0 hz1 hz2 rfl (by omega) (.slice (some ⟨g, 0, none⟩) m cap) m _ rfl (HO.out.alloc _) ⟨w2.heap.size, 0, none⟩ 1 1 [.int .i64 x0, .int .i64 x1, .int .i64 x2, .int .i64 x3] rfl rfl (World.news_of_block (heap_alloc_new w2 _)) (by simp [Value.oneCell']) (by omega) (by simp only [maxLen]; omega) (by omega) (by simp; omega) (w2.heap.size + 1) (by simp) ?_; intro g' cap' w4 hown4 hgrow hat hg2)
        have hown5 : w4.ownsRow w.heap.size 26 4 (.slice (some ⟨g', 0, none⟩) (m + 1) cap') (m + 1) (ecells (flushT (l.take (k + 1)) t)) := by rw [HS.out, ecells_append]; simpa [ecells] using hown4
        have hbw5 : Below w.heap.size w w4 := (HB3.out.alloc (by first | omega | (simp; omega)) _).grown hgrow (by first | omega | (simp; omega)) (fun j hj => (HO.out.lt j hj).1)
        have hlen5 : (flushT (l.take (k + 1)) t).length = m + 1 := by rw [HS.out]; simp [HN.out]
        have HF := Lib.hid (And.intro hown5 (And.intro hbw5 hlen5))
        clear hown4 hgrow hat hg2 hown5 hbw5 hlen5
        go_roundw
        case rel => exact ⟨k + 1, g', cap', m + 1, by omega, by go_num, by omega, rfl, HF.out.2.2, HF.out.1, HF.out.2.1⟩
        case measure => simp [intOf]; omega
      · have hs := HS.out
        rw [hE, if_pos rfl, List.append_nil] at hs
        have HS := Lib.hid hs
        clear hs
        go_wp2_with fail
        go_roundw
        case rel => exact ⟨k + 1, g, cap, m, by omega, by go_num, by omega, rfl, by rw [HS.out]; exact HN.out, by rw [HS.out]; exact HO.out, HB3.out⟩
        case measure => simp [intOf]; omega
    · have hkn : k = n := by omega
      subst hkn
      rw [List.take_of_length_le (by have := HL.out; omega)] at hown
      have hlen2 := HN.out
      rw [List.take_of_length_le (by have := HL.out; omega)] at hlen2
      have HN := Lib.hid hlen2
      clear hlen2
      go_wp2
      go_ret
      exact ⟨_, _, _, rfl, HN.out, hown, hb⟩

set_option maxHeartbeats 2000000 in
theorem impl_flushTr (A : Option Addr) (n c : Nat) (l : List ET) (w : World) (t : Int) (hn : n ≤ 1048576) (hl : l.length = n) (h1 : Lies w 0 w.heap.size A (ecells l)) :
    Calls Try.prog 28 #[.slice A n c, .int .i64 t] w (EntRow w (flushT l t)) := by
  have hb : Below w.heap.size w (w.alloc (.cells #[.int .i64 t] 3)) := (Below.refl _ _).alloc (Nat.le_refl _) _
  have k0 : (w.alloc (.cells #[.int .i64 t] 3)).cell? ⟨w.heap.size, 0, none⟩ = some (.int .i64 t) := cell_of_row _ _ 0 _ _ _ (heap_alloc_new w _)
  obtain ⟨V, hV⟩ : ∃ V, V = (w.alloc (.cells #[.int .i64 t] 3)) := ⟨_, rfl⟩
  rw [← hV] at hb k0
  have HK := Lib.hid (flushT_rest A n c w.heap.size t l V hn hl ((h1.below hb (Nat.le_refl _)).wide (Nat.le_refl _) hb.size) k0)
  have HB := Lib.hid hb
  clear hb k0 h1 hl
  go_enter Try.func28, Try.ntmps28
  go_wp2_with fail
  rw [← hV]
  refine HK.out.mono ?_
  rintro e w1 ⟨g, m, cap, rfl, hlen, hown, hb1⟩
  have HR := Lib.hid (And.intro hlen (And.intro (row_mono hown HB.out.size) (HB.out.trans (hb1.mono HB.out.size))))
  clear hlen hown hb1
  go_wp2_with fail
  go_ret
  exact ⟨_, _, _, rfl, HR.out.1, HR.out.2.1, HR.out.2.2⟩

set_option maxHeartbeats 2000000 in
theorem flushH_yes (z0 : Nat) (t x0 x1 x2 x3 : Int) (w : World) (k0 : w.cell? ⟨z0, 0, none⟩ = some (.int .i64 t)) :
    Calls Try.prog 57 #[.agg #[.int .i64 x0, .int .i64 x1, .int .i64 x2, .int .i64 x3], .pointer (some ⟨z0, 0, none⟩)] w (YesP w (decide (x2 = t))) := by
  have hb0 : Below w.heap.size w (w.alloc (.cells #[.int .i64 x0, .int .i64 x1, .int .i64 x2, .int .i64 x3] 26)) := (Below.refl _ _).alloc (Nat.le_refl _) _
  have t0 := Four.new w (x0, x1, x2, x3) 26
  have j0 := (hb0.cell (p := ⟨z0, 0, none⟩) (World.block_lt_of_cell? w _ k0)).trans k0
  clear k0
  obtain ⟨q0, q1, q2, q3, _⟩ := t0
  dsimp only at q0 q1 q2 q3
  by_cases hx : x2 = t
  · subst hx
    rw [show decide (x2 = x2) = true by simp]
    go_enter Try.func57, Try.ntmps57
    go_wp2
    go_ret
    exact ⟨by simp, hb0⟩
  · have hx' : (x2 == t) = false := by simpa using hx
    rw [decide_eq_false hx]
    clear hx
    go_enter Try.func57, Try.ntmps57
    go_wp2
    go_ret
    exact ⟨rfl, hb0⟩

set_option maxHeartbeats 8000000 in
theorem flushH_rest (A : Option Addr) (n c z0 : Nat) (t : Int) (l : List ET) (w : World) (hn : n ≤ 1048576) (hl : l.length = n) (h1 : Lies w 0 w.heap.size A (ecells l)) (k0 : w.cell? ⟨z0, 0, none⟩ = some (.int .i64 t)) :
    Calls Try.prog 53 #[.slice A n c, .func (.func 57) #[] #[.pointer (some ⟨z0, 0, none⟩)]] w (EntRow w (flushH l t)) := by
  obtain ⟨i0, hi0, hz0, hz1, hz2⟩ := info_parts Try.infoEntry
  have HK := Lib.hid (show ∀ V, Below w.heap.size w V → ∀ x0 x1 x2 x3, Calls Try.prog 57 #[.agg #[.int .i64 x0, .int .i64 x1, .int .i64 x2, .int .i64 x3], .pointer (some ⟨z0, 0, none⟩)] V (YesP V (decide (x2 = t))) from fun V hb x0 x1 x2 x3 => flushH_yes z0 t x0 x1 x2 x3 V ((hb.cell (p := ⟨z0, 0, none⟩) (World.block_lt_of_cell? w _ k0)).trans k0))
  have H1 := Lib.hid h1
  have HL := Lib.hid hl
  clear h1 hl k0
  go_enter Try.func53, Try.ntmps53
  go_wp2
  go_loopw [5, 11] (fun v i wr => ∃ (k g cap m : Nat), k ≤ n ∧ i = .int .i64 k ∧ m ≤ k ∧ v = .slice (some ⟨g, 0, none⟩) m cap ∧ (flushH (l.take k) t).length = m ∧ wr.ownsRow w.heap.size 26 4 (.slice (some ⟨g, 0, none⟩) m cap) m (ecells (flushH (l.take k) t)) ∧ Below w.heap.size w wr) (fun _ i _ => n - (intOf i).toNat)
  case atStart => exact ⟨0, w.heap.size, 0, 0, Nat.zero_le _, rfl, Nat.le_refl _, rfl, rfl, World.ownsRow_made w #[] 0 (Nat.le_refl _) (Nat.zero_le _) rfl, (Below.refl _ _).alloc (Nat.le_refl _) _⟩
  case round =>
    obtain ⟨k, g, cap, m, hk, rfl, hmk, rfl, hlen, hown, hb⟩ := hrel
    have HN := Lib.hid hlen
    clear hlen
    by_cases hlt : k < n
    · have hkl : k < l.length := by have := HL.out; omega
      obtain ⟨b, off, rfl, _, hbw, c0, c1, c2, c3⟩ := e_at H1.out k hkl
      have d0 := (hb.cell (p := ⟨b, off + k * 4, none⟩) hbw).trans c0
      have d1 := (hb.cell (p := ⟨b, off + k * 4 + 1, none⟩) hbw).trans c1
      have d2 := (hb.cell (p := ⟨b, off + k * 4 + 2, none⟩) hbw).trans c2
      have d3 := (hb.cell (p := ⟨b, off + k * 4 + 3, none⟩) hbw).trans c3
      have hj0 : (0 : Int) ≤ (k : Int) := Int.natCast_nonneg _
      have hj1 : (k : Int) < (n : Int) := by omega
      have hs := flushH_snoc (l.take k) l[k] t
      rw [← List.take_succ_eq_append_getElem hkl] at hs
      clear c0 c1 c2 c3
      obtain ⟨⟨x0, x1, x2, x3⟩, hxy⟩ : ∃ s, s = l[k] := ⟨_, rfl⟩
      rw [← hxy] at d0 d1 d2 d3 hs
      dsimp only at d0 d1 d2 d3 hs
      clear hxy
      have hs' : flushH (l.take (k + 1)) t = flushH (l.take k) t ++ if (decide (x2 = t)) = true then [] else [(x0, x1, x2, x3)] := by first | exact hs | (rw [hs]; simp)
      clear hs
      obtain ⟨t1, hb1⟩ := four_made hb (x0, x1, x2, x3) 26
      have hsz := hb.size
      have hown1 := hown.alloc (.cells #[.int .i64 x0, .int .i64 x1, .int .i64 x2, .int .i64 x3] 26)
      have HO := Lib.hid hown1
      have HB1 := Lib.hid hb1
      have HT1 := Lib.hid t1
      have HS := Lib.hid hs'
      clear hb1 t1 hown1 hs'
      go_wp2_with fail
      have hb1 := HB1.out
      have t1 := HT1.out
      have hown1 := HO.out
      (try dsimp only at hb1 t1)
      have hzz : wr.heap.size < (wr.alloc (.cells #[.int .i64 x0, .int .i64 x1, .int .i64 x2, .int .i64 x3] 26)).heap.size := by simp
      clear HB1 HT1 HO
      generalize wr.alloc (.cells #[.int .i64 x0, .int .i64 x1, .int .i64 x2, .int .i64 x3] 26) = W1 at t1 hb1 hown1 hzz ⊢
      refine (HK.out W1 hb1 x0 x1 x2 x3).mono ?_
      rintro e w2 ⟨rfl, hb2⟩
      have hs1 := hb1.size
      have t2 := t1.below hb2 (by omega)
      have hb3 := hb1.trans (hb2.mono hs1)
      have hs3 := hb3.size
      have hown2 := row_kept hown1 hb2
      clear t1 hb1 hb2 hown1
      obtain ⟨j0, j1, j2, j3, _, _, _, _, _⟩ := t2
      (try dsimp only at j0 j1 j2 j3)
      have HB3 := Lib.hid hb3
      have HO := Lib.hid hown2
      clear hb3 hown2
      cases hE : decide (x2 = t)
      · have hs := HS.out
        rw [hE, if_neg (by simp)] at hs
        have HS := Lib.hid hs
        clear hs
        go_wp2_with (at_builtin; refine wpList_append_lies _ rfl _ _ 24 rfl w.heap.size 26 i0 _ 4 32 Try.underlying24 hi0 hz0 hz1 hz2 rfl (by omega) (.slice (some ⟨g, 0, none⟩) m cap) m _ rfl (HO.out.alloc _) ⟨w2.heap.size, 0, none⟩ 1 1 [.int .i64 x0, .int .i64 x1, .int .i64 x2, .int .i64 x3] rfl rfl (World.news_of_block (heap_alloc_new w2 _)) (by simp [Value.oneCell']) (by omega) (by simp only [maxLen]; omega) (by omega) (by simp; omega) (w2.heap.size + 1) (by simp) ?_; intro g' cap' w4 hown4 hgrow hat hg2)
        have hown5 : w4.ownsRow w.heap.size 26 4 (.slice (some ⟨g', 0, none⟩) (m + 1) cap') (m + 1) (ecells (flushH (l.take (k + 1)) t)) := by rw [HS.out, ecells_append]; simpa [ecells] using hown4
        have hbw5 : Below w.heap.size w w4 := (HB3.out.alloc (by first | omega | (simp; omega)) _).grown hgrow (by first | omega | (simp; omega)) (fun j hj => (HO.out.lt j hj).1)
        have hlen5 : (flushH (l.take (k + 1)) t).length = m + 1 := by rw [HS.out]; simp [HN.out]
        have HF := Lib.hid (And.intro hown5 (And.intro hbw5 hlen5))
        clear hown4 hgrow hat hg2 hown5 hbw5 hlen5
        go_roundw
        case rel => exact ⟨k + 1, g', cap', m + 1, by omega, by go_num, by omega, rfl, HF.out.2.2, HF.out.1, HF.out.2.1⟩
        case measure => simp [intOf]; omega
      · have hs := HS.out
        rw [hE, if_pos rfl, List.append_nil] at hs
        have HS := Lib.hid hs
        clear hs
        go_wp2_with fail
        go_roundw
        case rel => exact ⟨k + 1, g, cap, m, by omega, by go_num, by omega, rfl, by rw [HS.out]; exact HN.out, by rw [HS.out]; exact HO.out, HB3.out⟩
        case measure => simp [intOf]; omega
    · have hkn : k = n := by omega
      subst hkn
      rw [List.take_of_length_le (by have := HL.out; omega)] at hown
      have hlen2 := HN.out
      rw [List.take_of_length_le (by have := HL.out; omega)] at hlen2
      have HN := Lib.hid hlen2
      clear hlen2
      go_wp2
      go_ret
      exact ⟨_, _, _, rfl, HN.out, hown, hb⟩

set_option maxHeartbeats 2000000 in
theorem impl_flushHr (A : Option Addr) (n c : Nat) (l : List ET) (w : World) (t : Int) (hn : n ≤ 1048576) (hl : l.length = n) (h1 : Lies w 0 w.heap.size A (ecells l)) :
    Calls Try.prog 30 #[.slice A n c, .int .i64 t] w (EntRow w (flushH l t)) := by
  have hb : Below w.heap.size w (w.alloc (.cells #[.int .i64 t] 3)) := (Below.refl _ _).alloc (Nat.le_refl _) _
  have k0 : (w.alloc (.cells #[.int .i64 t] 3)).cell? ⟨w.heap.size, 0, none⟩ = some (.int .i64 t) := cell_of_row _ _ 0 _ _ _ (heap_alloc_new w _)
  obtain ⟨V, hV⟩ : ∃ V, V = (w.alloc (.cells #[.int .i64 t] 3)) := ⟨_, rfl⟩
  rw [← hV] at hb k0
  have HK := Lib.hid (flushH_rest A n c w.heap.size t l V hn hl ((h1.below hb (Nat.le_refl _)).wide (Nat.le_refl _) hb.size) k0)
  have HB := Lib.hid hb
  clear hb k0 h1 hl
  go_enter Try.func30, Try.ntmps30
  go_wp2_with fail
  rw [← hV]
  refine HK.out.mono ?_
  rintro e w1 ⟨g, m, cap, rfl, hlen, hown, hb1⟩
  have HR := Lib.hid (And.intro hlen (And.intro (row_mono hown HB.out.size) (HB.out.trans (hb1.mono HB.out.size))))
  clear hlen hown hb1
  go_wp2_with fail
  go_ret
  exact ⟨_, _, _, rfl, HR.out.1, HR.out.2.1, HR.out.2.2⟩

end Go.Proofs.Ytmfileflmpmkpaa.Ents
