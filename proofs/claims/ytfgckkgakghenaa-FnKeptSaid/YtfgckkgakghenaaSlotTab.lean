/-
  The given model's draws of page tables (l03Table, l03AnyTable): at most so many slots, whose numbers are of an int's range, in new memory; no statement about the project's code stands here. No condition.
-/
import Derived.Test.YtfgckkgakghenaaSlotDraw
import Derived.Test.YtfgckkgakghenaaWith
namespace Go.Proofs.Ytfgckkgakghenaa.SDraw
set_option maxRecDepth 100000
open Go.ChangeShapes Go.WideShapes Go.ChangeAt Go.RowKit
open Go.Proofs.Ytfgckkgakghenaa.Base Go.Proofs.Ytfgckkgakghenaa.Mem Go.Proofs.Ytfgckkgakghenaa.Slots Go.Proofs.Ytfgckkgakghenaa.Draw
set_option linter.unusedVariables false

theorem Try.infoSlot3 : (Try.prog.info? 36).map (fun i => (i.zero, i.size, i.bytes)) = some (some (.agg #[.int .i64 0, .int .i64 0]), 2, 16) := by kernel_rfl

def TabOwn (w0 : World) (A : Option Addr) (n c : Nat) (w : World) (g sz : Nat) (e : Ending) (w' : World) : Prop :=
  ∃ b cap l, e = .returned (.slice (some ⟨b, 0, none⟩) sz cap) ∧ l.length = sz ∧ wfL l ∧ w'.ownsRow w.heap.size 36 2 (.slice (some ⟨b, 0, none⟩) sz cap) sz (scells l) ∧ Cur w0 A n c w' g ∧ w.grownBy w' (some g)

theorem grown_own {w a b : World} {g : Nat} {row : Option Nat} (h : w.grownBy a (some g)) (k : a.grownBy b row) (hr : ∀ j, row = some j → w.heap.size ≤ j) : w.grownBy b (some g) :=
  ⟨k.os.trans h.os, k.tape.trans h.tape, k.output.trans h.output, Nat.le_trans h.size k.size, fun i hi hne => (k.block i (Nat.lt_of_lt_of_le hi h.size) (fun e => by have := hr i e.symm; omega)).trans (h.block i hi hne)⟩
theorem wfL_snoc {l : List Sl} {s : Sl} (h : wfL l) (hs : wfS s) : wfL (l ++ [s]) := fun t ht => by
  rcases List.mem_append.1 ht with h1 | h1
  · exact h t h1
  · have : t = s := by simpa using h1
    rw [this]; exact hs

set_option maxHeartbeats 4000000 in
theorem table_any (w0 : World) (A : Option Addr) (n c g sz : Nat) (w : World) (pages : Int) (hp0 : 0 < pages) (hp1 : pages ≤ 256) (hsz : sz ≤ 256) (hn : n ≤ 1048576) (hcode : CodeAt w0 A n) (hcur : Cur w0 A n c w g) :
    Calls Try.prog 88 #[.pointer (some ⟨g, 0, none⟩), .int .i64 (sz : Int), .int .i64 pages] w (TabOwn w0 A n c w g sz) := by
  obtain ⟨i0, hi0, hz0, hz1, hz2⟩ := info_parts Try.infoSlot3
  have HC := Lib.hid hcode
  have hlt := hcur.lt
  have hs0 := hcur.1.size
  have HU := Lib.hid hcur
  clear hcode hcur
  go_enter Try.func88, Try.ntmps88
  go_wp2_with fail
  go_loopw [7, 8] (fun v i wr => ∃ (k b cap : Nat) (l : List Sl), k ≤ sz ∧ i = .int .i64 k ∧ v = .slice (some ⟨b, 0, none⟩) k cap ∧ l.length = k ∧ wfL l ∧ wr.ownsRow w.heap.size 36 2 (.slice (some ⟨b, 0, none⟩) k cap) k (scells l) ∧ Cur w0 A n c wr g ∧ w.grownBy wr (some g)) (fun _ i _ => sz - (intOf i).toNat)
  case atStart =>
    exact ⟨0, w.heap.size, 0, [], Nat.zero_le _, rfl, rfl, rfl, (fun _ h => by cases h), World.ownsRow_made w #[] 0 (Nat.le_refl _) (Nat.zero_le _) rfl, HU.out.alloc _, grown_new w _ _⟩
  case round =>
    obtain ⟨k, b, cap, l, hk, rfl, rfl, hl, hall, hown, hcur, hgr⟩ := hrel
    have HL := Lib.hid hl
    have HA := Lib.hid hall
    have HU := Lib.hid hcur
    have HG := Lib.hid hgr
    have hbs := hgr.size
    clear hl hall hcur hgr
    by_cases hk2 : k < sz
    · have hk3 : (k : Int) < (sz : Int) := by omega
      go_wp2_with fail
      refine (slot_any w0 A n c g _ pages hp0 hp1 hn HC.out HU.out).mono ?_
      rintro e w1 ⟨x, y, rfl, hxy, hc1, hg1⟩
      have hbg : b ≠ g := by have := (hown.lt b rfl).1; omega
      have hown1 := hown.kept hg1 (.inr (by simp [Value.ownBlock]; exact hbg))
      have HX := Lib.hid hxy
      have HU1 := Lib.hid hc1
      have HG1 := Lib.hid (gtr HG.out hg1)
      have hbs1 := HG1.out.size
      have hb1 := (hown1.lt b rfl).1
      clear hxy hc1 hg1 HU HG hown
      go_wp2_with (at_builtin; refine wpList_append_lies _ rfl _ _ 25 rfl w.heap.size 36 i0 _ 2 16 Try.underlying25 hi0 hz0 hz1 hz2 rfl (by omega) (.slice (some ⟨b, 0, none⟩) k cap) k _ rfl (hown1.alloc _) ⟨w1.heap.size, 0, none⟩ 1 1 [.int .i64 x, .int .i64 y] rfl rfl (World.news_of_block (heap_alloc_new w1 _)) (by simp [Value.oneCell']) (by omega) (by simp only [maxLen]; omega) (by omega) (by simp; omega) (w1.heap.size + 1) (by simp) ?_; intro g' cap' w2 hown2 hgrow hat hg2)
      have hcur2 : Cur w0 A n c w2 g := (HU1.out.alloc _).grown hgrow (by simp [Value.ownBlock]; exact hbg) (fun j hj => by simp [Value.ownBlock] at hj; omega)
      have hgr2 : w.grownBy w2 (some g) := grown_own (gtr HG1.out (grown_new w1 _ _)) hgrow (fun j hj => by simp [Value.ownBlock] at hj; omega)
      have hown3 : w2.ownsRow w.heap.size 36 2 (.slice (some ⟨g', 0, none⟩) (k + 1) cap') (k + 1) (scells (l ++ [(x, y)])) := by rw [scells_append]; exact hown2
      have hlen : (l ++ [(x, y)]).length = k + 1 := by simp [HL.out]
      have HF := Lib.hid (And.intro hcur2 (And.intro hgr2 (And.intro hown3 (And.intro hlen (wfL_snoc HA.out HX.out)))))
      clear hown2 hgrow hat hg2 hcur2 hgr2 hown3 hlen
      go_roundw
      case rel => exact ⟨k + 1, g', cap', l ++ [(x, y)], by omega, by go_num, rfl, HF.out.2.2.2.1, HF.out.2.2.2.2, HF.out.2.2.1, HF.out.1, HF.out.2.1⟩
      case measure => simp [intOf]; omega
    · obtain rfl : k = sz := by omega
      go_wp2_with fail
      go_ret
      exact ⟨b, cap, l, rfl, HL.out, HA.out, hown, HU.out, HG.out⟩

def TabPost (w0 : World) (A : Option Addr) (n c : Nat) (w : World) (g sz : Nat) (e : Ending) (w' : World) : Prop :=
  ∃ ad m cap l, e = .returned (.slice (some ad) m cap) ∧ m ≤ sz ∧ l.length = m ∧ wfL l ∧ Lies w' w.heap.size w'.heap.size (some ad) (scells l) ∧ Cur w0 A n c w' g ∧ w.grownBy w' (some g)

theorem wfL_set {l : List Sl} {k : Nat} {s : Sl} (h : wfL l) (hs : wfS s) : wfL (l.set k s) := fun t ht => by
  rcases List.mem_or_eq_of_mem_set ht with h1 | h1
  · exact h t h1
  · rw [h1]; exact hs
theorem wfL_take {l : List Sl} (k : Nat) (h : wfL l) : wfL (l.take k) := fun t ht => h t (List.mem_of_mem_take ht)
theorem lies_take {w : World} {lo hi : Nat} {A : Option Addr} {l : List Sl} (k : Nat) (h : Lies w lo hi A (scells l)) : Lies w lo hi A (scells (l.take k)) := fun j u hu => by
  refine h j u ?_
  have e : l = l.take k ++ l.drop k := (List.take_append_drop k l).symm
  rw [e, scells_append, List.getElem?_append_left (List.getElem?_eq_some_iff.1 hu).1]
  exact hu

set_option maxHeartbeats 4000000 in
theorem anyTable_any (w0 : World) (A : Option Addr) (n c g sz : Nat) (w : World) (pages : Int) (hp0 : 0 < pages) (hp1 : pages ≤ 256) (hz : 0 < sz) (hsz : sz ≤ 256) (hn : n ≤ 1048576) (hcode : CodeAt w0 A n) (hcur : Cur w0 A n c w g) :
    Calls Try.prog 77 #[.pointer (some ⟨g, 0, none⟩), .int .i64 (sz : Int), .int .i64 pages] w (TabPost w0 A n c w g sz) := by
  have HC := Lib.hid hcode
  have hlt := hcur.lt
  have hs0 := hcur.1.size
  have HU := Lib.hid hcur
  clear hcode hcur
  go_enter Try.func77, Try.ntmps77
  go_wp2_with fail
  refine (table_any w0 A n c g sz _ pages hp0 hp1 hsz hn HC.out HU.out).mono ?_
  rintro e w1 ⟨b, cap, l, rfl, hl, hwf, hown, hc1, hg1⟩
  have HL := Lib.hid hl
  have HW := Lib.hid hwf
  have HU1 := Lib.hid hc1
  have HG1 := Lib.hid hg1
  have hb1 := (hown.lt b rfl).1
  have hbg : b ≠ g := by omega
  have hcap : sz ≤ cap := by
    rcases hown.2 with ⟨h', _⟩ | ⟨g1, cap1, cur, h', _, _, hnc, _⟩
    · simp at h'
    · injection h' with h1 h2 h3; omega
  have hcm : cap ≤ 9223372036854775807 := by
    rcases hown.2 with ⟨h', _⟩ | ⟨g1, cap1, cur, h', _, _, hnc, hm, _⟩
    · simp at h'
    · injection h' with h1 h2 h3; simp only [maxLen] at hm; omega
  clear hl hwf hc1 hg1 HU
  go_wp2_with fail
  refine (below_any w0 A n c g _ 8 (by omega) (by omega) hn HC.out HU1.out).mono ?_
  rintro e w2 ⟨z, rfl, hz0, hz1, hc2, hg2⟩
  have hown2 := hown.kept hg2 (.inr (by simp [Value.ownBlock]; exact hbg))
  have HU2 := Lib.hid hc2
  have HG2 := Lib.hid (gtr HG1.out hg2)
  clear hc2 hg2 HU1 HG1 hown
  by_cases hzz : z = 0
  · subst hzz
    go_wp2_with fail
    refine (below_any w0 A n c g _ (sz : Int) (by omega) (by omega) hn HC.out HU2.out).mono ?_
    rintro e w3 ⟨q, rfl, hq0, hq1, hc3, hg3⟩
    obtain ⟨k, rfl⟩ := Int.eq_ofNat_of_zero_le hq0
    have hk : k < sz := by omega
    have hown3 := hown2.kept hg3 (.inr (by simp [Value.ownBlock]; exact hbg))
    have HU3 := Lib.hid hc3
    have HG3 := Lib.hid (gtr HG2.out hg3)
    clear hc3 hg3 HU2 HG2 hown2
    go_wp2_with fail
    refine (any_any w0 A n c g _ pages hp0 hp1 hn HC.out HU3.out).mono ?_
    rintro e w4 ⟨x, y, rfl, hxy, hc4, hg4⟩
    have hown4 := hown3.kept hg4 (.inr (by simp [Value.ownBlock]; exact hbg))
    have HX := Lib.hid hxy
    have HU4 := Lib.hid hc4
    have HG4 := Lib.hid (gtr HG3.out hg4)
    clear hxy hc4 hg4 HU3 HG3 hown3
    obtain ⟨⟨u1, e1⟩, ⟨u2, e2⟩, f1, f2⟩ := row_two hown4 hk
    go_wp2_with fail
    go_ret
    have hrow := row_set2 hown4 k (.int .i64 x) (.int .i64 y)
    rw [← scells_set l k (by rw [HL.out]; exact hk) x y] at hrow
    exact ⟨_, _, _, _, rfl, Nat.le_refl _, by rw [List.length_set]; exact HL.out, wfL_set HW.out HX.out, (Owned.of_row hrow).1, var_cur (var_cur HU4.out (by omega) (by omega) _ _) (by omega) (by omega) _ _, grown_far (grown_far HG4.out hb1 _ _) hb1 _ _⟩
  · have hzz' : (z == 0) = false := by simpa using hzz
    by_cases hz1 : z = 1
    · subst hz1
      go_wp2_with fail
      refine (below_any w0 A n c g _ (sz : Int) (by omega) (by omega) hn HC.out HU2.out).mono ?_
      rintro e w3 ⟨q, rfl, hq0, hq1, hc3, hg3⟩
      obtain ⟨k, rfl⟩ := Int.eq_ofNat_of_zero_le hq0
      have hk : k < sz := by omega
      have hkc : (k : Int) ≤ (cap : Int) := by omega
      have hown3 := hown2.kept hg3 (.inr (by simp [Value.ownBlock]; exact hbg))
      have HU3 := Lib.hid hc3
      have HG3 := Lib.hid (gtr HG2.out hg3)
      clear hc3 hg3 HU2 HG2 hown2
      go_wp2_with fail
      go_ret
      exact ⟨⟨b, 0, none⟩, k, cap, l.take k, by simp, Nat.le_of_lt hk, by rw [List.length_take, HL.out]; omega, wfL_take k HW.out, lies_take k (Owned.of_row hown3).1, HU3.out, HG3.out⟩
    · have hz1' : (z == 1) = false := by simpa using hz1
      go_wp2_with fail
      go_ret
      exact ⟨_, _, _, _, rfl, Nat.le_refl _, HL.out, HW.out, (Owned.of_row hown2).1, HU2.out, HG2.out⟩
end Go.Proofs.Ytfgckkgakghenaa.SDraw
