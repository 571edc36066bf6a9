/-
  The given model's draws of arguments for chapter 5's functions: tables and slots whose numbers are of an int's range, in new memory; no statement about the project's code stands here. No condition.
-/
import Derived.Test.YtecnkcmhgnbdmaaSlotDraws
import Derived.Test.YtecnkcmhgnbdmaaTwoSlot
namespace Go.Proofs.Ytecnkcmhgnbdmaa.SDraw
open Go.ChangeShapes Go.WideShapes Go.ChangeAt Go.RowKit
open Go.Proofs.Ytecnkcmhgnbdmaa.Base Go.Proofs.Ytecnkcmhgnbdmaa.Mem Go.Proofs.Ytecnkcmhgnbdmaa.Slots Go.Proofs.Ytecnkcmhgnbdmaa.Draw
set_option linter.unusedVariables false

/-- Two tables of at most so many slots. -/
def TwoT (w : World) (sz sz' : Nat) (e : Ending) (w' : World) : Prop :=
  ∃ ad m cap l ad' m' cap' l', e = .returned (.tuple #[.slice (some ad) m cap, .slice (some ad') m' cap']) ∧ Tab w' w.heap.size sz ad m l ∧ Tab w' w.heap.size sz' ad' m' l' ∧ Below w.heap.size w w'
def SlotTabP (w : World) (sz : Nat) (e : Ending) (w' : World) : Prop :=
  ∃ x y ad m cap l, e = .returned (.tuple #[.agg #[.int .i64 x, .int .i64 y], .slice (some ad) m cap]) ∧ wfS (x, y) ∧ Tab w' w.heap.size sz ad m l ∧ Below w.heap.size w w'
def TwoSlots (w : World) (e : Ending) (w' : World) : Prop :=
  ∃ x y x' y', e = .returned (.tuple #[.agg #[.int .i64 x, .int .i64 y], .agg #[.int .i64 x', .int .i64 y']]) ∧ wfS (x, y) ∧ wfS (x', y') ∧ Below w.heap.size w w'
theorem cur_drew {w0 w : World} {A : Option Addr} {n c g : Nat} (h : Cur w0 A n c w g) : Cur w0 A n c w.drew g := ⟨h.1.drew, h.2⟩

set_option maxHeartbeats 2000000 in
theorem drawCompose_any (A : Option Addr) (n c : Nat) (w : World) (hn : n ≤ 1048576) (hcode : CodeAt w A n) :
    Calls Try.prog 12 #[.slice A n c] w (TwoT w 4 8) := by
  have HC := Lib.hid hcode
  clear hcode
  go_enter Try.func12, Try.ntmps12
  go_wp2_with fail
  refine (new_any A n c _ hn HC.out).mono ?_
  rintro e w0 ⟨rfl, hcur, hsz0⟩
  clear hsz0
  have HU := Lib.hid hcur
  have hs := hcur.lt
  clear hcur
  go_wp2_with fail
  refine (anyTable_any w A n c _ 4 _ 8 (by omega) (by omega) (by omega) (by omega) hn HC.out HU.out).mono ?_
  rintro e w1 ⟨ad, m, cap, l, rfl, hm, hl, hwf, hli, hc1, hg1⟩
  have HT := Lib.hid (show Tab w1 w0.heap.size 4 ad m l from ⟨hm, hl, hwf, hli⟩)
  have HU1 := Lib.hid hc1
  clear hm hl hwf hli HU
  have hsw : w.heap.size ≤ w1.heap.size := hc1.1.size
  clear hc1 hg1
  go_wp2_with fail
  refine (anyTable_any w A n c _ 8 _ 24 (by omega) (by omega) (by omega) (by omega) hn HC.out HU1.out).mono ?_
  rintro e w2 ⟨ad', m', cap', l', rfl, hm, hl, hwf, hli, hc2, hg2⟩
  have HT' := Lib.hid (show Tab w2 w1.heap.size 8 ad' m' l' from ⟨hm, hl, hwf, hli⟩)
  have HU2 := Lib.hid hc2
  clear hm hl hwf hli HU1
  have HF := Lib.hid (And.intro ((HT.out.grown hg2 hs).low (Nat.le_of_lt hs)) (And.intro (HT'.out.low hsw) hc2.1))
  clear hc2 hg2 HU2 HT HT'
  go_wp2_with fail
  go_ret2
  exact ⟨ad, m, cap, l, ad', m', cap', l', rfl, HF.out.1, HF.out.2.1, HF.out.2.2⟩

set_option maxHeartbeats 2000000 in
theorem drawRestrict_any (A : Option Addr) (n c : Nat) (w : World) (hn : n ≤ 1048576) (hcode : CodeAt w A n) :
    Calls Try.prog 22 #[.slice A n c] w (TabInt w 4) := by
  have HC := Lib.hid hcode
  clear hcode
  go_enter Try.func22, Try.ntmps22
  go_wp2_with fail
  refine (new_any A n c _ hn HC.out).mono ?_
  rintro e w0 ⟨rfl, hcur, hsz0⟩
  clear hsz0
  have HU := Lib.hid hcur
  have hs := hcur.lt
  clear hcur
  go_wp2_with fail
  refine (anyTable_any w A n c _ 4 _ 8 (by omega) (by omega) (by omega) (by omega) hn HC.out HU.out).mono ?_
  rintro e w1 ⟨ad, m, cap, l, rfl, hm, hl, hwf, hli, hc1, hg1⟩
  have HT := Lib.hid (show Tab w1 w0.heap.size 4 ad m l from ⟨hm, hl, hwf, hli⟩)
  have HU1 := Lib.hid hc1
  clear hm hl hwf hli HU
  clear hc1 hg1
  go_wp2_with fail
  refine (rights_any w A n c _ _ hn HC.out HU1.out).mono ?_
  rintro e w2 ⟨x, rfl, hx, hc2, hg2⟩
  have HF := Lib.hid (And.intro ((HT.out.grown hg2 hs).low (Nat.le_of_lt hs)) (And.intro hc2.1 hx))
  clear hx hc2 hg2 HU1 HT
  go_wp2_with fail
  go_ret2
  exact ⟨ad, m, cap, l, x, rfl, HF.out.2.2, HF.out.1, HF.out.2.1⟩

set_option maxHeartbeats 2000000 in
theorem drawTableBelow_any (A : Option Addr) (n c : Nat) (w : World) (hn : n ≤ 1048576) (hcode : CodeAt w A n) :
    Calls Try.prog 21 #[.slice A n c] w (TwoT w 4 4) := by
  have HC := Lib.hid hcode
  clear hcode
  go_enter Try.func21, Try.ntmps21
  go_wp2_with fail
  refine (new_any A n c _ hn HC.out).mono ?_
  rintro e w0 ⟨rfl, hcur, hsz0⟩
  clear hsz0
  have HU := Lib.hid hcur
  have hs := hcur.lt
  clear hcur
  go_wp2_with fail
  refine (anyTable_any w A n c _ 4 _ 8 (by omega) (by omega) (by omega) (by omega) hn HC.out HU.out).mono ?_
  rintro e w1 ⟨ad, m, cap, l, rfl, hm, hl, hwf, hli, hc1, hg1⟩
  have HT := Lib.hid (show Tab w1 w0.heap.size 4 ad m l from ⟨hm, hl, hwf, hli⟩)
  have HU1 := Lib.hid hc1
  clear hm hl hwf hli HU
  clear hc1 hg1
  go_wp2_with fail
  refine (once_any w A n c _ _ 2 (by omega) (by omega) hn HC.out HU1.out).mono ?_
  rintro e w2 ⟨b, rfl, hc2, hg2⟩
  have HT2 := Lib.hid (HT.out.grown hg2 hs)
  have HU2 := Lib.hid hc2
  have hs2 := hc2.1.size
  clear hc2 hg2 HU1 HT
  cases b
  · go_wp2_with fail
    refine (anyTable_any w A n c _ 4 _ 8 (by omega) (by omega) (by omega) (by omega) hn HC.out HU2.out).mono ?_
    rintro e w3 ⟨ad', m', cap', l', rfl, hm, hl, hwf, hli, hc3, hg3⟩
    have HT' := Lib.hid (show Tab w3 w2.heap.size 4 ad' m' l' from ⟨hm, hl, hwf, hli⟩)
    have HU3 := Lib.hid hc3
    clear hm hl hwf hli HU2
    have HF := Lib.hid (And.intro ((HT2.out.grown hg3 hs).low (Nat.le_of_lt hs)) (And.intro (HT'.out.low hs2) hc3.1))
    clear hc3 hg3 HU3 HT2 HT'
    go_wp2_with fail
    go_ret2
    exact ⟨ad', m', cap', l', ad, m, cap, l, rfl, HF.out.2.1, HF.out.1, HF.out.2.2⟩
  · go_wp2_with fail
    refine (rights_any w A n c _ _ hn HC.out HU2.out).mono ?_
    rintro e w3 ⟨x, rfl, hx, hc3, hg3⟩
    have HT3 := Lib.hid (HT2.out.grown hg3 hs)
    have HB3 := Lib.hid hc3.1
    have hs3 := hc3.1.size
    clear hx hc3 hg3 HU2 HT2
    go_wp2_with fail
    refine (spec_restrict (some ad) m cap x l _ (by have := HT3.out.1; omega) HT3.out.2.1 (HT3.out.2.2.2.wide (Nat.zero_le _) (Nat.le_refl _))).mono ?_
    rintro e w4 ⟨ad', cap', rfl, hc', ho4, hb4⟩
    have HF := Lib.hid (And.intro (show Tab w4 w.heap.size 4 ad' m (restL l x) from ⟨HT3.out.1, (restL_len l x).trans HT3.out.2.1, wf_restL HT3.out.2.2.1 x, ho4.1.wide hs3 (Nat.le_refl _)⟩) (And.intro ((HT3.out.below hb4).low (Nat.le_of_lt hs)) (btr HB3.out hb4)))
    clear hc' ho4 hb4 HT3 HB3
    go_wp2_with fail
    go_ret2
    exact ⟨ad', m, cap', restL l x, ad, m, cap, l, rfl, HF.out.1, HF.out.2.1, HF.out.2.2⟩

set_option maxHeartbeats 2000000 in
theorem drawComposeSlot_any (A : Option Addr) (n c : Nat) (w : World) (hn : n ≤ 1048576) (hcode : CodeAt w A n) :
    Calls Try.prog 24 #[.slice A n c] w (SlotTabP w 8) := by
  have HC := Lib.hid (hcode.below ((Below.refl w.heap.size w).alloc (Nat.le_refl _) (.cells #[.int .i64 0, .int .i64 0] 30)))
  clear hcode
  go_enter Try.func24, Try.ntmps24
  go_wp2_with fail
  refine (new_any A n c _ hn HC.out).mono ?_
  rintro e w0 ⟨rfl, hcur, hsz0⟩
  clear hsz0
  have hcur2 := new_boxed hcur
  have HU := Lib.hid hcur2
  have hs := hcur2.lt
  clear hcur hcur2
  go_wp2_with fail
  refine (any_any (w.alloc (.cells #[.int .i64 0, .int .i64 0] 30)) A n c (w.heap.size + 1) _ 8 (by omega) (by omega) hn HC.out HU.out).mono ?_
  rintro e w1 ⟨x, y, rfl, hxy, hc1, hg1⟩
  have HX := Lib.hid hxy
  have HU1 := Lib.hid hc1
  have hs1 := hc1.lt
  clear hxy hc1 hg1 HU
  go_wp2_with fail
  refine (anyTable_any (w.alloc (.cells #[.int .i64 0, .int .i64 0] 30)) A n c (w.heap.size + 1) 8 _ 24 (by omega) (by omega) (by omega) (by omega) hn HC.out HU1.out).mono ?_
  rintro e w2 ⟨ad, m, cap, l, rfl, hm, hl, hwf, hli, hc2, hg2⟩
  have HT := Lib.hid (show Tab w2 w1.heap.size 8 ad m l from ⟨hm, hl, hwf, hli⟩)
  have HU2 := Lib.hid hc2
  clear hm hl hwf hli HU1
  obtain ⟨j0, j1, f0, f1, hbw⟩ := two_kept hc2.1
  have HB := Lib.hid hbw
  clear hc2 hg2 HU2 hbw
  go_wp2_with fail
  exact bodyPost_ret (v := .tuple #[.agg #[.int .i64 x, .int .i64 y], .slice (some ad) m cap]) (by simp [results, Try.results24, go_sem, j0, j1]) rfl
    ⟨x, y, ad, m, cap, l, rfl, HX.out, ((HT.out.set (b := w.heap.size) (by omega) _).set (b := w.heap.size) (by omega) _).low (by omega), (HB.out.setCell (p := ⟨w.heap.size, 0, none⟩) (Nat.le_refl _) _).setCell (p := ⟨w.heap.size, 1, none⟩) (Nat.le_refl _) _⟩

set_option maxHeartbeats 2000000 in
theorem drawBelow_any (A : Option Addr) (n c : Nat) (w : World) (hn : n ≤ 1048576) (hcode : CodeAt w A n) :
    Calls Try.prog 20 #[.slice A n c] w (TwoSlots w) := by
  obtain ⟨t1, t2, hb2⟩ := two_two w (.int .i64 0) (.int .i64 0) (.int .i64 0) (.int .i64 0) 30 30
  have HC := Lib.hid (hcode.below hb2)
  clear hcode
  go_enter Try.func20, Try.ntmps20
  go_wp2_with fail
  generalize (w.alloc (.cells #[.int .i64 0, .int .i64 0] 30)).alloc (.cells #[.int .i64 0, .int .i64 0] 30) = W2 at t1 t2 hb2 HC ⊢
  refine (new_any A n c _ hn HC.out).mono ?_
  rintro e w0 ⟨rfl, hcur, hsz0⟩
  clear hsz0
  have HU := Lib.hid hcur
  clear hcur
  have hW2 := t2.2.2.2.2
  go_wp2_with fail
  refine (any_any W2 A n c _ _ 3 (by omega) (by omega) hn HC.out HU.out).mono ?_
  rintro e w1 ⟨x, y, rfl, hxy, hc1, hg1⟩
  have HX := Lib.hid hxy
  have hs1 := hc1.lt
  have HU1 := Lib.hid (hc1.alloc (.cells #[.int .i64 x, .int .i64 y] 30))
  have HN1 := Lib.hid (heap_alloc_new w1 (.cells #[.int .i64 x, .int .i64 y] 30))
  clear hxy hc1 hg1 HU
  go_wp2_with fail
  refine (once_any W2 A n c _ _ 2 (by omega) (by omega) hn HC.out HU1.out).mono ?_
  rintro e w2 ⟨b, rfl, hc2, hg2⟩
  have HN2 := Lib.hid (blk_kept hg2 HN1.out (by omega))
  obtain ⟨a0, a1, _, _⟩ := two_of_blk HN2.out
  have HU2 := Lib.hid (cur_drew hc2)
  clear hc2 hg2 HU1 HN1
  cases b
  · go_wp2_with fail
    refine Ord.wp_region_ord (fun w' => w'.cell? ⟨w1.heap.size, 0, none⟩ = some (.int .i64 x) ∧ w'.cell? ⟨w1.heap.size, 1, none⟩ = some (.int .i64 y)) [(0, true), (1, true), (2, false), (3, false), (4, false)] (by kernel_rfl) (by kernel_rfl) rfl (by kernel_rfl) (⟨a0, a1⟩) ?_
    simp only [Ord.ordOps, List.getElem?_toArray, List.getElem?_cons_zero, List.getElem?_cons_succ]
    repeat (first
      | (refine Ord.ord_plain (v := ?_) rfl (fun w' hS => ?_) ?_; rotate_left; (focus ((try dsimp only at hS); go_simp; first | done | with_reducible rfl)); simp only [Act.put, List.setIfInBounds_toArray, List.set_cons_zero, List.set_cons_succ])
      | (refine Ord.ord_skip (by rfl) ?_; simp only [Act.put, List.setIfInBounds_toArray, List.set_cons_zero, List.set_cons_succ])
      | (refine Ord.ord_take (v := ?_) (by rfl) (fun w' hS => ?_) ?_; rotate_left; (focus ((try dsimp only at hS); go_simp; first | done | with_reducible rfl)); simp only [Act.put, List.setIfInBounds_toArray, List.set_cons_zero, List.set_cons_succ]))
    refine Ord.ord_call (fun K hK => ?_)
    go_simp
    go_wp2_with fail
    refine (any_any W2 A n c _ _ 3 (by omega) (by omega) hn HC.out HU2.out).mono ?_
    rintro e w3 ⟨x', y', rfl, hp, hc3, hg3⟩
    have HN3 := blk_kept hg3 HN2.out (by omega)
    obtain ⟨b0, b1, _, _⟩ := two_of_blk HN3
    obtain ⟨j0, j1, f0, f1, hj⟩ := t1.below hc3.1
    obtain ⟨q0, q1, e0, e1, hq⟩ := t2.below hc3.1
    have HB := Lib.hid (btr hb2 hc3.1)
    have HP := Lib.hid hp
    clear hc3 hg3 HN3 hp
    refine hK.out _ _ (⟨b0, b1⟩) ?_
    clear hK K
    repeat (first
      | (refine Ord.ord_plain (v := ?_) rfl (fun w' hS => ?_) ?_; rotate_left; (focus ((try dsimp only at hS); go_simp; first | done | with_reducible rfl)); simp only [Act.put, List.setIfInBounds_toArray, List.set_cons_zero, List.set_cons_succ])
      | (refine Ord.ord_skip (by rfl) ?_; simp only [Act.put, List.setIfInBounds_toArray, List.set_cons_zero, List.set_cons_succ])
      | (refine Ord.ord_take (v := ?_) (by rfl) (fun w' hS => ?_) ?_; rotate_left; (focus ((try dsimp only at hS); go_simp; first | done | with_reducible rfl)); simp only [Act.put, List.setIfInBounds_toArray, List.set_cons_zero, List.set_cons_succ]))
    refine Ord.ord_call (fun K hK => ?_)
    go_simp
    refine hK.out _ _ (⟨keep_set b0 (by omega), keep_set b1 (by omega)⟩) ?_
    clear hK K
    repeat (first
      | (refine Ord.ord_plain (v := ?_) rfl (fun w' hS => ?_) ?_; rotate_left; (focus ((try dsimp only at hS); go_simp; first | done | with_reducible rfl)); simp only [Act.put, List.setIfInBounds_toArray, List.set_cons_zero, List.set_cons_succ])
      | (refine Ord.ord_skip (by rfl) ?_; simp only [Act.put, List.setIfInBounds_toArray, List.set_cons_zero, List.set_cons_succ])
      | (refine Ord.ord_take (v := ?_) (by rfl) (fun w' hS => ?_) ?_; rotate_left; (focus ((try dsimp only at hS); go_simp; first | done | with_reducible rfl)); simp only [Act.put, List.setIfInBounds_toArray, List.set_cons_zero, List.set_cons_succ]))
    refine Ord.ord_call (fun K hK => ?_)
    go_simp
    refine hK.out _ _ (⟨keep_set (keep_set b0 (by omega)) (by omega), keep_set (keep_set b1 (by omega)) (by omega)⟩) ?_
    clear hK K
    refine Ord.ord_nil ?_
    go_wp2
    exact bodyPost_ret (v := .tuple #[.agg #[.int .i64 x, .int .i64 y], .agg #[.int .i64 x', .int .i64 y']]) (by simp [results, Try.results20, go_sem, j0, j1, q0, q1]) rfl ⟨x, y, _, _, rfl, HX.out, HP.out, set_two (set_two HB.out (Nat.le_refl _) _ _) (by omega) _ _⟩
  · go_wp2_with fail
    refine Ord.wp_region_ord (fun w' => w'.cell? ⟨w1.heap.size, 0, none⟩ = some (.int .i64 x) ∧ w'.cell? ⟨w1.heap.size, 1, none⟩ = some (.int .i64 y)) [(0, true), (1, true), (2, true), (3, true), (4, false), (5, true), (6, false), (7, false)] (by kernel_rfl) (by kernel_rfl) rfl (by kernel_rfl) (⟨a0, a1⟩) ?_
    simp only [Ord.ordOps, List.getElem?_toArray, List.getElem?_cons_zero, List.getElem?_cons_succ]
    repeat (first
      | (refine Ord.ord_plain (v := ?_) rfl (fun w' hS => ?_) ?_; rotate_left; (focus ((try dsimp only at hS); go_simp; first | done | with_reducible rfl)); simp only [Act.put, List.setIfInBounds_toArray, List.set_cons_zero, List.set_cons_succ])
      | (refine Ord.ord_skip (by rfl) ?_; simp only [Act.put, List.setIfInBounds_toArray, List.set_cons_zero, List.set_cons_succ])
      | (refine Ord.ord_take (v := ?_) (by rfl) (fun w' hS => ?_) ?_; rotate_left; (focus ((try dsimp only at hS); go_simp; first | done | with_reducible rfl)); simp only [Act.put, List.setIfInBounds_toArray, List.set_cons_zero, List.set_cons_succ]))
    refine Ord.ord_call (fun K hK => ?_)
    go_simp
    go_wp2_with fail
    refine (rights_any W2 A n c _ _ hn HC.out HU2.out).mono ?_
    rintro e w3 ⟨p, rfl, hp, hc3, hg3⟩
    have HN3 := blk_kept hg3 HN2.out (by omega)
    obtain ⟨b0, b1, _, _⟩ := two_of_blk HN3
    obtain ⟨j0, j1, f0, f1, hj⟩ := t1.below hc3.1
    obtain ⟨q0, q1, e0, e1, hq⟩ := t2.below hc3.1
    have HB := Lib.hid (btr hb2 hc3.1)
    have HP := Lib.hid hp
    clear hc3 hg3 HN3 hp
    refine hK.out _ _ (⟨b0, b1⟩) ?_
    clear hK K
    repeat (first
      | (refine Ord.ord_plain (v := ?_) rfl (fun w' hS => ?_) ?_; rotate_left; (focus ((try dsimp only at hS); go_simp; first | done | with_reducible rfl)); simp only [Act.put, List.setIfInBounds_toArray, List.set_cons_zero, List.set_cons_succ])
      | (refine Ord.ord_skip (by rfl) ?_; simp only [Act.put, List.setIfInBounds_toArray, List.set_cons_zero, List.set_cons_succ])
      | (refine Ord.ord_take (v := ?_) (by rfl) (fun w' hS => ?_) ?_; rotate_left; (focus ((try dsimp only at hS); go_simp; first | done | with_reducible rfl)); simp only [Act.put, List.setIfInBounds_toArray, List.set_cons_zero, List.set_cons_succ]))
    refine Ord.ord_call (fun K hK => ?_)
    go_simp
    refine hK.out _ _ (⟨keep_set b0 (by omega), keep_set b1 (by omega)⟩) ?_
    clear hK K
    repeat (first
      | (refine Ord.ord_plain (v := ?_) rfl (fun w' hS => ?_) ?_; rotate_left; (focus ((try dsimp only at hS); go_simp; first | done | with_reducible rfl)); simp only [Act.put, List.setIfInBounds_toArray, List.set_cons_zero, List.set_cons_succ])
      | (refine Ord.ord_skip (by rfl) ?_; simp only [Act.put, List.setIfInBounds_toArray, List.set_cons_zero, List.set_cons_succ])
      | (refine Ord.ord_take (v := ?_) (by rfl) (fun w' hS => ?_) ?_; rotate_left; (focus ((try dsimp only at hS); go_simp; first | done | with_reducible rfl)); simp only [Act.put, List.setIfInBounds_toArray, List.set_cons_zero, List.set_cons_succ]))
    refine Ord.ord_call (fun K hK => ?_)
    go_simp
    refine hK.out _ _ (⟨keep_set (keep_set b0 (by omega)) (by omega), keep_set (keep_set b1 (by omega)) (by omega)⟩) ?_
    clear hK K
    refine Ord.ord_nil ?_
    go_wp2
    exact bodyPost_ret (v := .tuple #[.agg #[.int .i64 x, .int .i64 y], .agg #[.int .i64 x, .int .i64 p]]) (by simp [results, Try.results20, go_sem, j0, j1, q0, q1]) rfl ⟨x, y, _, _, rfl, HX.out, ⟨HX.out.1, HP.out⟩, set_two (set_two HB.out (Nat.le_refl _) _ _) (by omega) _ _⟩
end Go.Proofs.Ytecnkcmhgnbdmaa.SDraw
