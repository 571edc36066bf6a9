/-
  The given model's draws of arguments for chapter 7's functions, by the functions' names; no statement about the project's code stands here. No condition.
-/
import Derived.Test.YtfgckkgakghenaaKeptDraws
namespace Go.Proofs.Ytfgckkgakghenaa.KDraw
set_option maxRecDepth 100000
open Go.ChangeShapes Go.WideShapes Go.ChangeAt Go.RowKit
open Go.Proofs.Ytfgckkgakghenaa.Base Go.Proofs.Ytfgckkgakghenaa.Mem Go.Proofs.Ytfgckkgakghenaa.Slots Go.Proofs.Ytfgckkgakghenaa.Bools Go.Proofs.Ytfgckkgakghenaa.Data Go.Proofs.Ytfgckkgakghenaa.Draw Go.Proofs.Ytfgckkgakghenaa.SDraw Go.Proofs.Ytfgckkgakghenaa.Kepts
set_option linter.unusedVariables false
set_option linter.unusedSimpArgs false

theorem curK_drew {w0 w : World} {A : Option Addr} {n c g : Nat} (h : Cur w0 A n c w g) : Cur w0 A n c w.drew g := ⟨h.1.drew, h.2⟩
/-- A drawn shadow table, to be read. -/
structure KD1 (V : World) (lo : Nat) (k : KD) (A B : Option Addr) (n m : Nat) : Prop where
  hn : n ≤ 4
  hm : m ≤ 4
  wf : wfL k.2
  kr : KR V lo V.heap.size k A B n m
/-- A drawn table, to be read. -/
structure TD1 (V : World) (lo sz : Nat) (l : List Sl) (ad : Addr) (m : Nat) : Prop where
  hm : m ≤ sz
  hl : l.length = m
  wf : wfL l
  li : Lies V lo V.heap.size (some ad) (scells l)
theorem KD1.below {V V' : World} {lo : Nat} {k : KD} {A B : Option Addr} {n m : Nat} (h : KD1 V lo k A B n m) (hb : Below V.heap.size V V') : KD1 V' lo k A B n m := ⟨h.hn, h.hm, h.wf, (h.kr.below hb (Nat.le_refl _)).wide (Nat.le_refl _) hb.size⟩
theorem TD1.below {V V' : World} {lo sz m : Nat} {l : List Sl} {ad : Addr} (h : TD1 V lo sz l ad m) (hb : Below V.heap.size V V') : TD1 V' lo sz l ad m := ⟨h.hm, h.hl, h.wf, (h.li.below hb (Nat.le_refl _)).wide (Nat.le_refl _) hb.size⟩
def CaseD (w : World) (e : Ending) (w' : World) : Prop :=
  ∃ A n c B m d k ad1 m1 c1 l1 ad2 m2 c2 l2, e = .returned (.tuple #[.agg #[.slice A n c, .slice B m d], .slice (some ad1) m1 c1, .slice (some ad2) m2 c2]) ∧ KD1 w' w.heap.size k A B n m ∧ TD1 w' w.heap.size 4 l1 ad1 m1 ∧ TD1 w' w.heap.size 8 l2 ad2 m2 ∧ Below w.heap.size w w'
def FillD (w : World) (e : Ending) (w' : World) : Prop :=
  ∃ A n c B m d k ad1 m1 c1 l1 ad2 m2 c2 l2 x, e = .returned (.tuple #[.agg #[.slice A n c, .slice B m d], .slice (some ad1) m1 c1, .slice (some ad2) m2 c2, .int .i64 x]) ∧ (Lit.int .i64 x).wf = true ∧ KD1 w' w.heap.size k A B n m ∧ TD1 w' w.heap.size 4 l1 ad1 m1 ∧ TD1 w' w.heap.size 8 l2 ad2 m2 ∧ Below w.heap.size w w'
def AskD (w : World) (e : Ending) (w' : World) : Prop :=
  ∃ A n c B m d k x, e = .returned (.tuple #[.agg #[.slice A n c, .slice B m d], .int .i64 x]) ∧ (Lit.int .i64 x).wf = true ∧ KD1 w' w.heap.size k A B n m ∧ Below w.heap.size w w'
def UsesD (w : World) (e : Ending) (w' : World) : Prop :=
  ∃ A n c B m d k ad1 m1 c1 l1 x, e = .returned (.tuple #[.agg #[.slice A n c, .slice B m d], .slice (some ad1) m1 c1, .int .i64 x]) ∧ (Lit.int .i64 x).wf = true ∧ KD1 w' w.heap.size k A B n m ∧ TD1 w' w.heap.size 4 l1 ad1 m1 ∧ Below w.heap.size w w'
def AllD (w : World) (e : Ending) (w' : World) : Prop :=
  ∃ A n c B m d k, e = .returned (.agg #[.slice A n c, .slice B m d]) ∧ KD1 w' w.heap.size k A B n m ∧ Below w.heap.size w w'
/-- The result's cells are set: what lies above them stays. -/
theorem KD1.res {V : World} {z lo : Nat} {k : KD} {A B : Option Addr} {n m : Nat} (u v : Value) (hz : z < lo) (h : KD1 V lo k A B n m) : KD1 ((V.setCell ⟨z, 0, none⟩ u).setCell ⟨z, 1, none⟩ v) z k A B n m :=
  ⟨h.hn, h.hm, h.wf, (h.kr.kept fun q h1 _ => (Below.heap_setCell _ ⟨z, 1, none⟩ v q (by show q ≠ z; omega)).trans (Below.heap_setCell V ⟨z, 0, none⟩ u q (by show q ≠ z; omega))).wide (Nat.le_of_lt hz) (by simp)⟩
theorem TD1.res {V : World} {z lo sz m : Nat} {l : List Sl} {ad : Addr} (u v : Value) (hz : z < lo) (h : TD1 V lo sz l ad m) : TD1 ((V.setCell ⟨z, 0, none⟩ u).setCell ⟨z, 1, none⟩ v) z sz l ad m :=
  ⟨h.hm, h.hl, h.wf, (h.li.kept fun q h1 _ => (Below.heap_setCell _ ⟨z, 1, none⟩ v q (by show q ≠ z; omega)).trans (Below.heap_setCell V ⟨z, 0, none⟩ u q (by show q ≠ z; omega))).wide (Nat.le_of_lt hz) (by simp)⟩

set_option maxRecDepth 100000 in
set_option maxHeartbeats 4000000 in
theorem drawFill_any (A : Option Addr) (n c : Nat) (w : World) (hn : n ≤ 1048576) (hcode : CodeAt w A n) :
    Calls Try.prog 15 #[.slice A n c] w (FillD w) := by
  have ht0 := Two.new w (.slice none 0 0) (.slice none 0 0) 27
  have hb0 : Below w.heap.size w (w.alloc (.cells #[.slice none 0 0, .slice none 0 0] 27)) := (Below.refl _ _).alloc (Nat.le_refl _) _
  have hz0 : (w.alloc (.cells #[.slice none 0 0, .slice none 0 0] 27)).heap.size = w.heap.size + 1 := by simp
  have HC := Lib.hid (hcode.below hb0)
  clear hcode
  go_enter Try.func15, Try.ntmps15
  go_wp2_with fail
  have hzg : w.heap.size < (w.alloc (.cells #[.slice none 0 0, .slice none 0 0] 27)).heap.size := by omega
  clear hz0
  generalize w.alloc (.cells #[.slice none 0 0, .slice none 0 0] 27) = W at ht0 hb0 hzg HC ⊢
  refine (new_any A n c W hn HC.out).mono ?_
  rintro e w0 ⟨rfl, hcur, hsz0⟩
  have hlt : W.heap.size < w0.heap.size := by omega
  clear hsz0
  have ht1 := ht0.below hcur.1
  have HU := Lib.hid hcur
  have hx0 := hcur.1.size
  clear hcur ht0
  go_wp2_with fail
  refine (case_any W A n c _ w0 hn HC.out HU.out).mono ?_
  rintro e w1 ⟨A1, n1, e1, B1, m1, d1, k, ad1, p1, r1, l1, ad2, p2, r2, l2, rfl, g1, g2, g3, g4, wk, wl1, wl2, hl1, hl2, hk, h1, h2, hc1, hg1⟩
  have ht2 := two_grown ht1 hg1 (by omega)
  clear HU ht1
  have hx1 := hg1.size
  have tv := Two.new w1 (.slice A1 n1 e1) (.slice B1 m1 d1) 27
  have hbv : Below w1.heap.size w1 (w1.alloc (.cells #[.slice A1 n1 e1, .slice B1 m1 d1] 27)) := (Below.refl _ _).alloc (Nat.le_refl _) _
  have t3 := ht2.below hbv
  have HK := Lib.hid ((hk.below hbv (Nat.le_refl _)).wide (show W.heap.size + 1 ≤ w0.heap.size + 1 by omega) hbv.size)
  have H1 := Lib.hid ((h1.below hbv (Nat.le_refl _)).wide (show W.heap.size + 1 ≤ w0.heap.size + 1 by omega) hbv.size)
  have H2 := Lib.hid ((h2.below hbv (Nat.le_refl _)).wide (show W.heap.size + 1 ≤ w0.heap.size + 1 by omega) hbv.size)
  have HCu := Lib.hid (curK_drew (hc1.alloc (.cells #[.slice A1 n1 e1, .slice B1 m1 d1] 27)))
  have HB := Lib.hid hb0
  have hvn : w.heap.size ≠ w1.heap.size := by omega
  have hxv : w1.heap.size < (w1.alloc (.cells #[.slice A1 n1 e1, .slice B1 m1 d1] 27)).heap.size := by simp
  clear hk h1 h2 hc1 hg1 ht2 hb0 hbv
  go_wp2_with fail
  generalize w1.alloc (.cells #[.slice A1 n1 e1, .slice B1 m1 d1] 27) = V at tv t3 HK H1 H2 HCu hxv ⊢
  refine Ord.wp_region_ord (fun w' => w'.cell? ⟨w1.heap.size, 0, none⟩ = some (.slice A1 n1 e1) ∧ w'.cell? ⟨w1.heap.size, 1, none⟩ = some (.slice B1 m1 d1)) [(0, true), (1, true), (2, true), (3, true), (4, false), (5, false), (6, true), (7, true), (8, true)] (by kernel_rfl) (by kernel_rfl) rfl (by kernel_rfl) (⟨tv.1, tv.2.1⟩) ?_
  simp only [Ord.ordOps, List.getElem?_toArray, List.getElem?_cons_zero, List.getElem?_cons_succ]
  repeat (first
    | (refine Ord.ord_plain (v := ?_) rfl (fun w' hS => ?_) ?_; rotate_left; (focus ((try dsimp only at hS); go_simp; first | done | with_reducible rfl)); simp only [Act.put, List.setIfInBounds_toArray, List.set_cons_zero, List.set_cons_succ])
    | (refine Ord.ord_skip (by rfl) ?_; simp only [Act.put, List.setIfInBounds_toArray, List.set_cons_zero, List.set_cons_succ])
    | (refine Ord.ord_take (v := ?_) (by rfl) (fun w' hS => ?_) ?_; rotate_left; (focus ((try dsimp only at hS); go_simp; first | done | with_reducible rfl)); simp only [Act.put, List.setIfInBounds_toArray, List.set_cons_zero, List.set_cons_succ]))
  refine Ord.ord_call (fun K hK => ?_)
  go_simp
  refine (page_any W A n c _ _ hn HC.out HCu.out).mono ?_
  rintro e w5 ⟨x, rfl, hx, hc5, hg5⟩
  have hx5 : V.heap.size ≤ w5.heap.size := hg5.size
  have tv5 := two_grown (V := V.drew) tv hg5 (by omega)
  have t5 := two_grown (V := V.drew) t3 hg5 (by omega)
  have hz5 := t5.2.2.2.2
  have HKf := Lib.hid (KD1.mk g1 g2 wk ((HK.out.kept (w' := w5) fun q a1 a2 => hg5.block q a2 (by simp; omega)).wide (show w.heap.size + 1 ≤ W.heap.size + 1 by omega) hx5))
  have H1f := Lib.hid (TD1.mk (sz := 4) g3 hl1 wl1 ((H1.out.kept (w' := w5) fun q a1 a2 => hg5.block q a2 (by simp; omega)).wide (show w.heap.size + 1 ≤ W.heap.size + 1 by omega) hx5))
  have H2f := Lib.hid (TD1.mk (sz := 8) g4 hl2 wl2 ((H2.out.kept (w' := w5) fun q a1 a2 => hg5.block q a2 (by simp; omega)).wide (show w.heap.size + 1 ≤ W.heap.size + 1 by omega) hx5))
  have HBf := Lib.hid (btr HB.out hc5.1)
  clear HK H1 H2 HB HCu hc5 hg5 t3 tv
  refine hK.out _ _ (⟨tv5.1, tv5.2.1⟩) ?_
  clear hK K
  repeat (first
    | (refine Ord.ord_plain (v := ?_) rfl (fun w' hS => ?_) ?_; rotate_left; (focus ((try dsimp only at hS); go_simp; first | done | with_reducible rfl)); simp only [Act.put, List.setIfInBounds_toArray, List.set_cons_zero, List.set_cons_succ])
    | (refine Ord.ord_skip (by rfl) ?_; simp only [Act.put, List.setIfInBounds_toArray, List.set_cons_zero, List.set_cons_succ])
    | (refine Ord.ord_take (v := ?_) (by rfl) (fun w' hS => ?_) ?_; rotate_left; (focus ((try dsimp only at hS); go_simp; first | done | with_reducible rfl)); simp only [Act.put, List.setIfInBounds_toArray, List.set_cons_zero, List.set_cons_succ]))
  obtain ⟨q0, q1, f0, f1, hzl⟩ := t5
  have s1 := World.cell?_setCell_same (w5.setCell ⟨w.heap.size, 0, none⟩ (.slice A1 n1 e1)) ⟨w.heap.size, 1, none⟩ (.slice B1 m1 d1) ((World.cell?_setCell_other _ _ _ _ (by simp)).trans q1)
  have s0 := (World.cell?_setCell_other (w5.setCell ⟨w.heap.size, 0, none⟩ (.slice A1 n1 e1)) ⟨w.heap.size, 1, none⟩ ⟨w.heap.size, 0, none⟩ (.slice B1 m1 d1) (by simp)).trans (World.cell?_setCell_same w5 ⟨w.heap.size, 0, none⟩ (.slice A1 n1 e1) q0)
  refine Ord.ord_call (fun K hK => ?_)
  go_simp
  refine hK.out _ _ (⟨keep_set tv5.1 hvn.symm, keep_set tv5.2.1 hvn.symm⟩) ?_
  clear hK K
  repeat (first
    | (refine Ord.ord_plain (v := ?_) rfl (fun w' hS => ?_) ?_; rotate_left; (focus ((try dsimp only at hS); go_simp; first | done | with_reducible rfl)); simp only [Act.put, List.setIfInBounds_toArray, List.set_cons_zero, List.set_cons_succ])
    | (refine Ord.ord_skip (by rfl) ?_; simp only [Act.put, List.setIfInBounds_toArray, List.set_cons_zero, List.set_cons_succ])
    | (refine Ord.ord_take (v := ?_) (by rfl) (fun w' hS => ?_) ?_; rotate_left; (focus ((try dsimp only at hS); go_simp; first | done | with_reducible rfl)); simp only [Act.put, List.setIfInBounds_toArray, List.set_cons_zero, List.set_cons_succ]))
  refine Ord.ord_nil ?_
  go_wp2_with fail
  exact bodyPost_ret (v := .tuple #[.agg #[.slice A1 n1 e1, .slice B1 m1 d1], .slice (some ad1) p1 r1, .slice (some ad2) p2 r2, .int .i64 x]) (by simp [results, Try.results15, go_sem, s0, s1]) rfl ⟨_, _, _, _, _, _, _, _, _, _, _, _, _, _, _, _, rfl, hx, HKf.out.res _ _ (by omega), H1f.out.res _ _ (by omega), H2f.out.res _ _ (by omega), set_two HBf.out (Nat.le_refl _) _ _⟩

set_option maxRecDepth 100000 in
set_option maxHeartbeats 4000000 in
theorem drawKeptOk_any (A : Option Addr) (n c : Nat) (w : World) (hn : n ≤ 1048576) (hcode : CodeAt w A n) :
    Calls Try.prog 40 #[.slice A n c] w (CaseD w) := by
  have ht0 := Two.new w (.slice none 0 0) (.slice none 0 0) 27
  have hb0 : Below w.heap.size w (w.alloc (.cells #[.slice none 0 0, .slice none 0 0] 27)) := (Below.refl _ _).alloc (Nat.le_refl _) _
  have hz0 : (w.alloc (.cells #[.slice none 0 0, .slice none 0 0] 27)).heap.size = w.heap.size + 1 := by simp
  have HC := Lib.hid (hcode.below hb0)
  clear hcode
  go_enter Try.func40, Try.ntmps40
  go_wp2_with fail
  have hzg : w.heap.size < (w.alloc (.cells #[.slice none 0 0, .slice none 0 0] 27)).heap.size := by omega
  clear hz0
  generalize w.alloc (.cells #[.slice none 0 0, .slice none 0 0] 27) = W at ht0 hb0 hzg HC ⊢
  refine (new_any A n c W hn HC.out).mono ?_
  rintro e w0 ⟨rfl, hcur, hsz0⟩
  have hlt : W.heap.size < w0.heap.size := by omega
  clear hsz0
  have ht1 := ht0.below hcur.1
  have HU := Lib.hid hcur
  have hx0 := hcur.1.size
  clear hcur ht0
  go_wp2_with fail
  refine (case_any W A n c _ w0 hn HC.out HU.out).mono ?_
  rintro e w1 ⟨A1, n1, e1, B1, m1, d1, k, ad1, p1, r1, l1, ad2, p2, r2, l2, rfl, g1, g2, g3, g4, wk, wl1, wl2, hl1, hl2, hk, h1, h2, hc1, hg1⟩
  have ht2 := two_grown ht1 hg1 (by omega)
  clear HU ht1
  have hx1 := hg1.size
  have HB := Lib.hid hb0
  have t5 := ht2
  have HKf := Lib.hid (KD1.mk g1 g2 wk hk)
  have H1f := Lib.hid (TD1.mk (sz := 4) g3 hl1 wl1 h1)
  have H2f := Lib.hid (TD1.mk (sz := 8) g4 hl2 wl2 h2)
  have HBf := Lib.hid (btr HB.out hc1.1)
  clear HB hb0 hk h1 h2 hc1 hg1 ht2 g1 g2 g3 g4 wk hl1 wl1 hl2 wl2
  obtain ⟨q0, q1, f0, f1, hzl⟩ := t5
  have s1 := World.cell?_setCell_same (w1.setCell ⟨w.heap.size, 0, none⟩ (.slice A1 n1 e1)) ⟨w.heap.size, 1, none⟩ (.slice B1 m1 d1) ((World.cell?_setCell_other _ _ _ _ (by simp)).trans q1)
  have s0 := (World.cell?_setCell_other (w1.setCell ⟨w.heap.size, 0, none⟩ (.slice A1 n1 e1)) ⟨w.heap.size, 1, none⟩ ⟨w.heap.size, 0, none⟩ (.slice B1 m1 d1) (by simp)).trans (World.cell?_setCell_same w1 ⟨w.heap.size, 0, none⟩ (.slice A1 n1 e1) q0)
  go_wp2_with fail
  exact bodyPost_ret (v := .tuple #[.agg #[.slice A1 n1 e1, .slice B1 m1 d1], .slice (some ad1) p1 r1, .slice (some ad2) p2 r2]) (by simp [results, Try.results40, go_sem, s0, s1]) rfl ⟨_, _, _, _, _, _, _, _, _, _, _, _, _, _, _, rfl, HKf.out.res _ _ (by omega), H1f.out.res _ _ (by omega), H2f.out.res _ _ (by omega), set_two HBf.out (Nat.le_refl _) _ _⟩

set_option maxRecDepth 100000 in
set_option maxHeartbeats 4000000 in
theorem drawAsk_any (A : Option Addr) (n c : Nat) (w : World) (hn : n ≤ 1048576) (hcode : CodeAt w A n) :
    Calls Try.prog 21 #[.slice A n c] w (AskD w) := by
  have ht0 := Two.new w (.slice none 0 0) (.slice none 0 0) 27
  have hb0 : Below w.heap.size w (w.alloc (.cells #[.slice none 0 0, .slice none 0 0] 27)) := (Below.refl _ _).alloc (Nat.le_refl _) _
  have hz0 : (w.alloc (.cells #[.slice none 0 0, .slice none 0 0] 27)).heap.size = w.heap.size + 1 := by simp
  have HC := Lib.hid (hcode.below hb0)
  clear hcode
  go_enter Try.func21, Try.ntmps21
  go_wp2_with fail
  have hzg : w.heap.size < (w.alloc (.cells #[.slice none 0 0, .slice none 0 0] 27)).heap.size := by omega
  clear hz0
  generalize w.alloc (.cells #[.slice none 0 0, .slice none 0 0] 27) = W at ht0 hb0 hzg HC ⊢
  refine (drawFill_any A n c W hn HC.out).mono ?_
  rintro e w1 ⟨A1, n1, e1, B1, m1, d1, k, ad1, p1, r1, l1, ad2, p2, r2, l2, x, rfl, hx, hk, _, _, hb1⟩
  have t1 := ht0.below hb1
  have hx1 := hb1.size
  have HB := Lib.hid (btr hb0 hb1)
  clear hb0 hb1 ht0 HC
  have tv := Two.new w1 (.slice A1 n1 e1) (.slice B1 m1 d1) 27
  have hbv : Below w1.heap.size w1 (w1.alloc (.cells #[.slice A1 n1 e1, .slice B1 m1 d1] 27)) := (Below.refl _ _).alloc (Nat.le_refl _) _
  have t5 := t1.below hbv
  have HKf := Lib.hid (hk.below hbv)
  have HBf := Lib.hid (btr HB.out hbv)
  have hvn : w.heap.size ≠ w1.heap.size := by omega
  clear HB hbv hk t1 
  obtain ⟨v0, v1, vf0, vf1, vl⟩ := tv
  obtain ⟨q0, q1, f0, f1, hzl⟩ := t5
  have s1 := World.cell?_setCell_same ((w1.alloc (.cells #[.slice A1 n1 e1, .slice B1 m1 d1] 27)).setCell ⟨w.heap.size, 0, none⟩ (.slice A1 n1 e1)) ⟨w.heap.size, 1, none⟩ (.slice B1 m1 d1) ((World.cell?_setCell_other _ _ _ _ (by simp)).trans q1)
  have s0 := (World.cell?_setCell_other ((w1.alloc (.cells #[.slice A1 n1 e1, .slice B1 m1 d1] 27)).setCell ⟨w.heap.size, 0, none⟩ (.slice A1 n1 e1)) ⟨w.heap.size, 1, none⟩ ⟨w.heap.size, 0, none⟩ (.slice B1 m1 d1) (by simp)).trans (World.cell?_setCell_same (w1.alloc (.cells #[.slice A1 n1 e1, .slice B1 m1 d1] 27)) ⟨w.heap.size, 0, none⟩ (.slice A1 n1 e1) q0)
  go_wp2_with fail
  exact bodyPost_ret (v := .tuple #[.agg #[.slice A1 n1 e1, .slice B1 m1 d1], .int .i64 x]) (by simp [results, Try.results21, go_sem, s0, s1]) rfl ⟨_, _, _, _, _, _, _, _, rfl, hx, HKf.out.res _ _ (by omega), set_two HBf.out (Nat.le_refl _) _ _⟩

set_option maxRecDepth 100000 in
set_option maxHeartbeats 4000000 in
theorem drawForget_any (A : Option Addr) (n c : Nat) (w : World) (hn : n ≤ 1048576) (hcode : CodeAt w A n) :
    Calls Try.prog 24 #[.slice A n c] w (AskD w) := by
  have ht0 := Two.new w (.slice none 0 0) (.slice none 0 0) 27
  have hb0 : Below w.heap.size w (w.alloc (.cells #[.slice none 0 0, .slice none 0 0] 27)) := (Below.refl _ _).alloc (Nat.le_refl _) _
  have hz0 : (w.alloc (.cells #[.slice none 0 0, .slice none 0 0] 27)).heap.size = w.heap.size + 1 := by simp
  have HC := Lib.hid (hcode.below hb0)
  clear hcode
  go_enter Try.func24, Try.ntmps24
  go_wp2_with fail
  have hzg : w.heap.size < (w.alloc (.cells #[.slice none 0 0, .slice none 0 0] 27)).heap.size := by omega
  clear hz0
  generalize w.alloc (.cells #[.slice none 0 0, .slice none 0 0] 27) = W at ht0 hb0 hzg HC ⊢
  refine (drawAsk_any A n c W hn HC.out).mono ?_
  rintro e w1 ⟨A1, n1, e1, B1, m1, d1, k, x, rfl, hx, hk, hb1⟩
  have t1 := ht0.below hb1
  have hx1 := hb1.size
  have HB := Lib.hid (btr hb0 hb1)
  clear hb0 hb1 ht0 HC
  have t5 := t1
  have HKf := Lib.hid hk
  have HBf := HB
  clear HB hk t1 
  obtain ⟨q0, q1, f0, f1, hzl⟩ := t5
  have s1 := World.cell?_setCell_same (w1.setCell ⟨w.heap.size, 0, none⟩ (.slice A1 n1 e1)) ⟨w.heap.size, 1, none⟩ (.slice B1 m1 d1) ((World.cell?_setCell_other _ _ _ _ (by simp)).trans q1)
  have s0 := (World.cell?_setCell_other (w1.setCell ⟨w.heap.size, 0, none⟩ (.slice A1 n1 e1)) ⟨w.heap.size, 1, none⟩ ⟨w.heap.size, 0, none⟩ (.slice B1 m1 d1) (by simp)).trans (World.cell?_setCell_same w1 ⟨w.heap.size, 0, none⟩ (.slice A1 n1 e1) q0)
  go_wp2_with fail
  exact bodyPost_ret (v := .tuple #[.agg #[.slice A1 n1 e1, .slice B1 m1 d1], .int .i64 x]) (by simp [results, Try.results24, go_sem, s0, s1]) rfl ⟨_, _, _, _, _, _, _, _, rfl, hx, HKf.out.res _ _ (by omega), set_two HBf.out (Nat.le_refl _) _ _⟩

set_option maxRecDepth 100000 in
set_option maxHeartbeats 4000000 in
theorem drawForgetUses_any (A : Option Addr) (n c : Nat) (w : World) (hn : n ≤ 1048576) (hcode : CodeAt w A n) :
    Calls Try.prog 25 #[.slice A n c] w (UsesD w) := by
  have ht0 := Two.new w (.slice none 0 0) (.slice none 0 0) 27
  have hb0 : Below w.heap.size w (w.alloc (.cells #[.slice none 0 0, .slice none 0 0] 27)) := (Below.refl _ _).alloc (Nat.le_refl _) _
  have hz0 : (w.alloc (.cells #[.slice none 0 0, .slice none 0 0] 27)).heap.size = w.heap.size + 1 := by simp
  have HC := Lib.hid (hcode.below hb0)
  clear hcode
  go_enter Try.func25, Try.ntmps25
  go_wp2_with fail
  have hzg : w.heap.size < (w.alloc (.cells #[.slice none 0 0, .slice none 0 0] 27)).heap.size := by omega
  clear hz0
  generalize w.alloc (.cells #[.slice none 0 0, .slice none 0 0] 27) = W at ht0 hb0 hzg HC ⊢
  refine (drawFill_any A n c W hn HC.out).mono ?_
  rintro e w1 ⟨A1, n1, e1, B1, m1, d1, k, ad1, p1, r1, l1, ad2, p2, r2, l2, x, rfl, hx, hk, h1, _, hb1⟩
  have t1 := ht0.below hb1
  have hx1 := hb1.size
  have HB := Lib.hid (btr hb0 hb1)
  clear hb0 hb1 ht0 HC
  have tv := Two.new w1 (.slice A1 n1 e1) (.slice B1 m1 d1) 27
  have hbv : Below w1.heap.size w1 (w1.alloc (.cells #[.slice A1 n1 e1, .slice B1 m1 d1] 27)) := (Below.refl _ _).alloc (Nat.le_refl _) _
  have t5 := t1.below hbv
  have HKf := Lib.hid (hk.below hbv)
  have H1f := Lib.hid (h1.below hbv)
  have HBf := Lib.hid (btr HB.out hbv)
  have hvn : w.heap.size ≠ w1.heap.size := by omega
  clear HB hbv hk t1 h1
  obtain ⟨v0, v1, vf0, vf1, vl⟩ := tv
  obtain ⟨q0, q1, f0, f1, hzl⟩ := t5
  have s1 := World.cell?_setCell_same ((w1.alloc (.cells #[.slice A1 n1 e1, .slice B1 m1 d1] 27)).setCell ⟨w.heap.size, 0, none⟩ (.slice A1 n1 e1)) ⟨w.heap.size, 1, none⟩ (.slice B1 m1 d1) ((World.cell?_setCell_other _ _ _ _ (by simp)).trans q1)
  have s0 := (World.cell?_setCell_other ((w1.alloc (.cells #[.slice A1 n1 e1, .slice B1 m1 d1] 27)).setCell ⟨w.heap.size, 0, none⟩ (.slice A1 n1 e1)) ⟨w.heap.size, 1, none⟩ ⟨w.heap.size, 0, none⟩ (.slice B1 m1 d1) (by simp)).trans (World.cell?_setCell_same (w1.alloc (.cells #[.slice A1 n1 e1, .slice B1 m1 d1] 27)) ⟨w.heap.size, 0, none⟩ (.slice A1 n1 e1) q0)
  go_wp2_with fail
  exact bodyPost_ret (v := .tuple #[.agg #[.slice A1 n1 e1, .slice B1 m1 d1], .slice (some ad1) p1 r1, .int .i64 x]) (by simp [results, Try.results25, go_sem, s0, s1]) rfl ⟨_, _, _, _, _, _, _, _, _, _, _, _, rfl, hx, HKf.out.res _ _ (by omega), H1f.out.res _ _ (by omega), set_two HBf.out (Nat.le_refl _) _ _⟩

set_option maxRecDepth 100000 in
set_option maxHeartbeats 4000000 in
theorem drawForgetAll_any (A : Option Addr) (n c : Nat) (w : World) (hn : n ≤ 1048576) (hcode : CodeAt w A n) :
    Calls Try.prog 26 #[.slice A n c] w (AllD w) := by
  have ht0 := Two.new w (.slice none 0 0) (.slice none 0 0) 27
  have hb0 : Below w.heap.size w (w.alloc (.cells #[.slice none 0 0, .slice none 0 0] 27)) := (Below.refl _ _).alloc (Nat.le_refl _) _
  have hz0 : (w.alloc (.cells #[.slice none 0 0, .slice none 0 0] 27)).heap.size = w.heap.size + 1 := by simp
  have HC := Lib.hid (hcode.below hb0)
  clear hcode
  go_enter Try.func26, Try.ntmps26
  go_wp2_with fail
  have hzg : w.heap.size < (w.alloc (.cells #[.slice none 0 0, .slice none 0 0] 27)).heap.size := by omega
  clear hz0
  generalize w.alloc (.cells #[.slice none 0 0, .slice none 0 0] 27) = W at ht0 hb0 hzg HC ⊢
  refine (drawAsk_any A n c W hn HC.out).mono ?_
  rintro e w1 ⟨A1, n1, e1, B1, m1, d1, k, x, rfl, _, hk, hb1⟩
  have t1 := ht0.below hb1
  have hx1 := hb1.size
  have HB := Lib.hid (btr hb0 hb1)
  clear hb0 hb1 ht0 HC
  have tv := Two.new w1 (.slice A1 n1 e1) (.slice B1 m1 d1) 27
  have hbv : Below w1.heap.size w1 (w1.alloc (.cells #[.slice A1 n1 e1, .slice B1 m1 d1] 27)) := (Below.refl _ _).alloc (Nat.le_refl _) _
  have t5 := t1.below hbv
  have HKf := Lib.hid (hk.below hbv)
  have HBf := Lib.hid (btr HB.out hbv)
  have hvn : w.heap.size ≠ w1.heap.size := by omega
  clear HB hbv hk t1 
  obtain ⟨v0, v1, vf0, vf1, vl⟩ := tv
  obtain ⟨q0, q1, f0, f1, hzl⟩ := t5
  have s1 := World.cell?_setCell_same ((w1.alloc (.cells #[.slice A1 n1 e1, .slice B1 m1 d1] 27)).setCell ⟨w.heap.size, 0, none⟩ (.slice A1 n1 e1)) ⟨w.heap.size, 1, none⟩ (.slice B1 m1 d1) ((World.cell?_setCell_other _ _ _ _ (by simp)).trans q1)
  have s0 := (World.cell?_setCell_other ((w1.alloc (.cells #[.slice A1 n1 e1, .slice B1 m1 d1] 27)).setCell ⟨w.heap.size, 0, none⟩ (.slice A1 n1 e1)) ⟨w.heap.size, 1, none⟩ ⟨w.heap.size, 0, none⟩ (.slice B1 m1 d1) (by simp)).trans (World.cell?_setCell_same (w1.alloc (.cells #[.slice A1 n1 e1, .slice B1 m1 d1] 27)) ⟨w.heap.size, 0, none⟩ (.slice A1 n1 e1) q0)
  go_wp2_with fail
  exact bodyPost_ret (v := .agg #[.slice A1 n1 e1, .slice B1 m1 d1]) (by simp [results, Try.results26, go_sem, s0, s1]) rfl ⟨_, _, _, _, _, _, _, rfl, HKf.out.res _ _ (by omega), set_two HBf.out (Nat.le_refl _) _ _⟩
end Go.Proofs.Ytfgckkgakghenaa.KDraw
