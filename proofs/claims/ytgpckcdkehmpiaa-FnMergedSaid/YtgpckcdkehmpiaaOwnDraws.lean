/-
  The draws of chapter 12: what is drawn is within its range; no statement about the project's code stands here. No condition beyond the length of the code.
-/
import Derived.Test.YtgpckcdkehmpiaaCtlDraws
import Derived.Test.YtgpckcdkehmpiaaOwn
import Derived.Test.YtgpckcdkehmpiaaOrdT
namespace Go.Proofs.Ytgpckcdkehmpiaa.Owns
set_option maxRecDepth 100000
open Go.ChangeShapes Go.WideShapes Go.ChangeAt Go.RowKit
open Go.Proofs.Ytgpckcdkehmpiaa.Base Go.Proofs.Ytgpckcdkehmpiaa.Mem Go.Proofs.Ytgpckcdkehmpiaa.Data Go.Proofs.Ytgpckcdkehmpiaa.Draw Go.Proofs.Ytgpckcdkehmpiaa.SDraw Go.Proofs.Ytgpckcdkehmpiaa.Ctls
set_option linter.unusedVariables false
set_option linter.unusedSimpArgs false

def NPost (w0 : World) (A : Option Addr) (n c : Nat) (w : World) (g : Nat) (e : Ending) (w' : World) : Prop :=
  ∃ x, e = .returned (.int .i64 x) ∧ (Lit.int .i64 x).wf = true ∧ Cur w0 A n c w' g ∧ w.grownBy w' (some g)
def ThreeB (w : World) (e : Ending) (w' : World) : Prop := ∃ x y z, e = .returned (.tuple #[.int .i64 x, .int .i64 y, .int .i64 z]) ∧ (Lit.int .i64 x).wf = true ∧ (Lit.int .i64 y).wf = true ∧ (Lit.int .i64 z).wf = true ∧ Below w.heap.size w w'
def IntCtlB (w : World) (e : Ending) (w' : World) : Prop := ∃ x a b o, e = .returned (.tuple #[.int .i64 x, .agg #[.int .i64 a, .int .i64 b, .bool o]]) ∧ (Lit.int .i64 x).wf = true ∧ wfC (a, b, o) ∧ Below w.heap.size w w'
def TwoCtlB (w : World) (e : Ending) (w' : World) : Prop := ∃ a b o a' b' o', e = .returned (.tuple #[.agg #[.int .i64 a, .int .i64 b, .bool o], .agg #[.int .i64 a', .int .i64 b', .bool o']]) ∧ wfC (a, b, o) ∧ wfC (a', b', o') ∧ Below w.heap.size w w'
theorem mergeT_wf {a b : Int} : (Lit.int .i64 (mergeT a b)).wf = true := by
  unfold mergeT
  split
  · rename_i h
    simp only [Bool.and_eq_true] at h
    have h1 := inB_iff.1 h.1
    have h2 := inB_iff.1 h.2
    have e1 : a = 0 ∨ a = 1 ∨ a = 2 ∨ a = 3 := by omega
    have e2 : b = 0 ∨ b = 1 ∨ b = 2 ∨ b = 3 := by omega
    rcases e1 with rfl | rfl | rfl | rfl <;> rcases e2 with rfl | rfl | rfl | rfl <;> decide
  · decide

set_option maxHeartbeats 4000000 in
theorem traps_any (w0 : World) (A : Option Addr) (n c g : Nat) (w : World) (hn : n ≤ 1048576) (hcode : CodeAt w0 A n) (hcur : Cur w0 A n c w g) :
    Calls Try.prog 37 #[.pointer (some ⟨g, 0, none⟩)] w (NPost w0 A n c w g) := by
  have HC := Lib.hid hcode
  have hlt := hcur.lt
  have HU := Lib.hid hcur
  clear hcode hcur
  go_enter Try.func37, Try.ntmps37
  go_wp2_with fail
  refine (pick_any w0 A n c g _ w.heap.size 9 [0, 1, 2, 3, 0, 1, -1, 4, 9223372036854775807] (by decide) (by decide) hn HC.out (HU.out.alloc _) (by omega) rfl (heap_alloc_new w _)).mono ?_
  rintro e w1 ⟨x, rfl, hx, hc1, hg1⟩
  have HF := Lib.hid (And.intro (wf_of (by decide) hx) (And.intro hc1 (gtr (grown_new w _ _) hg1)))
  clear hx hc1 hg1 HU
  go_wp2_with fail
  go_ret
  exact ⟨x, rfl, HF.out.1, HF.out.2.1, HF.out.2.2⟩

set_option maxHeartbeats 4000000 in
theorem drawMergeT_any (A : Option Addr) (n c : Nat) (w : World) (hn : n ≤ 1048576) (hcode : CodeAt w A n) :
    Calls Try.prog 17 #[.slice A n c] w (TwoB w) := by
  have HC := Lib.hid hcode
  clear hcode
  go_enter Try.func17, Try.ntmps17
  go_wp2_with fail
  refine (new_any A n c _ hn HC.out).mono ?_
  rintro e w0 ⟨rfl, hcur, hsz0⟩
  clear hsz0
  have HU0 := Lib.hid hcur
  clear hcur
  go_wp2_with fail
  refine (traps_any w A n c _ _ hn HC.out HU0.out).mono ?_
  rintro e w1 ⟨x, rfl, hx, hc1, hg1⟩
  have Hx := Lib.hid hx
  have HU1 := Lib.hid hc1
  clear hx hc1 hg1 HU0
  go_wp2_with fail
  refine (traps_any w A n c _ _ hn HC.out HU1.out).mono ?_
  rintro e w2 ⟨y, rfl, hy, hc2, hg2⟩
  have Hy := Lib.hid hy
  have HU2 := Lib.hid hc2
  clear hy hc2 hg2 HU1
  go_wp2_with fail
  exact bodyPost_ret (v := .tuple #[.int .i64 x, .int .i64 y]) (by simp [results, Try.results17, go_sem]) rfl ⟨x, y, rfl, Hx.out, Hy.out, HU2.out.1⟩

set_option maxHeartbeats 4000000 in
theorem drawOwnerOf_any (A : Option Addr) (n c : Nat) (w : World) (hn : n ≤ 1048576) (hcode : CodeAt w A n) :
    Calls Try.prog 13 #[.slice A n c] w (ThreeB w) := by
  have HC := Lib.hid hcode
  clear hcode
  go_enter Try.func13, Try.ntmps13
  go_wp2_with fail
  refine (new_any A n c _ hn HC.out).mono ?_
  rintro e w0 ⟨rfl, hcur, hsz0⟩
  clear hsz0
  have HU0 := Lib.hid hcur
  clear hcur
  go_wp2_with fail
  refine (traps_any w A n c _ _ hn HC.out HU0.out).mono ?_
  rintro e w1 ⟨x, rfl, hx, hc1, hg1⟩
  have Hx := Lib.hid hx
  have HU1 := Lib.hid hc1
  clear hx hc1 hg1 HU0
  go_wp2_with fail
  refine (traps_any w A n c _ _ hn HC.out HU1.out).mono ?_
  rintro e w2 ⟨y, rfl, hy, hc2, hg2⟩
  have Hy := Lib.hid hy
  have HU2 := Lib.hid hc2
  clear hy hc2 hg2 HU1
  go_wp2_with fail
  refine (below_any w A n c _ _ 5 (by omega) (by omega) hn HC.out HU2.out).mono ?_
  rintro e w3 ⟨z, rfl, hz0, hz1, hc3, hg3⟩
  have Hz := Lib.hid (wf_less hz0 hz1 (by omega))
  have HU3 := Lib.hid hc3
  clear hc3 hg3 HU2
  go_wp2_with fail
  exact bodyPost_ret (v := .tuple #[.int .i64 x, .int .i64 y, .int .i64 (z - 1)]) (by simp [results, Try.results13, go_sem]) rfl ⟨x, y, z - 1, rfl, Hx.out, Hy.out, Hz.out, HU3.out.1⟩

set_option maxHeartbeats 4000000 in
theorem drawOwnersOf_any (A : Option Addr) (n c : Nat) (w : World) (hn : n ≤ 1048576) (hcode : CodeAt w A n) :
    Calls Try.prog 15 #[.slice A n c] w (TwoB w) := by
  have HC := Lib.hid hcode
  clear hcode
  go_enter Try.func15, Try.ntmps15
  go_wp2_with fail
  refine (drawMergeT_any A n c _ hn HC.out).mono ?_
  rintro e w1 ⟨x, y, rfl, hx, hy, hb⟩
  have HF := Lib.hid (And.intro hx (And.intro hy hb))
  clear hx hy hb
  go_wp2_with fail
  exact bodyPost_ret (v := .tuple #[.int .i64 x, .int .i64 y]) (by simp [results, Try.results15, go_sem]) rfl ⟨x, y, rfl, HF.out.1, HF.out.2.1, HF.out.2.2⟩

set_option maxHeartbeats 4000000 in
theorem drawMergedC_any (A : Option Addr) (n c : Nat) (w : World) (hn : n ≤ 1048576) (hcode : CodeAt w A n) :
    Calls Try.prog 11 #[.slice A n c] w (IntCtlB w) := by
  have hb0 : Below w.heap.size w (w.alloc (.cells #[.int .i64 0, .int .i64 0, .bool false] 25)) := (Below.refl _ _).alloc (Nat.le_refl _) _
  have t0 := Var.new w [.int .i64 0, .int .i64 0, .bool false] 25
  change Var (w.alloc (.cells #[.int .i64 0, .int .i64 0, .bool false] 25)) w.heap.size [.int .i64 0, .int .i64 0, .bool false] at t0
  have hz : w.heap.size < (w.alloc (.cells #[.int .i64 0, .int .i64 0, .bool false] 25)).heap.size := by simp
  have HC := Lib.hid (hcode.below hb0)
  clear hcode
  go_enter Try.func11, Try.ntmps11
  go_wp2_with fail
  generalize w.alloc (.cells #[.int .i64 0, .int .i64 0, .bool false] 25) = W at t0 hb0 HC hz ⊢
  refine (new_any A n c _ hn HC.out).mono ?_
  rintro e w0 ⟨rfl, hcur, hsz0⟩
  clear hsz0
  have t1 := t0.below hcur.1 (by omega)
  have HU0 := Lib.hid hcur
  clear hcur t0
  go_wp2_with fail
  refine (traps_any W A n c _ _ hn HC.out HU0.out).mono ?_
  rintro e w1 ⟨x, rfl, hx, hc1, hg1⟩
  have Hx := Lib.hid hx
  have HU1 := Lib.hid hc1
  have t2 := t1.grown hg1 (by omega)
  clear hx hc1 hg1 HU0 t1
  go_wp2_with fail
  refine (cany_any W A n c _ _ hn HC.out HU1.out).mono ?_
  rintro e w2 ⟨a, b, o, rfl, hw, hc2, hg2⟩
  have t3 := t2.grown hg2 (by omega)
  have r0 := t3.cell 0 (v := .int .i64 0) rfl
  have rf0 := t3.loose 0 (v := .int .i64 0) rfl
  have r1 := t3.cell 1 (v := .int .i64 0) rfl
  have rf1 := t3.loose 1 (v := .int .i64 0) rfl
  have r2 := t3.cell 2 (v := .bool false) rfl
  have rf2 := t3.loose 2 (v := .bool false) rfl
  have HF := Lib.hid (And.intro hw (btr hb0 hc2.1))
  clear hw hc2 hg2 HU1 t2 t3
  go_wp2_with fail
  exact bodyPost_ret (v := .tuple #[.int .i64 x, .agg #[.int .i64 a, .int .i64 b, .bool o]]) (by simp [results, Try.results11, go_sem, r0, r1, r2]) rfl
    ⟨x, a, b, o, rfl, Hx.out, HF.out.1, ((HF.out.2.setCell (p := ⟨w.heap.size, 0, none⟩) (Nat.le_refl _) _).setCell (p := ⟨w.heap.size, 1, none⟩) (Nat.le_refl _) _).setCell (p := ⟨w.heap.size, 2, none⟩) (Nat.le_refl _) _⟩

set_option maxRecDepth 100000 in
set_option maxHeartbeats 8000000 in
theorem drawGrants_any (A : Option Addr) (n c : Nat) (w : World) (hn : n ≤ 1048576) (hcode : CodeAt w A n) :
    Calls Try.prog 16 #[.slice A n c] w (TwoCtlB w) := by
  have hb0 : Below w.heap.size w ((w.alloc (.cells #[.int .i64 0, .int .i64 0, .bool false] 25)).alloc (.cells #[.int .i64 0, .int .i64 0, .bool false] 25)) := ((Below.refl _ _).alloc (Nat.le_refl _) _).alloc (by simp) _
  have tA : Var ((w.alloc (.cells #[.int .i64 0, .int .i64 0, .bool false] 25)).alloc (.cells #[.int .i64 0, .int .i64 0, .bool false] 25)) w.heap.size [.int .i64 0, .int .i64 0, .bool false] := Var.below (Var.new w [.int .i64 0, .int .i64 0, .bool false] 25) ((Below.refl _ _).alloc (Nat.le_refl _) _) (by show w.heap.size + 1 ≤ (w.alloc (.cells #[.int .i64 0, .int .i64 0, .bool false] 25)).heap.size; simp)
  have tB : Var ((w.alloc (.cells #[.int .i64 0, .int .i64 0, .bool false] 25)).alloc (.cells #[.int .i64 0, .int .i64 0, .bool false] 25)) (w.heap.size + 1) [.int .i64 0, .int .i64 0, .bool false] := by have h := Var.new (w.alloc (.cells #[.int .i64 0, .int .i64 0, .bool false] 25)) [.int .i64 0, .int .i64 0, .bool false] 25; rw [show (w.alloc (.cells #[.int .i64 0, .int .i64 0, .bool false] 25)).heap.size = w.heap.size + 1 by simp] at h; exact h
  have hz : w.heap.size + 2 ≤ ((w.alloc (.cells #[.int .i64 0, .int .i64 0, .bool false] 25)).alloc (.cells #[.int .i64 0, .int .i64 0, .bool false] 25)).heap.size := by simp
  have HC := Lib.hid (hcode.below hb0)
  clear hcode
  go_enter Try.func16, Try.ntmps16
  go_wp2_with fail
  generalize (w.alloc (.cells #[.int .i64 0, .int .i64 0, .bool false] 25)).alloc (.cells #[.int .i64 0, .int .i64 0, .bool false] 25) = W at tA tB hb0 HC hz ⊢
  refine (new_any A n c _ hn HC.out).mono ?_
  rintro e w0 ⟨rfl, hcur, hsz0⟩
  clear hsz0
  have tA1 := tA.below hcur.1 (by omega)
  have tB1 := tB.below hcur.1 (by omega)
  have HU0 := Lib.hid hcur
  have hs0 := hcur.1.size
  have hl0 := hcur.lt
  clear hcur tA tB
  go_wp2_with fail
  refine (cany_any W A n c _ _ hn HC.out HU0.out).mono ?_
  rintro e w1 ⟨a, b, o, rfl, hw, hc1, hg1⟩
  have HW := Lib.hid hw
  have hs1 := hg1.size
  have tA2 := (tA1.grown hg1 (by omega)).below ((Below.refl w1.heap.size w1).alloc (Nat.le_refl _) (.cells #[.int .i64 a, .int .i64 b, .bool o] 25)) (by omega)
  have tB2 := (tB1.grown hg1 (by omega)).below ((Below.refl w1.heap.size w1).alloc (Nat.le_refl _) (.cells #[.int .i64 a, .int .i64 b, .bool o] 25)) (by omega)
  have tV2 := Var.new w1 [.int .i64 a, .int .i64 b, .bool o] 25
  change Var (w1.alloc (.cells #[.int .i64 a, .int .i64 b, .bool o] 25)) w1.heap.size [.int .i64 a, .int .i64 b, .bool o] at tV2
  have HU2 := Lib.hid (hc1.alloc (.cells #[.int .i64 a, .int .i64 b, .bool o] 25))
  have hz2 : w1.heap.size < (w1.alloc (.cells #[.int .i64 a, .int .i64 b, .bool o] 25)).heap.size := by simp
  clear hw hc1 hg1 tA1 tB1 HU0
  go_wp2_with fail
  generalize w1.alloc (.cells #[.int .i64 a, .int .i64 b, .bool o] 25) = W2 at tA2 tB2 tV2 HU2 hz2 ⊢
  obtain ⟨zv, hzv⟩ : ∃ z, z = w1.heap.size := ⟨_, rfl⟩
  rw [← hzv] at tV2 hz2 hs1 ⊢
  refine (once_any W A n c _ _ 2 (by omega) (by omega) hn HC.out HU2.out).mono ?_
  rintro e w3 ⟨p, rfl, hc3, hg3⟩
  have tA3 := tA2.grown hg3 (by omega)
  have tB3 := tB2.grown hg3 (by omega)
  have tV3 := tV2.grown hg3 (by omega)
  have HU3 := Lib.hid hc3
  have hs3 := hg3.size
  clear hc3 hg3 tA2 tB2 tV2 HU2 hzv
  cases p
  · go_wp2_with fail
    refine Ord.wp_region_ord (fun w' => w'.cell? ⟨zv, 0, none⟩ = some (.int .i64 a) ∧ w'.cell? ⟨zv, 1, none⟩ = some (.int .i64 b) ∧ w'.cell? ⟨zv, 2, none⟩ = some (.bool o)) [(0, true), (2, true), (1, false), (3, false), (4, false)] (by kernel_rfl) (by kernel_rfl) rfl (by kernel_rfl) (⟨tV3.cell 0 (v := .int .i64 a) rfl, tV3.cell 1 (v := .int .i64 b) rfl, tV3.cell 2 (v := .bool o) rfl⟩) ?_
    simp only [Ord.ordOps, List.getElem?_toArray, List.getElem?_cons_zero, List.getElem?_cons_succ]
    repeat (first
      | (refine Ord.ord_plain (v := ?_) rfl (fun w' hS => ?_) ?_; rotate_left; (focus ((try dsimp only at hS); go_simp; first | done | with_reducible rfl)); simp only [Act.put, List.setIfInBounds_toArray, List.set_cons_zero, List.set_cons_succ])
      | (refine Ord.ord_skip (by rfl) ?_; simp only [Act.put, List.setIfInBounds_toArray, List.set_cons_zero, List.set_cons_succ])
      | (refine Ord.ord_take (v := ?_) (by rfl) (fun w' hS => ?_) ?_; rotate_left; (focus ((try dsimp only at hS); go_simp; first | done | with_reducible rfl)); simp only [Act.put, List.setIfInBounds_toArray, List.set_cons_zero, List.set_cons_succ]))
    have HUd := Lib.hid (show Cur W A n c w3.drew W.heap.size from ⟨HU3.out.1.drew, HU3.out.2.1, HU3.out.2.2⟩)
    have tVd : Var w3.drew zv [.int .i64 a, .int .i64 b, .bool o] := tV3
    have tAd : Var w3.drew w.heap.size [.int .i64 0, .int .i64 0, .bool false] := tA3
    have tBd : Var w3.drew (w.heap.size + 1) [.int .i64 0, .int .i64 0, .bool false] := tB3
    clear tV3 tA3 tB3 HU3
    refine Ord.ord_call (fun K hK => ?_)
    go_simp
    refine (cany_any W A n c _ _ hn HC.out HUd.out).mono ?_
    rintro e w4 ⟨a', b', o', rfl, hw4, hc4, hg4⟩
    have HW4 := Lib.hid hw4
    have HBZ := Lib.hid (btr hb0 hc4.1)
    have tV4 := tVd.grown hg4 (by omega)
    have tA4 := tAd.grown hg4 (by omega)
    have tB4 := tBd.grown hg4 (by omega)
    clear hw4 hc4 hg4 tVd tAd tBd HUd
    refine hK.out _ _ (⟨tV4.cell 0 (v := .int .i64 a) rfl, tV4.cell 1 (v := .int .i64 b) rfl, tV4.cell 2 (v := .bool o) rfl⟩) ?_
    clear hK K
    repeat (first
      | (refine Ord.ord_plain (v := ?_) rfl (fun w' hS => ?_) ?_; rotate_left; (focus ((try dsimp only at hS); go_simp; first | done | with_reducible rfl)); simp only [Act.put, List.setIfInBounds_toArray, List.set_cons_zero, List.set_cons_succ])
      | (refine Ord.ord_skip (by rfl) ?_; simp only [Act.put, List.setIfInBounds_toArray, List.set_cons_zero, List.set_cons_succ])
      | (refine Ord.ord_take (v := ?_) (by rfl) (fun w' hS => ?_) ?_; rotate_left; (focus ((try dsimp only at hS); go_simp; first | done | with_reducible rfl)); simp only [Act.put, List.setIfInBounds_toArray, List.set_cons_zero, List.set_cons_succ]))
    have r0 := tA4.cell 0 (v := .int .i64 0) rfl
    have rf0 := tA4.loose 0 (v := .int .i64 0) rfl
    have r1 := tA4.cell 1 (v := .int .i64 0) rfl
    have rf1 := tA4.loose 1 (v := .int .i64 0) rfl
    have r2 := tA4.cell 2 (v := .bool false) rfl
    have rf2 := tA4.loose 2 (v := .bool false) rfl
    have s0 := tB4.cell 0 (v := .int .i64 0) rfl
    have sf0 := tB4.loose 0 (v := .int .i64 0) rfl
    have s1 := tB4.cell 1 (v := .int .i64 0) rfl
    have sf1 := tB4.loose 1 (v := .int .i64 0) rfl
    have s2 := tB4.cell 2 (v := .bool false) rfl
    have sf2 := tB4.loose 2 (v := .bool false) rfl
    refine Ord.ord_call (fun K hK => ?_)
    go_simp
    have tV8 : Var (((w4.setCell ⟨w.heap.size, 0, none⟩ (.int .i64 a')).setCell ⟨w.heap.size, 1, none⟩ (.int .i64 b')).setCell ⟨w.heap.size, 2, none⟩ (.bool o')) zv [.int .i64 a, .int .i64 b, .bool o] := (((tV4.far (by omega) 0 (.int .i64 a')).far (by omega) 1 (.int .i64 b')).far (by omega) 2 (.bool o'))
    have tB8 : Var (((w4.setCell ⟨w.heap.size, 0, none⟩ (.int .i64 a')).setCell ⟨w.heap.size, 1, none⟩ (.int .i64 b')).setCell ⟨w.heap.size, 2, none⟩ (.bool o')) (w.heap.size + 1) [.int .i64 0, .int .i64 0, .bool false] := (((tB4.far (by omega) 0 (.int .i64 a')).far (by omega) 1 (.int .i64 b')).far (by omega) 2 (.bool o'))
    have u0 := tB8.cell 0 (v := .int .i64 0) rfl
    have u1 := tB8.cell 1 (v := .int .i64 0) rfl
    have u2 := tB8.cell 2 (v := .bool false) rfl
    have uf0 := tB8.loose 0 (v := .int .i64 0) rfl
    have uf1 := tB8.loose 1 (v := .int .i64 0) rfl
    have uf2 := tB8.loose 2 (v := .bool false) rfl
    refine hK.out _ _ (⟨tV8.cell 0 (v := .int .i64 a) rfl, tV8.cell 1 (v := .int .i64 b) rfl, tV8.cell 2 (v := .bool o) rfl⟩) ?_
    clear hK K
    repeat (first
      | (refine Ord.ord_plain (v := ?_) rfl (fun w' hS => ?_) ?_; rotate_left; (focus ((try dsimp only at hS); go_simp; first | done | with_reducible rfl)); simp only [Act.put, List.setIfInBounds_toArray, List.set_cons_zero, List.set_cons_succ])
      | (refine Ord.ord_skip (by rfl) ?_; simp only [Act.put, List.setIfInBounds_toArray, List.set_cons_zero, List.set_cons_succ])
      | (refine Ord.ord_take (v := ?_) (by rfl) (fun w' hS => ?_) ?_; rotate_left; (focus ((try dsimp only at hS); go_simp; first | done | with_reducible rfl)); simp only [Act.put, List.setIfInBounds_toArray, List.set_cons_zero, List.set_cons_succ]))
    refine Ord.ord_call (fun K hK => ?_)
    go_simp
    have tV9 : Var (((((((w4.setCell ⟨w.heap.size, 0, none⟩ (.int .i64 a')).setCell ⟨w.heap.size, 1, none⟩ (.int .i64 b')).setCell ⟨w.heap.size, 2, none⟩ (.bool o'))).setCell ⟨w.heap.size + 1, 0, none⟩ (.int .i64 a)).setCell ⟨w.heap.size + 1, 1, none⟩ (.int .i64 b)).setCell ⟨w.heap.size + 1, 2, none⟩ (.bool o)) zv [.int .i64 a, .int .i64 b, .bool o] := (((tV8.far (by omega) 0 (.int .i64 a)).far (by omega) 1 (.int .i64 b)).far (by omega) 2 (.bool o))
    refine hK.out _ _ (⟨tV9.cell 0 (v := .int .i64 a) rfl, tV9.cell 1 (v := .int .i64 b) rfl, tV9.cell 2 (v := .bool o) rfl⟩) ?_
    clear hK K
    repeat (first
      | (refine Ord.ord_plain (v := ?_) rfl (fun w' hS => ?_) ?_; rotate_left; (focus ((try dsimp only at hS); go_simp; first | done | with_reducible rfl)); simp only [Act.put, List.setIfInBounds_toArray, List.set_cons_zero, List.set_cons_succ])
      | (refine Ord.ord_skip (by rfl) ?_; simp only [Act.put, List.setIfInBounds_toArray, List.set_cons_zero, List.set_cons_succ])
      | (refine Ord.ord_take (v := ?_) (by rfl) (fun w' hS => ?_) ?_; rotate_left; (focus ((try dsimp only at hS); go_simp; first | done | with_reducible rfl)); simp only [Act.put, List.setIfInBounds_toArray, List.set_cons_zero, List.set_cons_succ]))
    refine Ord.ord_nil ?_
    go_wp2_with fail
    exact bodyPost_ret (v := .tuple #[.agg #[.int .i64 a', .int .i64 b', .bool o'], .agg #[.int .i64 a, .int .i64 b, .bool o]]) (by simp [results, Try.results16, go_sem, r0, r1, r2, s0, s1, s2]) rfl
      ⟨a', b', o', a, b, o, rfl, HW4.out, HW.out, (((((HBZ.out.setCell (p := ⟨w.heap.size, 0, none⟩) (Nat.le_refl _) _).setCell (p := ⟨w.heap.size, 1, none⟩) (Nat.le_refl _) _).setCell (p := ⟨w.heap.size, 2, none⟩) (Nat.le_refl _) _).setCell (p := ⟨w.heap.size + 1, 0, none⟩) (Nat.le_succ _) _).setCell (p := ⟨w.heap.size + 1, 1, none⟩) (Nat.le_succ _) _).setCell (p := ⟨w.heap.size + 1, 2, none⟩) (Nat.le_succ _) _⟩
  · go_wp2_with fail
    refine Ord.wp_region_ord (fun w' => w'.cell? ⟨zv, 0, none⟩ = some (.int .i64 a) ∧ w'.cell? ⟨zv, 1, none⟩ = some (.int .i64 b) ∧ w'.cell? ⟨zv, 2, none⟩ = some (.bool o)) [(0, true), (2, true), (4, true), (1, false), (3, false), (5, false), (6, false)] (by kernel_rfl) (by kernel_rfl) rfl (by kernel_rfl) (⟨tV3.cell 0 (v := .int .i64 a) rfl, tV3.cell 1 (v := .int .i64 b) rfl, tV3.cell 2 (v := .bool o) rfl⟩) ?_
    simp only [Ord.ordOps, List.getElem?_toArray, List.getElem?_cons_zero, List.getElem?_cons_succ]
    repeat (first
      | (refine Ord.ord_plain (v := ?_) rfl (fun w' hS => ?_) ?_; rotate_left; (focus ((try dsimp only at hS); go_simp; first | done | with_reducible rfl)); simp only [Act.put, List.setIfInBounds_toArray, List.set_cons_zero, List.set_cons_succ])
      | (refine Ord.ord_skip (by rfl) ?_; simp only [Act.put, List.setIfInBounds_toArray, List.set_cons_zero, List.set_cons_succ])
      | (refine Ord.ord_take (v := ?_) (by rfl) (fun w' hS => ?_) ?_; rotate_left; (focus ((try dsimp only at hS); go_simp; first | done | with_reducible rfl)); simp only [Act.put, List.setIfInBounds_toArray, List.set_cons_zero, List.set_cons_succ]))
    have HUd := Lib.hid (show Cur W A n c w3.drew W.heap.size from ⟨HU3.out.1.drew, HU3.out.2.1, HU3.out.2.2⟩)
    have tVd : Var w3.drew zv [.int .i64 a, .int .i64 b, .bool o] := tV3
    have tAd : Var w3.drew w.heap.size [.int .i64 0, .int .i64 0, .bool false] := tA3
    have tBd : Var w3.drew (w.heap.size + 1) [.int .i64 0, .int .i64 0, .bool false] := tB3
    clear tV3 tA3 tB3 HU3
    refine Ord.ord_call (fun K hK => ?_)
    go_simp
    refine (traps_any W A n c _ _ hn HC.out HUd.out).mono ?_
    rintro e w4 ⟨x, rfl, hx, hc4, hg4⟩
    have Hx := Lib.hid hx
    have HB4 := Lib.hid hc4.1
    have tV4 := tVd.grown hg4 (by omega)
    have tA4 := tAd.grown hg4 (by omega)
    have tB4 := tBd.grown hg4 (by omega)
    have hs4 := hg4.size
    have hsd : w3.drew.heap.size = w3.heap.size := rfl
    clear hx hc4 hg4 tVd tAd tBd HUd
    refine hK.out _ _ (⟨tV4.cell 0 (v := .int .i64 a) rfl, tV4.cell 1 (v := .int .i64 b) rfl, tV4.cell 2 (v := .bool o) rfl⟩) ?_
    clear hK K
    repeat (first
      | (refine Ord.ord_plain (v := ?_) rfl (fun w' hS => ?_) ?_; rotate_left; (focus ((try dsimp only at hS); go_simp; first | done | with_reducible rfl)); simp only [Act.put, List.setIfInBounds_toArray, List.set_cons_zero, List.set_cons_succ])
      | (refine Ord.ord_skip (by rfl) ?_; simp only [Act.put, List.setIfInBounds_toArray, List.set_cons_zero, List.set_cons_succ])
      | (refine Ord.ord_take (v := ?_) (by rfl) (fun w' hS => ?_) ?_; rotate_left; (focus ((try dsimp only at hS); go_simp; first | done | with_reducible rfl)); simp only [Act.put, List.setIfInBounds_toArray, List.set_cons_zero, List.set_cons_succ]))
    refine Ord.ord_call (fun K hK => ?_)
    go_simp
    refine (spec_mergedC x a b o _).mono ?_
    rintro e w5 ⟨rfl, hb5⟩
    have HBZ := Lib.hid (btr hb0 (btr HB4.out hb5))
    have tV5 := tV4.below hb5 (by have := tV4.2; omega)
    have tA5 := tA4.below hb5 (by have := tA4.2; omega)
    have tB5 := tB4.below hb5 (by have := tB4.2; omega)
    clear tV4 tA4 tB4 hb5
    dsimp only [mergedC]
    refine hK.out _ _ (⟨tV5.cell 0 (v := .int .i64 a) rfl, tV5.cell 1 (v := .int .i64 b) rfl, tV5.cell 2 (v := .bool o) rfl⟩) ?_
    clear hK K
    repeat (first
      | (refine Ord.ord_plain (v := ?_) rfl (fun w' hS => ?_) ?_; rotate_left; (focus ((try dsimp only at hS); go_simp; first | done | with_reducible rfl)); simp only [Act.put, List.setIfInBounds_toArray, List.set_cons_zero, List.set_cons_succ])
      | (refine Ord.ord_skip (by rfl) ?_; simp only [Act.put, List.setIfInBounds_toArray, List.set_cons_zero, List.set_cons_succ])
      | (refine Ord.ord_take (v := ?_) (by rfl) (fun w' hS => ?_) ?_; rotate_left; (focus ((try dsimp only at hS); go_simp; first | done | with_reducible rfl)); simp only [Act.put, List.setIfInBounds_toArray, List.set_cons_zero, List.set_cons_succ]))
    have r0 := tA5.cell 0 (v := .int .i64 0) rfl
    have rf0 := tA5.loose 0 (v := .int .i64 0) rfl
    have r1 := tA5.cell 1 (v := .int .i64 0) rfl
    have rf1 := tA5.loose 1 (v := .int .i64 0) rfl
    have r2 := tA5.cell 2 (v := .bool false) rfl
    have rf2 := tA5.loose 2 (v := .bool false) rfl
    have s0 := tB5.cell 0 (v := .int .i64 0) rfl
    have sf0 := tB5.loose 0 (v := .int .i64 0) rfl
    have s1 := tB5.cell 1 (v := .int .i64 0) rfl
    have sf1 := tB5.loose 1 (v := .int .i64 0) rfl
    have s2 := tB5.cell 2 (v := .bool false) rfl
    have sf2 := tB5.loose 2 (v := .bool false) rfl
    refine Ord.ord_call (fun K hK => ?_)
    go_simp
    have tV8 : Var (((w5.setCell ⟨w.heap.size, 0, none⟩ (.int .i64 (mergeT x a))).setCell ⟨w.heap.size, 1, none⟩ (.int .i64 b)).setCell ⟨w.heap.size, 2, none⟩ (.bool o)) zv [.int .i64 a, .int .i64 b, .bool o] := (((tV5.far (by omega) 0 (.int .i64 (mergeT x a))).far (by omega) 1 (.int .i64 b)).far (by omega) 2 (.bool o))
    have tB8 : Var (((w5.setCell ⟨w.heap.size, 0, none⟩ (.int .i64 (mergeT x a))).setCell ⟨w.heap.size, 1, none⟩ (.int .i64 b)).setCell ⟨w.heap.size, 2, none⟩ (.bool o)) (w.heap.size + 1) [.int .i64 0, .int .i64 0, .bool false] := (((tB5.far (by omega) 0 (.int .i64 (mergeT x a))).far (by omega) 1 (.int .i64 b)).far (by omega) 2 (.bool o))
    have u0 := tB8.cell 0 (v := .int .i64 0) rfl
    have u1 := tB8.cell 1 (v := .int .i64 0) rfl
    have u2 := tB8.cell 2 (v := .bool false) rfl
    have uf0 := tB8.loose 0 (v := .int .i64 0) rfl
    have uf1 := tB8.loose 1 (v := .int .i64 0) rfl
    have uf2 := tB8.loose 2 (v := .bool false) rfl
    refine hK.out _ _ (⟨tV8.cell 0 (v := .int .i64 a) rfl, tV8.cell 1 (v := .int .i64 b) rfl, tV8.cell 2 (v := .bool o) rfl⟩) ?_
    clear hK K
    repeat (first
      | (refine Ord.ord_plain (v := ?_) rfl (fun w' hS => ?_) ?_; rotate_left; (focus ((try dsimp only at hS); go_simp; first | done | with_reducible rfl)); simp only [Act.put, List.setIfInBounds_toArray, List.set_cons_zero, List.set_cons_succ])
      | (refine Ord.ord_skip (by rfl) ?_; simp only [Act.put, List.setIfInBounds_toArray, List.set_cons_zero, List.set_cons_succ])
      | (refine Ord.ord_take (v := ?_) (by rfl) (fun w' hS => ?_) ?_; rotate_left; (focus ((try dsimp only at hS); go_simp; first | done | with_reducible rfl)); simp only [Act.put, List.setIfInBounds_toArray, List.set_cons_zero, List.set_cons_succ]))
    refine Ord.ord_call (fun K hK => ?_)
    go_simp
    have tV9 : Var (((((((w5.setCell ⟨w.heap.size, 0, none⟩ (.int .i64 (mergeT x a))).setCell ⟨w.heap.size, 1, none⟩ (.int .i64 b)).setCell ⟨w.heap.size, 2, none⟩ (.bool o))).setCell ⟨w.heap.size + 1, 0, none⟩ (.int .i64 a)).setCell ⟨w.heap.size + 1, 1, none⟩ (.int .i64 b)).setCell ⟨w.heap.size + 1, 2, none⟩ (.bool o)) zv [.int .i64 a, .int .i64 b, .bool o] := (((tV8.far (by omega) 0 (.int .i64 a)).far (by omega) 1 (.int .i64 b)).far (by omega) 2 (.bool o))
    refine hK.out _ _ (⟨tV9.cell 0 (v := .int .i64 a) rfl, tV9.cell 1 (v := .int .i64 b) rfl, tV9.cell 2 (v := .bool o) rfl⟩) ?_
    clear hK K
    repeat (first
      | (refine Ord.ord_plain (v := ?_) rfl (fun w' hS => ?_) ?_; rotate_left; (focus ((try dsimp only at hS); go_simp; first | done | with_reducible rfl)); simp only [Act.put, List.setIfInBounds_toArray, List.set_cons_zero, List.set_cons_succ])
      | (refine Ord.ord_skip (by rfl) ?_; simp only [Act.put, List.setIfInBounds_toArray, List.set_cons_zero, List.set_cons_succ])
      | (refine Ord.ord_take (v := ?_) (by rfl) (fun w' hS => ?_) ?_; rotate_left; (focus ((try dsimp only at hS); go_simp; first | done | with_reducible rfl)); simp only [Act.put, List.setIfInBounds_toArray, List.set_cons_zero, List.set_cons_succ]))
    refine Ord.ord_nil ?_
    go_wp2_with fail
    exact bodyPost_ret (v := .tuple #[.agg #[.int .i64 (mergeT x a), .int .i64 b, .bool o], .agg #[.int .i64 a, .int .i64 b, .bool o]]) (by simp [results, Try.results16, go_sem, r0, r1, r2, s0, s1, s2]) rfl
      ⟨(mergeT x a), b, o, a, b, o, rfl, ⟨mergeT_wf, HW.out.2⟩, HW.out, (((((HBZ.out.setCell (p := ⟨w.heap.size, 0, none⟩) (Nat.le_refl _) _).setCell (p := ⟨w.heap.size, 1, none⟩) (Nat.le_refl _) _).setCell (p := ⟨w.heap.size, 2, none⟩) (Nat.le_refl _) _).setCell (p := ⟨w.heap.size + 1, 0, none⟩) (Nat.le_succ _) _).setCell (p := ⟨w.heap.size + 1, 1, none⟩) (Nat.le_succ _) _).setCell (p := ⟨w.heap.size + 1, 2, none⟩) (Nat.le_succ _) _⟩
end Go.Proofs.Ytgpckcdkehmpiaa.Owns
