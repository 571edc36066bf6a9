/-
  The draws of chapter 11: what is drawn is within its range; no statement about the project's code stands here. No condition beyond the length of the code.
-/
import Derived.Test.YtgpckcdkehmpiaaCtlH
import Derived.Test.YtgpckcdkehmpiaaVar
import Derived.Test.YtgpckcdkehmpiaaSlotDraws
namespace Go.Proofs.Ytgpckcdkehmpiaa.Ctls
set_option maxRecDepth 100000
open Go.ChangeShapes Go.WideShapes Go.ChangeAt Go.RowKit
open Go.Proofs.Ytgpckcdkehmpiaa.Base Go.Proofs.Ytgpckcdkehmpiaa.Mem Go.Proofs.Ytgpckcdkehmpiaa.Data Go.Proofs.Ytgpckcdkehmpiaa.Draw Go.Proofs.Ytgpckcdkehmpiaa.SDraw
set_option linter.unusedVariables false
set_option linter.unusedSimpArgs false

theorem wf_of {l : List Int} (h : l.all (fun x => (Lit.int .i64 x).wf) = true) {x : Int} (hx : x ∈ l) : (Lit.int .i64 x).wf = true := List.all_eq_true.1 h x hx
theorem wf_less {x m : Int} (h0 : 0 ≤ x) (h1 : x < m) (hm : m ≤ 1048576) : (Lit.int .i64 (x - 1)).wf = true := by
  simp [Lit.wf]
  have e1 : IntKind.i64.min = -9223372036854775808 := by decide
  have e2 : IntKind.i64.max = 9223372036854775807 := by decide
  omega
def CPost (w0 : World) (A : Option Addr) (n c : Nat) (w : World) (g : Nat) (e : Ending) (w' : World) : Prop :=
  ∃ a b o, e = .returned (.agg #[.int .i64 a, .int .i64 b, .bool o]) ∧ wfC (a, b, o) ∧ Cur w0 A n c w' g ∧ w.grownBy w' (some g)
theorem cur3 {w0 w1 : World} {A : Option Addr} {n c g b : Nat} (h : Cur w0 A n c w1 g) (hg : g < b) (h0 : w0.heap.size ≤ b) (u v x : Value) : Cur w0 A n c (((w1.setCell ⟨b, 0, none⟩ u).setCell ⟨b, 1, none⟩ v).setCell ⟨b, 2, none⟩ x) g :=
  var_cur (var_cur (var_cur h hg h0 _ _) hg h0 _ _) hg h0 _ _
theorem far3 {w W : World} {g b : Nat} (hG : w.grownBy W (some g)) (hb : w.heap.size ≤ b) (u v x : Value) : w.grownBy (((W.setCell ⟨b, 0, none⟩ u).setCell ⟨b, 1, none⟩ v).setCell ⟨b, 2, none⟩ x) (some g) :=
  grown_far (grown_far (grown_far hG hb _ _) hb _ _) hb _ _

set_option maxRecDepth 100000 in
set_option maxHeartbeats 8000000 in
theorem cctl_any (w0 : World) (A : Option Addr) (n c g : Nat) (w : World) (hn : n ≤ 1048576) (hcode : CodeAt w0 A n) (hcur : Cur w0 A n c w g) :
    Calls Try.prog 48 #[.pointer (some ⟨g, 0, none⟩)] w (CPost w0 A n c w g) := by
  have HC := Lib.hid hcode
  have hlt := hcur.lt
  have hs0 := hcur.1.size
  have t0 := Var.new w [.int .i64 0, .int .i64 0, .bool false] 25
  change Var (w.alloc (.cells #[.int .i64 0, .int .i64 0, .bool false] 25)) w.heap.size [.int .i64 0, .int .i64 0, .bool false] at t0
  have HU := Lib.hid (hcur.alloc (.cells #[.int .i64 0, .int .i64 0, .bool false] 25))
  have hG0 := grown_new w (.cells #[.int .i64 0, .int .i64 0, .bool false] 25) (some g)
  have hz0 : w.heap.size < (w.alloc (.cells #[.int .i64 0, .int .i64 0, .bool false] 25)).heap.size := by simp
  clear hcode hcur
  go_enter Try.func48, Try.ntmps48
  go_wp2_with fail
  generalize w.alloc (.cells #[.int .i64 0, .int .i64 0, .bool false] 25) = W0 at t0 HU hG0 hz0 ⊢
  refine (below_any w0 A n c g _ 4 (by omega) (by omega) hn HC.out HU.out).mono ?_
  rintro e W1 ⟨x, rfl, hx0, hx1, hc1, hg1⟩
  have HX := Lib.hid (wf_small hx0 hx1 (by omega))
  have HU1 := Lib.hid hc1
  have hG1 := gtr hG0 hg1
  have t1 := t0.grown hg1 (by omega)
  have hs1 := hg1.size
  clear hc1 hg1 HU t0 hG0
  go_wp2_with fail
  refine (once_any w0 A n c g _ 4 (by omega) (by omega) hn HC.out HU1.out).mono ?_
  rintro e W2 ⟨q, rfl, hc2, hg2⟩
  have hG2 := gtr hG1 hg2
  have t2 := t1.grown hg2 (by omega)
  have hs2 := hg2.size
  have hgW2 := hc2.lt
  have n3 := Var.new W2 [.int .i64 x, .int .i64 0, .bool (!q)] 25
  change Var (W2.alloc (.cells #[.int .i64 x, .int .i64 0, .bool (!q)] 25)) W2.heap.size [.int .i64 x, .int .i64 0, .bool (!q)] at n3
  have HU3 := Lib.hid (hc2.alloc (.cells #[.int .i64 x, .int .i64 0, .bool (!q)] 25))
  have hG3 := gtr hG2 (grown_new W2 (.cells #[.int .i64 x, .int .i64 0, .bool (!q)] 25) _)
  have t3 := Var.below t2 ((Below.refl _ _).alloc (Nat.le_refl _) (.cells #[.int .i64 x, .int .i64 0, .bool (!q)] 25)) (by omega)
  have hz3 : W2.heap.size < (W2.alloc (.cells #[.int .i64 x, .int .i64 0, .bool (!q)] 25)).heap.size := by simp
  clear hc2 hg2 HU1 t1 hG1 hG2 t2
  have hne1 : W2.heap.size ≠ w.heap.size := by omega
  have hne2 : w.heap.size ≠ W2.heap.size := by omega
  cases q
  · by_cases h2 : x = 2
    · subst h2
      simp only [Bool.not_true, Bool.not_false] at n3 HU3 hG3 t3 hz3
      have r := n3
      clear r
      have r0 := t3.cell 0 (v := .int .i64 0) rfl
      have rf0 := t3.loose 0 (v := .int .i64 0) rfl
      have r1 := t3.cell 1 (v := .int .i64 0) rfl
      have rf1 := t3.loose 1 (v := .int .i64 0) rfl
      have r2 := t3.cell 2 (v := .bool false) rfl
      have rf2 := t3.loose 2 (v := .bool false) rfl
      have v0 := n3.cell 0 (v := .int .i64 2) rfl
      have vf0 := n3.loose 0 (v := .int .i64 2) rfl
      have v1 := n3.cell 1 (v := .int .i64 0) rfl
      have vf1 := n3.loose 1 (v := .int .i64 0) rfl
      have v2 := n3.cell 2 (v := .bool true) rfl
      have vf2 := n3.loose 2 (v := .bool true) rfl
      clear t3 n3
      go_wp2_with fail
      exact bodyPost_ret (v := .agg #[.int .i64 2, .int .i64 0, .bool true]) (by simp [results, Try.results48, go_sem, r0, r1, r2, v0, v1, v2, hne1, hne2]) rfl
        ⟨2, 0, true, rfl, ⟨HX.out, (by decide : (Lit.int .i64 0).wf = true), trivial⟩, cur3 HU3.out hlt hs0 _ _ _, far3 hG3 (Nat.le_refl _) _ _ _⟩
    · have h2' : (x == 2) = false := by simpa using h2
      have h2'' : (x != 2) = true := by simpa using h2
      simp only [Bool.not_true, Bool.not_false] at n3 HU3 hG3 t3 hz3
      go_wp2_with fail
      generalize W2.alloc (.cells #[.int .i64 x, .int .i64 0, .bool true] 25) = W3 at n3 HU3 hG3 t3 hz3 ⊢
      refine (once_any w0 A n c g _ 2 (by omega) (by omega) hn HC.out HU3.out).mono ?_
      rintro e W4 ⟨p, rfl, hc4, hg4⟩
      have t4 := t3.grown hg4 (by omega)
      have n4 := n3.grown hg4 (by omega)
      have HU4 := Lib.hid hc4
      have hG4 := gtr hG3 hg4
      clear hc4 hg4 t3 n3 hG3 HU3
      cases p
      · have r0 := t4.cell 0 (v := .int .i64 0) rfl
        have rf0 := t4.loose 0 (v := .int .i64 0) rfl
        have r1 := t4.cell 1 (v := .int .i64 0) rfl
        have rf1 := t4.loose 1 (v := .int .i64 0) rfl
        have r2 := t4.cell 2 (v := .bool false) rfl
        have rf2 := t4.loose 2 (v := .bool false) rfl
        have v0 := n4.cell 0 (v := .int .i64 x) rfl
        have vf0 := n4.loose 0 (v := .int .i64 x) rfl
        have v1 := n4.cell 1 (v := .int .i64 0) rfl
        have vf1 := n4.loose 1 (v := .int .i64 0) rfl
        have v2 := n4.cell 2 (v := .bool true) rfl
        have vf2 := n4.loose 2 (v := .bool true) rfl
        clear t4 n4
        go_wp2_with fail
        exact bodyPost_ret (v := .agg #[.int .i64 x, .int .i64 0, .bool true]) (by simp [results, Try.results48, go_sem, r0, r1, r2, v0, v1, v2, hne1, hne2]) rfl
          ⟨x, 0, true, rfl, ⟨HX.out, (by decide : (Lit.int .i64 0).wf = true), trivial⟩, cur3 HU4.out hlt hs0 _ _ _, far3 hG4 (Nat.le_refl _) _ _ _⟩
      · go_wp2_with fail
        refine (below_any w0 A n c g _ 256 (by omega) (by omega) hn HC.out HU4.out).mono ?_
        rintro e W5 ⟨y, rfl, hy0, hy1, hc5, hg5⟩
        have HY := Lib.hid (wf_small hy0 hy1 (by omega))
        have t5 := t4.grown hg5 (by omega)
        have n5 := n4.grown hg5 (by omega)
        have HU5 := Lib.hid hc5
        have hG5 := gtr hG4 hg5
        clear hc5 hg5 t4 n4 hG4 HU4
        have r0 := t5.cell 0 (v := .int .i64 0) rfl
        have rf0 := t5.loose 0 (v := .int .i64 0) rfl
        have r1 := t5.cell 1 (v := .int .i64 0) rfl
        have rf1 := t5.loose 1 (v := .int .i64 0) rfl
        have r2 := t5.cell 2 (v := .bool false) rfl
        have rf2 := t5.loose 2 (v := .bool false) rfl
        have v0 := n5.cell 0 (v := .int .i64 x) rfl
        have vf0 := n5.loose 0 (v := .int .i64 x) rfl
        have v1 := n5.cell 1 (v := .int .i64 0) rfl
        have vf1 := n5.loose 1 (v := .int .i64 0) rfl
        have v2 := n5.cell 2 (v := .bool true) rfl
        have vf2 := n5.loose 2 (v := .bool true) rfl
        clear t5 n5
        go_wp2_with fail
        exact bodyPost_ret (v := .agg #[.int .i64 x, .int .i64 y, .bool true]) (by simp [results, Try.results48, go_sem, r0, r1, r2, v0, v1, v2, hne1, hne2]) rfl
          ⟨x, y, true, rfl, ⟨HX.out, HY.out, trivial⟩, cur3 (var_cur HU5.out hgW2 (by omega) _ _) hlt hs0 _ _ _, far3 (grown_far hG5 (by omega) _ _) (Nat.le_refl _) _ _ _⟩
  · simp only [Bool.not_true, Bool.not_false] at n3 HU3 hG3 t3 hz3
    have r := n3
    clear r
    have r0 := t3.cell 0 (v := .int .i64 0) rfl
    have rf0 := t3.loose 0 (v := .int .i64 0) rfl
    have r1 := t3.cell 1 (v := .int .i64 0) rfl
    have rf1 := t3.loose 1 (v := .int .i64 0) rfl
    have r2 := t3.cell 2 (v := .bool false) rfl
    have rf2 := t3.loose 2 (v := .bool false) rfl
    have v0 := n3.cell 0 (v := .int .i64 x) rfl
    have vf0 := n3.loose 0 (v := .int .i64 x) rfl
    have v1 := n3.cell 1 (v := .int .i64 0) rfl
    have vf1 := n3.loose 1 (v := .int .i64 0) rfl
    have v2 := n3.cell 2 (v := .bool false) rfl
    have vf2 := n3.loose 2 (v := .bool false) rfl
    clear t3 n3
    go_wp2_with fail
    exact bodyPost_ret (v := .agg #[.int .i64 x, .int .i64 0, .bool false]) (by simp [results, Try.results48, go_sem, r0, r1, r2, v0, v1, v2, hne1, hne2]) rfl
      ⟨x, 0, false, rfl, ⟨HX.out, (by decide : (Lit.int .i64 0).wf = true), trivial⟩, cur3 HU3.out hlt hs0 _ _ _, far3 hG3 (Nat.le_refl _) _ _ _⟩

set_option maxRecDepth 100000 in
set_option maxHeartbeats 8000000 in
theorem cany_any (w0 : World) (A : Option Addr) (n c g : Nat) (w : World) (hn : n ≤ 1048576) (hcode : CodeAt w0 A n) (hcur : Cur w0 A n c w g) :
    Calls Try.prog 38 #[.pointer (some ⟨g, 0, none⟩)] w (CPost w0 A n c w g) := by
  have HC := Lib.hid hcode
  have hlt := hcur.lt
  have hs0 := hcur.1.size
  have t0 := Var.new w [.int .i64 0, .int .i64 0, .bool false] 25
  change Var (w.alloc (.cells #[.int .i64 0, .int .i64 0, .bool false] 25)) w.heap.size [.int .i64 0, .int .i64 0, .bool false] at t0
  have HU := Lib.hid (hcur.alloc (.cells #[.int .i64 0, .int .i64 0, .bool false] 25))
  have hG0 := grown_new w (.cells #[.int .i64 0, .int .i64 0, .bool false] 25) (some g)
  have hz0 : w.heap.size < (w.alloc (.cells #[.int .i64 0, .int .i64 0, .bool false] 25)).heap.size := by simp
  clear hcode hcur
  go_enter Try.func38, Try.ntmps38
  go_wp2_with fail
  generalize w.alloc (.cells #[.int .i64 0, .int .i64 0, .bool false] 25) = W0 at t0 HU hG0 hz0 ⊢
  refine (cctl_any w0 A n c g _ hn HC.out HU.out).mono ?_
  rintro e W2 ⟨x, y, q, rfl, hw, hc2, hg2⟩
  have HW := Lib.hid hw
  have hG2 := gtr hG0 hg2
  have t2 := t0.grown hg2 (by omega)
  have hs2 := hg2.size
  have hgW2 := hc2.lt
  have n3 := Var.new W2 [.int .i64 x, .int .i64 y, .bool q] 25
  change Var (W2.alloc (.cells #[.int .i64 x, .int .i64 y, .bool q] 25)) W2.heap.size [.int .i64 x, .int .i64 y, .bool q] at n3
  have HU3 := Lib.hid (hc2.alloc (.cells #[.int .i64 x, .int .i64 y, .bool q] 25))
  have hG3 := gtr hG2 (grown_new W2 (.cells #[.int .i64 x, .int .i64 y, .bool q] 25) _)
  have t3 := Var.below t2 ((Below.refl _ _).alloc (Nat.le_refl _) (.cells #[.int .i64 x, .int .i64 y, .bool q] 25)) (by omega)
  have hz3 : W2.heap.size < (W2.alloc (.cells #[.int .i64 x, .int .i64 y, .bool q] 25)).heap.size := by simp
  clear hw hc2 hg2 HU t0 hG0 hG2 t2
  have hne1 : W2.heap.size ≠ w.heap.size := by omega
  have hne2 : w.heap.size ≠ W2.heap.size := by omega
  go_wp2_with fail
  generalize W2.alloc (.cells #[.int .i64 x, .int .i64 y, .bool q] 25) = W3 at n3 HU3 hG3 t3 hz3 ⊢
  refine (below_any w0 A n c g _ 8 (by omega) (by omega) hn HC.out HU3.out).mono ?_
  rintro e W4 ⟨k, rfl, _, _, hc4, hg4⟩
  have t4 := t3.grown hg4 (by omega)
  have n4 := n3.grown hg4 (by omega)
  have HU4 := Lib.hid hc4
  have hG4 := gtr hG3 hg4
  have hs4 := hg4.size
  clear hc4 hg4 t3 n3 hG3 HU3
  by_cases h0 : k = 0
  · subst h0
    go_wp2_with fail
    refine (pick_any w0 A n c g _ W4.heap.size 4 [-1, 2, 3, 4] (by decide) (by decide) hn HC.out (HU4.out.alloc _) (by omega) rfl (heap_alloc_new W4 _)).mono ?_
    rintro e W5 ⟨z, rfl, hz, hc5, hg5⟩
    have HZ := Lib.hid (wf_of (by decide) hz)
    have t5 := (Var.below t4 ((Below.refl _ _).alloc (Nat.le_refl _) _) (by omega)).grown hg5 (by omega)
    have n5 := (Var.below n4 ((Below.refl _ _).alloc (Nat.le_refl _) _) (by omega)).grown hg5 (by omega)
    have hG5 := gtr (gtr hG4 (grown_new W4 _ _)) hg5
    have HU5 := Lib.hid hc5
    clear hz hc5 hg5 t4 n4 hG4 HU4
    have r0 := t5.cell 0 (v := .int .i64 0) rfl
    have rf0 := t5.loose 0 (v := .int .i64 0) rfl
    have r1 := t5.cell 1 (v := .int .i64 0) rfl
    have rf1 := t5.loose 1 (v := .int .i64 0) rfl
    have r2 := t5.cell 2 (v := .bool false) rfl
    have rf2 := t5.loose 2 (v := .bool false) rfl
    have v0 := n5.cell 0 (v := .int .i64 x) rfl
    have vf0 := n5.loose 0 (v := .int .i64 x) rfl
    have v1 := n5.cell 1 (v := .int .i64 y) rfl
    have vf1 := n5.loose 1 (v := .int .i64 y) rfl
    have v2 := n5.cell 2 (v := .bool q) rfl
    have vf2 := n5.loose 2 (v := .bool q) rfl
    clear t5 n5
    go_wp2_with fail
    exact bodyPost_ret (v := .agg #[.int .i64 z, .int .i64 y, .bool q]) (by simp [results, Try.results38, go_sem, r0, r1, r2, v0, v1, v2, hne1, hne2]) rfl
      ⟨z, y, q, rfl, ⟨HZ.out, HW.out.2⟩, cur3 (var_cur HU5.out hgW2 (by omega) _ _) hlt hs0 _ _ _, far3 (grown_far hG5 (by omega) _ _) (Nat.le_refl _) _ _ _⟩
  · have h0' : (k == 0) = false := by simpa using h0
    by_cases h1 : k = 1
    · subst h1
      go_wp2_with fail
      refine (pick_any w0 A n c g _ W4.heap.size 4 [-1, 255, 256, 9223372036854775807] (by decide) (by decide) hn HC.out (HU4.out.alloc _) (by omega) rfl (heap_alloc_new W4 _)).mono ?_
      rintro e W5 ⟨z, rfl, hz, hc5, hg5⟩
      have HZ := Lib.hid (wf_of (by decide) hz)
      have t5 := (Var.below t4 ((Below.refl _ _).alloc (Nat.le_refl _) _) (by omega)).grown hg5 (by omega)
      have n5 := (Var.below n4 ((Below.refl _ _).alloc (Nat.le_refl _) _) (by omega)).grown hg5 (by omega)
      have hG5 := gtr (gtr hG4 (grown_new W4 _ _)) hg5
      have HU5 := Lib.hid hc5
      clear hz hc5 hg5 t4 n4 hG4 HU4
      have r0 := t5.cell 0 (v := .int .i64 0) rfl
      have rf0 := t5.loose 0 (v := .int .i64 0) rfl
      have r1 := t5.cell 1 (v := .int .i64 0) rfl
      have rf1 := t5.loose 1 (v := .int .i64 0) rfl
      have r2 := t5.cell 2 (v := .bool false) rfl
      have rf2 := t5.loose 2 (v := .bool false) rfl
      have v0 := n5.cell 0 (v := .int .i64 x) rfl
      have vf0 := n5.loose 0 (v := .int .i64 x) rfl
      have v1 := n5.cell 1 (v := .int .i64 y) rfl
      have vf1 := n5.loose 1 (v := .int .i64 y) rfl
      have v2 := n5.cell 2 (v := .bool q) rfl
      have vf2 := n5.loose 2 (v := .bool q) rfl
      clear t5 n5
      go_wp2_with fail
      exact bodyPost_ret (v := .agg #[.int .i64 x, .int .i64 z, .bool q]) (by simp [results, Try.results38, go_sem, r0, r1, r2, v0, v1, v2, hne1, hne2]) rfl
        ⟨x, z, q, rfl, ⟨HW.out.1, HZ.out, trivial⟩, cur3 (var_cur HU5.out hgW2 (by omega) _ _) hlt hs0 _ _ _, far3 (grown_far hG5 (by omega) _ _) (Nat.le_refl _) _ _ _⟩
    · have h1' : (k == 1) = false := by simpa using h1
      by_cases h2 : k = 2
      · subst h2
        have r0 := t4.cell 0 (v := .int .i64 0) rfl
        have rf0 := t4.loose 0 (v := .int .i64 0) rfl
        have r1 := t4.cell 1 (v := .int .i64 0) rfl
        have rf1 := t4.loose 1 (v := .int .i64 0) rfl
        have r2 := t4.cell 2 (v := .bool false) rfl
        have rf2 := t4.loose 2 (v := .bool false) rfl
        have v0 := n4.cell 0 (v := .int .i64 x) rfl
        have vf0 := n4.loose 0 (v := .int .i64 x) rfl
        have v1 := n4.cell 1 (v := .int .i64 y) rfl
        have vf1 := n4.loose 1 (v := .int .i64 y) rfl
        have v2 := n4.cell 2 (v := .bool q) rfl
        have vf2 := n4.loose 2 (v := .bool q) rfl
        clear t4 n4
        go_wp2_with fail
        exact bodyPost_ret (v := .agg #[.int .i64 x, .int .i64 y, .bool (!q)]) (by simp [results, Try.results38, go_sem, r0, r1, r2, v0, v1, v2, hne1, hne2]) rfl
          ⟨x, y, !q, rfl, HW.out, cur3 (var_cur HU4.out hgW2 (by omega) _ _) hlt hs0 _ _ _, far3 (grown_far hG4 (by omega) _ _) (Nat.le_refl _) _ _ _⟩
      · have h2' : (k == 2) = false := by simpa using h2
        have r0 := t4.cell 0 (v := .int .i64 0) rfl
        have rf0 := t4.loose 0 (v := .int .i64 0) rfl
        have r1 := t4.cell 1 (v := .int .i64 0) rfl
        have rf1 := t4.loose 1 (v := .int .i64 0) rfl
        have r2 := t4.cell 2 (v := .bool false) rfl
        have rf2 := t4.loose 2 (v := .bool false) rfl
        have v0 := n4.cell 0 (v := .int .i64 x) rfl
        have vf0 := n4.loose 0 (v := .int .i64 x) rfl
        have v1 := n4.cell 1 (v := .int .i64 y) rfl
        have vf1 := n4.loose 1 (v := .int .i64 y) rfl
        have v2 := n4.cell 2 (v := .bool q) rfl
        have vf2 := n4.loose 2 (v := .bool q) rfl
        clear t4 n4
        go_wp2_with fail
        exact bodyPost_ret (v := .agg #[.int .i64 x, .int .i64 y, .bool q]) (by simp [results, Try.results38, go_sem, r0, r1, r2, v0, v1, v2, hne1, hne2]) rfl
          ⟨x, y, q, rfl, HW.out, cur3 HU4.out hlt hs0 _ _ _, far3 hG4 (Nat.le_refl _) _ _ _⟩

def CtlB (w : World) (e : Ending) (w' : World) : Prop := ∃ a b o, e = .returned (.agg #[.int .i64 a, .int .i64 b, .bool o]) ∧ wfC (a, b, o) ∧ Below w.heap.size w w'
def CtlIntB (w : World) (e : Ending) (w' : World) : Prop := ∃ a b o x, e = .returned (.tuple #[.agg #[.int .i64 a, .int .i64 b, .bool o], .int .i64 x]) ∧ wfC (a, b, o) ∧ (Lit.int .i64 x).wf = true ∧ Below w.heap.size w w'
def TwoB (w : World) (e : Ending) (w' : World) : Prop := ∃ x y, e = .returned (.tuple #[.int .i64 x, .int .i64 y]) ∧ (Lit.int .i64 x).wf = true ∧ (Lit.int .i64 y).wf = true ∧ Below w.heap.size w w'

end Go.Proofs.Ytgpckcdkehmpiaa.Ctls
