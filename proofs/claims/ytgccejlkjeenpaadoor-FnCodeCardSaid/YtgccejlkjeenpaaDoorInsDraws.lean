/-
  The draws of chapter 10, instructions: what is drawn is within its range; no statement about the project's code stands here. No condition beyond the length of the code.
-/
import Derived.Test.YtgccejlkjeenpaaDoorInsH
import Derived.Test.YtgccejlkjeenpaaDoorVar
import Derived.Test.YtgccejlkjeenpaaDoorSlotDraws
namespace Go.Proofs.YtgccejlkjeenpaaDoor.Inss
set_option maxRecDepth 100000
open Go.ChangeShapes Go.WideShapes Go.ChangeAt Go.RowKit
open Go.Proofs.YtgccejlkjeenpaaDoor.Base Go.Proofs.YtgccejlkjeenpaaDoor.Mem Go.Proofs.YtgccejlkjeenpaaDoor.Data Go.Proofs.YtgccejlkjeenpaaDoor.Draw Go.Proofs.YtgccejlkjeenpaaDoor.SDraw
set_option linter.unusedVariables false
set_option linter.unusedSimpArgs false

theorem wf_of {l : List Int} (h : l.all (fun x => (Lit.int .i64 x).wf) = true) {x : Int} (hx : x ∈ l) : (Lit.int .i64 x).wf = true := List.all_eq_true.1 h x hx
def IPost (w0 : World) (A : Option Addr) (n c : Nat) (w : World) (g : Nat) (e : Ending) (w' : World) : Prop :=
  ∃ x0 x1, e = .returned (.agg #[.int .i64 x0, .int .i64 x1]) ∧ wfJ (x0, x1) ∧ Cur w0 A n c w' g ∧ w.grownBy w' (some g)
theorem cur2 {w0 w1 : World} {A : Option Addr} {n c g b : Nat} (h : Cur w0 A n c w1 g) (hg : g < b) (h0 : w0.heap.size ≤ b) (u v : Value) : Cur w0 A n c ((w1.setCell ⟨b, 0, none⟩ u).setCell ⟨b, 1, none⟩ v) g :=
  var_cur (var_cur h hg h0 _ _) hg h0 _ _
theorem far2 {w W : World} {g b : Nat} (hG : w.grownBy W (some g)) (hb : w.heap.size ≤ b) (u v : Value) : w.grownBy ((W.setCell ⟨b, 0, none⟩ u).setCell ⟨b, 1, none⟩ v) (some g) :=
  grown_far (grown_far hG hb _ _) hb _ _
theorem wf_less {x m : Int} (h0 : 0 ≤ x) (h1 : x < m) (hm : m ≤ 1048576) : (Lit.int .i64 (x - 1)).wf = true := by
  simp [Lit.wf]
  have e1 : IntKind.i64.min = -9223372036854775808 := by decide
  have e2 : IntKind.i64.max = 9223372036854775807 := by decide
  omega

set_option maxRecDepth 100000 in
set_option maxHeartbeats 8000000 in
theorem ins_any (w0 : World) (A : Option Addr) (n c g : Nat) (w : World) (hn : n ≤ 1048576) (hcode : CodeAt w0 A n) (hcur : Cur w0 A n c w g) :
    Calls Tryd.prog 35 #[.pointer (some ⟨g, 0, none⟩)] w (IPost w0 A n c w g) := by
  have HC := Lib.hid hcode
  have hlt := hcur.lt
  have hs0 := hcur.1.size
  have t0 := Var.new w [.int .i64 0, .int .i64 0] 25
  change Var (w.alloc (.cells #[.int .i64 0, .int .i64 0] 25)) w.heap.size [.int .i64 0, .int .i64 0] at t0
  have HU := Lib.hid (hcur.alloc (.cells #[.int .i64 0, .int .i64 0] 25))
  have hG0 := grown_new w (.cells #[.int .i64 0, .int .i64 0] 25) (some g)
  have hz0 : w.heap.size < (w.alloc (.cells #[.int .i64 0, .int .i64 0] 25)).heap.size := by simp
  clear hcode hcur
  go_enter Tryd.func35, Tryd.ntmps35
  go_wp2_with fail
  rw [show w.heap.size + 1 = (w.alloc (.cells #[.int .i64 0, .int .i64 0] 25)).heap.size by simp]
  generalize w.alloc (.cells #[.int .i64 0, .int .i64 0] 25) = W0 at t0 HU hG0 hz0 ⊢
  refine (pick_any w0 A n c g _ W0.heap.size 11 [1, 2, 3, 3, 3, 4, 4, 4, 5, 6, 8] (by decide) (by decide) hn HC.out (HU.out.alloc _) (by have := HU.out.lt; omega) rfl (heap_alloc_new W0 _)).mono ?_
  rintro e W1 ⟨x, rfl, hx, hc1, hg1⟩
  have HX := Lib.hid (wf_of (by decide) hx)
  have hG1 := gtr (gtr hG0 (grown_new W0 _ _)) hg1
  have t1 := (Var.below t0 ((Below.refl _ _).alloc (Nat.le_refl _) _) hz0).grown hg1 (by omega)
  have hs1 := hg1.size
  simp at hs1
  have hn1 := Var.new W1 [.int .i64 x, .int .i64 0] 25
  change Var (W1.alloc (.cells #[.int .i64 x, .int .i64 0] 25)) W1.heap.size [.int .i64 x, .int .i64 0] at hn1
  have HU2 := Lib.hid (hc1.alloc (.cells #[.int .i64 x, .int .i64 0] 25))
  have hG2 := gtr hG1 (grown_new W1 (.cells #[.int .i64 x, .int .i64 0] 25) _)
  have t2 := Var.below t1 ((Below.refl _ _).alloc (Nat.le_refl _) (.cells #[.int .i64 x, .int .i64 0] 25)) (by omega)
  have hgW1 := hc1.lt
  clear hx hc1 hg1 HU t0 t1 hG0 hG1
  by_cases h3 : x = 3
  · subst h3
    go_wp2_with fail
    refine (below_any w0 A n c g _ _ (by omega) (by omega) hn HC.out HU2.out).mono ?_
    rintro e W3 ⟨y, rfl, hy0, hy1, hc3, hg3⟩
    have HY := Lib.hid (wf_small hy0 hy1 (by omega))
    have t3 := t2.grown hg3 (by omega)
    have v3 := hn1.grown hg3 (by omega)
    have hG3 := gtr hG2 hg3
    have HU3 := Lib.hid hc3
    have r0 := t3.cell 0 (v := .int .i64 0) rfl
    have r1 := t3.cell 1 (v := .int .i64 0) rfl
    have rf0 := t3.loose 0 (v := .int .i64 0) rfl
    have rf1 := t3.loose 1 (v := .int .i64 0) rfl
    have v0 := v3.cell 0 (v := .int .i64 3) rfl
    have v1 := v3.cell 1 (v := .int .i64 0) rfl
    have vf0 := v3.loose 0 (v := .int .i64 3) rfl
    have vf1 := v3.loose 1 (v := .int .i64 0) rfl
    have hne1 : W1.heap.size ≠ w.heap.size := by omega
    have hne2 : w.heap.size ≠ W1.heap.size := by omega
    clear hc3 hg3 t2 hn1 hG2 HU2 t3 v3
    go_wp2_with fail
    exact bodyPost_ret (v := .agg #[.int .i64 3, .int .i64 y]) (by simp [results, Tryd.results35, go_sem, r0, r1, v0, v1, hne1, hne2]) rfl
      ⟨3, y, rfl, ⟨HX.out, HY.out⟩, cur2 (var_cur HU3.out hgW1 (by omega) _ _) hlt hs0 _ _, far2 (grown_far hG3 (by omega) _ _) (Nat.le_refl _) _ _⟩
  · have h3' : (x == 3) = false := by simpa using h3
    by_cases h4 : x = 4
    · subst h4
      go_wp2_with fail
      refine (below_any w0 A n c g _ _ (by omega) (by omega) hn HC.out HU2.out).mono ?_
      rintro e W3 ⟨y, rfl, hy0, hy1, hc3, hg3⟩
      have HY := Lib.hid (wf_small hy0 hy1 (by omega))
      have t3 := t2.grown hg3 (by omega)
      have v3 := hn1.grown hg3 (by omega)
      have hG3 := gtr hG2 hg3
      have HU3 := Lib.hid hc3
      have r0 := t3.cell 0 (v := .int .i64 0) rfl
      have r1 := t3.cell 1 (v := .int .i64 0) rfl
      have rf0 := t3.loose 0 (v := .int .i64 0) rfl
      have rf1 := t3.loose 1 (v := .int .i64 0) rfl
      have v0 := v3.cell 0 (v := .int .i64 4) rfl
      have v1 := v3.cell 1 (v := .int .i64 0) rfl
      have vf0 := v3.loose 0 (v := .int .i64 4) rfl
      have vf1 := v3.loose 1 (v := .int .i64 0) rfl
      have hne1 : W1.heap.size ≠ w.heap.size := by omega
      have hne2 : w.heap.size ≠ W1.heap.size := by omega
      clear hc3 hg3 t2 hn1 hG2 HU2 t3 v3
      go_wp2_with fail
      exact bodyPost_ret (v := .agg #[.int .i64 4, .int .i64 y]) (by simp [results, Tryd.results35, go_sem, r0, r1, v0, v1, hne1, hne2]) rfl
        ⟨4, y, rfl, ⟨HX.out, HY.out⟩, cur2 (var_cur HU3.out hgW1 (by omega) _ _) hlt hs0 _ _, far2 (grown_far hG3 (by omega) _ _) (Nat.le_refl _) _ _⟩
    · have h4' : (x == 4) = false := by simpa using h4
      by_cases h8 : x = 8
      · subst h8
        go_wp2_with fail
        refine (below_any w0 A n c g _ _ (by omega) (by omega) hn HC.out HU2.out).mono ?_
        rintro e W3 ⟨y, rfl, hy0, hy1, hc3, hg3⟩
        have HY := Lib.hid (wf_small hy0 hy1 (by omega))
        have t3 := t2.grown hg3 (by omega)
        have v3 := hn1.grown hg3 (by omega)
        have hG3 := gtr hG2 hg3
        have HU3 := Lib.hid hc3
        have r0 := t3.cell 0 (v := .int .i64 0) rfl
        have r1 := t3.cell 1 (v := .int .i64 0) rfl
        have rf0 := t3.loose 0 (v := .int .i64 0) rfl
        have rf1 := t3.loose 1 (v := .int .i64 0) rfl
        have v0 := v3.cell 0 (v := .int .i64 8) rfl
        have v1 := v3.cell 1 (v := .int .i64 0) rfl
        have vf0 := v3.loose 0 (v := .int .i64 8) rfl
        have vf1 := v3.loose 1 (v := .int .i64 0) rfl
        have hne1 : W1.heap.size ≠ w.heap.size := by omega
        have hne2 : w.heap.size ≠ W1.heap.size := by omega
        clear hc3 hg3 t2 hn1 hG2 HU2 t3 v3
        go_wp2_with fail
        exact bodyPost_ret (v := .agg #[.int .i64 8, .int .i64 y]) (by simp [results, Tryd.results35, go_sem, r0, r1, v0, v1, hne1, hne2]) rfl
          ⟨8, y, rfl, ⟨HX.out, HY.out⟩, cur2 (var_cur HU3.out hgW1 (by omega) _ _) hlt hs0 _ _, far2 (grown_far hG3 (by omega) _ _) (Nat.le_refl _) _ _⟩
      · have h8' : (x == 8) = false := by simpa using h8
        go_wp2_with fail
        refine (below_any w0 A n c g _ _ (by omega) (by omega) hn HC.out HU2.out).mono ?_
        rintro e W3 ⟨y, rfl, hy0, hy1, hc3, hg3⟩
        have HY := Lib.hid (wf_small hy0 hy1 (by omega))
        have t3 := t2.grown hg3 (by omega)
        have v3 := hn1.grown hg3 (by omega)
        have hG3 := gtr hG2 hg3
        have HU3 := Lib.hid hc3
        have r0 := t3.cell 0 (v := .int .i64 0) rfl
        have r1 := t3.cell 1 (v := .int .i64 0) rfl
        have rf0 := t3.loose 0 (v := .int .i64 0) rfl
        have rf1 := t3.loose 1 (v := .int .i64 0) rfl
        have v0 := v3.cell 0 (v := .int .i64 x) rfl
        have v1 := v3.cell 1 (v := .int .i64 0) rfl
        have vf0 := v3.loose 0 (v := .int .i64 x) rfl
        have vf1 := v3.loose 1 (v := .int .i64 0) rfl
        have hne1 : W1.heap.size ≠ w.heap.size := by omega
        have hne2 : w.heap.size ≠ W1.heap.size := by omega
        clear hc3 hg3 t2 hn1 hG2 HU2 t3 v3
        go_wp2_with fail
        exact bodyPost_ret (v := .agg #[.int .i64 x, .int .i64 y]) (by simp [results, Tryd.results35, go_sem, r0, r1, v0, v1, hne1, hne2]) rfl
          ⟨x, y, rfl, ⟨HX.out, HY.out⟩, cur2 (var_cur HU3.out hgW1 (by omega) _ _) hlt hs0 _ _, far2 (grown_far hG3 (by omega) _ _) (Nat.le_refl _) _ _⟩

set_option maxRecDepth 100000 in
set_option maxHeartbeats 8000000 in
theorem anyIns_any (w0 : World) (A : Option Addr) (n c g : Nat) (w : World) (hn : n ≤ 1048576) (hcode : CodeAt w0 A n) (hcur : Cur w0 A n c w g) :
    Calls Tryd.prog 23 #[.pointer (some ⟨g, 0, none⟩)] w (IPost w0 A n c w g) := by
  have HC := Lib.hid hcode
  have hlt := hcur.lt
  have hs0 := hcur.1.size
  have t0 := Var.new w [.int .i64 0, .int .i64 0] 25
  change Var (w.alloc (.cells #[.int .i64 0, .int .i64 0] 25)) w.heap.size [.int .i64 0, .int .i64 0] at t0
  have HU := Lib.hid (hcur.alloc (.cells #[.int .i64 0, .int .i64 0] 25))
  have hG0 := grown_new w (.cells #[.int .i64 0, .int .i64 0] 25) (some g)
  have hz0 : w.heap.size < (w.alloc (.cells #[.int .i64 0, .int .i64 0] 25)).heap.size := by simp
  clear hcode hcur
  go_enter Tryd.func23, Tryd.ntmps23
  go_wp2_with fail
  generalize w.alloc (.cells #[.int .i64 0, .int .i64 0] 25) = W0 at t0 HU hG0 hz0 ⊢
  refine (ins_any w0 A n c g _ hn HC.out HU.out).mono ?_
  rintro e W1 ⟨x, y, rfl, hw, hc1, hg1⟩
  have HW := Lib.hid hw
  have hG1 := gtr hG0 hg1
  have t1 := t0.grown hg1 (by omega)
  have hs1 := hg1.size
  have hn1 := Var.new W1 [.int .i64 x, .int .i64 y] 25
  change Var (W1.alloc (.cells #[.int .i64 x, .int .i64 y] 25)) W1.heap.size [.int .i64 x, .int .i64 y] at hn1
  have HU2 := Lib.hid (hc1.alloc (.cells #[.int .i64 x, .int .i64 y] 25))
  have hG2 := gtr hG1 (grown_new W1 (.cells #[.int .i64 x, .int .i64 y] 25) _)
  have t2 := Var.below t1 ((Below.refl _ _).alloc (Nat.le_refl _) (.cells #[.int .i64 x, .int .i64 y] 25)) (by omega)
  have hgW1 := hc1.lt
  have hz2 : W1.heap.size < (W1.alloc (.cells #[.int .i64 x, .int .i64 y] 25)).heap.size := by simp
  clear hw hc1 hg1 HU t0 t1 hG0 hG1
  go_wp2_with fail
  generalize W1.alloc (.cells #[.int .i64 x, .int .i64 y] 25) = W2 at hn1 HU2 hG2 t2 hz2 ⊢
  refine (below_any w0 A n c g _ 10 (by omega) (by omega) hn HC.out HU2.out).mono ?_
  rintro e W3 ⟨k, rfl, _, _, hc3, hg3⟩
  have t3 := t2.grown hg3 (by omega)
  have v3 := hn1.grown hg3 (by omega)
  have hG3 := gtr hG2 hg3
  have HU3 := Lib.hid hc3
  have hs3 := hg3.size
  have hne1 : W1.heap.size ≠ w.heap.size := by omega
  have hne2 : w.heap.size ≠ W1.heap.size := by omega
  clear hc3 hg3 t2 hn1 hG2 HU2
  by_cases h0 : k = 0
  · subst h0
    go_wp2_with fail
    refine (below_any w0 A n c g _ 11 (by omega) (by omega) hn HC.out HU3.out).mono ?_
    rintro e W4 ⟨z, rfl, hz0, hz1, hc4, hg4⟩
    have HZ := Lib.hid (wf_less hz0 hz1 (by omega))
    have t4 := t3.grown hg4 (by omega)
    have v4 := v3.grown hg4 (by omega)
    have hG4 := gtr hG3 hg4
    have HU4 := Lib.hid hc4
    clear hc4 hg4 t3 v3 hG3 HU3
    have r0 := t4.cell 0 (v := .int .i64 0) rfl
    have r1 := t4.cell 1 (v := .int .i64 0) rfl
    have rf0 := t4.loose 0 (v := .int .i64 0) rfl
    have rf1 := t4.loose 1 (v := .int .i64 0) rfl
    have v0 := v4.cell 0 (v := .int .i64 x) rfl
    have v1 := v4.cell 1 (v := .int .i64 y) rfl
    have vf0 := v4.loose 0 (v := .int .i64 x) rfl
    have vf1 := v4.loose 1 (v := .int .i64 y) rfl
    clear t4 v4
    go_wp2_with fail
    exact bodyPost_ret (v := .agg #[.int .i64 (z - 1), .int .i64 y]) (by simp [results, Tryd.results23, go_sem, r0, r1, v0, v1, hne1, hne2]) rfl
      ⟨z - 1, y, rfl, ⟨HZ.out, HW.out.2⟩, cur2 (var_cur HU4.out hgW1 (by omega) _ _) hlt hs0 _ _, far2 (grown_far hG4 (by omega) _ _) (Nat.le_refl _) _ _⟩
  · by_cases h1 : k = 1
    · subst h1
      go_wp2_with fail
      refine (pick_any w0 A n c g _ W3.heap.size 8 [-1, 0, 12, 15, 16, 99, 100, 9223372036854775807] (by decide) (by decide) hn HC.out (HU3.out.alloc _) (by omega) rfl (heap_alloc_new W3 _)).mono ?_
      rintro e W4 ⟨z, rfl, hz, hc4, hg4⟩
      have HZ := Lib.hid (wf_of (by decide) hz)
      have t4 := (Var.below t3 ((Below.refl _ _).alloc (Nat.le_refl _) _) (by omega)).grown hg4 (by omega)
      have v4 := (Var.below v3 ((Below.refl _ _).alloc (Nat.le_refl _) _) (by omega)).grown hg4 (by omega)
      have hG4 := gtr (gtr hG3 (grown_new W3 _ _)) hg4
      have HU4 := Lib.hid hc4
      clear hz hc4 hg4 t3 v3 hG3 HU3
      have r0 := t4.cell 0 (v := .int .i64 0) rfl
      have r1 := t4.cell 1 (v := .int .i64 0) rfl
      have rf0 := t4.loose 0 (v := .int .i64 0) rfl
      have rf1 := t4.loose 1 (v := .int .i64 0) rfl
      have v0 := v4.cell 0 (v := .int .i64 x) rfl
      have v1 := v4.cell 1 (v := .int .i64 y) rfl
      have vf0 := v4.loose 0 (v := .int .i64 x) rfl
      have vf1 := v4.loose 1 (v := .int .i64 y) rfl
      clear t4 v4
      go_wp2_with fail
      exact bodyPost_ret (v := .agg #[.int .i64 x, .int .i64 z]) (by simp [results, Tryd.results23, go_sem, r0, r1, v0, v1, hne1, hne2]) rfl
        ⟨x, z, rfl, ⟨HW.out.1, HZ.out⟩, cur2 (var_cur HU4.out hgW1 (by omega) _ _) hlt hs0 _ _, far2 (grown_far hG4 (by omega) _ _) (Nat.le_refl _) _ _⟩
    · have h0' : (k == 0) = false := by simpa using h0
      have h1' : (k == 1) = false := by simpa using h1
      have t4 := t3
      have v4 := v3
      clear t3 v3
      have r0 := t4.cell 0 (v := .int .i64 0) rfl
      have r1 := t4.cell 1 (v := .int .i64 0) rfl
      have rf0 := t4.loose 0 (v := .int .i64 0) rfl
      have rf1 := t4.loose 1 (v := .int .i64 0) rfl
      have v0 := v4.cell 0 (v := .int .i64 x) rfl
      have v1 := v4.cell 1 (v := .int .i64 y) rfl
      have vf0 := v4.loose 0 (v := .int .i64 x) rfl
      have vf1 := v4.loose 1 (v := .int .i64 y) rfl
      clear t4 v4
      go_wp2_with fail
      exact bodyPost_ret (v := .agg #[.int .i64 x, .int .i64 y]) (by simp [results, Tryd.results23, go_sem, r0, r1, v0, v1, hne1, hne2]) rfl
        ⟨x, y, rfl, HW.out, cur2 HU3.out hlt hs0 _ _, far2 hG3 (Nat.le_refl _) _ _⟩
end Go.Proofs.YtgccejlkjeenpaaDoor.Inss
