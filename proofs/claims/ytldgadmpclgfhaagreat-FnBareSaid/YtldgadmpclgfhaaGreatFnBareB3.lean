/-
  The texts that FnBare wants, part 3: ExitDraws GuestDraw. No condition.
-/
import Derived.Test.YtldgadmpclgfhaaGreatFnBareB2
namespace Go.Proofs.YtldgadmpclgfhaaGreat.Exits
set_option maxHeartbeats 8000000
set_option maxRecDepth 100000
set_option maxRecDepth 100000
open Go.ChangeShapes Go.WideShapes Go.ChangeAt Go.RowKit
open Go.Proofs.YtldgadmpclgfhaaGreat.Base Go.Proofs.YtldgadmpclgfhaaGreat.Mem Go.Proofs.YtldgadmpclgfhaaGreat.Data Go.Proofs.YtldgadmpclgfhaaGreat.Draw Go.Proofs.YtldgadmpclgfhaaGreat.SDraw
set_option linter.unusedVariables false
set_option linter.unusedSimpArgs false
theorem wf_in {l : List Int} (h : l.all (fun x => (Lit.int .i64 x).wf) = true) {x : Int} (hx : x ∈ l) : (Lit.int .i64 x).wf = true := List.all_eq_true.1 h x hx
theorem wf_one {x m : Int} (h0 : 0 ≤ x) (h1 : x < m) (hm : m ≤ 1048576) : (Lit.int .i64 (x - 1)).wf = true := by
 simp [Lit.wf]
 have e1 : IntKind.i64.min = -9223372036854775808 := by decide
 have e2 : IntKind.i64.max = 9223372036854775807 := by decide
 omega
theorem wf_0 : (Lit.int .i64 0).wf = true := by decide
def XPost (w0 : World) (A : Option Addr) (n c : Nat) (w : World) (g : Nat) (e : Ending) (w' : World) : Prop :=
 ∃ k p q m, e = .returned (.agg #[.int .i64 k, .int .i64 p, .bool q, .int .i64 m]) ∧ wfQ (k, p, q, m) ∧ Cur w0 A n c w' g ∧ w.grownBy w' (some g)
theorem curX {w0 w1 : World} {A : Option Addr} {n c g b : Nat} (h : Cur w0 A n c w1 g) (hg : g < b) (h0 : w0.heap.size ≤ b) (u v x y : Value) : Cur w0 A n c ((((w1.setCell ⟨b, 0, none⟩ u).setCell ⟨b, 1, none⟩ v).setCell ⟨b, 2, none⟩ x).setCell ⟨b, 3, none⟩ y) g :=
 var_cur (var_cur (var_cur (var_cur h hg h0 _ _) hg h0 _ _) hg h0 _ _) hg h0 _ _
theorem farX {w W : World} {g b : Nat} (hG : w.grownBy W (some g)) (hb : w.heap.size ≤ b) (u v x y : Value) : w.grownBy ((((W.setCell ⟨b, 0, none⟩ u).setCell ⟨b, 1, none⟩ v).setCell ⟨b, 2, none⟩ x).setCell ⟨b, 3, none⟩ y) (some g) :=
 grown_far (grown_far (grown_far (grown_far hG hb _ _) hb _ _) hb _ _) hb _ _
theorem curB {w0 w w' : World} {A : Option Addr} {n c g : Nat} (h : Cur w0 A n c w g) (hb : Below w.heap.size w w') : Cur w0 A n c w' g :=
 h.grown (of_below hb none) (by simp) (fun k hk => by cases hk)
theorem exit_any (w0 : World) (A : Option Addr) (n c g : Nat) (w : World) (hn : n ≤ 1048576) (hcode : CodeAt w0 A n) (hcur : Cur w0 A n c w g) :
  Calls Tryz.prog 102 #[.pointer (some ⟨g, 0, none⟩)] w (XPost w0 A n c w g) := by
 have HC := Lib.hid hcode
 have hlt := hcur.lt
 have hs0 := hcur.1.size
 have t0 : Var (w.alloc (.cells #[.int .i64 0, .int .i64 0, .bool false, .int .i64 0] 37)) w.heap.size [.int .i64 0, .int .i64 0, .bool false, .int .i64 0] := Var.new w [.int .i64 0, .int .i64 0, .bool false, .int .i64 0] 37
 have HU := Lib.hid (hcur.alloc (.cells #[.int .i64 0, .int .i64 0, .bool false, .int .i64 0] 37))
 have hG0 := grown_new w (.cells #[.int .i64 0, .int .i64 0, .bool false, .int .i64 0] 37) (some g)
 have hz0 : w.heap.size < (w.alloc (.cells #[.int .i64 0, .int .i64 0, .bool false, .int .i64 0] 37)).heap.size := by simp
 clear hcode hcur
 go_enter Tryz.func102, Tryz.ntmps102
 go_wp2_with fail
 generalize w.alloc (.cells #[.int .i64 0, .int .i64 0, .bool false, .int .i64 0] 37) = W0 at t0 HU hG0 hz0 ⊢
 refine (below_any w0 A n c g _ 5 (by omega) (by omega) hn HC.out HU.out).mono ?_
 rintro e W1 ⟨k, rfl, _, _, hc1, hg1⟩
 have t1 := t0.grown hg1 (by omega)
 have HU1 := Lib.hid hc1
 have hG1 := gtr hG0 hg1
 clear hc1 hg1 HU t0 hG0
 by_cases h0 : k = 0
 ·
  subst h0
  go_wp2_with fail
  refine (below_any w0 A n c g _ 4 (by omega) (by omega) hn HC.out HU1.out).mono ?_
  rintro e W2 ⟨p, rfl, p0, p1, hc2, hg2⟩
  have Hp := Lib.hid (wf_small p0 p1 (by omega))
  have t2 := t1.grown hg2 (by omega)
  have HU2 := Lib.hid hc2
  have hG2 := gtr hG1 hg2
  clear hc2 hg2 HU1 t1 hG1
  go_wp2_with fail
  refine (once_any w0 A n c g _ 2 (by omega) (by omega) hn HC.out HU2.out).mono ?_
  rintro e W3 ⟨q, rfl, hc3, hg3⟩
  have t3 := t2.grown hg3 (by omega)
  have HU3 := Lib.hid hc3
  have hG3 := gtr hG2 hg3
  clear hc3 hg3 HU2 t2 hG2
  go_wp2_with fail
  refine (spec_fault p q _).mono ?_
  rintro e W4 ⟨rfl, hb⟩
  have t4 := t3.below hb (by have := t3.2; omega)
  have HU4 := Lib.hid (curB HU3.out hb)
  have hG4 := gtr hG3 (of_below hb (some g))
  clear hb HU3 t3 hG3
  dsimp only
  have r0 := t4.cell 0 (v := .int .i64 0) rfl
  have rf0 := t4.loose 0 (v := .int .i64 0) rfl
  have r1 := t4.cell 1 (v := .int .i64 0) rfl
  have rf1 := t4.loose 1 (v := .int .i64 0) rfl
  have r2 := t4.cell 2 (v := .bool false) rfl
  have rf2 := t4.loose 2 (v := .bool false) rfl
  have r3 := t4.cell 3 (v := .int .i64 0) rfl
  have rf3 := t4.loose 3 (v := .int .i64 0) rfl
  clear t4
  go_wp2_with fail
  exact bodyPost_ret (v := .agg #[.int .i64 1, .int .i64 p, .bool q, .int .i64 0]) (by simp [results, Tryz.results102, go_sem, r0, r1, r2, r3]) rfl
   ⟨1, p, q, 0, rfl, ⟨(by decide : (Lit.int .i64 1).wf = true), Hp.out, trivial, wf_0⟩, curX HU4.out hlt hs0 _ _ _ _, farX hG4 (Nat.le_refl _) _ _ _ _⟩
 ·
  have h0' : (k == 0) = false := by simpa using h0
  by_cases h1 : k = 1
  ·
   subst h1
   go_wp2_with fail
   refine (below_any w0 A n c g _ 100 (by omega) (by omega) hn HC.out HU1.out).mono ?_
   rintro e W2 ⟨m, rfl, m0, m1, hc2, hg2⟩
   have Hm := Lib.hid (wf_small m0 m1 (by omega))
   have t2 := t1.grown hg2 (by omega)
   have HU2 := Lib.hid hc2
   have hG2 := gtr hG1 hg2
   clear hc2 hg2 HU1 t1 hG1
   go_wp2_with fail
   refine (spec_call m _).mono ?_
   rintro e W3 ⟨rfl, hb⟩
   have t3 := t2.below hb (by have := t2.2; omega)
   have HU3 := Lib.hid (curB HU2.out hb)
   have hG3 := gtr hG2 (of_below hb (some g))
   clear hb HU2 t2 hG2
   dsimp only
   have r0 := t3.cell 0 (v := .int .i64 0) rfl
   have rf0 := t3.loose 0 (v := .int .i64 0) rfl
   have r1 := t3.cell 1 (v := .int .i64 0) rfl
   have rf1 := t3.loose 1 (v := .int .i64 0) rfl
   have r2 := t3.cell 2 (v := .bool false) rfl
   have rf2 := t3.loose 2 (v := .bool false) rfl
   have r3 := t3.cell 3 (v := .int .i64 0) rfl
   have rf3 := t3.loose 3 (v := .int .i64 0) rfl
   clear t3
   go_wp2_with fail
   exact bodyPost_ret (v := .agg #[.int .i64 2, .int .i64 0, .bool false, .int .i64 m]) (by simp [results, Tryz.results102, go_sem, r0, r1, r2, r3]) rfl
    ⟨2, 0, false, m, rfl, ⟨(by decide : (Lit.int .i64 2).wf = true), wf_0, trivial, Hm.out⟩, curX HU3.out hlt hs0 _ _ _ _, farX hG3 (Nat.le_refl _) _ _ _ _⟩
  ·
   have h1' : (k == 1) = false := by simpa using h1
   by_cases h2 : k = 2
   ·
    subst h2
    go_wp2_with fail
    refine (below_any w0 A n c g _ 100 (by omega) (by omega) hn HC.out HU1.out).mono ?_
    rintro e W2 ⟨m, rfl, m0, m1, hc2, hg2⟩
    have Hm := Lib.hid (wf_small m0 m1 (by omega))
    have t2 := t1.grown hg2 (by omega)
    have HU2 := Lib.hid hc2
    have hG2 := gtr hG1 hg2
    clear hc2 hg2 HU1 t1 hG1
    go_wp2_with fail
    refine (spec_out m _).mono ?_
    rintro e W3 ⟨rfl, hb⟩
    have t3 := t2.below hb (by have := t2.2; omega)
    have HU3 := Lib.hid (curB HU2.out hb)
    have hG3 := gtr hG2 (of_below hb (some g))
    clear hb HU2 t2 hG2
    dsimp only
    have r0 := t3.cell 0 (v := .int .i64 0) rfl
    have rf0 := t3.loose 0 (v := .int .i64 0) rfl
    have r1 := t3.cell 1 (v := .int .i64 0) rfl
    have rf1 := t3.loose 1 (v := .int .i64 0) rfl
    have r2 := t3.cell 2 (v := .bool false) rfl
    have rf2 := t3.loose 2 (v := .bool false) rfl
    have r3 := t3.cell 3 (v := .int .i64 0) rfl
    have rf3 := t3.loose 3 (v := .int .i64 0) rfl
    clear t3
    go_wp2_with fail
    exact bodyPost_ret (v := .agg #[.int .i64 3, .int .i64 0, .bool false, .int .i64 m]) (by simp [results, Tryz.results102, go_sem, r0, r1, r2, r3]) rfl
     ⟨3, 0, false, m, rfl, ⟨(by decide : (Lit.int .i64 3).wf = true), wf_0, trivial, Hm.out⟩, curX HU3.out hlt hs0 _ _ _ _, farX hG3 (Nat.le_refl _) _ _ _ _⟩
   ·
    have h2' : (k == 2) = false := by simpa using h2
    by_cases h3 : k = 3
    ·
     subst h3
     have r0 := t1.cell 0 (v := .int .i64 0) rfl
     have rf0 := t1.loose 0 (v := .int .i64 0) rfl
     have r1 := t1.cell 1 (v := .int .i64 0) rfl
     have rf1 := t1.loose 1 (v := .int .i64 0) rfl
     have r2 := t1.cell 2 (v := .bool false) rfl
     have rf2 := t1.loose 2 (v := .bool false) rfl
     have r3 := t1.cell 3 (v := .int .i64 0) rfl
     have rf3 := t1.loose 3 (v := .int .i64 0) rfl
     clear t1
     go_wp2_with fail
     exact bodyPost_ret (v := .agg #[.int .i64 4, .int .i64 0, .bool false, .int .i64 0]) (by simp [results, Tryz.results102, go_sem, r0, r1, r2, r3]) rfl
      ⟨4, 0, false, 0, rfl, ⟨(by decide : (Lit.int .i64 4).wf = true), wf_0, trivial, wf_0⟩, curX HU1.out hlt hs0 _ _ _ _, farX hG1 (Nat.le_refl _) _ _ _ _⟩
    ·
     have h3' : (k == 3) = false := by simpa using h3
     have r0 := t1.cell 0 (v := .int .i64 0) rfl
     have rf0 := t1.loose 0 (v := .int .i64 0) rfl
     have r1 := t1.cell 1 (v := .int .i64 0) rfl
     have rf1 := t1.loose 1 (v := .int .i64 0) rfl
     have r2 := t1.cell 2 (v := .bool false) rfl
     have rf2 := t1.loose 2 (v := .bool false) rfl
     have r3 := t1.cell 3 (v := .int .i64 0) rfl
     have rf3 := t1.loose 3 (v := .int .i64 0) rfl
     clear t1
     go_wp2_with fail
     exact bodyPost_ret (v := .agg #[.int .i64 0, .int .i64 0, .bool false, .int .i64 0]) (by simp [results, Tryz.results102, go_sem, r0, r1, r2, r3]) rfl
      ⟨0, 0, false, 0, rfl, ⟨wf_0, wf_0, trivial, wf_0⟩, curX HU1.out hlt hs0 _ _ _ _, farX hG1 (Nat.le_refl _) _ _ _ _⟩
theorem anyExit_any (w0 : World) (A : Option Addr) (n c g : Nat) (w : World) (hn : n ≤ 1048576) (hcode : CodeAt w0 A n) (hcur : Cur w0 A n c w g) :
  Calls Tryz.prog 74 #[.pointer (some ⟨g, 0, none⟩)] w (XPost w0 A n c w g) := by
 have HC := Lib.hid hcode
 have hlt := hcur.lt
 have hs0 := hcur.1.size
 have t0 : Var (w.alloc (.cells #[.int .i64 0, .int .i64 0, .bool false, .int .i64 0] 37)) w.heap.size [.int .i64 0, .int .i64 0, .bool false, .int .i64 0] := Var.new w [.int .i64 0, .int .i64 0, .bool false, .int .i64 0] 37
 have HU := Lib.hid (hcur.alloc (.cells #[.int .i64 0, .int .i64 0, .bool false, .int .i64 0] 37))
 have hG0 := grown_new w (.cells #[.int .i64 0, .int .i64 0, .bool false, .int .i64 0] 37) (some g)
 have hz0 : w.heap.size < (w.alloc (.cells #[.int .i64 0, .int .i64 0, .bool false, .int .i64 0] 37)).heap.size := by simp
 clear hcode hcur
 go_enter Tryz.func74, Tryz.ntmps74
 go_wp2_with fail
 generalize w.alloc (.cells #[.int .i64 0, .int .i64 0, .bool false, .int .i64 0] 37) = W0 at t0 HU hG0 hz0 ⊢
 refine (exit_any w0 A n c g _ hn HC.out HU.out).mono ?_
 rintro e W1 ⟨k, p, q, m, rfl, hw, hc1, hg1⟩
 have HW := Lib.hid hw
 have hG1 := gtr hG0 hg1
 have t1 := t0.grown hg1 (by omega)
 have hs1 := hg1.size
 have hgW1 := hc1.lt
 have n2 : Var (W1.alloc (.cells #[.int .i64 k, .int .i64 p, .bool q, .int .i64 m] 37)) W1.heap.size [.int .i64 k, .int .i64 p, .bool q, .int .i64 m] := Var.new W1 [.int .i64 k, .int .i64 p, .bool q, .int .i64 m] 37
 have HU2 := Lib.hid (hc1.alloc (.cells #[.int .i64 k, .int .i64 p, .bool q, .int .i64 m] 37))
 have hG2 := gtr hG1 (grown_new W1 (.cells #[.int .i64 k, .int .i64 p, .bool q, .int .i64 m] 37) _)
 have t2 := Var.below t1 ((Below.refl _ _).alloc (Nat.le_refl _) (.cells #[.int .i64 k, .int .i64 p, .bool q, .int .i64 m] 37)) (by omega)
 have hz2 : W1.heap.size < (W1.alloc (.cells #[.int .i64 k, .int .i64 p, .bool q, .int .i64 m] 37)).heap.size := by simp
 clear hw hc1 hg1 HU t0 hG0 t1 hG1
 have hne1 : W1.heap.size ≠ w.heap.size := by omega
 have hne2 : w.heap.size ≠ W1.heap.size := by omega
 go_wp2_with fail
 generalize W1.alloc (.cells #[.int .i64 k, .int .i64 p, .bool q, .int .i64 m] 37) = W2 at n2 HU2 hG2 t2 hz2 ⊢
 refine (below_any w0 A n c g _ 8 (by omega) (by omega) hn HC.out HU2.out).mono ?_
 rintro e W3 ⟨j, rfl, _, _, hc3, hg3⟩
 have t3 := t2.grown hg3 (by omega)
 have n3 := n2.grown hg3 (by omega)
 have HU3 := Lib.hid hc3
 have hG3 := gtr hG2 hg3
 have hs3 := hg3.size
 clear hc3 hg3 t2 n2 hG2 HU2
 by_cases h0 : j = 0
 ·
  subst h0
  go_wp2_with fail
  refine (below_any w0 A n c g _ 7 (by omega) (by omega) hn HC.out HU3.out).mono ?_
  rintro e W4 ⟨z, rfl, z0, z1, hc4, hg4⟩
  have HZ := Lib.hid (wf_one z0 z1 (by omega))
  have t4 := t3.grown hg4 (by omega)
  have n4 := n3.grown hg4 (by omega)
  have HU4 := Lib.hid hc4
  have hG4 := gtr hG3 hg4
  clear hc4 hg4 t3 n3 hG3 HU3
  have r0 := t4.cell 0 (v := .int .i64 0) rfl
  have rf0 := t4.loose 0 (v := .int .i64 0) rfl
  have r1 := t4.cell 1 (v := .int .i64 0) rfl
  have rf1 := t4.loose 1 (v := .int .i64 0) rfl
  have r2 := t4.cell 2 (v := .bool false) rfl
  have rf2 := t4.loose 2 (v := .bool false) rfl
  have r3 := t4.cell 3 (v := .int .i64 0) rfl
  have rf3 := t4.loose 3 (v := .int .i64 0) rfl
  have v0 := n4.cell 0 (v := .int .i64 k) rfl
  have vf0 := n4.loose 0 (v := .int .i64 k) rfl
  have v1 := n4.cell 1 (v := .int .i64 p) rfl
  have vf1 := n4.loose 1 (v := .int .i64 p) rfl
  have v2 := n4.cell 2 (v := .bool q) rfl
  have vf2 := n4.loose 2 (v := .bool q) rfl
  have v3 := n4.cell 3 (v := .int .i64 m) rfl
  have vf3 := n4.loose 3 (v := .int .i64 m) rfl
  clear t4 n4
  go_wp2_with fail
  exact bodyPost_ret (v := .agg #[.int .i64 (z - 1), .int .i64 p, .bool q, .int .i64 m]) (by simp [results, Tryz.results74, go_sem, r0, r1, r2, r3, v0, v1, v2, v3, hne1, hne2]) rfl
   ⟨(z - 1), p, q, m, rfl, ⟨HZ.out, HW.out.2⟩, curX (var_cur HU4.out hgW1 (by omega) _ _) hlt hs0 _ _ _ _, farX (grown_far hG4 (by omega) _ _) (Nat.le_refl _) _ _ _ _⟩
 ·
  have h0' : (j == 0) = false := by simpa using h0
  by_cases h1 : j = 1
  ·
   subst h1
   go_wp2_with fail
   refine (pick_any w0 A n c g _ W3.heap.size 3 [-1, 3, 4] (by decide) (by decide) hn HC.out (HU3.out.alloc _) (by omega) rfl (heap_alloc_new W3 _)).mono ?_
   rintro e W4 ⟨z, rfl, hz, hc4, hg4⟩
   have HZ := Lib.hid (wf_in (by decide) hz)
   have t4 := (Var.below t3 ((Below.refl _ _).alloc (Nat.le_refl _) _) (by omega)).grown hg4 (by omega)
   have n4 := (Var.below n3 ((Below.refl _ _).alloc (Nat.le_refl _) _) (by omega)).grown hg4 (by omega)
   have hG4 := gtr (gtr hG3 (grown_new W3 _ _)) hg4
   have HU4 := Lib.hid hc4
   clear hz hc4 hg4 t3 n3 hG3 HU3
   have r0 := t4.cell 0 (v := .int .i64 0) rfl
   have rf0 := t4.loose 0 (v := .int .i64 0) rfl
   have r1 := t4.cell 1 (v := .int .i64 0) rfl
   have rf1 := t4.loose 1 (v := .int .i64 0) rfl
   have r2 := t4.cell 2 (v := .bool false) rfl
   have rf2 := t4.loose 2 (v := .bool false) rfl
   have r3 := t4.cell 3 (v := .int .i64 0) rfl
   have rf3 := t4.loose 3 (v := .int .i64 0) rfl
   have v0 := n4.cell 0 (v := .int .i64 k) rfl
   have vf0 := n4.loose 0 (v := .int .i64 k) rfl
   have v1 := n4.cell 1 (v := .int .i64 p) rfl
   have vf1 := n4.loose 1 (v := .int .i64 p) rfl
   have v2 := n4.cell 2 (v := .bool q) rfl
   have vf2 := n4.loose 2 (v := .bool q) rfl
   have v3 := n4.cell 3 (v := .int .i64 m) rfl
   have vf3 := n4.loose 3 (v := .int .i64 m) rfl
   clear t4 n4
   go_wp2_with fail
   exact bodyPost_ret (v := .agg #[.int .i64 k, .int .i64 z, .bool q, .int .i64 m]) (by simp [results, Tryz.results74, go_sem, r0, r1, r2, r3, v0, v1, v2, v3, hne1, hne2]) rfl
    ⟨k, z, q, m, rfl, ⟨HW.out.1, HZ.out, trivial, HW.out.2.2.2⟩, curX (var_cur HU4.out hgW1 (by omega) _ _) hlt hs0 _ _ _ _, farX (grown_far hG4 (by omega) _ _) (Nat.le_refl _) _ _ _ _⟩
  ·
   have h1' : (j == 1) = false := by simpa using h1
   by_cases h2 : j = 2
   ·
    subst h2
    go_wp2_with fail
    refine (pick_any w0 A n c g _ W3.heap.size 3 [-1, 99, 100] (by decide) (by decide) hn HC.out (HU3.out.alloc _) (by omega) rfl (heap_alloc_new W3 _)).mono ?_
    rintro e W4 ⟨z, rfl, hz, hc4, hg4⟩
    have HZ := Lib.hid (wf_in (by decide) hz)
    have t4 := (Var.below t3 ((Below.refl _ _).alloc (Nat.le_refl _) _) (by omega)).grown hg4 (by omega)
    have n4 := (Var.below n3 ((Below.refl _ _).alloc (Nat.le_refl _) _) (by omega)).grown hg4 (by omega)
    have hG4 := gtr (gtr hG3 (grown_new W3 _ _)) hg4
    have HU4 := Lib.hid hc4
    clear hz hc4 hg4 t3 n3 hG3 HU3
    have r0 := t4.cell 0 (v := .int .i64 0) rfl
    have rf0 := t4.loose 0 (v := .int .i64 0) rfl
    have r1 := t4.cell 1 (v := .int .i64 0) rfl
    have rf1 := t4.loose 1 (v := .int .i64 0) rfl
    have r2 := t4.cell 2 (v := .bool false) rfl
    have rf2 := t4.loose 2 (v := .bool false) rfl
    have r3 := t4.cell 3 (v := .int .i64 0) rfl
    have rf3 := t4.loose 3 (v := .int .i64 0) rfl
    have v0 := n4.cell 0 (v := .int .i64 k) rfl
    have vf0 := n4.loose 0 (v := .int .i64 k) rfl
    have v1 := n4.cell 1 (v := .int .i64 p) rfl
    have vf1 := n4.loose 1 (v := .int .i64 p) rfl
    have v2 := n4.cell 2 (v := .bool q) rfl
    have vf2 := n4.loose 2 (v := .bool q) rfl
    have v3 := n4.cell 3 (v := .int .i64 m) rfl
    have vf3 := n4.loose 3 (v := .int .i64 m) rfl
    clear t4 n4
    go_wp2_with fail
    exact bodyPost_ret (v := .agg #[.int .i64 k, .int .i64 p, .bool q, .int .i64 z]) (by simp [results, Tryz.results74, go_sem, r0, r1, r2, r3, v0, v1, v2, v3, hne1, hne2]) rfl
     ⟨k, p, q, z, rfl, ⟨HW.out.1, HW.out.2.1, trivial, HZ.out⟩, curX (var_cur HU4.out hgW1 (by omega) _ _) hlt hs0 _ _ _ _, farX (grown_far hG4 (by omega) _ _) (Nat.le_refl _) _ _ _ _⟩
   ·
    have h2' : (j == 2) = false := by simpa using h2
    have r0 := t3.cell 0 (v := .int .i64 0) rfl
    have rf0 := t3.loose 0 (v := .int .i64 0) rfl
    have r1 := t3.cell 1 (v := .int .i64 0) rfl
    have rf1 := t3.loose 1 (v := .int .i64 0) rfl
    have r2 := t3.cell 2 (v := .bool false) rfl
    have rf2 := t3.loose 2 (v := .bool false) rfl
    have r3 := t3.cell 3 (v := .int .i64 0) rfl
    have rf3 := t3.loose 3 (v := .int .i64 0) rfl
    have v0 := n3.cell 0 (v := .int .i64 k) rfl
    have vf0 := n3.loose 0 (v := .int .i64 k) rfl
    have v1 := n3.cell 1 (v := .int .i64 p) rfl
    have vf1 := n3.loose 1 (v := .int .i64 p) rfl
    have v2 := n3.cell 2 (v := .bool q) rfl
    have vf2 := n3.loose 2 (v := .bool q) rfl
    have v3 := n3.cell 3 (v := .int .i64 m) rfl
    have vf3 := n3.loose 3 (v := .int .i64 m) rfl
    clear t3 n3
    go_wp2_with fail
    exact bodyPost_ret (v := .agg #[.int .i64 k, .int .i64 p, .bool q, .int .i64 m]) (by simp [results, Tryz.results74, go_sem, r0, r1, r2, r3, v0, v1, v2, v3, hne1, hne2]) rfl
     ⟨k, p, q, m, rfl, HW.out, curX HU3.out hlt hs0 _ _ _ _, farX hG3 (Nat.le_refl _) _ _ _ _⟩
end Go.Proofs.YtldgadmpclgfhaaGreat.Exits
namespace Go.Proofs.YtldgadmpclgfhaaGreat.Guests
set_option maxHeartbeats 8000000
set_option maxRecDepth 100000
set_option maxRecDepth 100000
open Go.ChangeShapes Go.WideShapes Go.ChangeAt Go.RowKit
open Go.Proofs.YtldgadmpclgfhaaGreat.Base Go.Proofs.YtldgadmpclgfhaaGreat.Mem Go.Proofs.YtldgadmpclgfhaaGreat.Data Go.Proofs.YtldgadmpclgfhaaGreat.Slots Go.Proofs.YtldgadmpclgfhaaGreat.Ints Go.Proofs.YtldgadmpclgfhaaGreat.Inss Go.Proofs.YtldgadmpclgfhaaGreat.Stt Go.Proofs.YtldgadmpclgfhaaGreat.Draw Go.Proofs.YtldgadmpclgfhaaGreat.SDraw Go.Proofs.YtldgadmpclgfhaaGreat.Ctls Go.Proofs.YtldgadmpclgfhaaGreat.Exits Go.Proofs.YtldgadmpclgfhaaGreat.Sx
set_option linter.unusedVariables false
def GMade (w0 w w' : World) (g : gT) (P0 P1 P2 P3 : Value) : Prop := ∃ F0 F1 F2 F3 l0 k0 l1 k1 l2 k2 l3 k3, Sx.Fresh w0 w w' [ow (rLst 55 (rPair rInt rInt)) l0 k0 g.prog [P0] F0, ow (rLst 108 (rPair rInt rInt)) l1 k1 g.wr [P1] F1, ow (rLst 108 (rPair rInt rInt)) l2 k2 g.lv [P2] F2, ow (rLst 3 rInt) l3 k3 g.seen [P3] F3]
def GDraw (w0 : World) (A : Option Addr) (n c : Nat) (w : World) (q : Nat) (e : Ending) (w' : World) : Prop :=
 ∃ g P0 P1 P2 P3, e = .returned (.agg (gV g P0 P1 P2 P3).toArray) ∧ wfGuest g ∧ (g.prog.length ≤ 20 ∧ g.wr.length ≤ 4 ∧ g.lv.length ≤ 4 ∧ g.seen.length ≤ 45) ∧ Cur w0 A n c w' q ∧ w.grownBy w' (some q) ∧ GMade w0 w w' g P0 P1 P2 P3
theorem guest_any (w0 : World) (A : Option Addr) (n c g : Nat) (w : World) (hn : n ≤ 1048576) (hcode : CodeAt w0 A n) (hcur : Cur w0 A n c w g) :
  Calls Tryz.prog 69 #[.pointer (some ⟨g, 0, none⟩)] w (GDraw w0 A n c w g) := by
 have hs0 := st_cur hcur
 have hb0 := hcur.1
 clear hcur
 refine Sx.enterS (args := [.pointer (some ⟨g, 0, none⟩)]) hs0 Tryz.func69 rfl Tryz.ntmps69 rfl ?_
 refine Sx.C.seq (Sx.C.region ?_)
 refine Sx.G.ar [.slice none 0 0, .int .i64 0, .int .i64 0, .slice none 0 0, .slice none 0 0, .int .i64 0, .int .i64 0, .bool false, .int .i64 0, .int .i64 0, .int .i64 0, .bool false, .int .i64 0, .bool false, .slice none 0 0] (fun b1 => ?_)
 refine Sx.G.nil (Sx.E.next (Sx.C.seq (Sx.C.region ?_)))
 refine Sx.G.p (.pointer (some ⟨g, 0, none⟩)) ?_
 refine Sx.G.c 27 #[.pointer (some ⟨g, 0, none⟩)] (fun w2 S => (prog_any w0 A n c g _ hn hcode (Sx.St.cur S 1 rfl)).mono fun e w2' hp => ?_)
 obtain ⟨pb2, pm2, pc2, pl2, rfl, hl2, hm2, hM2, hw2, hown, hcur, hgr⟩ := hp
 rw [← pcells_j] at hown
 subst hl2
 refine ⟨_, _, rfl, Sx.St.plus S (Sx.St.moved S 1 rfl hcur hgr) _ (Sx.row_pairs rfl hown) (Nat.le_refl _) (Nat.le_refl _), ?_⟩
 clear S hcur hgr hown
 refine Sx.G.c 45 #[.slice (some ⟨pb2, 0, none⟩) pl2.length pc2] (fun w3 S => (specx_new pl2 _ _ _ (by omega) (S.reads 0 rfl)).mono fun e w3' hp => ?_)
 obtain ⟨cs, F, rfl, ho, hF, hb⟩ := hp
 obtain ⟨q3_0, q3_1, q3_2, q3_3, G3_0, G3_1, G3_2, G3_3, rfl, S'⟩ := rG_open (S.got hb ho hF)
 obtain ⟨q3A0, q3c0, e0, -⟩ := lst_val (S'.reads 0 rfl)
 subst e0
 obtain ⟨q3A1, q3c1, e1, -⟩ := lst_val (S'.reads 1 rfl)
 subst e1
 obtain ⟨q3A2, q3c2, e2, -⟩ := lst_val (S'.reads 2 rfl)
 subst e2
 obtain ⟨q3A3, q3c3, e3, -⟩ := lst_val (S'.reads 3 rfl)
 subst e3
 refine ⟨_, _, rfl, S', ?_⟩
 clear S S' ho hF hb
 refine Sx.G.ar [.slice none 0 0, .int .i64 0, .int .i64 0, .slice none 0 0, .slice none 0 0, .int .i64 0, .int .i64 0, .bool false, .int .i64 0, .int .i64 0, .int .i64 0, .bool false, .int .i64 0, .bool false, .slice none 0 0] (fun b4 => ?_)
 refine Sx.G.sw [.slice q3A0 (newG pl2).prog.length q3c0, .int .i64 (newG pl2).a, .int .i64 (newG pl2).pc, .slice q3A1 (newG pl2).wr.length q3c1, .slice q3A2 (newG pl2).lv.length q3c2, .int .i64 (newG pl2).t.1, .int .i64 (newG pl2).t.2.1, .bool (newG pl2).t.2.2, .int .i64 (newG pl2).pd, .int .i64 (newG pl2).x.1, .int .i64 (newG pl2).x.2.1, .bool (newG pl2).x.2.2.1, .int .i64 (newG pl2).x.2.2.2, .bool (newG pl2).hl, .slice q3A3 (newG pl2).seen.length q3c3] .a0 ?_
 refine Sx.G.nil (Sx.E.next (Sx.C.seq (Sx.C.region ?_)))
 refine Sx.G.p (.pointer (some ⟨g, 0, none⟩)) ?_
 refine Sx.G.c 100 #[.pointer (some ⟨g, 0, none⟩), .int .i64 4, .int .i64 8] (fun w5 S => (table_any w0 A n c g 4 _ 8 (by decide) (by decide) (by decide) hn hcode (Sx.St.cur S 7 rfl)).mono fun e w5' hp => ?_)
 obtain ⟨tb5, tc5, tl5, rfl, hl5, hw5, hown, hcur, hgr⟩ := hp
 rw [← pcells_s] at hown
 refine ⟨_, _, rfl, Sx.St.plus S (Sx.St.moved S 7 rfl hcur hgr) _ (Sx.row_pairs hl5 hown) (Nat.le_refl _) (Nat.le_refl _), ?_⟩
 clear S hcur hgr hown
 refine Sx.G.p (.pointer (some ⟨b4, 3, none⟩)) ?_
 refine Sx.G.s (.slice (some ⟨tb5, 0, none⟩) 4 tc5) .a1 .a3 ?_
 refine Sx.G.nil (Sx.E.next (Sx.C.seq (Sx.C.region ?_)))
 refine Sx.G.p (.pointer (some ⟨g, 0, none⟩)) ?_
 refine Sx.G.c 100 #[.pointer (some ⟨g, 0, none⟩), .int .i64 4, .int .i64 8] (fun w6 S => (table_any w0 A n c g 4 _ 8 (by decide) (by decide) (by decide) hn hcode (Sx.St.cur S 8 rfl)).mono fun e w6' hp => ?_)
 obtain ⟨tb6, tc6, tl6, rfl, hl6, hw6, hown, hcur, hgr⟩ := hp
 rw [← pcells_s] at hown
 refine ⟨_, _, rfl, Sx.St.plus S (Sx.St.moved S 8 rfl hcur hgr) _ (Sx.row_pairs hl6 hown) (Nat.le_refl _) (Nat.le_refl _), ?_⟩
 clear S hcur hgr hown
 refine Sx.G.p (.pointer (some ⟨b4, 4, none⟩)) ?_
 refine Sx.G.s (.slice (some ⟨tb6, 0, none⟩) 4 tc6) .a2 .a4 ?_
 refine Sx.G.nil (Sx.E.next (Sx.C.seq (Sx.C.region ?_)))
 refine Sx.G.p (.pointer (some ⟨g, 0, none⟩)) ?_
 refine Sx.G.c 39 #[.pointer (some ⟨g, 0, none⟩), .int .i64 100] (fun w7 S => (below_any w0 A n c g _ 100 (by decide) (by decide) hn hcode (Sx.St.cur S 9 rfl)).mono fun e w7' hp => ?_)
 obtain ⟨x7, rfl, hx7, hy7, hcur, hgr⟩ := hp
 refine ⟨_, _, rfl, Sx.St.moved S 9 rfl hcur hgr, ?_⟩
 clear S hcur hgr
 refine Sx.G.p (.pointer (some ⟨b4, 1, none⟩)) ?_
 refine Sx.G.s (.int .i64 x7) .a2 .a1 ?_
 refine Sx.G.nil (Sx.E.next (Sx.C.seq (Sx.C.region ?_)))
 refine Sx.G.p (.pointer (some ⟨g, 0, none⟩)) ?_
 refine Sx.G.c 39 #[.pointer (some ⟨g, 0, none⟩), .int .i64 4] (fun w8 S => (below_any w0 A n c g _ 4 (by decide) (by decide) hn hcode (Sx.St.cur S 9 rfl)).mono fun e w8' hp => ?_)
 obtain ⟨x8, rfl, hx8, hy8, hcur, hgr⟩ := hp
 refine ⟨_, _, rfl, Sx.St.moved S 9 rfl hcur hgr, ?_⟩
 clear S hcur hgr
 refine Sx.G.p (.pointer (some ⟨b4, 2, none⟩)) ?_
 refine Sx.G.s (.int .i64 x8) .a2 .a2 ?_
 refine Sx.G.nil (Sx.E.next (Sx.C.seq (Sx.C.region ?_)))
 refine Sx.G.p (.pointer (some ⟨g, 0, none⟩)) ?_
 refine Sx.G.c 101 #[.pointer (some ⟨g, 0, none⟩)] (fun w9 S => (cctl_any w0 A n c g _ hn hcode (Sx.St.cur S 9 rfl)).mono fun e w9' hp => ?_)
 obtain ⟨ca9, cb9, co9, rfl, hw9, hcur, hgr⟩ := hp
 refine ⟨_, _, rfl, Sx.St.moved S 9 rfl hcur hgr, ?_⟩
 clear S hcur hgr
 refine Sx.G.p (.pointer (some ⟨b4, 5, none⟩)) ?_
 refine Sx.G.sto 35 (.tmp 22) (.tmp 21) b4 5 2 [.slice q3A0 (newG pl2).prog.length q3c0, .int .i64 x7, .int .i64 x8, .slice (some ⟨tb5, 0, none⟩) 4 tc5, .slice (some ⟨tb6, 0, none⟩) 4 tc6, .int .i64 (newG pl2).t.1, .int .i64 (newG pl2).t.2.1, .bool (newG pl2).t.2.2, .int .i64 (newG pl2).pd, .int .i64 (newG pl2).x.1, .int .i64 (newG pl2).x.2.1, .bool (newG pl2).x.2.2.1, .int .i64 (newG pl2).x.2.2.2, .bool (newG pl2).hl, .slice q3A3 (newG pl2).seen.length q3c3] [.int .i64 ca9, .int .i64 cb9, .bool co9] [.slice q3A0 (newG pl2).prog.length q3c0, .int .i64 x7, .int .i64 x8, .slice (some ⟨tb5, 0, none⟩) 4 tc5, .slice (some ⟨tb6, 0, none⟩) 4 tc6, .int .i64 ca9, .int .i64 cb9, .bool co9, .int .i64 (newG pl2).pd, .int .i64 (newG pl2).x.1, .int .i64 (newG pl2).x.2.1, .bool (newG pl2).x.2.2.1, .int .i64 (newG pl2).x.2.2.2, .bool (newG pl2).hl, .slice q3A3 (newG pl2).seen.length q3c3] [ow (rLst 108 (rPair rInt rInt)) w6.heap.size (w6'.heap.size) tl6 [.slice (some ⟨tb6, 0, none⟩) 4 tc6] [tb6], ow (rLst 108 (rPair rInt rInt)) w5.heap.size (w5'.heap.size) tl5 [.slice (some ⟨tb5, 0, none⟩) 4 tc5] [tb5], vr b4 [.slice q3A0 (newG pl2).prog.length q3c0, .int .i64 x7, .int .i64 x8, .slice (some ⟨tb5, 0, none⟩) 4 tc5, .slice (some ⟨tb6, 0, none⟩) 4 tc6, .int .i64 ca9, .int .i64 cb9, .bool co9, .int .i64 (newG pl2).pd, .int .i64 (newG pl2).x.1, .int .i64 (newG pl2).x.2.1, .bool (newG pl2).x.2.2.1, .int .i64 (newG pl2).x.2.2.2, .bool (newG pl2).hl, .slice q3A3 (newG pl2).seen.length q3c3], ow (rLst 55 (rPair rInt rInt)) w3.heap.size w3'.heap.size (newG pl2).prog [.slice q3A0 (newG pl2).prog.length q3c0] G3_0, ow (rLsw (rPair rInt rInt)) w3.heap.size w3'.heap.size (newG pl2).wr [.slice q3A1 (newG pl2).wr.length q3c1] G3_1, ow (rLsw (rPair rInt rInt)) w3.heap.size w3'.heap.size (newG pl2).lv [.slice q3A2 (newG pl2).lv.length q3c2] G3_2, ow (rLst 3 rInt) w3.heap.size w3'.heap.size (newG pl2).seen [.slice q3A3 (newG pl2).seen.length q3c3] G3_3, ow (rLst 55 (rPair rInt rInt)) w2.heap.size (w2'.heap.size) pl2 [.slice (some ⟨pb2, 0, none⟩) pl2.length pc2] [pb2], vr b1 [.slice none 0 0, .int .i64 0, .int .i64 0, .slice none 0 0, .slice none 0 0, .int .i64 0, .int .i64 0, .bool false, .int .i64 0, .int .i64 0, .int .i64 0, .bool false, .int .i64 0, .bool false, .slice none 0 0], Sx.cu A n c g, Sx.frm w0 w g] rfl (by kernel_rfl) (by kernel_rfl) (by kernel_rfl) rfl (by kernel_rfl) rfl (by kernel_rfl) (by kernel_rfl) (by kernel_rfl) ?_
 refine Sx.G.nil (Sx.E.next (Sx.C.seq (Sx.C.seq (Sx.C.region ?_))))
 refine Sx.G.p (.pointer (some ⟨g, 0, none⟩)) ?_
 refine Sx.G.c 26 #[.pointer (some ⟨g, 0, none⟩), .int .i64 3] (fun w10 S => (once_any w0 A n c g _ 3 (by decide) (by decide) hn hcode (Sx.St.cur S 9 rfl)).mono fun e w10' hp => ?_)
 obtain ⟨x10, rfl, hcur, hgr⟩ := hp
 refine ⟨_, _, rfl, Sx.St.moved S 9 rfl hcur hgr, ?_⟩
 clear S hcur hgr
 refine Sx.G.nil (Sx.E.next ?_)
 cases hc11 : (x10)
 ·
  skip
  refine Sx.C.no (by kernel_rfl) (by kernel_rfl) ?_
  refine Sx.C.skip (Sx.E.next (Sx.C.seq (Sx.C.seq (Sx.C.region ?_))))
  refine Sx.G.p (.pointer (some ⟨g, 0, none⟩)) ?_
  refine Sx.G.c 26 #[.pointer (some ⟨g, 0, none⟩), .int .i64 4] (fun w12 S => (once_any w0 A n c g _ 4 (by decide) (by decide) hn hcode (Sx.St.cur S 9 rfl)).mono fun e w12' hp => ?_)
  obtain ⟨x12, rfl, hcur, hgr⟩ := hp
  refine ⟨_, _, rfl, Sx.St.moved S 9 rfl hcur hgr, ?_⟩
  clear S hcur hgr
  refine Sx.G.nil (Sx.E.next ?_)
  cases hc13 : (x12)
  ·
   skip
   refine Sx.C.no (by kernel_rfl) (by kernel_rfl) ?_
   refine Sx.C.skip (Sx.E.next (Sx.C.seq (Sx.C.region ?_)))
   refine Sx.G.p (.pointer (some ⟨g, 0, none⟩)) ?_
   refine Sx.G.c 26 #[.pointer (some ⟨g, 0, none⟩), .int .i64 12] (fun w14 S => (once_any w0 A n c g _ 12 (by decide) (by decide) hn hcode (Sx.St.cur S 9 rfl)).mono fun e w14' hp => ?_)
   obtain ⟨x14, rfl, hcur, hgr⟩ := hp
   refine ⟨_, _, rfl, Sx.St.moved S 9 rfl hcur hgr, ?_⟩
   clear S hcur hgr
   refine Sx.G.p (.pointer (some ⟨b4, 13, none⟩)) ?_
   refine Sx.G.s (.bool (x14)) .a2 .a13 ?_
   refine Sx.G.nil (Sx.E.next (Sx.C.seq (Sx.C.seq (Sx.C.region ?_))))
   refine Sx.G.p (.int .i64 0) ?_
   refine Sx.G.nil (Sx.E.next (Sx.C.block ?_))
   refine Sx.C.loop (α := Nat × List Int × Option Addr × Nat × List Nat × Nat × Nat) (fun x => x.1 ≤ 4 ∧ x.2.1.length = x.1 ∧ ∀ y ∈ x.2.1, (Lit.int .i64 y).wf = true) (fun x => [(4, .int .i64 (x.1 : Int)), (0, .pointer (some ⟨g, 0, none⟩)), (2, .pointer (some ⟨b1, 0, none⟩)), (3, .pointer (some ⟨b4, 0, none⟩))]) (fun x => [ow (rLst 108 (rPair rInt rInt)) w6.heap.size (w6'.heap.size) tl6 [.slice (some ⟨tb6, 0, none⟩) 4 tc6] [tb6], ow (rLst 108 (rPair rInt rInt)) w5.heap.size (w5'.heap.size) tl5 [.slice (some ⟨tb5, 0, none⟩) 4 tc5] [tb5], vr b4 [.slice q3A0 (newG pl2).prog.length q3c0, .int .i64 x7, .int .i64 x8, .slice (some ⟨tb5, 0, none⟩) 4 tc5, .slice (some ⟨tb6, 0, none⟩) 4 tc6, .int .i64 ca9, .int .i64 cb9, .bool co9, .int .i64 (newG pl2).pd, .int .i64 (newG pl2).x.1, .int .i64 (newG pl2).x.2.1, .bool (newG pl2).x.2.2.1, .int .i64 (newG pl2).x.2.2.2, .bool (x14), .slice x.2.2.1 x.2.1.length x.2.2.2.1], ow (rLst 55 (rPair rInt rInt)) w3.heap.size w3'.heap.size (newG pl2).prog [.slice q3A0 (newG pl2).prog.length q3c0] G3_0, ow (rLsw (rPair rInt rInt)) w3.heap.size w3'.heap.size (newG pl2).wr [.slice q3A1 (newG pl2).wr.length q3c1] G3_1, ow (rLsw (rPair rInt rInt)) w3.heap.size w3'.heap.size (newG pl2).lv [.slice q3A2 (newG pl2).lv.length q3c2] G3_2, ow (rLst 3 rInt) x.2.2.2.2.2.1 x.2.2.2.2.2.2 x.2.1 [.slice x.2.2.1 x.2.1.length x.2.2.2.1] x.2.2.2.2.1, ow (rLst 55 (rPair rInt rInt)) w2.heap.size (w2'.heap.size) pl2 [.slice (some ⟨pb2, 0, none⟩) pl2.length pc2] [pb2], vr b1 [.slice none 0 0, .int .i64 0, .int .i64 0, .slice none 0 0, .slice none 0 0, .int .i64 0, .int .i64 0, .bool false, .int .i64 0, .int .i64 0, .int .i64 0, .bool false, .int .i64 0, .bool false, .slice none 0 0], Sx.cu A n c g, Sx.frm w0 w g]) (fun x => 5 - x.1) (0, (newG pl2).seen, q3A3, q3c3, G3_3, w3.heap.size, w3'.heap.size) ⟨Nat.zero_le _, rfl, fun y hy => by cases hy⟩ (fun a hA => (Sx.Ag.and hA (Sx.Ag.and hA (Sx.Ag.and hA (Sx.Ag.and hA (Sx.Ag.none hA) _ _ (by kernel_rfl)) _ _ (by kernel_rfl)) _ _ (by kernel_rfl)) _ _ (by kernel_rfl))) (fun w S => St.pick S [0, 1, 2, 3, 4, 5, 6, 7, 8, 9, 10] _ rfl (by decide)) (fun x hx => ?_)
   obtain ⟨xi, xs, xA, xc, xF, xlo, xhi⟩ := x
   dsimp only at hx
   obtain ⟨hx1, hx2, hx3⟩ := hx
   refine Sx.C.seq (Sx.C.seq (Sx.C.region ?_))
   refine Sx.G.p (.int .i64 (xi : Int)) ?_
   refine Sx.G.p (.pointer (some ⟨g, 0, none⟩)) ?_
   refine Sx.G.c 39 #[.pointer (some ⟨g, 0, none⟩), .int .i64 4] (fun w15 S => (below_any w0 A n c g _ 4 (by decide) (by decide) hn hcode (Sx.St.cur S 9 rfl)).mono fun e w15' hp => ?_)
   obtain ⟨x15, rfl, hx15, hy15, hcur, hgr⟩ := hp
   refine ⟨_, _, rfl, Sx.St.moved S 9 rfl hcur hgr, ?_⟩
   clear S hcur hgr
   refine Sx.G.p (.bool (decide ((xi : Int) < x15))) ?_
   refine Sx.G.nil (Sx.E.next ?_)
   cases hc16 : (decide ((xi : Int) < x15))
   ·
    replace hc16 := of_decide_eq_false hc16
    refine Sx.C.no (by kernel_rfl) (by kernel_rfl) ?_
    refine Sx.C.exit (Sx.E.then_exit (Sx.E.then_exit (Sx.E.block_hit (Sx.E.next (Sx.C.seq (Sx.C.region ?_))))))
    refine Sx.G.lw .m2 ?_
    refine Sx.G.sw [.slice q3A0 (newG pl2).prog.length q3c0, .int .i64 x7, .int .i64 x8, .slice (some ⟨tb5, 0, none⟩) 4 tc5, .slice (some ⟨tb6, 0, none⟩) 4 tc6, .int .i64 ca9, .int .i64 cb9, .bool co9, .int .i64 (newG pl2).pd, .int .i64 (newG pl2).x.1, .int .i64 (newG pl2).x.2.1, .bool (newG pl2).x.2.2.1, .int .i64 (newG pl2).x.2.2.2, .bool (x14), .slice xA xs.length xc] .a8 ?_
    refine Sx.G.nil (Sx.E.next (Sx.C.ret ?_))
    refine Sx.E.retc b1 8 [.slice q3A0 (newG pl2).prog.length q3c0, .int .i64 x7, .int .i64 x8, .slice (some ⟨tb5, 0, none⟩) 4 tc5, .slice (some ⟨tb6, 0, none⟩) 4 tc6, .int .i64 ca9, .int .i64 cb9, .bool co9, .int .i64 (newG pl2).pd, .int .i64 (newG pl2).x.1, .int .i64 (newG pl2).x.2.1, .bool (newG pl2).x.2.2.1, .int .i64 (newG pl2).x.2.2.2, .bool (x14), .slice xA xs.length xc] rfl (by kernel_rfl) rfl (by kernel_rfl) (by kernel_rfl) (fun w S => ?_)
    exact ⟨{ prog := (newG pl2).prog, a := x7, pc := x8, wr := tl5, lv := tl6, t := (ca9, cb9, co9), pd := (newG pl2).pd, x := ((newG pl2).x.1, (newG pl2).x.2.1, (newG pl2).x.2.2.1, (newG pl2).x.2.2.2), hl := (x14), seen := xs }, _, _, _, _, rfl, ⟨⟨Nat.le_trans hM2 (by decide), hw2⟩, Sx.wf_small hx7 (Int.lt_trans hy7 (by decide)), Sx.wf_small hx8 (Int.lt_trans hy8 (by decide)), ⟨by simp only [hl5]; decide, hw5⟩, ⟨by simp only [hl6]; decide, hw6⟩, hw9, (show (Lit.int .i64 0).wf = true by decide), ⟨(show (Lit.int .i64 0).wf = true by decide), (show (Lit.int .i64 0).wf = true by decide), trivial, (show (Lit.int .i64 0).wf = true by decide)⟩, trivial, ⟨by simp only [hx2]; omega, hx3⟩⟩, ⟨hM2, by simp only [hl5]; decide, by simp only [hl6]; decide, by simp only [hx2]; omega⟩, Sx.St.cur S 9 rfl, Sx.St.grown S 10 rfl hb0, _, _, _, _, _, _, _, _, _, _, _, _, Sx.St.made (St.pick S [9, 10, 3, 1, 0, 6] _ rfl (by decide))⟩
   ·
    replace hc16 := of_decide_eq_true hc16
    refine Sx.C.yes (by kernel_rfl) (by kernel_rfl) ?_
    refine Sx.C.skip (Sx.E.next (Sx.C.seq (Sx.C.block ?_)))
    refine Sx.C.cut (fun e a w' => e = .normal ∧ ∃ (Y0 : Int) (Y1 : Nat) (Y2 : Option Addr) (Y3 : Nat) (Y4 : List Nat) (Y5 : Nat), Sx.Ag 50 [(0, .pointer (some ⟨g, 0, none⟩)), (2, .pointer (some ⟨b1, 0, none⟩)), (3, .pointer (some ⟨b4, 0, none⟩)), (4, .int .i64 (xi : Int))] a ∧ St w0 w' [vr Y1 [.int .i64 Y0], ow (rLst 108 (rPair rInt rInt)) w6.heap.size (w6'.heap.size) tl6 [.slice (some ⟨tb6, 0, none⟩) 4 tc6] [tb6], ow (rLst 108 (rPair rInt rInt)) w5.heap.size (w5'.heap.size) tl5 [.slice (some ⟨tb5, 0, none⟩) 4 tc5] [tb5], vr b4 [.slice q3A0 (newG pl2).prog.length q3c0, .int .i64 x7, .int .i64 x8, .slice (some ⟨tb5, 0, none⟩) 4 tc5, .slice (some ⟨tb6, 0, none⟩) 4 tc6, .int .i64 ca9, .int .i64 cb9, .bool co9, .int .i64 (newG pl2).pd, .int .i64 (newG pl2).x.1, .int .i64 (newG pl2).x.2.1, .bool (newG pl2).x.2.2.1, .int .i64 (newG pl2).x.2.2.2, .bool (x14), .slice Y2 ((xs ++ [Y0]).length) Y3], ow (rLst 55 (rPair rInt rInt)) w3.heap.size w3'.heap.size (newG pl2).prog [.slice q3A0 (newG pl2).prog.length q3c0] G3_0, ow (rLsw (rPair rInt rInt)) w3.heap.size w3'.heap.size (newG pl2).wr [.slice q3A1 (newG pl2).wr.length q3c1] G3_1, ow (rLsw (rPair rInt rInt)) w3.heap.size w3'.heap.size (newG pl2).lv [.slice q3A2 (newG pl2).lv.length q3c2] G3_2, ow (rLst 3 rInt) w0.heap.size Y5 (xs ++ [Y0]) [.slice Y2 ((xs ++ [Y0]).length) Y3] Y4, ow (rLst 55 (rPair rInt rInt)) w2.heap.size (w2'.heap.size) pl2 [.slice (some ⟨pb2, 0, none⟩) pl2.length pc2] [pb2], vr b1 [.slice none 0 0, .int .i64 0, .int .i64 0, .slice none 0 0, .slice none 0 0, .int .i64 0, .int .i64 0, .bool false, .int .i64 0, .int .i64 0, .int .i64 0, .bool false, .int .i64 0, .bool false, .slice none 0 0], Sx.cu A n c g, Sx.frm w0 w g] ∧ 0 ≤ Y0 ∧ Y0 < 100) ?_ ?_
    ·
     refine Sx.C.draw (.take 0 (.take 2 (.two 1 (.alone 3 (.alone 4 (.alone 5 (.take 6 (.alone 7 .nil))))) 3 (.two 1 (.alone 4 (.alone 5 (.take 6 (.alone 7 .nil)))) 4 (.alone 1 (.alone 5 (.take 6 (.alone 7 .nil)))))))) [] (fun w S => St.pick S [] _ rfl (by decide)) (by kernel_rfl) (by kernel_rfl) (by kernel_rfl) ?_
     refine Sx.GT.p (.pointer (some ⟨b4, 14, none⟩)) ?_
     refine Sx.GT.p (.pointer (some ⟨g, 0, none⟩)) ?_
     refine Sx.GT.two ?_ ?_
     ·
      refine Sx.Alone.g (.slice xA xs.length xc) .m2 .m14 (fun w S => St.pick S [] _ rfl (by decide)) ?_
      refine Sx.GT.alone (Sx.Alone.c 39 #[.pointer (some ⟨g, 0, none⟩), .int .i64 100] (fun w17 S => (below_any w0 A n c g _ 100 (by decide) (by decide) hn hcode (Sx.St.cur S 9 rfl)).mono fun e w17' hp => ?_))
      obtain ⟨x17, rfl, hx17, hy17, hcur, hgr⟩ := hp
      refine ⟨_, _, rfl, Sx.St.moved S 9 rfl hcur hgr, (fun w S => St.pick S [] _ rfl (by decide)), ?_⟩
      clear S hcur hgr
      refine Sx.GT.alone (Sx.Alone.made 3 [.int .i64 x17] 1 (by rfl) (by kernel_rfl) (fun w => by kernel_rfl) (fun w S => St.pick S [] _ rfl (by decide)) (fun b18 => ?_))
      refine Sx.GT.alone (Sx.Alone.apps 7 (by rfl) (xs ++ [x17]) (fun w S => S.box 0 rfl rfl 1 (Nat.le_refl _)) (by rfl) ((xs ++ [x17]).length) (by simp) flat_int (.tmp 43) (.tmp 46) 28 1 8 (by rfl) (by rfl) (by kernel_rfl) (by kernel_rfl) (by rfl) (by kernel_rfl) (by kernel_rfl) (by simp only [maxLen, List.length_nil, List.length_cons]; omega) (by simp only [List.length_nil, List.length_cons]; omega) (fun _ _ _ _ w S => St.pick S [] _ rfl (by decide)) (fun A19 c19 F19 hi19 hm19 => ?_))
      refine Sx.GT.p (.pointer (some ⟨b4, 14, none⟩)) ?_
      refine Sx.GT.alone (Sx.Alone.s (.slice A19 ((xs ++ [x17]).length) c19) .a3 .a14 (fun w S => St.pick S [] _ rfl (by decide)) ?_)
      exact Sx.GT.nil (fun a w' hA S => ⟨rfl, x17, b18, A19, c19, F19, hi19, (Sx.Ag.and hA (Sx.Ag.and hA (Sx.Ag.and hA (Sx.Ag.and hA (Sx.Ag.none hA) _ _ (by kernel_rfl)) _ _ (by kernel_rfl)) _ _ (by kernel_rfl)) _ _ (by kernel_rfl)), St.pick S [0, 1, 2, 3, 4, 5, 6, 7, 8, 9, 10, 11] _ rfl (by decide), hx17, hy17⟩)
     ·
      refine Sx.Alone.c 39 #[.pointer (some ⟨g, 0, none⟩), .int .i64 100] (fun w20 S => (below_any w0 A n c g _ 100 (by decide) (by decide) hn hcode (Sx.St.cur S 9 rfl)).mono fun e w20' hp => ?_)
      obtain ⟨x20, rfl, hx20, hy20, hcur, hgr⟩ := hp
      refine ⟨_, _, rfl, Sx.St.moved S 9 rfl hcur hgr, (fun w S => St.pick S [] _ rfl (by decide)), ?_⟩
      clear S hcur hgr
      refine Sx.GT.two ?_ ?_
      ·
       refine Sx.Alone.g (.slice xA xs.length xc) .m2 .m14 (fun w S => St.pick S [] _ rfl (by decide)) ?_
       refine Sx.GT.alone (Sx.Alone.made 3 [.int .i64 x20] 1 (by rfl) (by kernel_rfl) (fun w => by kernel_rfl) (fun w S => St.pick S [] _ rfl (by decide)) (fun b21 => ?_))
       refine Sx.GT.alone (Sx.Alone.apps 7 (by rfl) (xs ++ [x20]) (fun w S => S.box 0 rfl rfl 1 (Nat.le_refl _)) (by rfl) ((xs ++ [x20]).length) (by simp) flat_int (.tmp 43) (.tmp 46) 28 1 8 (by rfl) (by rfl) (by kernel_rfl) (by kernel_rfl) (by rfl) (by kernel_rfl) (by kernel_rfl) (by simp only [maxLen, List.length_nil, List.length_cons]; omega) (by simp only [List.length_nil, List.length_cons]; omega) (fun _ _ _ _ w S => St.pick S [] _ rfl (by decide)) (fun A22 c22 F22 hi22 hm22 => ?_))
       refine Sx.GT.p (.pointer (some ⟨b4, 14, none⟩)) ?_
       refine Sx.GT.alone (Sx.Alone.s (.slice A22 ((xs ++ [x20]).length) c22) .a3 .a14 (fun w S => St.pick S [] _ rfl (by decide)) ?_)
       exact Sx.GT.nil (fun a w' hA S => ⟨rfl, x20, b21, A22, c22, F22, hi22, (Sx.Ag.and hA (Sx.Ag.and hA (Sx.Ag.and hA (Sx.Ag.and hA (Sx.Ag.none hA) _ _ (by kernel_rfl)) _ _ (by kernel_rfl)) _ _ (by kernel_rfl)) _ _ (by kernel_rfl)), St.pick S [0, 1, 2, 3, 4, 5, 6, 7, 8, 9, 10, 11] _ rfl (by decide), hx20, hy20⟩)
      ·
       refine Sx.Alone.made 3 [.int .i64 x20] 1 (by rfl) (by kernel_rfl) (fun w => by kernel_rfl) (fun w S => St.pick S [] _ rfl (by decide)) (fun b23 => ?_)
       refine Sx.GT.alone (Sx.Alone.g (.slice xA xs.length xc) .m3 .m14 (fun w S => St.pick S [] _ rfl (by decide)) ?_)
       refine Sx.GT.alone (Sx.Alone.apps 7 (by rfl) (xs ++ [x20]) (fun w S => S.box 0 rfl rfl 1 (Nat.le_refl _)) (by rfl) ((xs ++ [x20]).length) (by simp) flat_int (.tmp 43) (.tmp 46) 28 1 8 (by rfl) (by rfl) (by kernel_rfl) (by kernel_rfl) (by rfl) (by kernel_rfl) (by kernel_rfl) (by simp only [maxLen, List.length_nil, List.length_cons]; omega) (by simp only [List.length_nil, List.length_cons]; omega) (fun _ _ _ _ w S => St.pick S [] _ rfl (by decide)) (fun A24 c24 F24 hi24 hm24 => ?_))
       refine Sx.GT.p (.pointer (some ⟨b4, 14, none⟩)) ?_
       refine Sx.GT.alone (Sx.Alone.s (.slice A24 ((xs ++ [x20]).length) c24) .a3 .a14 (fun w S => St.pick S [] _ rfl (by decide)) ?_)
       exact Sx.GT.nil (fun a w' hA S => ⟨rfl, x20, b23, A24, c24, F24, hi24, (Sx.Ag.and hA (Sx.Ag.and hA (Sx.Ag.and hA (Sx.Ag.and hA (Sx.Ag.none hA) _ _ (by kernel_rfl)) _ _ (by kernel_rfl)) _ _ (by kernel_rfl)) _ _ (by kernel_rfl)), St.pick S [0, 1, 2, 3, 4, 5, 6, 7, 8, 9, 10, 11] _ rfl (by decide), hx20, hy20⟩)
    rintro e a w' ⟨rfl, y25_0, y25_1, y25_2, y25_3, y25_4, y25_5, hA, S, hxy25_0, hyy25_0⟩
    refine Sx.E.out ?_ hA S
    clear hA S a w'
    refine Sx.E.block_normal (Sx.E.next (Sx.C.region ?_))
    refine Sx.G.p (.int .i64 (xi : Int)) ?_
    refine Sx.G.q (.int .i64 (IntKind.i64.wrap ((xi : Int) + 1))) (.int .i64 ((xi + 1 : Nat) : Int)) (congrArg (Value.int .i64) (Sx.wrap_up xi (by omega))) ?_
    refine Sx.G.p (.int .i64 ((xi + 1 : Nat) : Int)) ?_
    refine Sx.G.nil ?_
    have HN : xi + 1 ≤ 4 ∧ (xs ++ [y25_0]).length = xi + 1 ∧ ∀ y ∈ xs ++ [y25_0], (Lit.int .i64 y).wf = true := ⟨by omega, by simp [hx2], fun y hy => by rcases List.mem_append.1 hy with h | h; exact hx3 y h; rw [List.mem_singleton.1 h]; exact Sx.wf_small hxy25_0 (Int.lt_trans hyy25_0 (by decide))⟩
    exact Sx.E.again (xi + 1, xs ++ [y25_0], y25_2, y25_3, y25_4, w0.heap.size, y25_5) HN (by show 5 - (xi + 1) < 5 - xi; omega) (fun a hA => (Sx.Ag.and hA (Sx.Ag.and hA (Sx.Ag.and hA (Sx.Ag.and hA (Sx.Ag.none hA) _ _ (by kernel_rfl)) _ _ (by kernel_rfl)) _ _ (by kernel_rfl)) _ _ (by kernel_rfl))) (fun w S => St.pick S [1, 2, 3, 4, 5, 6, 7, 8, 9, 10, 11] _ rfl (by decide))
  ·
   skip
   refine Sx.C.yes (by kernel_rfl) (by kernel_rfl) ?_
   refine Sx.C.region ?_
   refine Sx.G.p (.pointer (some ⟨g, 0, none⟩)) ?_
   refine Sx.G.c 102 #[.pointer (some ⟨g, 0, none⟩)] (fun w26 S => (exit_any w0 A n c g _ hn hcode (Sx.St.cur S 9 rfl)).mono fun e w26' hp => ?_)
   obtain ⟨ek26, ep26, eq26, em26, rfl, hw26, hcur, hgr⟩ := hp
   refine ⟨_, _, rfl, Sx.St.moved S 9 rfl hcur hgr, ?_⟩
   clear S hcur hgr
   refine Sx.G.p (.pointer (some ⟨b4, 9, none⟩)) ?_
   refine Sx.G.sto 37 (.tmp 32) (.tmp 31) b4 9 2 [.slice q3A0 (newG pl2).prog.length q3c0, .int .i64 x7, .int .i64 x8, .slice (some ⟨tb5, 0, none⟩) 4 tc5, .slice (some ⟨tb6, 0, none⟩) 4 tc6, .int .i64 ca9, .int .i64 cb9, .bool co9, .int .i64 (newG pl2).pd, .int .i64 (newG pl2).x.1, .int .i64 (newG pl2).x.2.1, .bool (newG pl2).x.2.2.1, .int .i64 (newG pl2).x.2.2.2, .bool (newG pl2).hl, .slice q3A3 (newG pl2).seen.length q3c3] [.int .i64 ek26, .int .i64 ep26, .bool eq26, .int .i64 em26] [.slice q3A0 (newG pl2).prog.length q3c0, .int .i64 x7, .int .i64 x8, .slice (some ⟨tb5, 0, none⟩) 4 tc5, .slice (some ⟨tb6, 0, none⟩) 4 tc6, .int .i64 ca9, .int .i64 cb9, .bool co9, .int .i64 (newG pl2).pd, .int .i64 ek26, .int .i64 ep26, .bool eq26, .int .i64 em26, .bool (newG pl2).hl, .slice q3A3 (newG pl2).seen.length q3c3] [ow (rLst 108 (rPair rInt rInt)) w6.heap.size (w6'.heap.size) tl6 [.slice (some ⟨tb6, 0, none⟩) 4 tc6] [tb6], ow (rLst 108 (rPair rInt rInt)) w5.heap.size (w5'.heap.size) tl5 [.slice (some ⟨tb5, 0, none⟩) 4 tc5] [tb5], vr b4 [.slice q3A0 (newG pl2).prog.length q3c0, .int .i64 x7, .int .i64 x8, .slice (some ⟨tb5, 0, none⟩) 4 tc5, .slice (some ⟨tb6, 0, none⟩) 4 tc6, .int .i64 ca9, .int .i64 cb9, .bool co9, .int .i64 (newG pl2).pd, .int .i64 ek26, .int .i64 ep26, .bool eq26, .int .i64 em26, .bool (newG pl2).hl, .slice q3A3 (newG pl2).seen.length q3c3], ow (rLst 55 (rPair rInt rInt)) w3.heap.size w3'.heap.size (newG pl2).prog [.slice q3A0 (newG pl2).prog.length q3c0] G3_0, ow (rLsw (rPair rInt rInt)) w3.heap.size w3'.heap.size (newG pl2).wr [.slice q3A1 (newG pl2).wr.length q3c1] G3_1, ow (rLsw (rPair rInt rInt)) w3.heap.size w3'.heap.size (newG pl2).lv [.slice q3A2 (newG pl2).lv.length q3c2] G3_2, ow (rLst 3 rInt) w3.heap.size w3'.heap.size (newG pl2).seen [.slice q3A3 (newG pl2).seen.length q3c3] G3_3, ow (rLst 55 (rPair rInt rInt)) w2.heap.size (w2'.heap.size) pl2 [.slice (some ⟨pb2, 0, none⟩) pl2.length pc2] [pb2], vr b1 [.slice none 0 0, .int .i64 0, .int .i64 0, .slice none 0 0, .slice none 0 0, .int .i64 0, .int .i64 0, .bool false, .int .i64 0, .int .i64 0, .int .i64 0, .bool false, .int .i64 0, .bool false, .slice none 0 0], Sx.cu A n c g, Sx.frm w0 w g] rfl (by kernel_rfl) (by kernel_rfl) (by kernel_rfl) rfl (by kernel_rfl) rfl (by kernel_rfl) (by kernel_rfl) (by kernel_rfl) ?_
   refine Sx.G.nil (Sx.E.next (Sx.C.seq (Sx.C.region ?_)))
   refine Sx.G.p (.pointer (some ⟨g, 0, none⟩)) ?_
   refine Sx.G.c 26 #[.pointer (some ⟨g, 0, none⟩), .int .i64 12] (fun w27 S => (once_any w0 A n c g _ 12 (by decide) (by decide) hn hcode (Sx.St.cur S 9 rfl)).mono fun e w27' hp => ?_)
   obtain ⟨x27, rfl, hcur, hgr⟩ := hp
   refine ⟨_, _, rfl, Sx.St.moved S 9 rfl hcur hgr, ?_⟩
   clear S hcur hgr
   refine Sx.G.p (.pointer (some ⟨b4, 13, none⟩)) ?_
   refine Sx.G.s (.bool (x27)) .a2 .a13 ?_
   refine Sx.G.nil (Sx.E.next (Sx.C.seq (Sx.C.seq (Sx.C.region ?_))))
   refine Sx.G.p (.int .i64 0) ?_
   refine Sx.G.nil (Sx.E.next (Sx.C.block ?_))
   refine Sx.C.loop (α := Nat × List Int × Option Addr × Nat × List Nat × Nat × Nat) (fun x => x.1 ≤ 4 ∧ x.2.1.length = x.1 ∧ ∀ y ∈ x.2.1, (Lit.int .i64 y).wf = true) (fun x => [(4, .int .i64 (x.1 : Int)), (0, .pointer (some ⟨g, 0, none⟩)), (2, .pointer (some ⟨b1, 0, none⟩)), (3, .pointer (some ⟨b4, 0, none⟩))]) (fun x => [ow (rLst 108 (rPair rInt rInt)) w6.heap.size (w6'.heap.size) tl6 [.slice (some ⟨tb6, 0, none⟩) 4 tc6] [tb6], ow (rLst 108 (rPair rInt rInt)) w5.heap.size (w5'.heap.size) tl5 [.slice (some ⟨tb5, 0, none⟩) 4 tc5] [tb5], vr b4 [.slice q3A0 (newG pl2).prog.length q3c0, .int .i64 x7, .int .i64 x8, .slice (some ⟨tb5, 0, none⟩) 4 tc5, .slice (some ⟨tb6, 0, none⟩) 4 tc6, .int .i64 ca9, .int .i64 cb9, .bool co9, .int .i64 (newG pl2).pd, .int .i64 ek26, .int .i64 ep26, .bool eq26, .int .i64 em26, .bool (x27), .slice x.2.2.1 x.2.1.length x.2.2.2.1], ow (rLst 55 (rPair rInt rInt)) w3.heap.size w3'.heap.size (newG pl2).prog [.slice q3A0 (newG pl2).prog.length q3c0] G3_0, ow (rLsw (rPair rInt rInt)) w3.heap.size w3'.heap.size (newG pl2).wr [.slice q3A1 (newG pl2).wr.length q3c1] G3_1, ow (rLsw (rPair rInt rInt)) w3.heap.size w3'.heap.size (newG pl2).lv [.slice q3A2 (newG pl2).lv.length q3c2] G3_2, ow (rLst 3 rInt) x.2.2.2.2.2.1 x.2.2.2.2.2.2 x.2.1 [.slice x.2.2.1 x.2.1.length x.2.2.2.1] x.2.2.2.2.1, ow (rLst 55 (rPair rInt rInt)) w2.heap.size (w2'.heap.size) pl2 [.slice (some ⟨pb2, 0, none⟩) pl2.length pc2] [pb2], vr b1 [.slice none 0 0, .int .i64 0, .int .i64 0, .slice none 0 0, .slice none 0 0, .int .i64 0, .int .i64 0, .bool false, .int .i64 0, .int .i64 0, .int .i64 0, .bool false, .int .i64 0, .bool false, .slice none 0 0], Sx.cu A n c g, Sx.frm w0 w g]) (fun x => 5 - x.1) (0, (newG pl2).seen, q3A3, q3c3, G3_3, w3.heap.size, w3'.heap.size) ⟨Nat.zero_le _, rfl, fun y hy => by cases hy⟩ (fun a hA => (Sx.Ag.and hA (Sx.Ag.and hA (Sx.Ag.and hA (Sx.Ag.and hA (Sx.Ag.none hA) _ _ (by kernel_rfl)) _ _ (by kernel_rfl)) _ _ (by kernel_rfl)) _ _ (by kernel_rfl))) (fun w S => St.pick S [0, 1, 2, 3, 4, 5, 6, 7, 8, 9, 10] _ rfl (by decide)) (fun x hx => ?_)
   obtain ⟨xi, xs, xA, xc, xF, xlo, xhi⟩ := x
   dsimp only at hx
   obtain ⟨hx1, hx2, hx3⟩ := hx
   refine Sx.C.seq (Sx.C.seq (Sx.C.region ?_))
   refine Sx.G.p (.int .i64 (xi : Int)) ?_
   refine Sx.G.p (.pointer (some ⟨g, 0, none⟩)) ?_
   refine Sx.G.c 39 #[.pointer (some ⟨g, 0, none⟩), .int .i64 4] (fun w28 S => (below_any w0 A n c g _ 4 (by decide) (by decide) hn hcode (Sx.St.cur S 9 rfl)).mono fun e w28' hp => ?_)
   obtain ⟨x28, rfl, hx28, hy28, hcur, hgr⟩ := hp
   refine ⟨_, _, rfl, Sx.St.moved S 9 rfl hcur hgr, ?_⟩
   clear S hcur hgr
   refine Sx.G.p (.bool (decide ((xi : Int) < x28))) ?_
   refine Sx.G.nil (Sx.E.next ?_)
   cases hc29 : (decide ((xi : Int) < x28))
   ·
    replace hc29 := of_decide_eq_false hc29
    refine Sx.C.no (by kernel_rfl) (by kernel_rfl) ?_
    refine Sx.C.exit (Sx.E.then_exit (Sx.E.then_exit (Sx.E.block_hit (Sx.E.next (Sx.C.seq (Sx.C.region ?_))))))
    refine Sx.G.lw .m2 ?_
    refine Sx.G.sw [.slice q3A0 (newG pl2).prog.length q3c0, .int .i64 x7, .int .i64 x8, .slice (some ⟨tb5, 0, none⟩) 4 tc5, .slice (some ⟨tb6, 0, none⟩) 4 tc6, .int .i64 ca9, .int .i64 cb9, .bool co9, .int .i64 (newG pl2).pd, .int .i64 ek26, .int .i64 ep26, .bool eq26, .int .i64 em26, .bool (x27), .slice xA xs.length xc] .a8 ?_
    refine Sx.G.nil (Sx.E.next (Sx.C.ret ?_))
    refine Sx.E.retc b1 8 [.slice q3A0 (newG pl2).prog.length q3c0, .int .i64 x7, .int .i64 x8, .slice (some ⟨tb5, 0, none⟩) 4 tc5, .slice (some ⟨tb6, 0, none⟩) 4 tc6, .int .i64 ca9, .int .i64 cb9, .bool co9, .int .i64 (newG pl2).pd, .int .i64 ek26, .int .i64 ep26, .bool eq26, .int .i64 em26, .bool (x27), .slice xA xs.length xc] rfl (by kernel_rfl) rfl (by kernel_rfl) (by kernel_rfl) (fun w S => ?_)
    exact ⟨{ prog := (newG pl2).prog, a := x7, pc := x8, wr := tl5, lv := tl6, t := (ca9, cb9, co9), pd := (newG pl2).pd, x := (ek26, ep26, eq26, em26), hl := (x27), seen := xs }, _, _, _, _, rfl, ⟨⟨Nat.le_trans hM2 (by decide), hw2⟩, Sx.wf_small hx7 (Int.lt_trans hy7 (by decide)), Sx.wf_small hx8 (Int.lt_trans hy8 (by decide)), ⟨by simp only [hl5]; decide, hw5⟩, ⟨by simp only [hl6]; decide, hw6⟩, hw9, (show (Lit.int .i64 0).wf = true by decide), hw26, trivial, ⟨by simp only [hx2]; omega, hx3⟩⟩, ⟨hM2, by simp only [hl5]; decide, by simp only [hl6]; decide, by simp only [hx2]; omega⟩, Sx.St.cur S 9 rfl, Sx.St.grown S 10 rfl hb0, _, _, _, _, _, _, _, _, _, _, _, _, Sx.St.made (St.pick S [9, 10, 3, 1, 0, 6] _ rfl (by decide))⟩
   ·
    replace hc29 := of_decide_eq_true hc29
    refine Sx.C.yes (by kernel_rfl) (by kernel_rfl) ?_
    refine Sx.C.skip (Sx.E.next (Sx.C.seq (Sx.C.block ?_)))
    refine Sx.C.cut (fun e a w' => e = .normal ∧ ∃ (Y0 : Int) (Y1 : Nat) (Y2 : Option Addr) (Y3 : Nat) (Y4 : List Nat) (Y5 : Nat), Sx.Ag 50 [(0, .pointer (some ⟨g, 0, none⟩)), (2, .pointer (some ⟨b1, 0, none⟩)), (3, .pointer (some ⟨b4, 0, none⟩)), (4, .int .i64 (xi : Int))] a ∧ St w0 w' [vr Y1 [.int .i64 Y0], ow (rLst 108 (rPair rInt rInt)) w6.heap.size (w6'.heap.size) tl6 [.slice (some ⟨tb6, 0, none⟩) 4 tc6] [tb6], ow (rLst 108 (rPair rInt rInt)) w5.heap.size (w5'.heap.size) tl5 [.slice (some ⟨tb5, 0, none⟩) 4 tc5] [tb5], vr b4 [.slice q3A0 (newG pl2).prog.length q3c0, .int .i64 x7, .int .i64 x8, .slice (some ⟨tb5, 0, none⟩) 4 tc5, .slice (some ⟨tb6, 0, none⟩) 4 tc6, .int .i64 ca9, .int .i64 cb9, .bool co9, .int .i64 (newG pl2).pd, .int .i64 ek26, .int .i64 ep26, .bool eq26, .int .i64 em26, .bool (x27), .slice Y2 ((xs ++ [Y0]).length) Y3], ow (rLst 55 (rPair rInt rInt)) w3.heap.size w3'.heap.size (newG pl2).prog [.slice q3A0 (newG pl2).prog.length q3c0] G3_0, ow (rLsw (rPair rInt rInt)) w3.heap.size w3'.heap.size (newG pl2).wr [.slice q3A1 (newG pl2).wr.length q3c1] G3_1, ow (rLsw (rPair rInt rInt)) w3.heap.size w3'.heap.size (newG pl2).lv [.slice q3A2 (newG pl2).lv.length q3c2] G3_2, ow (rLst 3 rInt) w0.heap.size Y5 (xs ++ [Y0]) [.slice Y2 ((xs ++ [Y0]).length) Y3] Y4, ow (rLst 55 (rPair rInt rInt)) w2.heap.size (w2'.heap.size) pl2 [.slice (some ⟨pb2, 0, none⟩) pl2.length pc2] [pb2], vr b1 [.slice none 0 0, .int .i64 0, .int .i64 0, .slice none 0 0, .slice none 0 0, .int .i64 0, .int .i64 0, .bool false, .int .i64 0, .int .i64 0, .int .i64 0, .bool false, .int .i64 0, .bool false, .slice none 0 0], Sx.cu A n c g, Sx.frm w0 w g] ∧ 0 ≤ Y0 ∧ Y0 < 100) ?_ ?_
    ·
     refine Sx.C.draw (.take 0 (.take 2 (.two 1 (.alone 3 (.alone 4 (.alone 5 (.take 6 (.alone 7 .nil))))) 3 (.two 1 (.alone 4 (.alone 5 (.take 6 (.alone 7 .nil)))) 4 (.alone 1 (.alone 5 (.take 6 (.alone 7 .nil)))))))) [] (fun w S => St.pick S [] _ rfl (by decide)) (by kernel_rfl) (by kernel_rfl) (by kernel_rfl) ?_
     refine Sx.GT.p (.pointer (some ⟨b4, 14, none⟩)) ?_
     refine Sx.GT.p (.pointer (some ⟨g, 0, none⟩)) ?_
     refine Sx.GT.two ?_ ?_
     ·
      refine Sx.Alone.g (.slice xA xs.length xc) .m2 .m14 (fun w S => St.pick S [] _ rfl (by decide)) ?_
      refine Sx.GT.alone (Sx.Alone.c 39 #[.pointer (some ⟨g, 0, none⟩), .int .i64 100] (fun w30 S => (below_any w0 A n c g _ 100 (by decide) (by decide) hn hcode (Sx.St.cur S 9 rfl)).mono fun e w30' hp => ?_))
      obtain ⟨x30, rfl, hx30, hy30, hcur, hgr⟩ := hp
      refine ⟨_, _, rfl, Sx.St.moved S 9 rfl hcur hgr, (fun w S => St.pick S [] _ rfl (by decide)), ?_⟩
      clear S hcur hgr
      refine Sx.GT.alone (Sx.Alone.made 3 [.int .i64 x30] 1 (by rfl) (by kernel_rfl) (fun w => by kernel_rfl) (fun w S => St.pick S [] _ rfl (by decide)) (fun b31 => ?_))
      refine Sx.GT.alone (Sx.Alone.apps 7 (by rfl) (xs ++ [x30]) (fun w S => S.box 0 rfl rfl 1 (Nat.le_refl _)) (by rfl) ((xs ++ [x30]).length) (by simp) flat_int (.tmp 43) (.tmp 46) 28 1 8 (by rfl) (by rfl) (by kernel_rfl) (by kernel_rfl) (by rfl) (by kernel_rfl) (by kernel_rfl) (by simp only [maxLen, List.length_nil, List.length_cons]; omega) (by simp only [List.length_nil, List.length_cons]; omega) (fun _ _ _ _ w S => St.pick S [] _ rfl (by decide)) (fun A32 c32 F32 hi32 hm32 => ?_))
      refine Sx.GT.p (.pointer (some ⟨b4, 14, none⟩)) ?_
      refine Sx.GT.alone (Sx.Alone.s (.slice A32 ((xs ++ [x30]).length) c32) .a3 .a14 (fun w S => St.pick S [] _ rfl (by decide)) ?_)
      exact Sx.GT.nil (fun a w' hA S => ⟨rfl, x30, b31, A32, c32, F32, hi32, (Sx.Ag.and hA (Sx.Ag.and hA (Sx.Ag.and hA (Sx.Ag.and hA (Sx.Ag.none hA) _ _ (by kernel_rfl)) _ _ (by kernel_rfl)) _ _ (by kernel_rfl)) _ _ (by kernel_rfl)), St.pick S [0, 1, 2, 3, 4, 5, 6, 7, 8, 9, 10, 11] _ rfl (by decide), hx30, hy30⟩)
     ·
      refine Sx.Alone.c 39 #[.pointer (some ⟨g, 0, none⟩), .int .i64 100] (fun w33 S => (below_any w0 A n c g _ 100 (by decide) (by decide) hn hcode (Sx.St.cur S 9 rfl)).mono fun e w33' hp => ?_)
      obtain ⟨x33, rfl, hx33, hy33, hcur, hgr⟩ := hp
      refine ⟨_, _, rfl, Sx.St.moved S 9 rfl hcur hgr, (fun w S => St.pick S [] _ rfl (by decide)), ?_⟩
      clear S hcur hgr
      refine Sx.GT.two ?_ ?_
      ·
       refine Sx.Alone.g (.slice xA xs.length xc) .m2 .m14 (fun w S => St.pick S [] _ rfl (by decide)) ?_
       refine Sx.GT.alone (Sx.Alone.made 3 [.int .i64 x33] 1 (by rfl) (by kernel_rfl) (fun w => by kernel_rfl) (fun w S => St.pick S [] _ rfl (by decide)) (fun b34 => ?_))
       refine Sx.GT.alone (Sx.Alone.apps 7 (by rfl) (xs ++ [x33]) (fun w S => S.box 0 rfl rfl 1 (Nat.le_refl _)) (by rfl) ((xs ++ [x33]).length) (by simp) flat_int (.tmp 43) (.tmp 46) 28 1 8 (by rfl) (by rfl) (by kernel_rfl) (by kernel_rfl) (by rfl) (by kernel_rfl) (by kernel_rfl) (by simp only [maxLen, List.length_nil, List.length_cons]; omega) (by simp only [List.length_nil, List.length_cons]; omega) (fun _ _ _ _ w S => St.pick S [] _ rfl (by decide)) (fun A35 c35 F35 hi35 hm35 => ?_))
       refine Sx.GT.p (.pointer (some ⟨b4, 14, none⟩)) ?_
       refine Sx.GT.alone (Sx.Alone.s (.slice A35 ((xs ++ [x33]).length) c35) .a3 .a14 (fun w S => St.pick S [] _ rfl (by decide)) ?_)
       exact Sx.GT.nil (fun a w' hA S => ⟨rfl, x33, b34, A35, c35, F35, hi35, (Sx.Ag.and hA (Sx.Ag.and hA (Sx.Ag.and hA (Sx.Ag.and hA (Sx.Ag.none hA) _ _ (by kernel_rfl)) _ _ (by kernel_rfl)) _ _ (by kernel_rfl)) _ _ (by kernel_rfl)), St.pick S [0, 1, 2, 3, 4, 5, 6, 7, 8, 9, 10, 11] _ rfl (by decide), hx33, hy33⟩)
      ·
       refine Sx.Alone.made 3 [.int .i64 x33] 1 (by rfl) (by kernel_rfl) (fun w => by kernel_rfl) (fun w S => St.pick S [] _ rfl (by decide)) (fun b36 => ?_)
       refine Sx.GT.alone (Sx.Alone.g (.slice xA xs.length xc) .m3 .m14 (fun w S => St.pick S [] _ rfl (by decide)) ?_)
       refine Sx.GT.alone (Sx.Alone.apps 7 (by rfl) (xs ++ [x33]) (fun w S => S.box 0 rfl rfl 1 (Nat.le_refl _)) (by rfl) ((xs ++ [x33]).length) (by simp) flat_int (.tmp 43) (.tmp 46) 28 1 8 (by rfl) (by rfl) (by kernel_rfl) (by kernel_rfl) (by rfl) (by kernel_rfl) (by kernel_rfl) (by simp only [maxLen, List.length_nil, List.length_cons]; omega) (by simp only [List.length_nil, List.length_cons]; omega) (fun _ _ _ _ w S => St.pick S [] _ rfl (by decide)) (fun A37 c37 F37 hi37 hm37 => ?_))
       refine Sx.GT.p (.pointer (some ⟨b4, 14, none⟩)) ?_
       refine Sx.GT.alone (Sx.Alone.s (.slice A37 ((xs ++ [x33]).length) c37) .a3 .a14 (fun w S => St.pick S [] _ rfl (by decide)) ?_)
       exact Sx.GT.nil (fun a w' hA S => ⟨rfl, x33, b36, A37, c37, F37, hi37, (Sx.Ag.and hA (Sx.Ag.and hA (Sx.Ag.and hA (Sx.Ag.and hA (Sx.Ag.none hA) _ _ (by kernel_rfl)) _ _ (by kernel_rfl)) _ _ (by kernel_rfl)) _ _ (by kernel_rfl)), St.pick S [0, 1, 2, 3, 4, 5, 6, 7, 8, 9, 10, 11] _ rfl (by decide), hx33, hy33⟩)
    rintro e a w' ⟨rfl, y38_0, y38_1, y38_2, y38_3, y38_4, y38_5, hA, S, hxy38_0, hyy38_0⟩
    refine Sx.E.out ?_ hA S
    clear hA S a w'
    refine Sx.E.block_normal (Sx.E.next (Sx.C.region ?_))
    refine Sx.G.p (.int .i64 (xi : Int)) ?_
    refine Sx.G.q (.int .i64 (IntKind.i64.wrap ((xi : Int) + 1))) (.int .i64 ((xi + 1 : Nat) : Int)) (congrArg (Value.int .i64) (Sx.wrap_up xi (by omega))) ?_
    refine Sx.G.p (.int .i64 ((xi + 1 : Nat) : Int)) ?_
    refine Sx.G.nil ?_
    have HN : xi + 1 ≤ 4 ∧ (xs ++ [y38_0]).length = xi + 1 ∧ ∀ y ∈ xs ++ [y38_0], (Lit.int .i64 y).wf = true := ⟨by omega, by simp [hx2], fun y hy => by rcases List.mem_append.1 hy with h | h; exact hx3 y h; rw [List.mem_singleton.1 h]; exact Sx.wf_small hxy38_0 (Int.lt_trans hyy38_0 (by decide))⟩
    exact Sx.E.again (xi + 1, xs ++ [y38_0], y38_2, y38_3, y38_4, w0.heap.size, y38_5) HN (by show 5 - (xi + 1) < 5 - xi; omega) (fun a hA => (Sx.Ag.and hA (Sx.Ag.and hA (Sx.Ag.and hA (Sx.Ag.and hA (Sx.Ag.none hA) _ _ (by kernel_rfl)) _ _ (by kernel_rfl)) _ _ (by kernel_rfl)) _ _ (by kernel_rfl))) (fun w S => St.pick S [1, 2, 3, 4, 5, 6, 7, 8, 9, 10, 11] _ rfl (by decide))
 ·
  skip
  refine Sx.C.yes (by kernel_rfl) (by kernel_rfl) ?_
  refine Sx.C.region ?_
  refine Sx.G.p (.pointer (some ⟨g, 0, none⟩)) ?_
  refine Sx.G.c 39 #[.pointer (some ⟨g, 0, none⟩), .int .i64 256] (fun w39 S => (below_any w0 A n c g _ 256 (by decide) (by decide) hn hcode (Sx.St.cur S 9 rfl)).mono fun e w39' hp => ?_)
  obtain ⟨x39, rfl, hx39, hy39, hcur, hgr⟩ := hp
  refine ⟨_, _, rfl, Sx.St.moved S 9 rfl hcur hgr, ?_⟩
  clear S hcur hgr
  refine Sx.G.p (.pointer (some ⟨b4, 8, none⟩)) ?_
  refine Sx.G.s (.int .i64 x39) .a2 .a8 ?_
  refine Sx.G.nil (Sx.E.next (Sx.C.seq (Sx.C.seq (Sx.C.region ?_))))
  refine Sx.G.p (.pointer (some ⟨g, 0, none⟩)) ?_
  refine Sx.G.c 26 #[.pointer (some ⟨g, 0, none⟩), .int .i64 4] (fun w40 S => (once_any w0 A n c g _ 4 (by decide) (by decide) hn hcode (Sx.St.cur S 9 rfl)).mono fun e w40' hp => ?_)
  obtain ⟨x40, rfl, hcur, hgr⟩ := hp
  refine ⟨_, _, rfl, Sx.St.moved S 9 rfl hcur hgr, ?_⟩
  clear S hcur hgr
  refine Sx.G.nil (Sx.E.next ?_)
  cases hc41 : (x40)
  ·
   skip
   refine Sx.C.no (by kernel_rfl) (by kernel_rfl) ?_
   refine Sx.C.skip (Sx.E.next (Sx.C.seq (Sx.C.region ?_)))
   refine Sx.G.p (.pointer (some ⟨g, 0, none⟩)) ?_
   refine Sx.G.c 26 #[.pointer (some ⟨g, 0, none⟩), .int .i64 12] (fun w42 S => (once_any w0 A n c g _ 12 (by decide) (by decide) hn hcode (Sx.St.cur S 9 rfl)).mono fun e w42' hp => ?_)
   obtain ⟨x42, rfl, hcur, hgr⟩ := hp
   refine ⟨_, _, rfl, Sx.St.moved S 9 rfl hcur hgr, ?_⟩
   clear S hcur hgr
   refine Sx.G.p (.pointer (some ⟨b4, 13, none⟩)) ?_
   refine Sx.G.s (.bool (x42)) .a2 .a13 ?_
   refine Sx.G.nil (Sx.E.next (Sx.C.seq (Sx.C.seq (Sx.C.region ?_))))
   refine Sx.G.p (.int .i64 0) ?_
   refine Sx.G.nil (Sx.E.next (Sx.C.block ?_))
   refine Sx.C.loop (α := Nat × List Int × Option Addr × Nat × List Nat × Nat × Nat) (fun x => x.1 ≤ 4 ∧ x.2.1.length = x.1 ∧ ∀ y ∈ x.2.1, (Lit.int .i64 y).wf = true) (fun x => [(4, .int .i64 (x.1 : Int)), (0, .pointer (some ⟨g, 0, none⟩)), (2, .pointer (some ⟨b1, 0, none⟩)), (3, .pointer (some ⟨b4, 0, none⟩))]) (fun x => [ow (rLst 108 (rPair rInt rInt)) w6.heap.size (w6'.heap.size) tl6 [.slice (some ⟨tb6, 0, none⟩) 4 tc6] [tb6], ow (rLst 108 (rPair rInt rInt)) w5.heap.size (w5'.heap.size) tl5 [.slice (some ⟨tb5, 0, none⟩) 4 tc5] [tb5], vr b4 [.slice q3A0 (newG pl2).prog.length q3c0, .int .i64 x7, .int .i64 x8, .slice (some ⟨tb5, 0, none⟩) 4 tc5, .slice (some ⟨tb6, 0, none⟩) 4 tc6, .int .i64 ca9, .int .i64 cb9, .bool co9, .int .i64 x39, .int .i64 (newG pl2).x.1, .int .i64 (newG pl2).x.2.1, .bool (newG pl2).x.2.2.1, .int .i64 (newG pl2).x.2.2.2, .bool (x42), .slice x.2.2.1 x.2.1.length x.2.2.2.1], ow (rLst 55 (rPair rInt rInt)) w3.heap.size w3'.heap.size (newG pl2).prog [.slice q3A0 (newG pl2).prog.length q3c0] G3_0, ow (rLsw (rPair rInt rInt)) w3.heap.size w3'.heap.size (newG pl2).wr [.slice q3A1 (newG pl2).wr.length q3c1] G3_1, ow (rLsw (rPair rInt rInt)) w3.heap.size w3'.heap.size (newG pl2).lv [.slice q3A2 (newG pl2).lv.length q3c2] G3_2, ow (rLst 3 rInt) x.2.2.2.2.2.1 x.2.2.2.2.2.2 x.2.1 [.slice x.2.2.1 x.2.1.length x.2.2.2.1] x.2.2.2.2.1, ow (rLst 55 (rPair rInt rInt)) w2.heap.size (w2'.heap.size) pl2 [.slice (some ⟨pb2, 0, none⟩) pl2.length pc2] [pb2], vr b1 [.slice none 0 0, .int .i64 0, .int .i64 0, .slice none 0 0, .slice none 0 0, .int .i64 0, .int .i64 0, .bool false, .int .i64 0, .int .i64 0, .int .i64 0, .bool false, .int .i64 0, .bool false, .slice none 0 0], Sx.cu A n c g, Sx.frm w0 w g]) (fun x => 5 - x.1) (0, (newG pl2).seen, q3A3, q3c3, G3_3, w3.heap.size, w3'.heap.size) ⟨Nat.zero_le _, rfl, fun y hy => by cases hy⟩ (fun a hA => (Sx.Ag.and hA (Sx.Ag.and hA (Sx.Ag.and hA (Sx.Ag.and hA (Sx.Ag.none hA) _ _ (by kernel_rfl)) _ _ (by kernel_rfl)) _ _ (by kernel_rfl)) _ _ (by kernel_rfl))) (fun w S => St.pick S [0, 1, 2, 3, 4, 5, 6, 7, 8, 9, 10] _ rfl (by decide)) (fun x hx => ?_)
   obtain ⟨xi, xs, xA, xc, xF, xlo, xhi⟩ := x
   dsimp only at hx
   obtain ⟨hx1, hx2, hx3⟩ := hx
   refine Sx.C.seq (Sx.C.seq (Sx.C.region ?_))
   refine Sx.G.p (.int .i64 (xi : Int)) ?_
   refine Sx.G.p (.pointer (some ⟨g, 0, none⟩)) ?_
   refine Sx.G.c 39 #[.pointer (some ⟨g, 0, none⟩), .int .i64 4] (fun w43 S => (below_any w0 A n c g _ 4 (by decide) (by decide) hn hcode (Sx.St.cur S 9 rfl)).mono fun e w43' hp => ?_)
   obtain ⟨x43, rfl, hx43, hy43, hcur, hgr⟩ := hp
   refine ⟨_, _, rfl, Sx.St.moved S 9 rfl hcur hgr, ?_⟩
   clear S hcur hgr
   refine Sx.G.p (.bool (decide ((xi : Int) < x43))) ?_
   refine Sx.G.nil (Sx.E.next ?_)
   cases hc44 : (decide ((xi : Int) < x43))
   ·
    replace hc44 := of_decide_eq_false hc44
    refine Sx.C.no (by kernel_rfl) (by kernel_rfl) ?_
    refine Sx.C.exit (Sx.E.then_exit (Sx.E.then_exit (Sx.E.block_hit (Sx.E.next (Sx.C.seq (Sx.C.region ?_))))))
    refine Sx.G.lw .m2 ?_
    refine Sx.G.sw [.slice q3A0 (newG pl2).prog.length q3c0, .int .i64 x7, .int .i64 x8, .slice (some ⟨tb5, 0, none⟩) 4 tc5, .slice (some ⟨tb6, 0, none⟩) 4 tc6, .int .i64 ca9, .int .i64 cb9, .bool co9, .int .i64 x39, .int .i64 (newG pl2).x.1, .int .i64 (newG pl2).x.2.1, .bool (newG pl2).x.2.2.1, .int .i64 (newG pl2).x.2.2.2, .bool (x42), .slice xA xs.length xc] .a8 ?_
    refine Sx.G.nil (Sx.E.next (Sx.C.ret ?_))
    refine Sx.E.retc b1 8 [.slice q3A0 (newG pl2).prog.length q3c0, .int .i64 x7, .int .i64 x8, .slice (some ⟨tb5, 0, none⟩) 4 tc5, .slice (some ⟨tb6, 0, none⟩) 4 tc6, .int .i64 ca9, .int .i64 cb9, .bool co9, .int .i64 x39, .int .i64 (newG pl2).x.1, .int .i64 (newG pl2).x.2.1, .bool (newG pl2).x.2.2.1, .int .i64 (newG pl2).x.2.2.2, .bool (x42), .slice xA xs.length xc] rfl (by kernel_rfl) rfl (by kernel_rfl) (by kernel_rfl) (fun w S => ?_)
    exact ⟨{ prog := (newG pl2).prog, a := x7, pc := x8, wr := tl5, lv := tl6, t := (ca9, cb9, co9), pd := x39, x := ((newG pl2).x.1, (newG pl2).x.2.1, (newG pl2).x.2.2.1, (newG pl2).x.2.2.2), hl := (x42), seen := xs }, _, _, _, _, rfl, ⟨⟨Nat.le_trans hM2 (by decide), hw2⟩, Sx.wf_small hx7 (Int.lt_trans hy7 (by decide)), Sx.wf_small hx8 (Int.lt_trans hy8 (by decide)), ⟨by simp only [hl5]; decide, hw5⟩, ⟨by simp only [hl6]; decide, hw6⟩, hw9, Sx.wf_small hx39 (Int.lt_trans hy39 (by decide)), ⟨(show (Lit.int .i64 0).wf = true by decide), (show (Lit.int .i64 0).wf = true by decide), trivial, (show (Lit.int .i64 0).wf = true by decide)⟩, trivial, ⟨by simp only [hx2]; omega, hx3⟩⟩, ⟨hM2, by simp only [hl5]; decide, by simp only [hl6]; decide, by simp only [hx2]; omega⟩, Sx.St.cur S 9 rfl, Sx.St.grown S 10 rfl hb0, _, _, _, _, _, _, _, _, _, _, _, _, Sx.St.made (St.pick S [9, 10, 3, 1, 0, 6] _ rfl (by decide))⟩
   ·
    replace hc44 := of_decide_eq_true hc44
    refine Sx.C.yes (by kernel_rfl) (by kernel_rfl) ?_
    refine Sx.C.skip (Sx.E.next (Sx.C.seq (Sx.C.block ?_)))
    refine Sx.C.cut (fun e a w' => e = .normal ∧ ∃ (Y0 : Int) (Y1 : Nat) (Y2 : Option Addr) (Y3 : Nat) (Y4 : List Nat) (Y5 : Nat), Sx.Ag 50 [(0, .pointer (some ⟨g, 0, none⟩)), (2, .pointer (some ⟨b1, 0, none⟩)), (3, .pointer (some ⟨b4, 0, none⟩)), (4, .int .i64 (xi : Int))] a ∧ St w0 w' [vr Y1 [.int .i64 Y0], ow (rLst 108 (rPair rInt rInt)) w6.heap.size (w6'.heap.size) tl6 [.slice (some ⟨tb6, 0, none⟩) 4 tc6] [tb6], ow (rLst 108 (rPair rInt rInt)) w5.heap.size (w5'.heap.size) tl5 [.slice (some ⟨tb5, 0, none⟩) 4 tc5] [tb5], vr b4 [.slice q3A0 (newG pl2).prog.length q3c0, .int .i64 x7, .int .i64 x8, .slice (some ⟨tb5, 0, none⟩) 4 tc5, .slice (some ⟨tb6, 0, none⟩) 4 tc6, .int .i64 ca9, .int .i64 cb9, .bool co9, .int .i64 x39, .int .i64 (newG pl2).x.1, .int .i64 (newG pl2).x.2.1, .bool (newG pl2).x.2.2.1, .int .i64 (newG pl2).x.2.2.2, .bool (x42), .slice Y2 ((xs ++ [Y0]).length) Y3], ow (rLst 55 (rPair rInt rInt)) w3.heap.size w3'.heap.size (newG pl2).prog [.slice q3A0 (newG pl2).prog.length q3c0] G3_0, ow (rLsw (rPair rInt rInt)) w3.heap.size w3'.heap.size (newG pl2).wr [.slice q3A1 (newG pl2).wr.length q3c1] G3_1, ow (rLsw (rPair rInt rInt)) w3.heap.size w3'.heap.size (newG pl2).lv [.slice q3A2 (newG pl2).lv.length q3c2] G3_2, ow (rLst 3 rInt) w0.heap.size Y5 (xs ++ [Y0]) [.slice Y2 ((xs ++ [Y0]).length) Y3] Y4, ow (rLst 55 (rPair rInt rInt)) w2.heap.size (w2'.heap.size) pl2 [.slice (some ⟨pb2, 0, none⟩) pl2.length pc2] [pb2], vr b1 [.slice none 0 0, .int .i64 0, .int .i64 0, .slice none 0 0, .slice none 0 0, .int .i64 0, .int .i64 0, .bool false, .int .i64 0, .int .i64 0, .int .i64 0, .bool false, .int .i64 0, .bool false, .slice none 0 0], Sx.cu A n c g, Sx.frm w0 w g] ∧ 0 ≤ Y0 ∧ Y0 < 100) ?_ ?_
    ·
     refine Sx.C.draw (.take 0 (.take 2 (.two 1 (.alone 3 (.alone 4 (.alone 5 (.take 6 (.alone 7 .nil))))) 3 (.two 1 (.alone 4 (.alone 5 (.take 6 (.alone 7 .nil)))) 4 (.alone 1 (.alone 5 (.take 6 (.alone 7 .nil)))))))) [] (fun w S => St.pick S [] _ rfl (by decide)) (by kernel_rfl) (by kernel_rfl) (by kernel_rfl) ?_
     refine Sx.GT.p (.pointer (some ⟨b4, 14, none⟩)) ?_
     refine Sx.GT.p (.pointer (some ⟨g, 0, none⟩)) ?_
     refine Sx.GT.two ?_ ?_
     ·
      refine Sx.Alone.g (.slice xA xs.length xc) .m2 .m14 (fun w S => St.pick S [] _ rfl (by decide)) ?_
      refine Sx.GT.alone (Sx.Alone.c 39 #[.pointer (some ⟨g, 0, none⟩), .int .i64 100] (fun w45 S => (below_any w0 A n c g _ 100 (by decide) (by decide) hn hcode (Sx.St.cur S 9 rfl)).mono fun e w45' hp => ?_))
      obtain ⟨x45, rfl, hx45, hy45, hcur, hgr⟩ := hp
      refine ⟨_, _, rfl, Sx.St.moved S 9 rfl hcur hgr, (fun w S => St.pick S [] _ rfl (by decide)), ?_⟩
      clear S hcur hgr
      refine Sx.GT.alone (Sx.Alone.made 3 [.int .i64 x45] 1 (by rfl) (by kernel_rfl) (fun w => by kernel_rfl) (fun w S => St.pick S [] _ rfl (by decide)) (fun b46 => ?_))
      refine Sx.GT.alone (Sx.Alone.apps 7 (by rfl) (xs ++ [x45]) (fun w S => S.box 0 rfl rfl 1 (Nat.le_refl _)) (by rfl) ((xs ++ [x45]).length) (by simp) flat_int (.tmp 43) (.tmp 46) 28 1 8 (by rfl) (by rfl) (by kernel_rfl) (by kernel_rfl) (by rfl) (by kernel_rfl) (by kernel_rfl) (by simp only [maxLen, List.length_nil, List.length_cons]; omega) (by simp only [List.length_nil, List.length_cons]; omega) (fun _ _ _ _ w S => St.pick S [] _ rfl (by decide)) (fun A47 c47 F47 hi47 hm47 => ?_))
      refine Sx.GT.p (.pointer (some ⟨b4, 14, none⟩)) ?_
      refine Sx.GT.alone (Sx.Alone.s (.slice A47 ((xs ++ [x45]).length) c47) .a3 .a14 (fun w S => St.pick S [] _ rfl (by decide)) ?_)
      exact Sx.GT.nil (fun a w' hA S => ⟨rfl, x45, b46, A47, c47, F47, hi47, (Sx.Ag.and hA (Sx.Ag.and hA (Sx.Ag.and hA (Sx.Ag.and hA (Sx.Ag.none hA) _ _ (by kernel_rfl)) _ _ (by kernel_rfl)) _ _ (by kernel_rfl)) _ _ (by kernel_rfl)), St.pick S [0, 1, 2, 3, 4, 5, 6, 7, 8, 9, 10, 11] _ rfl (by decide), hx45, hy45⟩)
     ·
      refine Sx.Alone.c 39 #[.pointer (some ⟨g, 0, none⟩), .int .i64 100] (fun w48 S => (below_any w0 A n c g _ 100 (by decide) (by decide) hn hcode (Sx.St.cur S 9 rfl)).mono fun e w48' hp => ?_)
      obtain ⟨x48, rfl, hx48, hy48, hcur, hgr⟩ := hp
      refine ⟨_, _, rfl, Sx.St.moved S 9 rfl hcur hgr, (fun w S => St.pick S [] _ rfl (by decide)), ?_⟩
      clear S hcur hgr
      refine Sx.GT.two ?_ ?_
      ·
       refine Sx.Alone.g (.slice xA xs.length xc) .m2 .m14 (fun w S => St.pick S [] _ rfl (by decide)) ?_
       refine Sx.GT.alone (Sx.Alone.made 3 [.int .i64 x48] 1 (by rfl) (by kernel_rfl) (fun w => by kernel_rfl) (fun w S => St.pick S [] _ rfl (by decide)) (fun b49 => ?_))
       refine Sx.GT.alone (Sx.Alone.apps 7 (by rfl) (xs ++ [x48]) (fun w S => S.box 0 rfl rfl 1 (Nat.le_refl _)) (by rfl) ((xs ++ [x48]).length) (by simp) flat_int (.tmp 43) (.tmp 46) 28 1 8 (by rfl) (by rfl) (by kernel_rfl) (by kernel_rfl) (by rfl) (by kernel_rfl) (by kernel_rfl) (by simp only [maxLen, List.length_nil, List.length_cons]; omega) (by simp only [List.length_nil, List.length_cons]; omega) (fun _ _ _ _ w S => St.pick S [] _ rfl (by decide)) (fun A50 c50 F50 hi50 hm50 => ?_))
       refine Sx.GT.p (.pointer (some ⟨b4, 14, none⟩)) ?_
       refine Sx.GT.alone (Sx.Alone.s (.slice A50 ((xs ++ [x48]).length) c50) .a3 .a14 (fun w S => St.pick S [] _ rfl (by decide)) ?_)
       exact Sx.GT.nil (fun a w' hA S => ⟨rfl, x48, b49, A50, c50, F50, hi50, (Sx.Ag.and hA (Sx.Ag.and hA (Sx.Ag.and hA (Sx.Ag.and hA (Sx.Ag.none hA) _ _ (by kernel_rfl)) _ _ (by kernel_rfl)) _ _ (by kernel_rfl)) _ _ (by kernel_rfl)), St.pick S [0, 1, 2, 3, 4, 5, 6, 7, 8, 9, 10, 11] _ rfl (by decide), hx48, hy48⟩)
      ·
       refine Sx.Alone.made 3 [.int .i64 x48] 1 (by rfl) (by kernel_rfl) (fun w => by kernel_rfl) (fun w S => St.pick S [] _ rfl (by decide)) (fun b51 => ?_)
       refine Sx.GT.alone (Sx.Alone.g (.slice xA xs.length xc) .m3 .m14 (fun w S => St.pick S [] _ rfl (by decide)) ?_)
       refine Sx.GT.alone (Sx.Alone.apps 7 (by rfl) (xs ++ [x48]) (fun w S => S.box 0 rfl rfl 1 (Nat.le_refl _)) (by rfl) ((xs ++ [x48]).length) (by simp) flat_int (.tmp 43) (.tmp 46) 28 1 8 (by rfl) (by rfl) (by kernel_rfl) (by kernel_rfl) (by rfl) (by kernel_rfl) (by kernel_rfl) (by simp only [maxLen, List.length_nil, List.length_cons]; omega) (by simp only [List.length_nil, List.length_cons]; omega) (fun _ _ _ _ w S => St.pick S [] _ rfl (by decide)) (fun A52 c52 F52 hi52 hm52 => ?_))
       refine Sx.GT.p (.pointer (some ⟨b4, 14, none⟩)) ?_
       refine Sx.GT.alone (Sx.Alone.s (.slice A52 ((xs ++ [x48]).length) c52) .a3 .a14 (fun w S => St.pick S [] _ rfl (by decide)) ?_)
       exact Sx.GT.nil (fun a w' hA S => ⟨rfl, x48, b51, A52, c52, F52, hi52, (Sx.Ag.and hA (Sx.Ag.and hA (Sx.Ag.and hA (Sx.Ag.and hA (Sx.Ag.none hA) _ _ (by kernel_rfl)) _ _ (by kernel_rfl)) _ _ (by kernel_rfl)) _ _ (by kernel_rfl)), St.pick S [0, 1, 2, 3, 4, 5, 6, 7, 8, 9, 10, 11] _ rfl (by decide), hx48, hy48⟩)
    rintro e a w' ⟨rfl, y53_0, y53_1, y53_2, y53_3, y53_4, y53_5, hA, S, hxy53_0, hyy53_0⟩
    refine Sx.E.out ?_ hA S
    clear hA S a w'
    refine Sx.E.block_normal (Sx.E.next (Sx.C.region ?_))
    refine Sx.G.p (.int .i64 (xi : Int)) ?_
    refine Sx.G.q (.int .i64 (IntKind.i64.wrap ((xi : Int) + 1))) (.int .i64 ((xi + 1 : Nat) : Int)) (congrArg (Value.int .i64) (Sx.wrap_up xi (by omega))) ?_
    refine Sx.G.p (.int .i64 ((xi + 1 : Nat) : Int)) ?_
    refine Sx.G.nil ?_
    have HN : xi + 1 ≤ 4 ∧ (xs ++ [y53_0]).length = xi + 1 ∧ ∀ y ∈ xs ++ [y53_0], (Lit.int .i64 y).wf = true := ⟨by omega, by simp [hx2], fun y hy => by rcases List.mem_append.1 hy with h | h; exact hx3 y h; rw [List.mem_singleton.1 h]; exact Sx.wf_small hxy53_0 (Int.lt_trans hyy53_0 (by decide))⟩
    exact Sx.E.again (xi + 1, xs ++ [y53_0], y53_2, y53_3, y53_4, w0.heap.size, y53_5) HN (by show 5 - (xi + 1) < 5 - xi; omega) (fun a hA => (Sx.Ag.and hA (Sx.Ag.and hA (Sx.Ag.and hA (Sx.Ag.and hA (Sx.Ag.none hA) _ _ (by kernel_rfl)) _ _ (by kernel_rfl)) _ _ (by kernel_rfl)) _ _ (by kernel_rfl))) (fun w S => St.pick S [1, 2, 3, 4, 5, 6, 7, 8, 9, 10, 11] _ rfl (by decide))
  ·
   skip
   refine Sx.C.yes (by kernel_rfl) (by kernel_rfl) ?_
   refine Sx.C.region ?_
   refine Sx.G.p (.pointer (some ⟨g, 0, none⟩)) ?_
   refine Sx.G.c 102 #[.pointer (some ⟨g, 0, none⟩)] (fun w54 S => (exit_any w0 A n c g _ hn hcode (Sx.St.cur S 9 rfl)).mono fun e w54' hp => ?_)
   obtain ⟨ek54, ep54, eq54, em54, rfl, hw54, hcur, hgr⟩ := hp
   refine ⟨_, _, rfl, Sx.St.moved S 9 rfl hcur hgr, ?_⟩
   clear S hcur hgr
   refine Sx.G.p (.pointer (some ⟨b4, 9, none⟩)) ?_
   refine Sx.G.sto 37 (.tmp 32) (.tmp 31) b4 9 2 [.slice q3A0 (newG pl2).prog.length q3c0, .int .i64 x7, .int .i64 x8, .slice (some ⟨tb5, 0, none⟩) 4 tc5, .slice (some ⟨tb6, 0, none⟩) 4 tc6, .int .i64 ca9, .int .i64 cb9, .bool co9, .int .i64 x39, .int .i64 (newG pl2).x.1, .int .i64 (newG pl2).x.2.1, .bool (newG pl2).x.2.2.1, .int .i64 (newG pl2).x.2.2.2, .bool (newG pl2).hl, .slice q3A3 (newG pl2).seen.length q3c3] [.int .i64 ek54, .int .i64 ep54, .bool eq54, .int .i64 em54] [.slice q3A0 (newG pl2).prog.length q3c0, .int .i64 x7, .int .i64 x8, .slice (some ⟨tb5, 0, none⟩) 4 tc5, .slice (some ⟨tb6, 0, none⟩) 4 tc6, .int .i64 ca9, .int .i64 cb9, .bool co9, .int .i64 x39, .int .i64 ek54, .int .i64 ep54, .bool eq54, .int .i64 em54, .bool (newG pl2).hl, .slice q3A3 (newG pl2).seen.length q3c3] [ow (rLst 108 (rPair rInt rInt)) w6.heap.size (w6'.heap.size) tl6 [.slice (some ⟨tb6, 0, none⟩) 4 tc6] [tb6], ow (rLst 108 (rPair rInt rInt)) w5.heap.size (w5'.heap.size) tl5 [.slice (some ⟨tb5, 0, none⟩) 4 tc5] [tb5], vr b4 [.slice q3A0 (newG pl2).prog.length q3c0, .int .i64 x7, .int .i64 x8, .slice (some ⟨tb5, 0, none⟩) 4 tc5, .slice (some ⟨tb6, 0, none⟩) 4 tc6, .int .i64 ca9, .int .i64 cb9, .bool co9, .int .i64 x39, .int .i64 ek54, .int .i64 ep54, .bool eq54, .int .i64 em54, .bool (newG pl2).hl, .slice q3A3 (newG pl2).seen.length q3c3], ow (rLst 55 (rPair rInt rInt)) w3.heap.size w3'.heap.size (newG pl2).prog [.slice q3A0 (newG pl2).prog.length q3c0] G3_0, ow (rLsw (rPair rInt rInt)) w3.heap.size w3'.heap.size (newG pl2).wr [.slice q3A1 (newG pl2).wr.length q3c1] G3_1, ow (rLsw (rPair rInt rInt)) w3.heap.size w3'.heap.size (newG pl2).lv [.slice q3A2 (newG pl2).lv.length q3c2] G3_2, ow (rLst 3 rInt) w3.heap.size w3'.heap.size (newG pl2).seen [.slice q3A3 (newG pl2).seen.length q3c3] G3_3, ow (rLst 55 (rPair rInt rInt)) w2.heap.size (w2'.heap.size) pl2 [.slice (some ⟨pb2, 0, none⟩) pl2.length pc2] [pb2], vr b1 [.slice none 0 0, .int .i64 0, .int .i64 0, .slice none 0 0, .slice none 0 0, .int .i64 0, .int .i64 0, .bool false, .int .i64 0, .int .i64 0, .int .i64 0, .bool false, .int .i64 0, .bool false, .slice none 0 0], Sx.cu A n c g, Sx.frm w0 w g] rfl (by kernel_rfl) (by kernel_rfl) (by kernel_rfl) rfl (by kernel_rfl) rfl (by kernel_rfl) (by kernel_rfl) (by kernel_rfl) ?_
   refine Sx.G.nil (Sx.E.next (Sx.C.seq (Sx.C.region ?_)))
   refine Sx.G.p (.pointer (some ⟨g, 0, none⟩)) ?_
   refine Sx.G.c 26 #[.pointer (some ⟨g, 0, none⟩), .int .i64 12] (fun w55 S => (once_any w0 A n c g _ 12 (by decide) (by decide) hn hcode (Sx.St.cur S 9 rfl)).mono fun e w55' hp => ?_)
   obtain ⟨x55, rfl, hcur, hgr⟩ := hp
   refine ⟨_, _, rfl, Sx.St.moved S 9 rfl hcur hgr, ?_⟩
   clear S hcur hgr
   refine Sx.G.p (.pointer (some ⟨b4, 13, none⟩)) ?_
   refine Sx.G.s (.bool (x55)) .a2 .a13 ?_
   refine Sx.G.nil (Sx.E.next (Sx.C.seq (Sx.C.seq (Sx.C.region ?_))))
   refine Sx.G.p (.int .i64 0) ?_
   refine Sx.G.nil (Sx.E.next (Sx.C.block ?_))
   refine Sx.C.loop (α := Nat × List Int × Option Addr × Nat × List Nat × Nat × Nat) (fun x => x.1 ≤ 4 ∧ x.2.1.length = x.1 ∧ ∀ y ∈ x.2.1, (Lit.int .i64 y).wf = true) (fun x => [(4, .int .i64 (x.1 : Int)), (0, .pointer (some ⟨g, 0, none⟩)), (2, .pointer (some ⟨b1, 0, none⟩)), (3, .pointer (some ⟨b4, 0, none⟩))]) (fun x => [ow (rLst 108 (rPair rInt rInt)) w6.heap.size (w6'.heap.size) tl6 [.slice (some ⟨tb6, 0, none⟩) 4 tc6] [tb6], ow (rLst 108 (rPair rInt rInt)) w5.heap.size (w5'.heap.size) tl5 [.slice (some ⟨tb5, 0, none⟩) 4 tc5] [tb5], vr b4 [.slice q3A0 (newG pl2).prog.length q3c0, .int .i64 x7, .int .i64 x8, .slice (some ⟨tb5, 0, none⟩) 4 tc5, .slice (some ⟨tb6, 0, none⟩) 4 tc6, .int .i64 ca9, .int .i64 cb9, .bool co9, .int .i64 x39, .int .i64 ek54, .int .i64 ep54, .bool eq54, .int .i64 em54, .bool (x55), .slice x.2.2.1 x.2.1.length x.2.2.2.1], ow (rLst 55 (rPair rInt rInt)) w3.heap.size w3'.heap.size (newG pl2).prog [.slice q3A0 (newG pl2).prog.length q3c0] G3_0, ow (rLsw (rPair rInt rInt)) w3.heap.size w3'.heap.size (newG pl2).wr [.slice q3A1 (newG pl2).wr.length q3c1] G3_1, ow (rLsw (rPair rInt rInt)) w3.heap.size w3'.heap.size (newG pl2).lv [.slice q3A2 (newG pl2).lv.length q3c2] G3_2, ow (rLst 3 rInt) x.2.2.2.2.2.1 x.2.2.2.2.2.2 x.2.1 [.slice x.2.2.1 x.2.1.length x.2.2.2.1] x.2.2.2.2.1, ow (rLst 55 (rPair rInt rInt)) w2.heap.size (w2'.heap.size) pl2 [.slice (some ⟨pb2, 0, none⟩) pl2.length pc2] [pb2], vr b1 [.slice none 0 0, .int .i64 0, .int .i64 0, .slice none 0 0, .slice none 0 0, .int .i64 0, .int .i64 0, .bool false, .int .i64 0, .int .i64 0, .int .i64 0, .bool false, .int .i64 0, .bool false, .slice none 0 0], Sx.cu A n c g, Sx.frm w0 w g]) (fun x => 5 - x.1) (0, (newG pl2).seen, q3A3, q3c3, G3_3, w3.heap.size, w3'.heap.size) ⟨Nat.zero_le _, rfl, fun y hy => by cases hy⟩ (fun a hA => (Sx.Ag.and hA (Sx.Ag.and hA (Sx.Ag.and hA (Sx.Ag.and hA (Sx.Ag.none hA) _ _ (by kernel_rfl)) _ _ (by kernel_rfl)) _ _ (by kernel_rfl)) _ _ (by kernel_rfl))) (fun w S => St.pick S [0, 1, 2, 3, 4, 5, 6, 7, 8, 9, 10] _ rfl (by decide)) (fun x hx => ?_)
   obtain ⟨xi, xs, xA, xc, xF, xlo, xhi⟩ := x
   dsimp only at hx
   obtain ⟨hx1, hx2, hx3⟩ := hx
   refine Sx.C.seq (Sx.C.seq (Sx.C.region ?_))
   refine Sx.G.p (.int .i64 (xi : Int)) ?_
   refine Sx.G.p (.pointer (some ⟨g, 0, none⟩)) ?_
   refine Sx.G.c 39 #[.pointer (some ⟨g, 0, none⟩), .int .i64 4] (fun w56 S => (below_any w0 A n c g _ 4 (by decide) (by decide) hn hcode (Sx.St.cur S 9 rfl)).mono fun e w56' hp => ?_)
   obtain ⟨x56, rfl, hx56, hy56, hcur, hgr⟩ := hp
   refine ⟨_, _, rfl, Sx.St.moved S 9 rfl hcur hgr, ?_⟩
   clear S hcur hgr
   refine Sx.G.p (.bool (decide ((xi : Int) < x56))) ?_
   refine Sx.G.nil (Sx.E.next ?_)
   cases hc57 : (decide ((xi : Int) < x56))
   ·
    replace hc57 := of_decide_eq_false hc57
    refine Sx.C.no (by kernel_rfl) (by kernel_rfl) ?_
    refine Sx.C.exit (Sx.E.then_exit (Sx.E.then_exit (Sx.E.block_hit (Sx.E.next (Sx.C.seq (Sx.C.region ?_))))))
    refine Sx.G.lw .m2 ?_
    refine Sx.G.sw [.slice q3A0 (newG pl2).prog.length q3c0, .int .i64 x7, .int .i64 x8, .slice (some ⟨tb5, 0, none⟩) 4 tc5, .slice (some ⟨tb6, 0, none⟩) 4 tc6, .int .i64 ca9, .int .i64 cb9, .bool co9, .int .i64 x39, .int .i64 ek54, .int .i64 ep54, .bool eq54, .int .i64 em54, .bool (x55), .slice xA xs.length xc] .a8 ?_
    refine Sx.G.nil (Sx.E.next (Sx.C.ret ?_))
    refine Sx.E.retc b1 8 [.slice q3A0 (newG pl2).prog.length q3c0, .int .i64 x7, .int .i64 x8, .slice (some ⟨tb5, 0, none⟩) 4 tc5, .slice (some ⟨tb6, 0, none⟩) 4 tc6, .int .i64 ca9, .int .i64 cb9, .bool co9, .int .i64 x39, .int .i64 ek54, .int .i64 ep54, .bool eq54, .int .i64 em54, .bool (x55), .slice xA xs.length xc] rfl (by kernel_rfl) rfl (by kernel_rfl) (by kernel_rfl) (fun w S => ?_)
    exact ⟨{ prog := (newG pl2).prog, a := x7, pc := x8, wr := tl5, lv := tl6, t := (ca9, cb9, co9), pd := x39, x := (ek54, ep54, eq54, em54), hl := (x55), seen := xs }, _, _, _, _, rfl, ⟨⟨Nat.le_trans hM2 (by decide), hw2⟩, Sx.wf_small hx7 (Int.lt_trans hy7 (by decide)), Sx.wf_small hx8 (Int.lt_trans hy8 (by decide)), ⟨by simp only [hl5]; decide, hw5⟩, ⟨by simp only [hl6]; decide, hw6⟩, hw9, Sx.wf_small hx39 (Int.lt_trans hy39 (by decide)), hw54, trivial, ⟨by simp only [hx2]; omega, hx3⟩⟩, ⟨hM2, by simp only [hl5]; decide, by simp only [hl6]; decide, by simp only [hx2]; omega⟩, Sx.St.cur S 9 rfl, Sx.St.grown S 10 rfl hb0, _, _, _, _, _, _, _, _, _, _, _, _, Sx.St.made (St.pick S [9, 10, 3, 1, 0, 6] _ rfl (by decide))⟩
   ·
    replace hc57 := of_decide_eq_true hc57
    refine Sx.C.yes (by kernel_rfl) (by kernel_rfl) ?_
    refine Sx.C.skip (Sx.E.next (Sx.C.seq (Sx.C.block ?_)))
    refine Sx.C.cut (fun e a w' => e = .normal ∧ ∃ (Y0 : Int) (Y1 : Nat) (Y2 : Option Addr) (Y3 : Nat) (Y4 : List Nat) (Y5 : Nat), Sx.Ag 50 [(0, .pointer (some ⟨g, 0, none⟩)), (2, .pointer (some ⟨b1, 0, none⟩)), (3, .pointer (some ⟨b4, 0, none⟩)), (4, .int .i64 (xi : Int))] a ∧ St w0 w' [vr Y1 [.int .i64 Y0], ow (rLst 108 (rPair rInt rInt)) w6.heap.size (w6'.heap.size) tl6 [.slice (some ⟨tb6, 0, none⟩) 4 tc6] [tb6], ow (rLst 108 (rPair rInt rInt)) w5.heap.size (w5'.heap.size) tl5 [.slice (some ⟨tb5, 0, none⟩) 4 tc5] [tb5], vr b4 [.slice q3A0 (newG pl2).prog.length q3c0, .int .i64 x7, .int .i64 x8, .slice (some ⟨tb5, 0, none⟩) 4 tc5, .slice (some ⟨tb6, 0, none⟩) 4 tc6, .int .i64 ca9, .int .i64 cb9, .bool co9, .int .i64 x39, .int .i64 ek54, .int .i64 ep54, .bool eq54, .int .i64 em54, .bool (x55), .slice Y2 ((xs ++ [Y0]).length) Y3], ow (rLst 55 (rPair rInt rInt)) w3.heap.size w3'.heap.size (newG pl2).prog [.slice q3A0 (newG pl2).prog.length q3c0] G3_0, ow (rLsw (rPair rInt rInt)) w3.heap.size w3'.heap.size (newG pl2).wr [.slice q3A1 (newG pl2).wr.length q3c1] G3_1, ow (rLsw (rPair rInt rInt)) w3.heap.size w3'.heap.size (newG pl2).lv [.slice q3A2 (newG pl2).lv.length q3c2] G3_2, ow (rLst 3 rInt) w0.heap.size Y5 (xs ++ [Y0]) [.slice Y2 ((xs ++ [Y0]).length) Y3] Y4, ow (rLst 55 (rPair rInt rInt)) w2.heap.size (w2'.heap.size) pl2 [.slice (some ⟨pb2, 0, none⟩) pl2.length pc2] [pb2], vr b1 [.slice none 0 0, .int .i64 0, .int .i64 0, .slice none 0 0, .slice none 0 0, .int .i64 0, .int .i64 0, .bool false, .int .i64 0, .int .i64 0, .int .i64 0, .bool false, .int .i64 0, .bool false, .slice none 0 0], Sx.cu A n c g, Sx.frm w0 w g] ∧ 0 ≤ Y0 ∧ Y0 < 100) ?_ ?_
    ·
     refine Sx.C.draw (.take 0 (.take 2 (.two 1 (.alone 3 (.alone 4 (.alone 5 (.take 6 (.alone 7 .nil))))) 3 (.two 1 (.alone 4 (.alone 5 (.take 6 (.alone 7 .nil)))) 4 (.alone 1 (.alone 5 (.take 6 (.alone 7 .nil)))))))) [] (fun w S => St.pick S [] _ rfl (by decide)) (by kernel_rfl) (by kernel_rfl) (by kernel_rfl) ?_
     refine Sx.GT.p (.pointer (some ⟨b4, 14, none⟩)) ?_
     refine Sx.GT.p (.pointer (some ⟨g, 0, none⟩)) ?_
     refine Sx.GT.two ?_ ?_
     ·
      refine Sx.Alone.g (.slice xA xs.length xc) .m2 .m14 (fun w S => St.pick S [] _ rfl (by decide)) ?_
      refine Sx.GT.alone (Sx.Alone.c 39 #[.pointer (some ⟨g, 0, none⟩), .int .i64 100] (fun w58 S => (below_any w0 A n c g _ 100 (by decide) (by decide) hn hcode (Sx.St.cur S 9 rfl)).mono fun e w58' hp => ?_))
      obtain ⟨x58, rfl, hx58, hy58, hcur, hgr⟩ := hp
      refine ⟨_, _, rfl, Sx.St.moved S 9 rfl hcur hgr, (fun w S => St.pick S [] _ rfl (by decide)), ?_⟩
      clear S hcur hgr
      refine Sx.GT.alone (Sx.Alone.made 3 [.int .i64 x58] 1 (by rfl) (by kernel_rfl) (fun w => by kernel_rfl) (fun w S => St.pick S [] _ rfl (by decide)) (fun b59 => ?_))
      refine Sx.GT.alone (Sx.Alone.apps 7 (by rfl) (xs ++ [x58]) (fun w S => S.box 0 rfl rfl 1 (Nat.le_refl _)) (by rfl) ((xs ++ [x58]).length) (by simp) flat_int (.tmp 43) (.tmp 46) 28 1 8 (by rfl) (by rfl) (by kernel_rfl) (by kernel_rfl) (by rfl) (by kernel_rfl) (by kernel_rfl) (by simp only [maxLen, List.length_nil, List.length_cons]; omega) (by simp only [List.length_nil, List.length_cons]; omega) (fun _ _ _ _ w S => St.pick S [] _ rfl (by decide)) (fun A60 c60 F60 hi60 hm60 => ?_))
      refine Sx.GT.p (.pointer (some ⟨b4, 14, none⟩)) ?_
      refine Sx.GT.alone (Sx.Alone.s (.slice A60 ((xs ++ [x58]).length) c60) .a3 .a14 (fun w S => St.pick S [] _ rfl (by decide)) ?_)
      exact Sx.GT.nil (fun a w' hA S => ⟨rfl, x58, b59, A60, c60, F60, hi60, (Sx.Ag.and hA (Sx.Ag.and hA (Sx.Ag.and hA (Sx.Ag.and hA (Sx.Ag.none hA) _ _ (by kernel_rfl)) _ _ (by kernel_rfl)) _ _ (by kernel_rfl)) _ _ (by kernel_rfl)), St.pick S [0, 1, 2, 3, 4, 5, 6, 7, 8, 9, 10, 11] _ rfl (by decide), hx58, hy58⟩)
     ·
      refine Sx.Alone.c 39 #[.pointer (some ⟨g, 0, none⟩), .int .i64 100] (fun w61 S => (below_any w0 A n c g _ 100 (by decide) (by decide) hn hcode (Sx.St.cur S 9 rfl)).mono fun e w61' hp => ?_)
      obtain ⟨x61, rfl, hx61, hy61, hcur, hgr⟩ := hp
      refine ⟨_, _, rfl, Sx.St.moved S 9 rfl hcur hgr, (fun w S => St.pick S [] _ rfl (by decide)), ?_⟩
      clear S hcur hgr
      refine Sx.GT.two ?_ ?_
      ·
       refine Sx.Alone.g (.slice xA xs.length xc) .m2 .m14 (fun w S => St.pick S [] _ rfl (by decide)) ?_
       refine Sx.GT.alone (Sx.Alone.made 3 [.int .i64 x61] 1 (by rfl) (by kernel_rfl) (fun w => by kernel_rfl) (fun w S => St.pick S [] _ rfl (by decide)) (fun b62 => ?_))
       refine Sx.GT.alone (Sx.Alone.apps 7 (by rfl) (xs ++ [x61]) (fun w S => S.box 0 rfl rfl 1 (Nat.le_refl _)) (by rfl) ((xs ++ [x61]).length) (by simp) flat_int (.tmp 43) (.tmp 46) 28 1 8 (by rfl) (by rfl) (by kernel_rfl) (by kernel_rfl) (by rfl) (by kernel_rfl) (by kernel_rfl) (by simp only [maxLen, List.length_nil, List.length_cons]; omega) (by simp only [List.length_nil, List.length_cons]; omega) (fun _ _ _ _ w S => St.pick S [] _ rfl (by decide)) (fun A63 c63 F63 hi63 hm63 => ?_))
       refine Sx.GT.p (.pointer (some ⟨b4, 14, none⟩)) ?_
       refine Sx.GT.alone (Sx.Alone.s (.slice A63 ((xs ++ [x61]).length) c63) .a3 .a14 (fun w S => St.pick S [] _ rfl (by decide)) ?_)
       exact Sx.GT.nil (fun a w' hA S => ⟨rfl, x61, b62, A63, c63, F63, hi63, (Sx.Ag.and hA (Sx.Ag.and hA (Sx.Ag.and hA (Sx.Ag.and hA (Sx.Ag.none hA) _ _ (by kernel_rfl)) _ _ (by kernel_rfl)) _ _ (by kernel_rfl)) _ _ (by kernel_rfl)), St.pick S [0, 1, 2, 3, 4, 5, 6, 7, 8, 9, 10, 11] _ rfl (by decide), hx61, hy61⟩)
      ·
       refine Sx.Alone.made 3 [.int .i64 x61] 1 (by rfl) (by kernel_rfl) (fun w => by kernel_rfl) (fun w S => St.pick S [] _ rfl (by decide)) (fun b64 => ?_)
       refine Sx.GT.alone (Sx.Alone.g (.slice xA xs.length xc) .m3 .m14 (fun w S => St.pick S [] _ rfl (by decide)) ?_)
       refine Sx.GT.alone (Sx.Alone.apps 7 (by rfl) (xs ++ [x61]) (fun w S => S.box 0 rfl rfl 1 (Nat.le_refl _)) (by rfl) ((xs ++ [x61]).length) (by simp) flat_int (.tmp 43) (.tmp 46) 28 1 8 (by rfl) (by rfl) (by kernel_rfl) (by kernel_rfl) (by rfl) (by kernel_rfl) (by kernel_rfl) (by simp only [maxLen, List.length_nil, List.length_cons]; omega) (by simp only [List.length_nil, List.length_cons]; omega) (fun _ _ _ _ w S => St.pick S [] _ rfl (by decide)) (fun A65 c65 F65 hi65 hm65 => ?_))
       refine Sx.GT.p (.pointer (some ⟨b4, 14, none⟩)) ?_
       refine Sx.GT.alone (Sx.Alone.s (.slice A65 ((xs ++ [x61]).length) c65) .a3 .a14 (fun w S => St.pick S [] _ rfl (by decide)) ?_)
       exact Sx.GT.nil (fun a w' hA S => ⟨rfl, x61, b64, A65, c65, F65, hi65, (Sx.Ag.and hA (Sx.Ag.and hA (Sx.Ag.and hA (Sx.Ag.and hA (Sx.Ag.none hA) _ _ (by kernel_rfl)) _ _ (by kernel_rfl)) _ _ (by kernel_rfl)) _ _ (by kernel_rfl)), St.pick S [0, 1, 2, 3, 4, 5, 6, 7, 8, 9, 10, 11] _ rfl (by decide), hx61, hy61⟩)
    rintro e a w' ⟨rfl, y66_0, y66_1, y66_2, y66_3, y66_4, y66_5, hA, S, hxy66_0, hyy66_0⟩
    refine Sx.E.out ?_ hA S
    clear hA S a w'
    refine Sx.E.block_normal (Sx.E.next (Sx.C.region ?_))
    refine Sx.G.p (.int .i64 (xi : Int)) ?_
    refine Sx.G.q (.int .i64 (IntKind.i64.wrap ((xi : Int) + 1))) (.int .i64 ((xi + 1 : Nat) : Int)) (congrArg (Value.int .i64) (Sx.wrap_up xi (by omega))) ?_
    refine Sx.G.p (.int .i64 ((xi + 1 : Nat) : Int)) ?_
    refine Sx.G.nil ?_
    have HN : xi + 1 ≤ 4 ∧ (xs ++ [y66_0]).length = xi + 1 ∧ ∀ y ∈ xs ++ [y66_0], (Lit.int .i64 y).wf = true := ⟨by omega, by simp [hx2], fun y hy => by rcases List.mem_append.1 hy with h | h; exact hx3 y h; rw [List.mem_singleton.1 h]; exact Sx.wf_small hxy66_0 (Int.lt_trans hyy66_0 (by decide))⟩
    exact Sx.E.again (xi + 1, xs ++ [y66_0], y66_2, y66_3, y66_4, w0.heap.size, y66_5) HN (by show 5 - (xi + 1) < 5 - xi; omega) (fun a hA => (Sx.Ag.and hA (Sx.Ag.and hA (Sx.Ag.and hA (Sx.Ag.and hA (Sx.Ag.none hA) _ _ (by kernel_rfl)) _ _ (by kernel_rfl)) _ _ (by kernel_rfl)) _ _ (by kernel_rfl))) (fun w S => St.pick S [1, 2, 3, 4, 5, 6, 7, 8, 9, 10, 11] _ rfl (by decide))
def GRead (w0 w w' : World) (g : gT) (A0 : Option Addr) (c0 : Nat) (A1 : Option Addr) (c1 : Nat) (A2 : Option Addr) (c2 : Nat) (A3 : Option Addr) (c3 : Nat) : Prop := ∃ F3 l0 k0 l1 k1 l2 k2 l3 k3, Sx.Fresh w0 w w' [Sx.rp l0 k0 g.prog A0 c0, Sx.rp l1 k1 g.wr A1 c1, Sx.rp l2 k2 g.lv A2 c2, ow (rLst 3 rInt) l3 k3 g.seen [.slice A3 g.seen.length c3] F3]
def GAny (w0 : World) (A : Option Addr) (n c : Nat) (w : World) (q : Nat) (e : Ending) (w' : World) : Prop :=
 ∃ g A0 c0 A1 c1 A2 c2 A3 c3, e = .returned (.agg (gV g (.slice A0 g.prog.length c0) (.slice A1 g.wr.length c1) (.slice A2 g.lv.length c2) (.slice A3 g.seen.length c3)).toArray) ∧ wfGuest g ∧ (g.prog.length ≤ 20 ∧ g.wr.length ≤ 4 ∧ g.lv.length ≤ 4 ∧ g.seen.length ≤ 45) ∧ Cur w0 A n c w' q ∧ w.grownBy w' (some q) ∧ GRead w0 w w' g A0 c0 A1 c1 A2 c2 A3 c3
theorem gany_any (w0 : World) (A : Option Addr) (n c g : Nat) (w : World) (hn : n ≤ 1048576) (hcode : CodeAt w0 A n) (hcur : Cur w0 A n c w g) :
  Calls Tryz.prog 33 #[.pointer (some ⟨g, 0, none⟩)] w (GAny w0 A n c w g) := by
 have hs0 := st_cur hcur
 have hb0 := hcur.1
 clear hcur
 refine Sx.enterS (args := [.pointer (some ⟨g, 0, none⟩)]) hs0 Tryz.func33 rfl Tryz.ntmps33 rfl ?_
 refine Sx.C.seq (Sx.C.region ?_)
 refine Sx.G.ar [.slice none 0 0, .int .i64 0, .int .i64 0, .slice none 0 0, .slice none 0 0, .int .i64 0, .int .i64 0, .bool false, .int .i64 0, .int .i64 0, .int .i64 0, .bool false, .int .i64 0, .bool false, .slice none 0 0] (fun b1 => ?_)
 refine Sx.G.nil (Sx.E.next (Sx.C.seq (Sx.C.region ?_)))
 refine Sx.G.p (.pointer (some ⟨g, 0, none⟩)) ?_
 refine Sx.G.c 69 #[.pointer (some ⟨g, 0, none⟩)] (fun w2 S => (guest_any w0 A n c g _ hn hcode (Sx.St.cur S 1 rfl)).mono fun e w2' hp => ?_)
 obtain ⟨g2, p20, p21, p22, p23, rfl, hwf, hsm, hcur, hgr, F20, F21, F22, F23, l20, k20, l21, k21, l22, k22, l23, k23, hfr⟩ := hp
 obtain ⟨p2A0, p2c0, e0, -⟩ := lst_val ((rLst 55 (rPair rInt rInt)).reads (hfr.says 0 _ rfl).1)
 subst e0
 obtain ⟨p2A1, p2c1, e1, -⟩ := lst_val ((rLst 108 (rPair rInt rInt)).reads (hfr.says 1 _ rfl).1)
 subst e1
 obtain ⟨p2A2, p2c2, e2, -⟩ := lst_val ((rLst 108 (rPair rInt rInt)).reads (hfr.says 2 _ rfl).1)
 subst e2
 obtain ⟨p2A3, p2c3, e3, -⟩ := lst_val ((rLst 3 rInt).reads (hfr.says 3 _ rfl).1)
 subst e3
 refine ⟨_, _, rfl, Sx.St.joinD S (Sx.St.moved S 1 rfl hcur hgr) hfr, ?_⟩
 clear S hcur hgr hfr
 refine Sx.G.ar [.slice none 0 0, .int .i64 0, .int .i64 0, .slice none 0 0, .slice none 0 0, .int .i64 0, .int .i64 0, .bool false, .int .i64 0, .int .i64 0, .int .i64 0, .bool false, .int .i64 0, .bool false, .slice none 0 0] (fun b3 => ?_)
 refine Sx.G.sw [.slice p2A0 g2.prog.length p2c0, .int .i64 g2.a, .int .i64 g2.pc, .slice p2A1 g2.wr.length p2c1, .slice p2A2 g2.lv.length p2c2, .int .i64 g2.t.1, .int .i64 g2.t.2.1, .bool g2.t.2.2, .int .i64 g2.pd, .int .i64 g2.x.1, .int .i64 g2.x.2.1, .bool g2.x.2.2.1, .int .i64 g2.x.2.2.2, .bool g2.hl, .slice p2A3 g2.seen.length p2c3] .a0 ?_
 refine Sx.G.nil (Sx.E.next (Sx.C.seq (Sx.C.seq (Sx.C.region ?_))))
 refine Sx.G.p (.pointer (some ⟨g, 0, none⟩)) ?_
 refine Sx.G.c 39 #[.pointer (some ⟨g, 0, none⟩), .int .i64 14] (fun w4 S => (below_any w0 A n c g _ 14 (by decide) (by decide) hn hcode (Sx.St.cur S 6 rfl)).mono fun e w4' hp => ?_)
 obtain ⟨x4, rfl, hx4, hy4, hcur, hgr⟩ := hp
 refine ⟨_, _, rfl, Sx.St.moved S 6 rfl hcur hgr, ?_⟩
 clear S hcur hgr
 refine Sx.G.nil (Sx.E.next (Sx.C.block (Sx.C.seq (Sx.C.region ?_))))
 refine Sx.G.p (.bool (x4 == 0)) ?_
 refine Sx.G.p (.bool (x4 == 0)) ?_
 refine Sx.G.nil (Sx.E.next ?_)
 cases hc5 : (x4 == 0)
 ·
  skip
  refine Sx.C.no (by kernel_rfl) (by kernel_rfl) ?_
  refine Sx.C.seq (Sx.C.region ?_)
  refine Sx.G.p (.bool (x4 == 1)) ?_
  refine Sx.G.p (.bool (x4 == 1)) ?_
  refine Sx.G.nil (Sx.E.next ?_)
  cases hc6 : (x4 == 1)
  ·
   skip
   refine Sx.C.no (by kernel_rfl) (by kernel_rfl) ?_
   refine Sx.C.seq (Sx.C.region ?_)
   refine Sx.G.p (.bool (x4 == 2)) ?_
   refine Sx.G.p (.bool (x4 == 2)) ?_
   refine Sx.G.nil (Sx.E.next ?_)
   cases hc7 : (x4 == 2)
   ·
    skip
    refine Sx.C.no (by kernel_rfl) (by kernel_rfl) ?_
    refine Sx.C.seq (Sx.C.region ?_)
    refine Sx.G.p (.bool (x4 == 3)) ?_
    refine Sx.G.p (.bool (x4 == 3)) ?_
    refine Sx.G.nil (Sx.E.next ?_)
    cases hc8 : (x4 == 3)
    ·
     skip
     refine Sx.C.no (by kernel_rfl) (by kernel_rfl) ?_
     refine Sx.C.seq (Sx.C.region ?_)
     refine Sx.G.p (.bool (x4 == 4)) ?_
     refine Sx.G.p (.bool (x4 == 4)) ?_
     refine Sx.G.nil (Sx.E.next ?_)
     cases hc9 : (x4 == 4)
     ·
      skip
      refine Sx.C.no (by kernel_rfl) (by kernel_rfl) ?_
      refine Sx.C.seq (Sx.C.region ?_)
      refine Sx.G.p (.bool (x4 == 5)) ?_
      refine Sx.G.p (.bool (x4 == 5)) ?_
      refine Sx.G.nil (Sx.E.next ?_)
      cases hc10 : (x4 == 5)
      ·
       skip
       refine Sx.C.no (by kernel_rfl) (by kernel_rfl) ?_
       refine Sx.C.seq (Sx.C.region ?_)
       refine Sx.G.p (.bool (x4 == 6)) ?_
       refine Sx.G.p (.bool (x4 == 6)) ?_
       refine Sx.G.nil (Sx.E.next ?_)
       cases hc11 : (x4 == 6)
       ·
        skip
        refine Sx.C.no (by kernel_rfl) (by kernel_rfl) ?_
        refine Sx.C.seq (Sx.C.region ?_)
        refine Sx.G.p (.bool (x4 == 7)) ?_
        refine Sx.G.p (.bool (x4 == 7)) ?_
        refine Sx.G.nil (Sx.E.next ?_)
        cases hc12 : (x4 == 7)
        ·
         skip
         refine Sx.C.no (by kernel_rfl) (by kernel_rfl) ?_
         refine Sx.C.seq (Sx.C.region ?_)
         refine Sx.G.p (.bool (x4 == 8)) ?_
         refine Sx.G.p (.bool (x4 == 8)) ?_
         refine Sx.G.nil (Sx.E.next ?_)
         cases hc13 : (x4 == 8)
         ·
          skip
          refine Sx.C.no (by kernel_rfl) (by kernel_rfl) ?_
          refine Sx.C.skip (Sx.E.block_normal (Sx.E.next (Sx.C.seq (Sx.C.region ?_))))
          refine Sx.G.lw .m0 ?_
          refine Sx.G.sw [.slice p2A0 g2.prog.length p2c0, .int .i64 g2.a, .int .i64 g2.pc, .slice p2A1 g2.wr.length p2c1, .slice p2A2 g2.lv.length p2c2, .int .i64 g2.t.1, .int .i64 g2.t.2.1, .bool g2.t.2.2, .int .i64 g2.pd, .int .i64 g2.x.1, .int .i64 g2.x.2.1, .bool g2.x.2.2.1, .int .i64 g2.x.2.2.2, .bool g2.hl, .slice p2A3 g2.seen.length p2c3] .a5 ?_
          refine Sx.G.nil (Sx.E.next (Sx.C.ret ?_))
          refine Sx.E.retc b1 5 [.slice p2A0 g2.prog.length p2c0, .int .i64 g2.a, .int .i64 g2.pc, .slice p2A1 g2.wr.length p2c1, .slice p2A2 g2.lv.length p2c2, .int .i64 g2.t.1, .int .i64 g2.t.2.1, .bool g2.t.2.2, .int .i64 g2.pd, .int .i64 g2.x.1, .int .i64 g2.x.2.1, .bool g2.x.2.2.1, .int .i64 g2.x.2.2.2, .bool g2.hl, .slice p2A3 g2.seen.length p2c3] rfl (by kernel_rfl) rfl (by kernel_rfl) (by kernel_rfl) (fun w S => ?_)
          obtain ⟨-, S⟩ := Sx.St.toRp S 1 rfl
          obtain ⟨-, S⟩ := Sx.St.toRp S 2 rfl
          obtain ⟨-, S⟩ := Sx.St.toRp S 3 rfl
          exact ⟨{ prog := g2.prog, a := g2.a, pc := g2.pc, wr := g2.wr, lv := g2.lv, t := (g2.t.1, g2.t.2.1, g2.t.2.2), pd := g2.pd, x := (g2.x.1, g2.x.2.1, g2.x.2.2.1, g2.x.2.2.2), hl := g2.hl, seen := g2.seen }, _, _, _, _, _, _, _, _, rfl, ⟨hwf.1, hwf.2.1, hwf.2.2.1, hwf.2.2.2.1, hwf.2.2.2.2.1, hwf.2.2.2.2.2.1, hwf.2.2.2.2.2.2.1, hwf.2.2.2.2.2.2.2.1, trivial, hwf.2.2.2.2.2.2.2.2.2⟩, ⟨hsm.1, hsm.2.1, hsm.2.2.1, hsm.2.2.2⟩, Sx.St.cur S 6 rfl, Sx.St.grown S 7 rfl hb0, _, _, _, _, _, _, _, _, _, Sx.St.made (St.pick S [6, 7, 1, 2, 3, 4] _ rfl (by decide))⟩
         ·
          skip
          refine Sx.C.yes (by kernel_rfl) (by kernel_rfl) ?_
          refine Sx.C.region ?_
          refine Sx.G.p (.pointer (some ⟨g, 0, none⟩)) ?_
          refine Sx.G.c 72 #[.pointer (some ⟨g, 0, none⟩), .int .i64 4, .int .i64 8] (fun w14 S => (anyTable_cap w0 A n c g 4 _ 8 (by decide) (by decide) (by decide) (by decide) hn hcode (Sx.St.cur S 6 rfl)).mono fun e w14' hp => ?_)
          obtain ⟨ta14, tm14, tc14, tl14, rfl, hcp14, hM14, hl14, hw14, hown, hcur, hgr⟩ := hp
          rw [← pcells_s] at hown
          subst hl14
          refine ⟨_, _, rfl, Sx.St.plus S (Sx.St.moved S 6 rfl hcur hgr) _ (Sx.lies_rp rfl hcp14 hown) (Nat.le_refl _) (Nat.le_refl _), ?_⟩
          clear S hcur hgr hown
          refine Sx.G.p (.pointer (some ⟨b3, 3, none⟩)) ?_
          refine Sx.G.s (.slice (some ta14) tl14.length tc14) .a1 .a3 ?_
          refine Sx.G.nil (Sx.E.block_normal (Sx.E.next (Sx.C.seq (Sx.C.region ?_))))
          refine Sx.G.lw .m1 ?_
          refine Sx.G.sw [.slice p2A0 g2.prog.length p2c0, .int .i64 g2.a, .int .i64 g2.pc, .slice (some ta14) tl14.length tc14, .slice p2A2 g2.lv.length p2c2, .int .i64 g2.t.1, .int .i64 g2.t.2.1, .bool g2.t.2.2, .int .i64 g2.pd, .int .i64 g2.x.1, .int .i64 g2.x.2.1, .bool g2.x.2.2.1, .int .i64 g2.x.2.2.2, .bool g2.hl, .slice p2A3 g2.seen.length p2c3] .a6 ?_
          refine Sx.G.nil (Sx.E.next (Sx.C.ret ?_))
          refine Sx.E.retc b1 6 [.slice p2A0 g2.prog.length p2c0, .int .i64 g2.a, .int .i64 g2.pc, .slice (some ta14) tl14.length tc14, .slice p2A2 g2.lv.length p2c2, .int .i64 g2.t.1, .int .i64 g2.t.2.1, .bool g2.t.2.2, .int .i64 g2.pd, .int .i64 g2.x.1, .int .i64 g2.x.2.1, .bool g2.x.2.2.1, .int .i64 g2.x.2.2.2, .bool g2.hl, .slice p2A3 g2.seen.length p2c3] rfl (by kernel_rfl) rfl (by kernel_rfl) (by kernel_rfl) (fun w S => ?_)
          obtain ⟨-, S⟩ := Sx.St.toRp S 2 rfl
          obtain ⟨-, S⟩ := Sx.St.toRp S 4 rfl
          exact ⟨{ prog := g2.prog, a := g2.a, pc := g2.pc, wr := tl14, lv := g2.lv, t := (g2.t.1, g2.t.2.1, g2.t.2.2), pd := g2.pd, x := (g2.x.1, g2.x.2.1, g2.x.2.2.1, g2.x.2.2.2), hl := g2.hl, seen := g2.seen }, _, _, _, _, _, _, _, _, rfl, ⟨hwf.1, hwf.2.1, hwf.2.2.1, ⟨Nat.le_trans hM14 (by decide), hw14⟩, hwf.2.2.2.2.1, hwf.2.2.2.2.2.1, hwf.2.2.2.2.2.2.1, hwf.2.2.2.2.2.2.2.1, trivial, hwf.2.2.2.2.2.2.2.2.2⟩, ⟨hsm.1, hM14, hsm.2.2.1, hsm.2.2.2⟩, Sx.St.cur S 7 rfl, Sx.St.grown S 8 rfl hb0, _, _, _, _, _, _, _, _, _, Sx.St.made (St.pick S [7, 8, 2, 0, 4, 5] _ rfl (by decide))⟩
        ·
         skip
         refine Sx.C.yes (by kernel_rfl) (by kernel_rfl) ?_
         refine Sx.C.block ?_
         refine Sx.C.loop (α := Nat × List Int × Option Addr × Nat × List Nat × Nat × Nat) (fun x => x.1 ≤ 45 ∧ x.2.1.length = x.1 ∧ ∀ y ∈ x.2.1, (Lit.int .i64 y).wf = true) (fun x => [(0, .pointer (some ⟨g, 0, none⟩)), (2, .pointer (some ⟨b1, 0, none⟩)), (3, .pointer (some ⟨b3, 0, none⟩))]) (fun x => [vr b3 [.slice p2A0 g2.prog.length p2c0, .int .i64 g2.a, .int .i64 g2.pc, .slice p2A1 g2.wr.length p2c1, .slice p2A2 g2.lv.length p2c2, .int .i64 g2.t.1, .int .i64 g2.t.2.1, .bool g2.t.2.2, .int .i64 g2.pd, .int .i64 g2.x.1, .int .i64 g2.x.2.1, .bool g2.x.2.2.1, .int .i64 g2.x.2.2.2, .bool g2.hl, .slice x.2.2.1 x.2.1.length x.2.2.2.1], ow (rLst 55 (rPair rInt rInt)) l20 k20 g2.prog [.slice p2A0 g2.prog.length p2c0] F20, ow (rLst 108 (rPair rInt rInt)) l21 k21 g2.wr [.slice p2A1 g2.wr.length p2c1] F21, ow (rLst 108 (rPair rInt rInt)) l22 k22 g2.lv [.slice p2A2 g2.lv.length p2c2] F22, ow (rLst 3 rInt) x.2.2.2.2.2.1 x.2.2.2.2.2.2 x.2.1 [.slice x.2.2.1 x.2.1.length x.2.2.2.1] x.2.2.2.2.1, vr b1 [.slice none 0 0, .int .i64 0, .int .i64 0, .slice none 0 0, .slice none 0 0, .int .i64 0, .int .i64 0, .bool false, .int .i64 0, .int .i64 0, .int .i64 0, .bool false, .int .i64 0, .bool false, .slice none 0 0], Sx.cu A n c g, Sx.frm w0 w g]) (fun x => 50 - x.1) (g2.seen.length, g2.seen, p2A3, p2c3, F23, l23, k23) ⟨hsm.2.2.2, rfl, hwf.2.2.2.2.2.2.2.2.2.2⟩ (fun a hA => (Sx.Ag.and hA (Sx.Ag.and hA (Sx.Ag.and hA (Sx.Ag.none hA) _ _ (by kernel_rfl)) _ _ (by kernel_rfl)) _ _ (by kernel_rfl))) (fun w S => St.pick S [0, 1, 2, 3, 4, 5, 6, 7] _ rfl (by decide)) (fun x hx => ?_)
         obtain ⟨xi, xs, xA, xc, xF, xlo, xhi⟩ := x
         dsimp only at hx
         obtain ⟨hx1, hx2, hx3⟩ := hx
         refine Sx.C.seq (Sx.C.seq ?_)
         refine Sx.C.draw (.take 0 (.take 1 (.take 2 (.take 3 (.alone 4 (.take 5 (.take 6 .nil))))))) [vr b3 [.slice p2A0 g2.prog.length p2c0, .int .i64 g2.a, .int .i64 g2.pc, .slice p2A1 g2.wr.length p2c1, .slice p2A2 g2.lv.length p2c2, .int .i64 g2.t.1, .int .i64 g2.t.2.1, .bool g2.t.2.2, .int .i64 g2.pd, .int .i64 g2.x.1, .int .i64 g2.x.2.1, .bool g2.x.2.2.1, .int .i64 g2.x.2.2.2, .bool g2.hl, .slice xA xs.length xc]] (fun w S => St.pick S [0] _ rfl (by decide)) (by kernel_rfl) (by kernel_rfl) (by kernel_rfl) ?_
         refine Sx.GT.p (.pointer (some ⟨b3, 14, none⟩)) ?_
         refine Sx.GT.g (.slice xA xs.length xc) .m0 .m14 ?_
         refine Sx.GT.p (.int .i64 ((xs.length : Nat) : Int)) ?_
         refine Sx.GT.p (.pointer (some ⟨g, 0, none⟩)) ?_
         refine Sx.GT.alone (Sx.Alone.c 39 #[.pointer (some ⟨g, 0, none⟩), .int .i64 3] (fun w15 S => (below_any w0 A n c g _ 3 (by decide) (by decide) hn hcode (Sx.St.cur S 6 rfl)).mono fun e w15' hp => ?_))
         obtain ⟨x15, rfl, hx15, hy15, hcur, hgr⟩ := hp
         refine ⟨_, _, rfl, Sx.St.moved S 6 rfl hcur hgr, (fun w S => St.pick S [0] _ rfl (by decide)), ?_⟩
         clear S hcur hgr
         refine Sx.GT.q (.int .i64 (IntKind.i64.wrap (39 + x15))) (.int .i64 (39 + x15)) (congrArg (Value.int .i64) (by rw [IntKind.wrap_i64]; omega)) ?_
         refine Sx.GT.p (.bool (decide (((xs.length : Nat) : Int) < (39 + x15)))) ?_
         refine Sx.GT.nil (Sx.E.next ?_)
         cases hc16 : (decide (((xs.length : Nat) : Int) < (39 + x15)))
         ·
          replace hc16 := of_decide_eq_false hc16
          refine Sx.C.no (by kernel_rfl) (by kernel_rfl) ?_
          refine Sx.C.exit (Sx.E.then_exit (Sx.E.then_exit (Sx.E.block_hit (Sx.E.block_normal (Sx.E.next (Sx.C.seq (Sx.C.region ?_)))))))
          refine Sx.G.lw .m0 ?_
          refine Sx.G.sw [.slice p2A0 g2.prog.length p2c0, .int .i64 g2.a, .int .i64 g2.pc, .slice p2A1 g2.wr.length p2c1, .slice p2A2 g2.lv.length p2c2, .int .i64 g2.t.1, .int .i64 g2.t.2.1, .bool g2.t.2.2, .int .i64 g2.pd, .int .i64 g2.x.1, .int .i64 g2.x.2.1, .bool g2.x.2.2.1, .int .i64 g2.x.2.2.2, .bool g2.hl, .slice xA xs.length xc] .a5 ?_
          refine Sx.G.nil (Sx.E.next (Sx.C.ret ?_))
          refine Sx.E.retc b1 5 [.slice p2A0 g2.prog.length p2c0, .int .i64 g2.a, .int .i64 g2.pc, .slice p2A1 g2.wr.length p2c1, .slice p2A2 g2.lv.length p2c2, .int .i64 g2.t.1, .int .i64 g2.t.2.1, .bool g2.t.2.2, .int .i64 g2.pd, .int .i64 g2.x.1, .int .i64 g2.x.2.1, .bool g2.x.2.2.1, .int .i64 g2.x.2.2.2, .bool g2.hl, .slice xA xs.length xc] rfl (by kernel_rfl) rfl (by kernel_rfl) (by kernel_rfl) (fun w S => ?_)
          obtain ⟨-, S⟩ := Sx.St.toRp S 1 rfl
          obtain ⟨-, S⟩ := Sx.St.toRp S 2 rfl
          obtain ⟨-, S⟩ := Sx.St.toRp S 3 rfl
          exact ⟨{ prog := g2.prog, a := g2.a, pc := g2.pc, wr := g2.wr, lv := g2.lv, t := (g2.t.1, g2.t.2.1, g2.t.2.2), pd := g2.pd, x := (g2.x.1, g2.x.2.1, g2.x.2.2.1, g2.x.2.2.2), hl := g2.hl, seen := xs }, _, _, _, _, _, _, _, _, rfl, ⟨hwf.1, hwf.2.1, hwf.2.2.1, hwf.2.2.2.1, hwf.2.2.2.2.1, hwf.2.2.2.2.2.1, hwf.2.2.2.2.2.2.1, hwf.2.2.2.2.2.2.2.1, trivial, ⟨by simp only [hx2]; omega, hx3⟩⟩, ⟨hsm.1, hsm.2.1, hsm.2.2.1, by simp only [hx2]; omega⟩, Sx.St.cur S 6 rfl, Sx.St.grown S 7 rfl hb0, _, _, _, _, _, _, _, _, _, Sx.St.made (St.pick S [6, 7, 1, 2, 3, 4] _ rfl (by decide))⟩
         ·
          replace hc16 := of_decide_eq_true hc16
          refine Sx.C.yes (by kernel_rfl) (by kernel_rfl) ?_
          refine Sx.C.skip (Sx.E.next (Sx.C.block (Sx.C.region ?_)))
          refine Sx.G.p (.pointer (some ⟨b3, 14, none⟩)) ?_
          refine Sx.G.g (.slice xA xs.length xc) .m0 .m14 ?_
          refine Sx.G.made 3 [.int .i64 1] 1 (by kernel_rfl) (fun w => by kernel_rfl) (fun b17 => ?_)
          refine Sx.G.apps 5 rfl (xs ++ [1]) (fun w S => S.box 0 rfl rfl 1 (Nat.le_refl _)) rfl ((xs ++ [1]).length) (by simp) flat_int (.tmp 55) (.tmp 56) 28 1 8 rfl rfl (by kernel_rfl) (by kernel_rfl) rfl (by kernel_rfl) (by kernel_rfl) (by simp only [maxLen, List.length_nil, List.length_cons]; omega) (by simp only [List.length_nil, List.length_cons]; omega) (fun A18 c18 F18 hi18 hm18 => ?_)
          refine Sx.G.p (.pointer (some ⟨b3, 14, none⟩)) ?_
          refine Sx.G.s (.slice A18 ((xs ++ [1]).length) c18) .a1 .a14 ?_
          refine Sx.G.nil (Sx.E.block_normal ?_)
          have HN : xi + 1 ≤ 45 ∧ (xs ++ [1]).length = xi + 1 ∧ ∀ y ∈ xs ++ [1], (Lit.int .i64 y).wf = true := ⟨by omega, by simp [hx2], fun y hy => by rcases List.mem_append.1 hy with h | h; exact hx3 y h; rw [List.mem_singleton.1 h]; decide⟩
          exact Sx.E.again (xi + 1, xs ++ [1], A18, c18, F18, w0.heap.size, hi18) HN (by show 50 - (xi + 1) < 50 - xi; omega) (fun a hA => (Sx.Ag.and hA (Sx.Ag.and hA (Sx.Ag.and hA (Sx.Ag.none hA) _ _ (by kernel_rfl)) _ _ (by kernel_rfl)) _ _ (by kernel_rfl))) (fun w S => St.pick S [1, 2, 3, 4, 5, 6, 7, 8] _ rfl (by decide))
       ·
        skip
        refine Sx.C.yes (by kernel_rfl) (by kernel_rfl) ?_
        refine Sx.C.region ?_
        refine Sx.G.p (.pointer (some ⟨g, 0, none⟩)) ?_
        refine Sx.G.c 74 #[.pointer (some ⟨g, 0, none⟩)] (fun w19 S => (anyExit_any w0 A n c g _ hn hcode (Sx.St.cur S 6 rfl)).mono fun e w19' hp => ?_)
        obtain ⟨ek19, ep19, eq19, em19, rfl, hw19, hcur, hgr⟩ := hp
        refine ⟨_, _, rfl, Sx.St.moved S 6 rfl hcur hgr, ?_⟩
        clear S hcur hgr
        refine Sx.G.p (.pointer (some ⟨b3, 9, none⟩)) ?_
        refine Sx.G.sto 37 (.tmp 44) (.tmp 43) b3 9 0 [.slice p2A0 g2.prog.length p2c0, .int .i64 g2.a, .int .i64 g2.pc, .slice p2A1 g2.wr.length p2c1, .slice p2A2 g2.lv.length p2c2, .int .i64 g2.t.1, .int .i64 g2.t.2.1, .bool g2.t.2.2, .int .i64 g2.pd, .int .i64 g2.x.1, .int .i64 g2.x.2.1, .bool g2.x.2.2.1, .int .i64 g2.x.2.2.2, .bool g2.hl, .slice p2A3 g2.seen.length p2c3] [.int .i64 ek19, .int .i64 ep19, .bool eq19, .int .i64 em19] [.slice p2A0 g2.prog.length p2c0, .int .i64 g2.a, .int .i64 g2.pc, .slice p2A1 g2.wr.length p2c1, .slice p2A2 g2.lv.length p2c2, .int .i64 g2.t.1, .int .i64 g2.t.2.1, .bool g2.t.2.2, .int .i64 g2.pd, .int .i64 ek19, .int .i64 ep19, .bool eq19, .int .i64 em19, .bool g2.hl, .slice p2A3 g2.seen.length p2c3] [vr b3 [.slice p2A0 g2.prog.length p2c0, .int .i64 g2.a, .int .i64 g2.pc, .slice p2A1 g2.wr.length p2c1, .slice p2A2 g2.lv.length p2c2, .int .i64 g2.t.1, .int .i64 g2.t.2.1, .bool g2.t.2.2, .int .i64 g2.pd, .int .i64 ek19, .int .i64 ep19, .bool eq19, .int .i64 em19, .bool g2.hl, .slice p2A3 g2.seen.length p2c3], ow (rLst 55 (rPair rInt rInt)) l20 k20 g2.prog [.slice p2A0 g2.prog.length p2c0] F20, ow (rLst 108 (rPair rInt rInt)) l21 k21 g2.wr [.slice p2A1 g2.wr.length p2c1] F21, ow (rLst 108 (rPair rInt rInt)) l22 k22 g2.lv [.slice p2A2 g2.lv.length p2c2] F22, ow (rLst 3 rInt) l23 k23 g2.seen [.slice p2A3 g2.seen.length p2c3] F23, vr b1 [.slice none 0 0, .int .i64 0, .int .i64 0, .slice none 0 0, .slice none 0 0, .int .i64 0, .int .i64 0, .bool false, .int .i64 0, .int .i64 0, .int .i64 0, .bool false, .int .i64 0, .bool false, .slice none 0 0], Sx.cu A n c g, Sx.frm w0 w g] rfl (by kernel_rfl) (by kernel_rfl) (by kernel_rfl) rfl (by kernel_rfl) rfl (by kernel_rfl) (by kernel_rfl) (by kernel_rfl) ?_
        refine Sx.G.nil (Sx.E.block_normal (Sx.E.next (Sx.C.seq (Sx.C.region ?_))))
        refine Sx.G.lw .m0 ?_
        refine Sx.G.sw [.slice p2A0 g2.prog.length p2c0, .int .i64 g2.a, .int .i64 g2.pc, .slice p2A1 g2.wr.length p2c1, .slice p2A2 g2.lv.length p2c2, .int .i64 g2.t.1, .int .i64 g2.t.2.1, .bool g2.t.2.2, .int .i64 g2.pd, .int .i64 ek19, .int .i64 ep19, .bool eq19, .int .i64 em19, .bool g2.hl, .slice p2A3 g2.seen.length p2c3] .a5 ?_
        refine Sx.G.nil (Sx.E.next (Sx.C.ret ?_))
        refine Sx.E.retc b1 5 [.slice p2A0 g2.prog.length p2c0, .int .i64 g2.a, .int .i64 g2.pc, .slice p2A1 g2.wr.length p2c1, .slice p2A2 g2.lv.length p2c2, .int .i64 g2.t.1, .int .i64 g2.t.2.1, .bool g2.t.2.2, .int .i64 g2.pd, .int .i64 ek19, .int .i64 ep19, .bool eq19, .int .i64 em19, .bool g2.hl, .slice p2A3 g2.seen.length p2c3] rfl (by kernel_rfl) rfl (by kernel_rfl) (by kernel_rfl) (fun w S => ?_)
        obtain ⟨-, S⟩ := Sx.St.toRp S 1 rfl
        obtain ⟨-, S⟩ := Sx.St.toRp S 2 rfl
        obtain ⟨-, S⟩ := Sx.St.toRp S 3 rfl
        exact ⟨{ prog := g2.prog, a := g2.a, pc := g2.pc, wr := g2.wr, lv := g2.lv, t := (g2.t.1, g2.t.2.1, g2.t.2.2), pd := g2.pd, x := (ek19, ep19, eq19, em19), hl := g2.hl, seen := g2.seen }, _, _, _, _, _, _, _, _, rfl, ⟨hwf.1, hwf.2.1, hwf.2.2.1, hwf.2.2.2.1, hwf.2.2.2.2.1, hwf.2.2.2.2.2.1, hwf.2.2.2.2.2.2.1, hw19, trivial, hwf.2.2.2.2.2.2.2.2.2⟩, ⟨hsm.1, hsm.2.1, hsm.2.2.1, hsm.2.2.2⟩, Sx.St.cur S 6 rfl, Sx.St.grown S 7 rfl hb0, _, _, _, _, _, _, _, _, _, Sx.St.made (St.pick S [6, 7, 1, 2, 3, 4] _ rfl (by decide))⟩
      ·
       skip
       refine Sx.C.yes (by kernel_rfl) (by kernel_rfl) ?_
       refine Sx.C.region ?_
       refine Sx.G.p (.pointer (some ⟨g, 0, none⟩)) ?_
       refine Sx.G.c 70 #[.pointer (some ⟨g, 0, none⟩)] (fun w20 S => (Irqs.pend_any w0 A n c g _ hn hcode (Sx.St.cur S 6 rfl)).mono fun e w20' hp => ?_)
       obtain ⟨x20, rfl, hw20, hcur, hgr⟩ := hp
       refine ⟨_, _, rfl, Sx.St.moved S 6 rfl hcur hgr, ?_⟩
       clear S hcur hgr
       refine Sx.G.p (.pointer (some ⟨b3, 8, none⟩)) ?_
       refine Sx.G.s (.int .i64 x20) .a0 .a8 ?_
       refine Sx.G.nil (Sx.E.block_normal (Sx.E.next (Sx.C.seq (Sx.C.region ?_))))
       refine Sx.G.lw .m0 ?_
       refine Sx.G.sw [.slice p2A0 g2.prog.length p2c0, .int .i64 g2.a, .int .i64 g2.pc, .slice p2A1 g2.wr.length p2c1, .slice p2A2 g2.lv.length p2c2, .int .i64 g2.t.1, .int .i64 g2.t.2.1, .bool g2.t.2.2, .int .i64 x20, .int .i64 g2.x.1, .int .i64 g2.x.2.1, .bool g2.x.2.2.1, .int .i64 g2.x.2.2.2, .bool g2.hl, .slice p2A3 g2.seen.length p2c3] .a5 ?_
       refine Sx.G.nil (Sx.E.next (Sx.C.ret ?_))
       refine Sx.E.retc b1 5 [.slice p2A0 g2.prog.length p2c0, .int .i64 g2.a, .int .i64 g2.pc, .slice p2A1 g2.wr.length p2c1, .slice p2A2 g2.lv.length p2c2, .int .i64 g2.t.1, .int .i64 g2.t.2.1, .bool g2.t.2.2, .int .i64 x20, .int .i64 g2.x.1, .int .i64 g2.x.2.1, .bool g2.x.2.2.1, .int .i64 g2.x.2.2.2, .bool g2.hl, .slice p2A3 g2.seen.length p2c3] rfl (by kernel_rfl) rfl (by kernel_rfl) (by kernel_rfl) (fun w S => ?_)
       obtain ⟨-, S⟩ := Sx.St.toRp S 1 rfl
       obtain ⟨-, S⟩ := Sx.St.toRp S 2 rfl
       obtain ⟨-, S⟩ := Sx.St.toRp S 3 rfl
       exact ⟨{ prog := g2.prog, a := g2.a, pc := g2.pc, wr := g2.wr, lv := g2.lv, t := (g2.t.1, g2.t.2.1, g2.t.2.2), pd := x20, x := (g2.x.1, g2.x.2.1, g2.x.2.2.1, g2.x.2.2.2), hl := g2.hl, seen := g2.seen }, _, _, _, _, _, _, _, _, rfl, ⟨hwf.1, hwf.2.1, hwf.2.2.1, hwf.2.2.2.1, hwf.2.2.2.2.1, hwf.2.2.2.2.2.1, hw20, hwf.2.2.2.2.2.2.2.1, trivial, hwf.2.2.2.2.2.2.2.2.2⟩, ⟨hsm.1, hsm.2.1, hsm.2.2.1, hsm.2.2.2⟩, Sx.St.cur S 6 rfl, Sx.St.grown S 7 rfl hb0, _, _, _, _, _, _, _, _, _, Sx.St.made (St.pick S [6, 7, 1, 2, 3, 4] _ rfl (by decide))⟩
     ·
      skip
      refine Sx.C.yes (by kernel_rfl) (by kernel_rfl) ?_
      refine Sx.C.region ?_
      refine Sx.G.p (.pointer (some ⟨g, 0, none⟩)) ?_
      refine Sx.G.c 73 #[.pointer (some ⟨g, 0, none⟩)] (fun w21 S => (cany_any w0 A n c g _ hn hcode (Sx.St.cur S 6 rfl)).mono fun e w21' hp => ?_)
      obtain ⟨ca21, cb21, co21, rfl, hw21, hcur, hgr⟩ := hp
      refine ⟨_, _, rfl, Sx.St.moved S 6 rfl hcur hgr, ?_⟩
      clear S hcur hgr
      refine Sx.G.p (.pointer (some ⟨b3, 5, none⟩)) ?_
      refine Sx.G.sto 35 (.tmp 34) (.tmp 33) b3 5 0 [.slice p2A0 g2.prog.length p2c0, .int .i64 g2.a, .int .i64 g2.pc, .slice p2A1 g2.wr.length p2c1, .slice p2A2 g2.lv.length p2c2, .int .i64 g2.t.1, .int .i64 g2.t.2.1, .bool g2.t.2.2, .int .i64 g2.pd, .int .i64 g2.x.1, .int .i64 g2.x.2.1, .bool g2.x.2.2.1, .int .i64 g2.x.2.2.2, .bool g2.hl, .slice p2A3 g2.seen.length p2c3] [.int .i64 ca21, .int .i64 cb21, .bool co21] [.slice p2A0 g2.prog.length p2c0, .int .i64 g2.a, .int .i64 g2.pc, .slice p2A1 g2.wr.length p2c1, .slice p2A2 g2.lv.length p2c2, .int .i64 ca21, .int .i64 cb21, .bool co21, .int .i64 g2.pd, .int .i64 g2.x.1, .int .i64 g2.x.2.1, .bool g2.x.2.2.1, .int .i64 g2.x.2.2.2, .bool g2.hl, .slice p2A3 g2.seen.length p2c3] [vr b3 [.slice p2A0 g2.prog.length p2c0, .int .i64 g2.a, .int .i64 g2.pc, .slice p2A1 g2.wr.length p2c1, .slice p2A2 g2.lv.length p2c2, .int .i64 ca21, .int .i64 cb21, .bool co21, .int .i64 g2.pd, .int .i64 g2.x.1, .int .i64 g2.x.2.1, .bool g2.x.2.2.1, .int .i64 g2.x.2.2.2, .bool g2.hl, .slice p2A3 g2.seen.length p2c3], ow (rLst 55 (rPair rInt rInt)) l20 k20 g2.prog [.slice p2A0 g2.prog.length p2c0] F20, ow (rLst 108 (rPair rInt rInt)) l21 k21 g2.wr [.slice p2A1 g2.wr.length p2c1] F21, ow (rLst 108 (rPair rInt rInt)) l22 k22 g2.lv [.slice p2A2 g2.lv.length p2c2] F22, ow (rLst 3 rInt) l23 k23 g2.seen [.slice p2A3 g2.seen.length p2c3] F23, vr b1 [.slice none 0 0, .int .i64 0, .int .i64 0, .slice none 0 0, .slice none 0 0, .int .i64 0, .int .i64 0, .bool false, .int .i64 0, .int .i64 0, .int .i64 0, .bool false, .int .i64 0, .bool false, .slice none 0 0], Sx.cu A n c g, Sx.frm w0 w g] rfl (by kernel_rfl) (by kernel_rfl) (by kernel_rfl) rfl (by kernel_rfl) rfl (by kernel_rfl) (by kernel_rfl) (by kernel_rfl) ?_
      refine Sx.G.nil (Sx.E.block_normal (Sx.E.next (Sx.C.seq (Sx.C.region ?_))))
      refine Sx.G.lw .m0 ?_
      refine Sx.G.sw [.slice p2A0 g2.prog.length p2c0, .int .i64 g2.a, .int .i64 g2.pc, .slice p2A1 g2.wr.length p2c1, .slice p2A2 g2.lv.length p2c2, .int .i64 ca21, .int .i64 cb21, .bool co21, .int .i64 g2.pd, .int .i64 g2.x.1, .int .i64 g2.x.2.1, .bool g2.x.2.2.1, .int .i64 g2.x.2.2.2, .bool g2.hl, .slice p2A3 g2.seen.length p2c3] .a5 ?_
      refine Sx.G.nil (Sx.E.next (Sx.C.ret ?_))
      refine Sx.E.retc b1 5 [.slice p2A0 g2.prog.length p2c0, .int .i64 g2.a, .int .i64 g2.pc, .slice p2A1 g2.wr.length p2c1, .slice p2A2 g2.lv.length p2c2, .int .i64 ca21, .int .i64 cb21, .bool co21, .int .i64 g2.pd, .int .i64 g2.x.1, .int .i64 g2.x.2.1, .bool g2.x.2.2.1, .int .i64 g2.x.2.2.2, .bool g2.hl, .slice p2A3 g2.seen.length p2c3] rfl (by kernel_rfl) rfl (by kernel_rfl) (by kernel_rfl) (fun w S => ?_)
      obtain ⟨-, S⟩ := Sx.St.toRp S 1 rfl
      obtain ⟨-, S⟩ := Sx.St.toRp S 2 rfl
      obtain ⟨-, S⟩ := Sx.St.toRp S 3 rfl
      exact ⟨{ prog := g2.prog, a := g2.a, pc := g2.pc, wr := g2.wr, lv := g2.lv, t := (ca21, cb21, co21), pd := g2.pd, x := (g2.x.1, g2.x.2.1, g2.x.2.2.1, g2.x.2.2.2), hl := g2.hl, seen := g2.seen }, _, _, _, _, _, _, _, _, rfl, ⟨hwf.1, hwf.2.1, hwf.2.2.1, hwf.2.2.2.1, hwf.2.2.2.2.1, hw21, hwf.2.2.2.2.2.2.1, hwf.2.2.2.2.2.2.2.1, trivial, hwf.2.2.2.2.2.2.2.2.2⟩, ⟨hsm.1, hsm.2.1, hsm.2.2.1, hsm.2.2.2⟩, Sx.St.cur S 6 rfl, Sx.St.grown S 7 rfl hb0, _, _, _, _, _, _, _, _, _, Sx.St.made (St.pick S [6, 7, 1, 2, 3, 4] _ rfl (by decide))⟩
    ·
     skip
     refine Sx.C.yes (by kernel_rfl) (by kernel_rfl) ?_
     refine Sx.C.region ?_
     refine Sx.G.p (.pointer (some ⟨g, 0, none⟩)) ?_
     refine Sx.G.c 72 #[.pointer (some ⟨g, 0, none⟩), .int .i64 4, .int .i64 8] (fun w22 S => (anyTable_cap w0 A n c g 4 _ 8 (by decide) (by decide) (by decide) (by decide) hn hcode (Sx.St.cur S 6 rfl)).mono fun e w22' hp => ?_)
     obtain ⟨ta22, tm22, tc22, tl22, rfl, hcp22, hM22, hl22, hw22, hown, hcur, hgr⟩ := hp
     rw [← pcells_s] at hown
     subst hl22
     refine ⟨_, _, rfl, Sx.St.plus S (Sx.St.moved S 6 rfl hcur hgr) _ (Sx.lies_rp rfl hcp22 hown) (Nat.le_refl _) (Nat.le_refl _), ?_⟩
     clear S hcur hgr hown
     refine Sx.G.p (.pointer (some ⟨b3, 4, none⟩)) ?_
     refine Sx.G.s (.slice (some ta22) tl22.length tc22) .a1 .a4 ?_
     refine Sx.G.nil (Sx.E.block_normal (Sx.E.next (Sx.C.seq (Sx.C.region ?_))))
     refine Sx.G.lw .m1 ?_
     refine Sx.G.sw [.slice p2A0 g2.prog.length p2c0, .int .i64 g2.a, .int .i64 g2.pc, .slice p2A1 g2.wr.length p2c1, .slice (some ta22) tl22.length tc22, .int .i64 g2.t.1, .int .i64 g2.t.2.1, .bool g2.t.2.2, .int .i64 g2.pd, .int .i64 g2.x.1, .int .i64 g2.x.2.1, .bool g2.x.2.2.1, .int .i64 g2.x.2.2.2, .bool g2.hl, .slice p2A3 g2.seen.length p2c3] .a6 ?_
     refine Sx.G.nil (Sx.E.next (Sx.C.ret ?_))
     refine Sx.E.retc b1 6 [.slice p2A0 g2.prog.length p2c0, .int .i64 g2.a, .int .i64 g2.pc, .slice p2A1 g2.wr.length p2c1, .slice (some ta22) tl22.length tc22, .int .i64 g2.t.1, .int .i64 g2.t.2.1, .bool g2.t.2.2, .int .i64 g2.pd, .int .i64 g2.x.1, .int .i64 g2.x.2.1, .bool g2.x.2.2.1, .int .i64 g2.x.2.2.2, .bool g2.hl, .slice p2A3 g2.seen.length p2c3] rfl (by kernel_rfl) rfl (by kernel_rfl) (by kernel_rfl) (fun w S => ?_)
     obtain ⟨-, S⟩ := Sx.St.toRp S 2 rfl
     obtain ⟨-, S⟩ := Sx.St.toRp S 3 rfl
     exact ⟨{ prog := g2.prog, a := g2.a, pc := g2.pc, wr := g2.wr, lv := tl22, t := (g2.t.1, g2.t.2.1, g2.t.2.2), pd := g2.pd, x := (g2.x.1, g2.x.2.1, g2.x.2.2.1, g2.x.2.2.2), hl := g2.hl, seen := g2.seen }, _, _, _, _, _, _, _, _, rfl, ⟨hwf.1, hwf.2.1, hwf.2.2.1, hwf.2.2.2.1, ⟨Nat.le_trans hM22 (by decide), hw22⟩, hwf.2.2.2.2.2.1, hwf.2.2.2.2.2.2.1, hwf.2.2.2.2.2.2.2.1, trivial, hwf.2.2.2.2.2.2.2.2.2⟩, ⟨hsm.1, hsm.2.1, hM22, hsm.2.2.2⟩, Sx.St.cur S 7 rfl, Sx.St.grown S 8 rfl hb0, _, _, _, _, _, _, _, _, _, Sx.St.made (St.pick S [7, 8, 2, 3, 0, 5] _ rfl (by decide))⟩
   ·
    skip
    refine Sx.C.yes (by kernel_rfl) (by kernel_rfl) ?_
    refine Sx.C.region ?_
    refine Sx.G.p (.pointer (some ⟨g, 0, none⟩)) ?_
    refine Sx.G.block 3 [.int .i64 (-1), .int .i64 12, .int .i64 13, .int .i64 9223372036854775807] 4 (by kernel_rfl) (fun w => by kernel_rfl) (fun b23 => ?_)
    refine Sx.G.c 71 #[.pointer (some ⟨g, 0, none⟩), .slice (some ⟨b23, 0, none⟩) 4 4] (fun w24 S => (pick_any w0 A n c g _ b23 4 [(-1), 12, 13, 9223372036854775807] (by decide) (by decide) hn hcode (Sx.St.cur S 7 rfl) (Sx.St.bk_ne S 0 7 rfl rfl (by decide)) rfl (St.at_ S 0 rfl)).mono fun e w24' hp => ?_)
    obtain ⟨x24, rfl, hx24, hcur, hgr⟩ := hp
    have hw24 : (Lit.int .i64 x24).wf = true := (show ∀ y ∈ ([(-1), 12, 13, 9223372036854775807] : List Int), (Lit.int .i64 y).wf = true by decide) _ hx24
    refine ⟨_, _, rfl, Sx.St.moved S 7 rfl hcur hgr, ?_⟩
    clear S hcur hgr
    refine Sx.G.p (.pointer (some ⟨b3, 2, none⟩)) ?_
    refine Sx.G.s (.int .i64 x24) .a1 .a2 ?_
    refine Sx.G.nil (Sx.E.block_normal (Sx.E.next (Sx.C.seq (Sx.C.region ?_))))
    refine Sx.G.lw .m1 ?_
    refine Sx.G.sw [.slice p2A0 g2.prog.length p2c0, .int .i64 g2.a, .int .i64 x24, .slice p2A1 g2.wr.length p2c1, .slice p2A2 g2.lv.length p2c2, .int .i64 g2.t.1, .int .i64 g2.t.2.1, .bool g2.t.2.2, .int .i64 g2.pd, .int .i64 g2.x.1, .int .i64 g2.x.2.1, .bool g2.x.2.2.1, .int .i64 g2.x.2.2.2, .bool g2.hl, .slice p2A3 g2.seen.length p2c3] .a6 ?_
    refine Sx.G.nil (Sx.E.next (Sx.C.ret ?_))
    refine Sx.E.retc b1 6 [.slice p2A0 g2.prog.length p2c0, .int .i64 g2.a, .int .i64 x24, .slice p2A1 g2.wr.length p2c1, .slice p2A2 g2.lv.length p2c2, .int .i64 g2.t.1, .int .i64 g2.t.2.1, .bool g2.t.2.2, .int .i64 g2.pd, .int .i64 g2.x.1, .int .i64 g2.x.2.1, .bool g2.x.2.2.1, .int .i64 g2.x.2.2.2, .bool g2.hl, .slice p2A3 g2.seen.length p2c3] rfl (by kernel_rfl) rfl (by kernel_rfl) (by kernel_rfl) (fun w S => ?_)
    obtain ⟨-, S⟩ := Sx.St.toRp S 2 rfl
    obtain ⟨-, S⟩ := Sx.St.toRp S 3 rfl
    obtain ⟨-, S⟩ := Sx.St.toRp S 4 rfl
    exact ⟨{ prog := g2.prog, a := g2.a, pc := x24, wr := g2.wr, lv := g2.lv, t := (g2.t.1, g2.t.2.1, g2.t.2.2), pd := g2.pd, x := (g2.x.1, g2.x.2.1, g2.x.2.2.1, g2.x.2.2.2), hl := g2.hl, seen := g2.seen }, _, _, _, _, _, _, _, _, rfl, ⟨hwf.1, hwf.2.1, hw24, hwf.2.2.2.1, hwf.2.2.2.2.1, hwf.2.2.2.2.2.1, hwf.2.2.2.2.2.2.1, hwf.2.2.2.2.2.2.2.1, trivial, hwf.2.2.2.2.2.2.2.2.2⟩, ⟨hsm.1, hsm.2.1, hsm.2.2.1, hsm.2.2.2⟩, Sx.St.cur S 7 rfl, Sx.St.grown S 8 rfl hb0, _, _, _, _, _, _, _, _, _, Sx.St.made (St.pick S [7, 8, 2, 3, 4, 5] _ rfl (by decide))⟩
  ·
   skip
   refine Sx.C.yes (by kernel_rfl) (by kernel_rfl) ?_
   refine Sx.C.region ?_
   refine Sx.G.p (.pointer (some ⟨g, 0, none⟩)) ?_
   refine Sx.G.block 3 [.int .i64 (-1), .int .i64 100] 2 (by kernel_rfl) (fun w => by kernel_rfl) (fun b25 => ?_)
   refine Sx.G.c 71 #[.pointer (some ⟨g, 0, none⟩), .slice (some ⟨b25, 0, none⟩) 2 2] (fun w26 S => (pick_any w0 A n c g _ b25 2 [(-1), 100] (by decide) (by decide) hn hcode (Sx.St.cur S 7 rfl) (Sx.St.bk_ne S 0 7 rfl rfl (by decide)) rfl (St.at_ S 0 rfl)).mono fun e w26' hp => ?_)
   obtain ⟨x26, rfl, hx26, hcur, hgr⟩ := hp
   have hw26 : (Lit.int .i64 x26).wf = true := (show ∀ y ∈ ([(-1), 100] : List Int), (Lit.int .i64 y).wf = true by decide) _ hx26
   refine ⟨_, _, rfl, Sx.St.moved S 7 rfl hcur hgr, ?_⟩
   clear S hcur hgr
   refine Sx.G.p (.pointer (some ⟨b3, 1, none⟩)) ?_
   refine Sx.G.s (.int .i64 x26) .a1 .a1 ?_
   refine Sx.G.nil (Sx.E.block_normal (Sx.E.next (Sx.C.seq (Sx.C.region ?_))))
   refine Sx.G.lw .m1 ?_
   refine Sx.G.sw [.slice p2A0 g2.prog.length p2c0, .int .i64 x26, .int .i64 g2.pc, .slice p2A1 g2.wr.length p2c1, .slice p2A2 g2.lv.length p2c2, .int .i64 g2.t.1, .int .i64 g2.t.2.1, .bool g2.t.2.2, .int .i64 g2.pd, .int .i64 g2.x.1, .int .i64 g2.x.2.1, .bool g2.x.2.2.1, .int .i64 g2.x.2.2.2, .bool g2.hl, .slice p2A3 g2.seen.length p2c3] .a6 ?_
   refine Sx.G.nil (Sx.E.next (Sx.C.ret ?_))
   refine Sx.E.retc b1 6 [.slice p2A0 g2.prog.length p2c0, .int .i64 x26, .int .i64 g2.pc, .slice p2A1 g2.wr.length p2c1, .slice p2A2 g2.lv.length p2c2, .int .i64 g2.t.1, .int .i64 g2.t.2.1, .bool g2.t.2.2, .int .i64 g2.pd, .int .i64 g2.x.1, .int .i64 g2.x.2.1, .bool g2.x.2.2.1, .int .i64 g2.x.2.2.2, .bool g2.hl, .slice p2A3 g2.seen.length p2c3] rfl (by kernel_rfl) rfl (by kernel_rfl) (by kernel_rfl) (fun w S => ?_)
   obtain ⟨-, S⟩ := Sx.St.toRp S 2 rfl
   obtain ⟨-, S⟩ := Sx.St.toRp S 3 rfl
   obtain ⟨-, S⟩ := Sx.St.toRp S 4 rfl
   exact ⟨{ prog := g2.prog, a := x26, pc := g2.pc, wr := g2.wr, lv := g2.lv, t := (g2.t.1, g2.t.2.1, g2.t.2.2), pd := g2.pd, x := (g2.x.1, g2.x.2.1, g2.x.2.2.1, g2.x.2.2.2), hl := g2.hl, seen := g2.seen }, _, _, _, _, _, _, _, _, rfl, ⟨hwf.1, hw26, hwf.2.2.1, hwf.2.2.2.1, hwf.2.2.2.2.1, hwf.2.2.2.2.2.1, hwf.2.2.2.2.2.2.1, hwf.2.2.2.2.2.2.2.1, trivial, hwf.2.2.2.2.2.2.2.2.2⟩, ⟨hsm.1, hsm.2.1, hsm.2.2.1, hsm.2.2.2⟩, Sx.St.cur S 7 rfl, Sx.St.grown S 8 rfl hb0, _, _, _, _, _, _, _, _, _, Sx.St.made (St.pick S [7, 8, 2, 3, 4, 5] _ rfl (by decide))⟩
 ·
  skip
  refine Sx.C.yes (by kernel_rfl) (by kernel_rfl) ?_
  refine Sx.C.region ?_
  refine Sx.G.p (.pointer (some ⟨g, 0, none⟩)) ?_
  refine Sx.G.c 28 #[.pointer (some ⟨g, 0, none⟩)] (fun w27 S => (anyProg_cap w0 A n c g _ hn hcode (Sx.St.cur S 6 rfl)).mono fun e w27' hp => ?_)
  obtain ⟨pb27, pm27, pc27, pl27, rfl, hl27, ⟨hM27, hcp27⟩, hw27, hown, hcur, hgr⟩ := hp
  rw [← pcells_j] at hown
  subst hl27
  refine ⟨_, _, rfl, Sx.St.plus S (Sx.St.moved S 6 rfl hcur hgr) _ (Sx.lies_rp rfl hcp27 hown) (Nat.le_refl _) (Nat.le_refl _), ?_⟩
  clear S hcur hgr hown
  refine Sx.G.p (.pointer (some ⟨b3, 0, none⟩)) ?_
  refine Sx.G.s (.slice (some ⟨pb27, 0, none⟩) pl27.length pc27) .a1 .a0 ?_
  refine Sx.G.nil (Sx.E.block_normal (Sx.E.next (Sx.C.seq (Sx.C.region ?_))))
  refine Sx.G.lw .m1 ?_
  refine Sx.G.sw [.slice (some ⟨pb27, 0, none⟩) pl27.length pc27, .int .i64 g2.a, .int .i64 g2.pc, .slice p2A1 g2.wr.length p2c1, .slice p2A2 g2.lv.length p2c2, .int .i64 g2.t.1, .int .i64 g2.t.2.1, .bool g2.t.2.2, .int .i64 g2.pd, .int .i64 g2.x.1, .int .i64 g2.x.2.1, .bool g2.x.2.2.1, .int .i64 g2.x.2.2.2, .bool g2.hl, .slice p2A3 g2.seen.length p2c3] .a6 ?_
  refine Sx.G.nil (Sx.E.next (Sx.C.ret ?_))
  refine Sx.E.retc b1 6 [.slice (some ⟨pb27, 0, none⟩) pl27.length pc27, .int .i64 g2.a, .int .i64 g2.pc, .slice p2A1 g2.wr.length p2c1, .slice p2A2 g2.lv.length p2c2, .int .i64 g2.t.1, .int .i64 g2.t.2.1, .bool g2.t.2.2, .int .i64 g2.pd, .int .i64 g2.x.1, .int .i64 g2.x.2.1, .bool g2.x.2.2.1, .int .i64 g2.x.2.2.2, .bool g2.hl, .slice p2A3 g2.seen.length p2c3] rfl (by kernel_rfl) rfl (by kernel_rfl) (by kernel_rfl) (fun w S => ?_)
  obtain ⟨-, S⟩ := Sx.St.toRp S 3 rfl
  obtain ⟨-, S⟩ := Sx.St.toRp S 4 rfl
  exact ⟨{ prog := pl27, a := g2.a, pc := g2.pc, wr := g2.wr, lv := g2.lv, t := (g2.t.1, g2.t.2.1, g2.t.2.2), pd := g2.pd, x := (g2.x.1, g2.x.2.1, g2.x.2.2.1, g2.x.2.2.2), hl := g2.hl, seen := g2.seen }, _, _, _, _, _, _, _, _, rfl, ⟨⟨Nat.le_trans hM27 (by decide), hw27⟩, hwf.2.1, hwf.2.2.1, hwf.2.2.2.1, hwf.2.2.2.2.1, hwf.2.2.2.2.2.1, hwf.2.2.2.2.2.2.1, hwf.2.2.2.2.2.2.2.1, trivial, hwf.2.2.2.2.2.2.2.2.2⟩, ⟨hM27, hsm.2.1, hsm.2.2.1, hsm.2.2.2⟩, Sx.St.cur S 7 rfl, Sx.St.grown S 8 rfl hb0, _, _, _, _, _, _, _, _, _, Sx.St.made (St.pick S [7, 8, 0, 3, 4, 5] _ rfl (by decide))⟩
end Go.Proofs.YtldgadmpclgfhaaGreat.Guests
