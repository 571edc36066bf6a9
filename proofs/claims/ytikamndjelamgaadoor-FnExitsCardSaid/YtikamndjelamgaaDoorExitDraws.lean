/-
  The draws of chapter 13: what is drawn is within its range; no statement about the project's code stands here. No condition beyond the length of the code.
-/
import Derived.Test.YtikamndjelamgaaDoorExit
import Derived.Test.YtikamndjelamgaaDoorSlotDraws
namespace Go.Proofs.YtikamndjelamgaaDoor.Exits
set_option maxRecDepth 100000
open Go.ChangeShapes Go.WideShapes Go.ChangeAt Go.RowKit
open Go.Proofs.YtikamndjelamgaaDoor.Base Go.Proofs.YtikamndjelamgaaDoor.Mem Go.Proofs.YtikamndjelamgaaDoor.Data Go.Proofs.YtikamndjelamgaaDoor.Draw Go.Proofs.YtikamndjelamgaaDoor.SDraw
set_option linter.unusedVariables false
set_option linter.unusedSimpArgs false

theorem wf_in {l : List Int} (h : l.all (fun x => (Lit.int .i64 x).wf) = true) {x : Int} (hx : x ∈ l) : (Lit.int .i64 x).wf = true := List.all_eq_true.1 h x hx
theorem wf_one {x m : Int} (h0 : 0 ≤ x) (h1 : x < m) (hm : m ≤ 1048576) : (Lit.int .i64 (x - 1)).wf = true := by
  simp [Lit.wf]
  have e1 : IntKind.i64.min = -9223372036854775808 := by decide
  have e2 : IntKind.i64.max = 9223372036854775807 := by decide
  omega
theorem wf_0 : (Lit.int .i64 0).wf = true := by decide
def XPost (w0 : World) (A : Option Addr) (n c : Nat) (w : World) (g : Nat) (e : Ending) (w' : World) : Prop :=
  ∃ k p q m, e = .returned (.agg #[.int .i64 k, .int .i64 p, .bool q, .int .i64 m]) ∧ wfQ (k, p, q, m) ∧ Cur w0 A n c w' g ∧ w.grownBy w' (some g)
theorem curX {w0 w1 : World} {A : Option Addr} {n c g b : Nat} (h : Cur w0 A n c w1 g) (hg : g < b) (h0 : w0.heap.size ≤ b) (u v x y : Value) : Cur w0 A n c ((((w1.setCell ⟨b, 0, none⟩ u).setCell ⟨b, 1, none⟩ v).setCell ⟨b, 2, none⟩ x).setCell ⟨b, 3, none⟩ y) g :=
  var_cur (var_cur (var_cur (var_cur h hg h0 _ _) hg h0 _ _) hg h0 _ _) hg h0 _ _
theorem farX {w W : World} {g b : Nat} (hG : w.grownBy W (some g)) (hb : w.heap.size ≤ b) (u v x y : Value) : w.grownBy ((((W.setCell ⟨b, 0, none⟩ u).setCell ⟨b, 1, none⟩ v).setCell ⟨b, 2, none⟩ x).setCell ⟨b, 3, none⟩ y) (some g) :=
  grown_far (grown_far (grown_far (grown_far hG hb _ _) hb _ _) hb _ _) hb _ _
theorem curB {w0 w w' : World} {A : Option Addr} {n c g : Nat} (h : Cur w0 A n c w g) (hb : Below w.heap.size w w') : Cur w0 A n c w' g :=
  h.grown (of_below hb none) (by simp) (fun k hk => by cases hk)

set_option maxRecDepth 100000 in
set_option maxHeartbeats 8000000 in
theorem exit_any (w0 : World) (A : Option Addr) (n c g : Nat) (w : World) (hn : n ≤ 1048576) (hcode : CodeAt w0 A n) (hcur : Cur w0 A n c w g) :
    Calls Tryd.prog 38 #[.pointer (some ⟨g, 0, none⟩)] w (XPost w0 A n c w g) := by
  have HC := Lib.hid hcode
  have hlt := hcur.lt
  have hs0 := hcur.1.size
  have t0 : Var (w.alloc (.cells #[.int .i64 0, .int .i64 0, .bool false, .int .i64 0] 28)) w.heap.size [.int .i64 0, .int .i64 0, .bool false, .int .i64 0] := Var.new w [.int .i64 0, .int .i64 0, .bool false, .int .i64 0] 28
  have HU := Lib.hid (hcur.alloc (.cells #[.int .i64 0, .int .i64 0, .bool false, .int .i64 0] 28))
  have hG0 := grown_new w (.cells #[.int .i64 0, .int .i64 0, .bool false, .int .i64 0] 28) (some g)
  have hz0 : w.heap.size < (w.alloc (.cells #[.int .i64 0, .int .i64 0, .bool false, .int .i64 0] 28)).heap.size := by simp
  clear hcode hcur
  go_enter Tryd.func38, Tryd.ntmps38
  go_wp2_with fail
  generalize w.alloc (.cells #[.int .i64 0, .int .i64 0, .bool false, .int .i64 0] 28) = W0 at t0 HU hG0 hz0 ⊢
  refine (below_any w0 A n c g _ 5 (by omega) (by omega) hn HC.out HU.out).mono ?_
  rintro e W1 ⟨k, rfl, _, _, hc1, hg1⟩
  have t1 := t0.grown hg1 (by omega)
  have HU1 := Lib.hid hc1
  have hG1 := gtr hG0 hg1
  clear hc1 hg1 HU t0 hG0
  by_cases h0 : k = 0
  · subst h0
    go_wp2_with fail
    refine (below_any w0 A n c g _ 4 (by omega) (by omega) hn HC.out HU1.out).mono ?_
    rintro e W2 ⟨p, rfl, p0, p1, hc2, hg2⟩
    have Hp := Lib.hid (wf_small p0 p1 (by omega))
    have t2 := t1.grown hg2 (by omega)
    have HU2 := Lib.hid hc2
    have hG2 := gtr hG1 hg2
    clear hc2 hg2 HU1 t1 hG1
    go_wp2_with fail
    refine (once_any w0 A n c g _ 2 (by omega) (by omega) hn HC.out HU2.out).mono ?_
    rintro e W3 ⟨q, rfl, hc3, hg3⟩
    have t3 := t2.grown hg3 (by omega)
    have HU3 := Lib.hid hc3
    have hG3 := gtr hG2 hg3
    clear hc3 hg3 HU2 t2 hG2
    go_wp2_with fail
    refine (spec_fault p q _).mono ?_
    rintro e W4 ⟨rfl, hb⟩
    have t4 := t3.below hb (by have := t3.2; omega)
    have HU4 := Lib.hid (curB HU3.out hb)
    have hG4 := gtr hG3 (of_below hb (some g))
    clear hb HU3 t3 hG3
    dsimp only
    have r0 := t4.cell 0 (v := .int .i64 0) rfl
    have rf0 := t4.loose 0 (v := .int .i64 0) rfl
    have r1 := t4.cell 1 (v := .int .i64 0) rfl
    have rf1 := t4.loose 1 (v := .int .i64 0) rfl
    have r2 := t4.cell 2 (v := .bool false) rfl
    have rf2 := t4.loose 2 (v := .bool false) rfl
    have r3 := t4.cell 3 (v := .int .i64 0) rfl
    have rf3 := t4.loose 3 (v := .int .i64 0) rfl
    clear t4
    go_wp2_with fail
    exact bodyPost_ret (v := .agg #[.int .i64 1, .int .i64 p, .bool q, .int .i64 0]) (by simp [results, Tryd.results38, go_sem, r0, r1, r2, r3]) rfl
      ⟨1, p, q, 0, rfl, ⟨(by decide : (Lit.int .i64 1).wf = true), Hp.out, trivial, wf_0⟩, curX HU4.out hlt hs0 _ _ _ _, farX hG4 (Nat.le_refl _) _ _ _ _⟩
  · have h0' : (k == 0) = false := by simpa using h0
    by_cases h1 : k = 1
    · subst h1
      go_wp2_with fail
      refine (below_any w0 A n c g _ 100 (by omega) (by omega) hn HC.out HU1.out).mono ?_
      rintro e W2 ⟨m, rfl, m0, m1, hc2, hg2⟩
      have Hm := Lib.hid (wf_small m0 m1 (by omega))
      have t2 := t1.grown hg2 (by omega)
      have HU2 := Lib.hid hc2
      have hG2 := gtr hG1 hg2
      clear hc2 hg2 HU1 t1 hG1
      go_wp2_with fail
      refine (spec_call m _).mono ?_
      rintro e W3 ⟨rfl, hb⟩
      have t3 := t2.below hb (by have := t2.2; omega)
      have HU3 := Lib.hid (curB HU2.out hb)
      have hG3 := gtr hG2 (of_below hb (some g))
      clear hb HU2 t2 hG2
      dsimp only
      have r0 := t3.cell 0 (v := .int .i64 0) rfl
      have rf0 := t3.loose 0 (v := .int .i64 0) rfl
      have r1 := t3.cell 1 (v := .int .i64 0) rfl
      have rf1 := t3.loose 1 (v := .int .i64 0) rfl
      have r2 := t3.cell 2 (v := .bool false) rfl
      have rf2 := t3.loose 2 (v := .bool false) rfl
      have r3 := t3.cell 3 (v := .int .i64 0) rfl
      have rf3 := t3.loose 3 (v := .int .i64 0) rfl
      clear t3
      go_wp2_with fail
      exact bodyPost_ret (v := .agg #[.int .i64 2, .int .i64 0, .bool false, .int .i64 m]) (by simp [results, Tryd.results38, go_sem, r0, r1, r2, r3]) rfl
        ⟨2, 0, false, m, rfl, ⟨(by decide : (Lit.int .i64 2).wf = true), wf_0, trivial, Hm.out⟩, curX HU3.out hlt hs0 _ _ _ _, farX hG3 (Nat.le_refl _) _ _ _ _⟩
    · have h1' : (k == 1) = false := by simpa using h1
      by_cases h2 : k = 2
      · subst h2
        go_wp2_with fail
        refine (below_any w0 A n c g _ 100 (by omega) (by omega) hn HC.out HU1.out).mono ?_
        rintro e W2 ⟨m, rfl, m0, m1, hc2, hg2⟩
        have Hm := Lib.hid (wf_small m0 m1 (by omega))
        have t2 := t1.grown hg2 (by omega)
        have HU2 := Lib.hid hc2
        have hG2 := gtr hG1 hg2
        clear hc2 hg2 HU1 t1 hG1
        go_wp2_with fail
        refine (spec_out m _).mono ?_
        rintro e W3 ⟨rfl, hb⟩
        have t3 := t2.below hb (by have := t2.2; omega)
        have HU3 := Lib.hid (curB HU2.out hb)
        have hG3 := gtr hG2 (of_below hb (some g))
        clear hb HU2 t2 hG2
        dsimp only
        have r0 := t3.cell 0 (v := .int .i64 0) rfl
        have rf0 := t3.loose 0 (v := .int .i64 0) rfl
        have r1 := t3.cell 1 (v := .int .i64 0) rfl
        have rf1 := t3.loose 1 (v := .int .i64 0) rfl
        have r2 := t3.cell 2 (v := .bool false) rfl
        have rf2 := t3.loose 2 (v := .bool false) rfl
        have r3 := t3.cell 3 (v := .int .i64 0) rfl
        have rf3 := t3.loose 3 (v := .int .i64 0) rfl
        clear t3
        go_wp2_with fail
        exact bodyPost_ret (v := .agg #[.int .i64 3, .int .i64 0, .bool false, .int .i64 m]) (by simp [results, Tryd.results38, go_sem, r0, r1, r2, r3]) rfl
          ⟨3, 0, false, m, rfl, ⟨(by decide : (Lit.int .i64 3).wf = true), wf_0, trivial, Hm.out⟩, curX HU3.out hlt hs0 _ _ _ _, farX hG3 (Nat.le_refl _) _ _ _ _⟩
      · have h2' : (k == 2) = false := by simpa using h2
        by_cases h3 : k = 3
        · subst h3
          have r0 := t1.cell 0 (v := .int .i64 0) rfl
          have rf0 := t1.loose 0 (v := .int .i64 0) rfl
          have r1 := t1.cell 1 (v := .int .i64 0) rfl
          have rf1 := t1.loose 1 (v := .int .i64 0) rfl
          have r2 := t1.cell 2 (v := .bool false) rfl
          have rf2 := t1.loose 2 (v := .bool false) rfl
          have r3 := t1.cell 3 (v := .int .i64 0) rfl
          have rf3 := t1.loose 3 (v := .int .i64 0) rfl
          clear t1
          go_wp2_with fail
          exact bodyPost_ret (v := .agg #[.int .i64 4, .int .i64 0, .bool false, .int .i64 0]) (by simp [results, Tryd.results38, go_sem, r0, r1, r2, r3]) rfl
            ⟨4, 0, false, 0, rfl, ⟨(by decide : (Lit.int .i64 4).wf = true), wf_0, trivial, wf_0⟩, curX HU1.out hlt hs0 _ _ _ _, farX hG1 (Nat.le_refl _) _ _ _ _⟩
        · have h3' : (k == 3) = false := by simpa using h3
          have r0 := t1.cell 0 (v := .int .i64 0) rfl
          have rf0 := t1.loose 0 (v := .int .i64 0) rfl
          have r1 := t1.cell 1 (v := .int .i64 0) rfl
          have rf1 := t1.loose 1 (v := .int .i64 0) rfl
          have r2 := t1.cell 2 (v := .bool false) rfl
          have rf2 := t1.loose 2 (v := .bool false) rfl
          have r3 := t1.cell 3 (v := .int .i64 0) rfl
          have rf3 := t1.loose 3 (v := .int .i64 0) rfl
          clear t1
          go_wp2_with fail
          exact bodyPost_ret (v := .agg #[.int .i64 0, .int .i64 0, .bool false, .int .i64 0]) (by simp [results, Tryd.results38, go_sem, r0, r1, r2, r3]) rfl
            ⟨0, 0, false, 0, rfl, ⟨wf_0, wf_0, trivial, wf_0⟩, curX HU1.out hlt hs0 _ _ _ _, farX hG1 (Nat.le_refl _) _ _ _ _⟩

set_option maxRecDepth 100000 in
set_option maxHeartbeats 8000000 in
theorem anyExit_any (w0 : World) (A : Option Addr) (n c g : Nat) (w : World) (hn : n ≤ 1048576) (hcode : CodeAt w0 A n) (hcur : Cur w0 A n c w g) :
    Calls Tryd.prog 30 #[.pointer (some ⟨g, 0, none⟩)] w (XPost w0 A n c w g) := by
  have HC := Lib.hid hcode
  have hlt := hcur.lt
  have hs0 := hcur.1.size
  have t0 : Var (w.alloc (.cells #[.int .i64 0, .int .i64 0, .bool false, .int .i64 0] 28)) w.heap.size [.int .i64 0, .int .i64 0, .bool false, .int .i64 0] := Var.new w [.int .i64 0, .int .i64 0, .bool false, .int .i64 0] 28
  have HU := Lib.hid (hcur.alloc (.cells #[.int .i64 0, .int .i64 0, .bool false, .int .i64 0] 28))
  have hG0 := grown_new w (.cells #[.int .i64 0, .int .i64 0, .bool false, .int .i64 0] 28) (some g)
  have hz0 : w.heap.size < (w.alloc (.cells #[.int .i64 0, .int .i64 0, .bool false, .int .i64 0] 28)).heap.size := by simp
  clear hcode hcur
  go_enter Tryd.func30, Tryd.ntmps30
  go_wp2_with fail
  generalize w.alloc (.cells #[.int .i64 0, .int .i64 0, .bool false, .int .i64 0] 28) = W0 at t0 HU hG0 hz0 ⊢
  refine (exit_any w0 A n c g _ hn HC.out HU.out).mono ?_
  rintro e W1 ⟨k, p, q, m, rfl, hw, hc1, hg1⟩
  have HW := Lib.hid hw
  have hG1 := gtr hG0 hg1
  have t1 := t0.grown hg1 (by omega)
  have hs1 := hg1.size
  have hgW1 := hc1.lt
  have n2 : Var (W1.alloc (.cells #[.int .i64 k, .int .i64 p, .bool q, .int .i64 m] 28)) W1.heap.size [.int .i64 k, .int .i64 p, .bool q, .int .i64 m] := Var.new W1 [.int .i64 k, .int .i64 p, .bool q, .int .i64 m] 28
  have HU2 := Lib.hid (hc1.alloc (.cells #[.int .i64 k, .int .i64 p, .bool q, .int .i64 m] 28))
  have hG2 := gtr hG1 (grown_new W1 (.cells #[.int .i64 k, .int .i64 p, .bool q, .int .i64 m] 28) _)
  have t2 := Var.below t1 ((Below.refl _ _).alloc (Nat.le_refl _) (.cells #[.int .i64 k, .int .i64 p, .bool q, .int .i64 m] 28)) (by omega)
  have hz2 : W1.heap.size < (W1.alloc (.cells #[.int .i64 k, .int .i64 p, .bool q, .int .i64 m] 28)).heap.size := by simp
  clear hw hc1 hg1 HU t0 hG0 t1 hG1
  have hne1 : W1.heap.size ≠ w.heap.size := by omega
  have hne2 : w.heap.size ≠ W1.heap.size := by omega
  go_wp2_with fail
  generalize W1.alloc (.cells #[.int .i64 k, .int .i64 p, .bool q, .int .i64 m] 28) = W2 at n2 HU2 hG2 t2 hz2 ⊢
  refine (below_any w0 A n c g _ 8 (by omega) (by omega) hn HC.out HU2.out).mono ?_
  rintro e W3 ⟨j, rfl, _, _, hc3, hg3⟩
  have t3 := t2.grown hg3 (by omega)
  have n3 := n2.grown hg3 (by omega)
  have HU3 := Lib.hid hc3
  have hG3 := gtr hG2 hg3
  have hs3 := hg3.size
  clear hc3 hg3 t2 n2 hG2 HU2
  by_cases h0 : j = 0
  · subst h0
    go_wp2_with fail
    refine (below_any w0 A n c g _ 7 (by omega) (by omega) hn HC.out HU3.out).mono ?_
    rintro e W4 ⟨z, rfl, z0, z1, hc4, hg4⟩
    have HZ := Lib.hid (wf_one z0 z1 (by omega))
    have t4 := t3.grown hg4 (by omega)
    have n4 := n3.grown hg4 (by omega)
    have HU4 := Lib.hid hc4
    have hG4 := gtr hG3 hg4
    clear hc4 hg4 t3 n3 hG3 HU3
    have r0 := t4.cell 0 (v := .int .i64 0) rfl
    have rf0 := t4.loose 0 (v := .int .i64 0) rfl
    have r1 := t4.cell 1 (v := .int .i64 0) rfl
    have rf1 := t4.loose 1 (v := .int .i64 0) rfl
    have r2 := t4.cell 2 (v := .bool false) rfl
    have rf2 := t4.loose 2 (v := .bool false) rfl
    have r3 := t4.cell 3 (v := .int .i64 0) rfl
    have rf3 := t4.loose 3 (v := .int .i64 0) rfl
    have v0 := n4.cell 0 (v := .int .i64 k) rfl
    have vf0 := n4.loose 0 (v := .int .i64 k) rfl
    have v1 := n4.cell 1 (v := .int .i64 p) rfl
    have vf1 := n4.loose 1 (v := .int .i64 p) rfl
    have v2 := n4.cell 2 (v := .bool q) rfl
    have vf2 := n4.loose 2 (v := .bool q) rfl
    have v3 := n4.cell 3 (v := .int .i64 m) rfl
    have vf3 := n4.loose 3 (v := .int .i64 m) rfl
    clear t4 n4
    go_wp2_with fail
    exact bodyPost_ret (v := .agg #[.int .i64 (z - 1), .int .i64 p, .bool q, .int .i64 m]) (by simp [results, Tryd.results30, go_sem, r0, r1, r2, r3, v0, v1, v2, v3, hne1, hne2]) rfl
      ⟨(z - 1), p, q, m, rfl, ⟨HZ.out, HW.out.2⟩, curX (var_cur HU4.out hgW1 (by omega) _ _) hlt hs0 _ _ _ _, farX (grown_far hG4 (by omega) _ _) (Nat.le_refl _) _ _ _ _⟩
  · have h0' : (j == 0) = false := by simpa using h0
    by_cases h1 : j = 1
    · subst h1
      go_wp2_with fail
      refine (pick_any w0 A n c g _ W3.heap.size 3 [-1, 3, 4] (by decide) (by decide) hn HC.out (HU3.out.alloc _) (by omega) rfl (heap_alloc_new W3 _)).mono ?_
      rintro e W4 ⟨z, rfl, hz, hc4, hg4⟩
      have HZ := Lib.hid (wf_in (by decide) hz)
      have t4 := (Var.below t3 ((Below.refl _ _).alloc (Nat.le_refl _) _) (by omega)).grown hg4 (by omega)
      have n4 := (Var.below n3 ((Below.refl _ _).alloc (Nat.le_refl _) _) (by omega)).grown hg4 (by omega)
      have hG4 := gtr (gtr hG3 (grown_new W3 _ _)) hg4
      have HU4 := Lib.hid hc4
      clear hz hc4 hg4 t3 n3 hG3 HU3
      have r0 := t4.cell 0 (v := .int .i64 0) rfl
      have rf0 := t4.loose 0 (v := .int .i64 0) rfl
      have r1 := t4.cell 1 (v := .int .i64 0) rfl
      have rf1 := t4.loose 1 (v := .int .i64 0) rfl
      have r2 := t4.cell 2 (v := .bool false) rfl
      have rf2 := t4.loose 2 (v := .bool false) rfl
      have r3 := t4.cell 3 (v := .int .i64 0) rfl
      have rf3 := t4.loose 3 (v := .int .i64 0) rfl
      have v0 := n4.cell 0 (v := .int .i64 k) rfl
      have vf0 := n4.loose 0 (v := .int .i64 k) rfl
      have v1 := n4.cell 1 (v := .int .i64 p) rfl
      have vf1 := n4.loose 1 (v := .int .i64 p) rfl
      have v2 := n4.cell 2 (v := .bool q) rfl
      have vf2 := n4.loose 2 (v := .bool q) rfl
      have v3 := n4.cell 3 (v := .int .i64 m) rfl
      have vf3 := n4.loose 3 (v := .int .i64 m) rfl
      clear t4 n4
      go_wp2_with fail
      exact bodyPost_ret (v := .agg #[.int .i64 k, .int .i64 z, .bool q, .int .i64 m]) (by simp [results, Tryd.results30, go_sem, r0, r1, r2, r3, v0, v1, v2, v3, hne1, hne2]) rfl
        ⟨k, z, q, m, rfl, ⟨HW.out.1, HZ.out, trivial, HW.out.2.2.2⟩, curX (var_cur HU4.out hgW1 (by omega) _ _) hlt hs0 _ _ _ _, farX (grown_far hG4 (by omega) _ _) (Nat.le_refl _) _ _ _ _⟩
    · have h1' : (j == 1) = false := by simpa using h1
      by_cases h2 : j = 2
      · subst h2
        go_wp2_with fail
        refine (pick_any w0 A n c g _ W3.heap.size 3 [-1, 99, 100] (by decide) (by decide) hn HC.out (HU3.out.alloc _) (by omega) rfl (heap_alloc_new W3 _)).mono ?_
        rintro e W4 ⟨z, rfl, hz, hc4, hg4⟩
        have HZ := Lib.hid (wf_in (by decide) hz)
        have t4 := (Var.below t3 ((Below.refl _ _).alloc (Nat.le_refl _) _) (by omega)).grown hg4 (by omega)
        have n4 := (Var.below n3 ((Below.refl _ _).alloc (Nat.le_refl _) _) (by omega)).grown hg4 (by omega)
        have hG4 := gtr (gtr hG3 (grown_new W3 _ _)) hg4
        have HU4 := Lib.hid hc4
        clear hz hc4 hg4 t3 n3 hG3 HU3
        have r0 := t4.cell 0 (v := .int .i64 0) rfl
        have rf0 := t4.loose 0 (v := .int .i64 0) rfl
        have r1 := t4.cell 1 (v := .int .i64 0) rfl
        have rf1 := t4.loose 1 (v := .int .i64 0) rfl
        have r2 := t4.cell 2 (v := .bool false) rfl
        have rf2 := t4.loose 2 (v := .bool false) rfl
        have r3 := t4.cell 3 (v := .int .i64 0) rfl
        have rf3 := t4.loose 3 (v := .int .i64 0) rfl
        have v0 := n4.cell 0 (v := .int .i64 k) rfl
        have vf0 := n4.loose 0 (v := .int .i64 k) rfl
        have v1 := n4.cell 1 (v := .int .i64 p) rfl
        have vf1 := n4.loose 1 (v := .int .i64 p) rfl
        have v2 := n4.cell 2 (v := .bool q) rfl
        have vf2 := n4.loose 2 (v := .bool q) rfl
        have v3 := n4.cell 3 (v := .int .i64 m) rfl
        have vf3 := n4.loose 3 (v := .int .i64 m) rfl
        clear t4 n4
        go_wp2_with fail
        exact bodyPost_ret (v := .agg #[.int .i64 k, .int .i64 p, .bool q, .int .i64 z]) (by simp [results, Tryd.results30, go_sem, r0, r1, r2, r3, v0, v1, v2, v3, hne1, hne2]) rfl
          ⟨k, p, q, z, rfl, ⟨HW.out.1, HW.out.2.1, trivial, HZ.out⟩, curX (var_cur HU4.out hgW1 (by omega) _ _) hlt hs0 _ _ _ _, farX (grown_far hG4 (by omega) _ _) (Nat.le_refl _) _ _ _ _⟩
      · have h2' : (j == 2) = false := by simpa using h2
        have r0 := t3.cell 0 (v := .int .i64 0) rfl
        have rf0 := t3.loose 0 (v := .int .i64 0) rfl
        have r1 := t3.cell 1 (v := .int .i64 0) rfl
        have rf1 := t3.loose 1 (v := .int .i64 0) rfl
        have r2 := t3.cell 2 (v := .bool false) rfl
        have rf2 := t3.loose 2 (v := .bool false) rfl
        have r3 := t3.cell 3 (v := .int .i64 0) rfl
        have rf3 := t3.loose 3 (v := .int .i64 0) rfl
        have v0 := n3.cell 0 (v := .int .i64 k) rfl
        have vf0 := n3.loose 0 (v := .int .i64 k) rfl
        have v1 := n3.cell 1 (v := .int .i64 p) rfl
        have vf1 := n3.loose 1 (v := .int .i64 p) rfl
        have v2 := n3.cell 2 (v := .bool q) rfl
        have vf2 := n3.loose 2 (v := .bool q) rfl
        have v3 := n3.cell 3 (v := .int .i64 m) rfl
        have vf3 := n3.loose 3 (v := .int .i64 m) rfl
        clear t3 n3
        go_wp2_with fail
        exact bodyPost_ret (v := .agg #[.int .i64 k, .int .i64 p, .bool q, .int .i64 m]) (by simp [results, Tryd.results30, go_sem, r0, r1, r2, r3, v0, v1, v2, v3, hne1, hne2]) rfl
          ⟨k, p, q, m, rfl, HW.out, curX HU3.out hlt hs0 _ _ _ _, farX hG3 (Nat.le_refl _) _ _ _ _⟩

def ExitB (w : World) (e : Ending) (w' : World) : Prop := ∃ k p q m, e = .returned (.agg #[.int .i64 k, .int .i64 p, .bool q, .int .i64 m]) ∧ wfQ (k, p, q, m) ∧ Below w.heap.size w w'
def NumB (w : World) (e : Ending) (w' : World) : Prop := ∃ x, e = .returned (.int .i64 x) ∧ (Lit.int .i64 x).wf = true ∧ Below w.heap.size w w'
def NumBoolB (w : World) (e : Ending) (w' : World) : Prop := ∃ x b, e = .returned (.tuple #[.int .i64 x, .bool b]) ∧ (Lit.int .i64 x).wf = true ∧ Below w.heap.size w w'

set_option maxRecDepth 100000 in
set_option maxHeartbeats 4000000 in
theorem drawExitName_any (A : Option Addr) (n c : Nat) (w : World) (hn : n ≤ 1048576) (hcode : CodeAt w A n) :
    Calls Tryd.prog 12 #[.slice A n c] w (NumB w) := by
  have HC := Lib.hid hcode
  clear hcode
  go_enter Tryd.func12, Tryd.ntmps12
  go_wp2_with fail
  refine (new_any A n c _ hn HC.out).mono ?_
  rintro e w0 ⟨rfl, hcur, hsz0⟩
  clear hsz0
  have HU := Lib.hid hcur
  clear hcur
  go_wp2_with fail
  refine (below_any w A n c _ _ 7 (by omega) (by omega) hn HC.out HU.out).mono ?_
  rintro e w1 ⟨x, rfl, x0, x1, hc1, hg1⟩
  have HF := Lib.hid (And.intro (wf_one x0 x1 (by omega)) hc1.1)
  clear hc1 hg1 HU
  go_wp2_with fail
  go_ret
  exact ⟨x - 1, rfl, HF.out.1, HF.out.2⟩

set_option maxRecDepth 100000 in
set_option maxHeartbeats 4000000 in
theorem drawCallExit_any (A : Option Addr) (n c : Nat) (w : World) (hn : n ≤ 1048576) (hcode : CodeAt w A n) :
    Calls Tryd.prog 9 #[.slice A n c] w (NumB w) := by
  have HC := Lib.hid hcode
  clear hcode
  go_enter Tryd.func9, Tryd.ntmps9
  go_wp2_with fail
  refine (new_any A n c _ hn HC.out).mono ?_
  rintro e w0 ⟨rfl, hcur, hsz0⟩
  clear hsz0
  have HU := Lib.hid hcur
  clear hcur
  go_wp2_with fail
  refine (below_any w A n c _ _ 102 (by omega) (by omega) hn HC.out HU.out).mono ?_
  rintro e w1 ⟨x, rfl, x0, x1, hc1, hg1⟩
  have HF := Lib.hid (And.intro (wf_one x0 x1 (by omega)) hc1.1)
  clear hc1 hg1 HU
  go_wp2_with fail
  go_ret
  exact ⟨x - 1, rfl, HF.out.1, HF.out.2⟩

set_option maxRecDepth 100000 in
set_option maxHeartbeats 4000000 in
theorem drawOutExit_any (A : Option Addr) (n c : Nat) (w : World) (hn : n ≤ 1048576) (hcode : CodeAt w A n) :
    Calls Tryd.prog 10 #[.slice A n c] w (NumB w) := by
  have HC := Lib.hid hcode
  clear hcode
  go_enter Tryd.func10, Tryd.ntmps10
  go_wp2_with fail
  refine (new_any A n c _ hn HC.out).mono ?_
  rintro e w0 ⟨rfl, hcur, hsz0⟩
  clear hsz0
  have HU := Lib.hid hcur
  clear hcur
  go_wp2_with fail
  refine (below_any w A n c _ _ 102 (by omega) (by omega) hn HC.out HU.out).mono ?_
  rintro e w1 ⟨x, rfl, x0, x1, hc1, hg1⟩
  have HF := Lib.hid (And.intro (wf_one x0 x1 (by omega)) hc1.1)
  clear hc1 hg1 HU
  go_wp2_with fail
  go_ret
  exact ⟨x - 1, rfl, HF.out.1, HF.out.2⟩

set_option maxRecDepth 100000 in
set_option maxHeartbeats 4000000 in
theorem drawFaultExit_any (A : Option Addr) (n c : Nat) (w : World) (hn : n ≤ 1048576) (hcode : CodeAt w A n) :
    Calls Tryd.prog 8 #[.slice A n c] w (NumBoolB w) := by
  have HC := Lib.hid hcode
  clear hcode
  go_enter Tryd.func8, Tryd.ntmps8
  go_wp2_with fail
  refine (new_any A n c _ hn HC.out).mono ?_
  rintro e w0 ⟨rfl, hcur, hsz0⟩
  clear hsz0
  have HU := Lib.hid hcur
  clear hcur
  go_wp2_with fail
  refine (below_any w A n c _ _ 6 (by omega) (by omega) hn HC.out HU.out).mono ?_
  rintro e w1 ⟨x, rfl, x0, x1, hc1, hg1⟩
  have HX := Lib.hid (wf_one x0 x1 (by omega))
  have HU1 := Lib.hid hc1
  clear hc1 hg1 HU
  go_wp2_with fail
  refine (once_any w A n c _ _ 2 (by omega) (by omega) hn HC.out HU1.out).mono ?_
  rintro e w2 ⟨b, rfl, hc2, hg2⟩
  have HF := Lib.hid hc2.1
  clear hc2 hg2 HU1
  go_wp2_with fail
  exact bodyPost_ret (v := .tuple #[.int .i64 (x - 1), .bool b]) (by simp [results, Tryd.results8, go_sem]) rfl ⟨x - 1, b, rfl, HX.out, HF.out⟩

set_option maxRecDepth 100000 in
set_option maxHeartbeats 4000000 in
theorem drawExitOk_any (A : Option Addr) (n c : Nat) (w : World) (hn : n ≤ 1048576) (hcode : CodeAt w A n) :
    Calls Tryd.prog 11 #[.slice A n c] w (ExitB w) := by
  have hb0 : Below w.heap.size w (w.alloc (.cells #[.int .i64 0, .int .i64 0, .bool false, .int .i64 0] 28)) := (Below.refl _ _).alloc (Nat.le_refl _) _
  have t0 : Var (w.alloc (.cells #[.int .i64 0, .int .i64 0, .bool false, .int .i64 0] 28)) w.heap.size [.int .i64 0, .int .i64 0, .bool false, .int .i64 0] := Var.new w [.int .i64 0, .int .i64 0, .bool false, .int .i64 0] 28
  have hz : w.heap.size < (w.alloc (.cells #[.int .i64 0, .int .i64 0, .bool false, .int .i64 0] 28)).heap.size := by simp
  have HC := Lib.hid (hcode.below hb0)
  clear hcode
  go_enter Tryd.func11, Tryd.ntmps11
  go_wp2_with fail
  generalize w.alloc (.cells #[.int .i64 0, .int .i64 0, .bool false, .int .i64 0] 28) = W at t0 hb0 HC hz ⊢
  refine (new_any A n c _ hn HC.out).mono ?_
  rintro e w0 ⟨rfl, hcur, hsz0⟩
  clear hsz0
  have t1 := t0.below hcur.1 (by omega)
  have HU := Lib.hid hcur
  clear hcur t0
  go_wp2_with fail
  refine (anyExit_any W A n c _ _ hn HC.out HU.out).mono ?_
  rintro e w1 ⟨k, p, q, m, rfl, hw, hc1, hg1⟩
  have t2 := t1.grown hg1 (by omega)
  have r0 := t2.cell 0 (v := .int .i64 0) rfl
  have rf0 := t2.loose 0 (v := .int .i64 0) rfl
  have r1 := t2.cell 1 (v := .int .i64 0) rfl
  have rf1 := t2.loose 1 (v := .int .i64 0) rfl
  have r2 := t2.cell 2 (v := .bool false) rfl
  have rf2 := t2.loose 2 (v := .bool false) rfl
  have r3 := t2.cell 3 (v := .int .i64 0) rfl
  have rf3 := t2.loose 3 (v := .int .i64 0) rfl
  have HF := Lib.hid (And.intro hw (btr hb0 hc1.1))
  clear hw hc1 hg1 HU t1 t2
  go_wp2_with fail
  exact bodyPost_ret (v := .agg #[.int .i64 k, .int .i64 p, .bool q, .int .i64 m]) (by simp [results, Tryd.results11, go_sem, r0, r1, r2, r3]) rfl ⟨k, p, q, m, rfl, HF.out.1, (((HF.out.2.setCell (p := ⟨w.heap.size, 0, none⟩) (Nat.le_refl _) _).setCell (p := ⟨w.heap.size, 1, none⟩) (Nat.le_refl _) _).setCell (p := ⟨w.heap.size, 2, none⟩) (Nat.le_refl _) _).setCell (p := ⟨w.heap.size, 3, none⟩) (Nat.le_refl _) _⟩
end Go.Proofs.YtikamndjelamgaaDoor.Exits
