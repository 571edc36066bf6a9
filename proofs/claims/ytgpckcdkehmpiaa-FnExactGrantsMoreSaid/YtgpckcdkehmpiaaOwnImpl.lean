/-
  Merged control blocks: the project's functions of chapter 12. Conditions: ints of 64 bits.
-/
import Derived.Test.YtgpckcdkehmpiaaOwn
import Derived.Test.YtgpckcdkehmpiaaCtlImpl
import Derived.Test.YtgpckcdkehmpiaaOrdT
import Derived.Laws.EntriesVeiled
namespace Go.Proofs.Ytgpckcdkehmpiaa.Owns
set_option maxRecDepth 100000
open Go.ChangeShapes Go.WideShapes Go.ChangeAt Go.RowKit
open Go.Proofs.Ytgpckcdkehmpiaa.Base Go.Proofs.Ytgpckcdkehmpiaa.Mem Go.Proofs.Ytgpckcdkehmpiaa.Data Go.Proofs.Ytgpckcdkehmpiaa.Ints Go.Proofs.Ytgpckcdkehmpiaa.Slots Go.Proofs.Ytgpckcdkehmpiaa.Ctls
set_option linter.unusedVariables false
set_option linter.unusedSimpArgs false

theorem impl_mergeT (a b : Int) (w : World) (wa : (Lit.int .i64 a).wf = true) (wb : (Lit.int .i64 b).wf = true) :
    Calls Try.prog 25 #[.int .i64 a, .int .i64 b] w fun e w' => e = .returned (.int .i64 (mergeT a b)) ∧ Below w.heap.size w w' := by
  clear wa wb
  have K1 := Lib.hid (fun V : World => impl_trapsOk a V)
  have K2 := Lib.hid (fun V : World => impl_trapsOk b V)
  have hv : mergeT a b = if (inB a 0 3 && inB b 0 3) = true then bits .or .i64 a b else -1 := rfl
  generalize inB a 0 3 = x at K1 hv
  generalize inB b 0 3 = y at K2 hv
  cases x
  · simp only [Bool.false_and, if_neg (Bool.false_ne_true)] at hv
    have HV := Lib.hid hv
    clear hv
    go_enter Try.func25, Try.ntmps25
    go_wp2_with fail
    refine (K1.out _).mono ?_
    rintro e w' ⟨rfl, rfl⟩
    go_wp2_with fail
    go_ret
    exact ⟨by rw [HV.out]; rfl, Below.refl _ _⟩
  · cases y
    · simp only [Bool.and_false, if_neg (Bool.false_ne_true)] at hv
      have HV := Lib.hid hv
      clear hv
      go_enter Try.func25, Try.ntmps25
      go_wp2_with fail
      refine (K1.out _).mono ?_
      rintro e w' ⟨rfl, rfl⟩
      go_wp2_with fail
      refine (K2.out _).mono ?_
      rintro e w' ⟨rfl, rfl⟩
      go_wp2_with fail
      go_ret
      exact ⟨by rw [HV.out]; rfl, Below.refl _ _⟩
    · simp only [Bool.and_true, if_true] at hv
      have HV := Lib.hid hv
      clear hv
      go_enter Try.func25, Try.ntmps25
      go_wp2_with fail
      refine (K1.out _).mono ?_
      rintro e w' ⟨rfl, rfl⟩
      go_wp2_with fail
      refine (K2.out _).mono ?_
      rintro e w' ⟨rfl, rfl⟩
      go_wp2_with fail
      go_ret
      exact ⟨by rw [HV.out]; rfl, Below.refl _ _⟩

set_option maxHeartbeats 2000000 in
theorem impl_mergedC (o a b : Int) (q : Bool) (w : World) (wo : (Lit.int .i64 o).wf = true) (ws : wfC (a, b, q)) :
    Calls Try.prog 12 #[.int .i64 o, .agg #[.int .i64 a, .int .i64 b, .bool q]] w (CtlP w (mergedC o (a, b, q))) := by
  have h1 := fun V : World => impl_mergeT o a V wo ws.1
  have hv : mergedC o (a, b, q) = (mergeT o a, b, q) := rfl
  generalize mergeT o a = m at h1 hv
  have H1 := Lib.hid h1
  have HV := Lib.hid hv
  have hb0 : Below w.heap.size w ((w.alloc (.cells #[.int .i64 a, .int .i64 b, .bool q] 25)).alloc (.cells #[.int .i64 0, .int .i64 0, .bool false] 25)) := ((Below.refl w.heap.size w).alloc (Nat.le_refl _) (.cells #[.int .i64 a, .int .i64 b, .bool q] 25)).alloc (by simp) (.cells #[.int .i64 0, .int .i64 0, .bool false] 25)
  have t0 : Var ((w.alloc (.cells #[.int .i64 a, .int .i64 b, .bool q] 25)).alloc (.cells #[.int .i64 0, .int .i64 0, .bool false] 25)) w.heap.size [.int .i64 a, .int .i64 b, .bool q] := (Var.new w [.int .i64 a, .int .i64 b, .bool q] 25).below ((Below.refl _ _).alloc (Nat.le_refl _) _) (by simp)
  have t1 : Var ((w.alloc (.cells #[.int .i64 a, .int .i64 b, .bool q] 25)).alloc (.cells #[.int .i64 0, .int .i64 0, .bool false] 25)) (w.heap.size + 1) [.int .i64 0, .int .i64 0, .bool false] := by
    have := Var.new (w.alloc (.cells #[.int .i64 a, .int .i64 b, .bool q] 25)) [.int .i64 0, .int .i64 0, .bool false] 25
    simpa using this
  clear h1 hv wo ws
  go_enter Try.func12, Try.ntmps12
  go_wp2_with fail
  generalize (w.alloc (.cells #[.int .i64 a, .int .i64 b, .bool q] 25)).alloc (.cells #[.int .i64 0, .int .i64 0, .bool false] 25) = W0 at t0 t1 hb0 ⊢
  refine (H1.out _).mono ?_
  rintro e w1 ⟨rfl, hb1⟩
  have HB := Lib.hid (btr hb0 hb1)
  have T0 := t0.below hb1 (by have := t0.2; omega)
  have T1 := t1.below hb1 (by have := t1.2; omega)
  have v0 := T0.cell 0 (v := .int .i64 a) rfl
  have v1 := T0.cell 1 (v := .int .i64 b) rfl
  have v2 := T0.cell 2 (v := .bool q) rfl
  have f0 := T0.loose 0 (v := .int .i64 a) rfl
  have u0 := T1.cell 0 (v := .int .i64 0) rfl
  have u1 := T1.cell 1 (v := .int .i64 0) rfl
  have u2 := T1.cell 2 (v := .bool false) rfl
  have g0 := T1.loose 0 (v := .int .i64 0) rfl
  have g1 := T1.loose 1 (v := .int .i64 0) rfl
  have g2 := T1.loose 2 (v := .bool false) rfl
  have R := (((T1.far (b' := w.heap.size) (by omega) 0 (.int .i64 m)).set 0 (.int .i64 m)).set 1 (.int .i64 b)).set 2 (.bool q)
  have HBF := Lib.hid ((((HB.out.setCell (p := ⟨w.heap.size, 0, none⟩) (Nat.le_refl _) (.int .i64 m)).setCell (p := ⟨w.heap.size + 1, 0, none⟩) (by simp) (.int .i64 m)).setCell (p := ⟨w.heap.size + 1, 1, none⟩) (by simp) (.int .i64 b)).setCell (p := ⟨w.heap.size + 1, 2, none⟩) (by simp) (.bool q))
  have r0 := R.cell 0 (v := .int .i64 m) rfl
  have r1 := R.cell 1 (v := .int .i64 b) rfl
  have r2 := R.cell 2 (v := .bool q) rfl
  clear hb0 hb1 t0 t1 T0 T1 R
  go_wp2_with fail
  generalize (((w1.setCell ⟨w.heap.size, 0, none⟩ (.int .i64 m)).setCell ⟨w.heap.size + 1, 0, none⟩ (.int .i64 m)).setCell ⟨w.heap.size + 1, 1, none⟩ (.int .i64 b)).setCell ⟨w.heap.size + 1, 2, none⟩ (.bool q) = WF at r0 r1 r2 HBF ⊢
  exact bodyPost_ret (v := .agg #[.int .i64 m, .int .i64 b, .bool q]) (by simp [results, Try.results12, go_sem, r0, r1, r2]) rfl ⟨by rw [HV.out], HBF.out⟩

theorem impl_innerWants (o i t : Int) (w : World) (wv : (Lit.int .i64 i).wf = true) (wt : (Lit.int .i64 t).wf = true) :
    Calls Try.prog 50 #[.agg #[.int .i64 o, .int .i64 i], .int .i64 t] w fun e w' => e = .returned (.bool (hasTrap i t)) ∧ Below w.heap.size w w' := by
  have H1 := Lib.hid (fun V : World => impl_hasTrap i t V wv wt)
  have hb0 : Below w.heap.size w (w.alloc (.cells #[.int .i64 o, .int .i64 i] 56)) := (Below.refl _ _).alloc (Nat.le_refl _) _
  generalize hasTrap i t = x at H1 ⊢
  clear wv wt
  go_enter Try.func50, Try.ntmps50
  go_wp2_with fail
  refine (H1.out _).mono ?_
  rintro e w1 ⟨rfl, hb1⟩
  have HB := Lib.hid (btr hb0 hb1)
  clear hb0 hb1
  go_wp2_with fail
  go_ret
  exact ⟨rfl, HB.out⟩

theorem impl_outerWants (o i t : Int) (w : World) (wv : (Lit.int .i64 o).wf = true) (wt : (Lit.int .i64 t).wf = true) :
    Calls Try.prog 51 #[.agg #[.int .i64 o, .int .i64 i], .int .i64 t] w fun e w' => e = .returned (.bool (hasTrap o t)) ∧ Below w.heap.size w w' := by
  have H1 := Lib.hid (fun V : World => impl_hasTrap o t V wv wt)
  have hb0 : Below w.heap.size w (w.alloc (.cells #[.int .i64 o, .int .i64 i] 56)) := (Below.refl _ _).alloc (Nat.le_refl _) _
  generalize hasTrap o t = x at H1 ⊢
  clear wv wt
  go_enter Try.func51, Try.ntmps51
  go_wp2_with fail
  refine (H1.out _).mono ?_
  rintro e w1 ⟨rfl, hb1⟩
  have HB := Lib.hid (btr hb0 hb1)
  clear hb0 hb1
  go_wp2_with fail
  go_ret
  exact ⟨rfl, HB.out⟩

def testsV : List Value := [.int .i64 1, .func (.func 50) #[] #[], .int .i64 2, .func (.func 51) #[] #[]]
theorem impl_tests (w : World) :
    Calls Try.prog 40 #[] w fun e w' => ∃ b, e = .returned (.slice (some ⟨b, 0, none⟩) 2 2) ∧ Var w' b testsV ∧ Below w.heap.size w w' := by
  have HE := Lib.hid (And.intro (Var.new w testsV 61) ((Below.refl w.heap.size w).alloc (Nat.le_refl _) (.cells testsV.toArray 61)))
  go_enter Try.func40, Try.ntmps40
  go_wp2_with fail
  go_ret
  exact ⟨_, rfl, HE.out.1, HE.out.2⟩

theorem ownerOf_1 {o i t : Int} (h : hasTrap i t = true) : ownerOf o i t = 1 := if_pos h
theorem ownerOf_2 {o i t : Int} (h : hasTrap i t = false) (h2 : hasTrap o t = true) : ownerOf o i t = 2 := by unfold ownerOf; rw [h, h2]; rfl
theorem ownerOf_0 {o i t : Int} (h : hasTrap i t = false) (h2 : hasTrap o t = false) : ownerOf o i t = 0 := by unfold ownerOf; rw [h, h2]; rfl
set_option maxHeartbeats 4000000 in
theorem impl_ownerOf (o i t : Int) (w : World) (wo : (Lit.int .i64 o).wf = true) (wi : (Lit.int .i64 i).wf = true) (wt : (Lit.int .i64 t).wf = true) :
    Calls Try.prog 14 #[.int .i64 o, .int .i64 i, .int .i64 t] w fun e w' => e = .returned (.int .i64 (ownerOf o i t)) ∧ Below w.heap.size w w' := by
  have h1 := fun V : World => impl_innerWants o i t V wi wt
  have h2 := fun V : World => impl_outerWants o i t V wo wt
  have hv1 : hasTrap i t = true → ownerOf o i t = 1 := ownerOf_1
  have hv2 : hasTrap i t = false → hasTrap o t = true → ownerOf o i t = 2 := ownerOf_2
  have hv0 : hasTrap i t = false → hasTrap o t = false → ownerOf o i t = 0 := ownerOf_0
  generalize hasTrap i t = x at h1 hv1 hv2 hv0
  generalize hasTrap o t = y at h2 hv2 hv0
  generalize ownerOf o i t = z at hv1 hv2 hv0 ⊢
  have HV := Lib.hid (And.intro hv1 (And.intro hv2 hv0))
  have H1 := Lib.hid h1
  have H2 := Lib.hid h2
  have HT := Lib.hid (fun V : World => impl_tests V)
  have hb0 : Below w.heap.size w (w.alloc (.cells #[.int .i64 o, .int .i64 i] 56)) := (Below.refl _ _).alloc (Nat.le_refl _) _
  have t0 : Var (w.alloc (.cells #[.int .i64 o, .int .i64 i] 56)) w.heap.size [.int .i64 o, .int .i64 i] := Var.new w [.int .i64 o, .int .i64 i] 56
  have HB0 := Lib.hid hb0
  have HT0 := Lib.hid t0
  clear wo wi wt h1 h2 hv1 hv2 hv0 hb0 t0
  go_enter Try.func14, Try.ntmps14
  go_wp2_with fail
  generalize w.alloc (.cells #[.int .i64 o, .int .i64 i] 56) = W0 at HT0 HB0 ⊢
  refine (HT.out _).mono ?_
  rintro e w1 ⟨gb, rfl, tb, hb1⟩
  have HB1 := Lib.hid (btr HB0.out hb1)
  have HT1 := Lib.hid (And.intro (HT0.out.below hb1 (by have := HT0.out.2; omega)) tb)
  clear hb1 tb HB0 HT0
  go_wp2_with fail
  go_loopw [15] (fun v wr => ∃ k : Nat, k ≤ 2 ∧ v = .int .i64 (k : Int) ∧ (1 ≤ k → x = false) ∧ (2 ≤ k → y = false) ∧ Var wr w.heap.size [.int .i64 o, .int .i64 i] ∧ Var wr gb testsV ∧ Below w.heap.size w wr) (fun v _ => (2 - intOf v).toNat)
  case atStart => exact ⟨0, by omega, rfl, by omega, by omega, HT1.out.1, HT1.out.2, HB1.out⟩
  case round =>
    obtain ⟨k, hk, rfl, hx, hy, tv, tb, hb⟩ := hrel
    obtain rfl | rfl | rfl : k = 0 ∨ k = 1 ∨ k = 2 := by omega
    · have c0 : wr.cell? ⟨gb, 0, none⟩ = some (.int .i64 1) := tb.cell 0 rfl
      have c1 : wr.cell? ⟨gb, 1, none⟩ = some (.func (.func 50) #[] #[]) := tb.cell 1 rfl
      have hA : Below wr.heap.size wr (wr.alloc (.cells #[.int .i64 1, .func (.func 50) #[] #[]] 61)) := (Below.refl _ _).alloc (Nat.le_refl _) _
      have T := tv.below hA (by have := tv.2; omega)
      have TN : Var (wr.alloc (.cells #[.int .i64 1, .func (.func 50) #[] #[]] 61)) wr.heap.size [.int .i64 1, .func (.func 50) #[] #[]] := Var.new wr [.int .i64 1, .func (.func 50) #[] #[]] 61
      have d0 := T.cell 0 (v := .int .i64 o) rfl
      have d1 := T.cell 1 (v := .int .i64 i) rfl
      have HF := Lib.hid (And.intro T (And.intro (tb.below hA (by have := tb.2; omega)) (And.intro (btr hb hA) TN)))
      clear hk tv tb hb hA T TN
      clear hx hy
      go_wp2_with fail
      generalize wr.alloc (.cells #[.int .i64 1, .func (.func 50) #[] #[]] 61) = W1 at HF d0 d1 ⊢
      refine (H1.out _).mono ?_
      rintro e w2 ⟨rfl, hb2⟩
      have e0 := (HF.out.2.2.2.below hb2 (by have := HF.out.2.2.2.2; omega)).cell 0 (v := .int .i64 1) rfl
      have HG := Lib.hid (And.intro (HF.out.1.below hb2 (by have := HF.out.1.2; omega)) (And.intro (HF.out.2.1.below hb2 (by have := HF.out.2.1.2; omega)) (btr HF.out.2.2.1 hb2)))
      clear hb2 HF d0 d1
      cases x
      · go_wp2_with fail
        go_roundw
        case rel => exact ⟨1, by omega, rfl, by simp, by omega, HG.out.1, HG.out.2.1, HG.out.2.2⟩
        case measure => simp [intOf]
      · have HZ := Lib.hid (HV.out.1 (by simp))
        go_wp2_with fail
        go_ret
        exact ⟨by rw [HZ.out]; rfl, HG.out.2.2⟩
    · have c0 : wr.cell? ⟨gb, 2, none⟩ = some (.int .i64 2) := tb.cell 2 rfl
      have c1 : wr.cell? ⟨gb, 3, none⟩ = some (.func (.func 51) #[] #[]) := tb.cell 3 rfl
      have hA : Below wr.heap.size wr (wr.alloc (.cells #[.int .i64 2, .func (.func 51) #[] #[]] 61)) := (Below.refl _ _).alloc (Nat.le_refl _) _
      have T := tv.below hA (by have := tv.2; omega)
      have TN : Var (wr.alloc (.cells #[.int .i64 2, .func (.func 51) #[] #[]] 61)) wr.heap.size [.int .i64 2, .func (.func 51) #[] #[]] := Var.new wr [.int .i64 2, .func (.func 51) #[] #[]] 61
      have d0 := T.cell 0 (v := .int .i64 o) rfl
      have d1 := T.cell 1 (v := .int .i64 i) rfl
      have HF := Lib.hid (And.intro T (And.intro (tb.below hA (by have := tb.2; omega)) (And.intro (btr hb hA) TN)))
      clear hk tv tb hb hA T TN
      obtain rfl := hx (by omega)
      clear hx hy
      go_wp2_with fail
      generalize wr.alloc (.cells #[.int .i64 2, .func (.func 51) #[] #[]] 61) = W1 at HF d0 d1 ⊢
      refine (H2.out _).mono ?_
      rintro e w2 ⟨rfl, hb2⟩
      have e0 := (HF.out.2.2.2.below hb2 (by have := HF.out.2.2.2.2; omega)).cell 0 (v := .int .i64 2) rfl
      have HG := Lib.hid (And.intro (HF.out.1.below hb2 (by have := HF.out.1.2; omega)) (And.intro (HF.out.2.1.below hb2 (by have := HF.out.2.1.2; omega)) (btr HF.out.2.2.1 hb2)))
      clear hb2 HF d0 d1
      cases y
      · go_wp2_with fail
        go_roundw
        case rel => exact ⟨2, by omega, rfl, by simp, by simp, HG.out.1, HG.out.2.1, HG.out.2.2⟩
        case measure => simp [intOf]
      · have HZ := Lib.hid (HV.out.2.1 (by simp) (by simp))
        go_wp2_with fail
        go_ret
        exact ⟨by rw [HZ.out]; rfl, HG.out.2.2⟩
    · obtain rfl := hx (by omega)
      obtain rfl := hy (by omega)
      have HZ := Lib.hid (HV.out.2.2 (by simp) (by simp))
      have HB := Lib.hid hb
      clear hx hy tv tb hb hk
      go_wp2_with fail
      go_ret
      exact ⟨by rw [HZ.out]; rfl, HB.out⟩

theorem impl_ownersOf (o i : Int) (w : World) (wo : (Lit.int .i64 o).wf = true) (wi : (Lit.int .i64 i).wf = true) :
    Calls Try.prog 21 #[.int .i64 o, .int .i64 i] w (UsesPost w (ownersOf o i)) := by
  have h1 := fun V : World => impl_ownerOf o i 1 V wo wi (by decide)
  have h2 := fun V : World => impl_ownerOf o i 2 V wo wi (by decide)
  have hv : ownersOf o i = [ownerOf o i 1, ownerOf o i 2] := rfl
  generalize ownerOf o i 1 = x at h1 hv
  generalize ownerOf o i 2 = y at h2 hv
  have H1 := Lib.hid h1
  have H2 := Lib.hid h2
  have HV := Lib.hid hv
  clear h1 h2 hv wo wi
  go_enter Try.func21, Try.ntmps21
  go_wp2_with fail
  refine (H1.out _).mono ?_
  rintro e w1 ⟨rfl, hb1⟩
  have HB1 := Lib.hid hb1
  clear hb1
  go_wp2_with fail
  refine (H2.out _).mono ?_
  rintro e w2 ⟨rfl, hb2⟩
  have HB2 := Lib.hid (btr HB1.out hb2)
  clear hb2
  go_wp2_with fail
  go_ret
  rw [HV.out]
  have hz := HB2.out.size
  exact ⟨_, 2, _, rfl, rfl, (own_block w2 [.int .i64 x, .int .i64 y] 3).wide hz (Nat.le_refl _), HB2.out.alloc hz _⟩

theorem impl_inRange (a b : Int) (q : Bool) (w : World) :
    Calls Try.prog 42 #[.agg #[.int .i64 a, .int .i64 b, .bool q]] w (CtlP w (within a 3, within b 255, q)) := by
  have K1 := Lib.hid (fun V : World => impl_trapsOk a V)
  have K2 := Lib.hid (fun V : World => impl_postOk b V)
  have h1 : within a 3 = if inB a 0 3 = true then a else 0 := rfl
  have h2 : within b 255 = if inB b 0 255 = true then b else 0 := rfl
  generalize inB a 0 3 = x at K1 h1
  generalize inB b 0 255 = y at K2 h2
  have hb0 : Below w.heap.size w ((w.alloc (.cells #[.int .i64 a, .int .i64 b, .bool q] 25)).alloc (.cells #[.int .i64 0, .int .i64 0, .bool false] 25)) := ((Below.refl w.heap.size w).alloc (Nat.le_refl _) (.cells #[.int .i64 a, .int .i64 b, .bool q] 25)).alloc (by simp) (.cells #[.int .i64 0, .int .i64 0, .bool false] 25)
  have t0 : Var ((w.alloc (.cells #[.int .i64 a, .int .i64 b, .bool q] 25)).alloc (.cells #[.int .i64 0, .int .i64 0, .bool false] 25)) w.heap.size [.int .i64 a, .int .i64 b, .bool q] := (Var.new w [.int .i64 a, .int .i64 b, .bool q] 25).below ((Below.refl _ _).alloc (Nat.le_refl _) _) (by simp)
  have t1 : Var ((w.alloc (.cells #[.int .i64 a, .int .i64 b, .bool q] 25)).alloc (.cells #[.int .i64 0, .int .i64 0, .bool false] 25)) (w.heap.size + 1) [.int .i64 0, .int .i64 0, .bool false] := by
    have := Var.new (w.alloc (.cells #[.int .i64 a, .int .i64 b, .bool q] 25)) [.int .i64 0, .int .i64 0, .bool false] 25
    simpa using this
  cases x
  · cases y
    · have HV := Lib.hid (show (within a 3, within b 255, q) = (0, 0, q) from by rw [h1, h2]; rfl)
      have HBF := Lib.hid ((((((hb0.setCell (p := ⟨w.heap.size, 0, none⟩) (by simp) (.int .i64 0)).setCell (p := ⟨w.heap.size, 1, none⟩) (by simp) (.int .i64 0)).setCell (p := ⟨w.heap.size + 1, 0, none⟩) (by simp) (.int .i64 0)).setCell (p := ⟨w.heap.size + 1, 1, none⟩) (by simp) (.int .i64 0)).setCell (p := ⟨w.heap.size + 1, 2, none⟩) (by simp) (.bool q)))
      have R := (((((t1.far (b' := w.heap.size) (by omega) 0 (.int .i64 0)).far (b' := w.heap.size) (by omega) 1 (.int .i64 0)).set 0 (.int .i64 0)).set 1 (.int .i64 0)).set 2 (.bool q))
      have v0 := t0.cell 0 (v := .int .i64 a) rfl
      have v1 := t0.cell 1 (v := .int .i64 b) rfl
      have v2 := t0.cell 2 (v := .bool q) rfl
      have f0 := t0.loose 0 (v := .int .i64 a) rfl
      have f1 := t0.loose 1 (v := .int .i64 b) rfl
      have u0 := t1.cell 0 (v := .int .i64 0) rfl
      have g0 := t1.loose 0 (v := .int .i64 0) rfl
      have u1 := t1.cell 1 (v := .int .i64 0) rfl
      have g1 := t1.loose 1 (v := .int .i64 0) rfl
      have u2 := t1.cell 2 (v := .bool false) rfl
      have g2 := t1.loose 2 (v := .bool false) rfl
      have r0 := R.cell 0 (v := .int .i64 0) rfl
      have r1 := R.cell 1 (v := .int .i64 0) rfl
      have r2 := R.cell 2 (v := .bool q) rfl
      clear h1 h2 hb0 t0 t1 R
      go_enter Try.func42, Try.ntmps42
      go_wp2_with fail
      generalize (w.alloc (.cells #[.int .i64 a, .int .i64 b, .bool q] 25)).alloc (.cells #[.int .i64 0, .int .i64 0, .bool false] 25) = W0 at HBF v0 v1 v2 f0 f1 u0 u1 u2 g0 g1 g2 r0 r1 r2 ⊢
      refine (K1.out _).mono ?_
      rintro e w' ⟨rfl, rfl⟩
      go_wp2_with fail
      refine (K2.out _).mono ?_
      rintro e w' ⟨rfl, rfl⟩
      go_wp2_with fail
      generalize (((((W0).setCell ⟨w.heap.size, 0, none⟩ (.int .i64 0)).setCell ⟨w.heap.size, 1, none⟩ (.int .i64 0)).setCell ⟨w.heap.size + 1, 0, none⟩ (.int .i64 0)).setCell ⟨w.heap.size + 1, 1, none⟩ (.int .i64 0)).setCell ⟨w.heap.size + 1, 2, none⟩ (.bool q) = WF at r0 r1 r2 HBF ⊢
      exact bodyPost_ret (v := .agg #[.int .i64 0, .int .i64 0, .bool q]) (by simp [results, Try.results42, go_sem, r0, r1, r2]) rfl ⟨by rw [HV.out], HBF.out⟩
    · have HV := Lib.hid (show (within a 3, within b 255, q) = (0, b, q) from by rw [h1, h2]; rfl)
      have HBF := Lib.hid (((((hb0.setCell (p := ⟨w.heap.size, 0, none⟩) (by simp) (.int .i64 0)).setCell (p := ⟨w.heap.size + 1, 0, none⟩) (by simp) (.int .i64 0)).setCell (p := ⟨w.heap.size + 1, 1, none⟩) (by simp) (.int .i64 b)).setCell (p := ⟨w.heap.size + 1, 2, none⟩) (by simp) (.bool q)))
      have R := ((((t1.far (b' := w.heap.size) (by omega) 0 (.int .i64 0)).set 0 (.int .i64 0)).set 1 (.int .i64 b)).set 2 (.bool q))
      have v0 := t0.cell 0 (v := .int .i64 a) rfl
      have v1 := t0.cell 1 (v := .int .i64 b) rfl
      have v2 := t0.cell 2 (v := .bool q) rfl
      have f0 := t0.loose 0 (v := .int .i64 a) rfl
      have f1 := t0.loose 1 (v := .int .i64 b) rfl
      have u0 := t1.cell 0 (v := .int .i64 0) rfl
      have g0 := t1.loose 0 (v := .int .i64 0) rfl
      have u1 := t1.cell 1 (v := .int .i64 0) rfl
      have g1 := t1.loose 1 (v := .int .i64 0) rfl
      have u2 := t1.cell 2 (v := .bool false) rfl
      have g2 := t1.loose 2 (v := .bool false) rfl
      have r0 := R.cell 0 (v := .int .i64 0) rfl
      have r1 := R.cell 1 (v := .int .i64 b) rfl
      have r2 := R.cell 2 (v := .bool q) rfl
      clear h1 h2 hb0 t0 t1 R
      go_enter Try.func42, Try.ntmps42
      go_wp2_with fail
      generalize (w.alloc (.cells #[.int .i64 a, .int .i64 b, .bool q] 25)).alloc (.cells #[.int .i64 0, .int .i64 0, .bool false] 25) = W0 at HBF v0 v1 v2 f0 f1 u0 u1 u2 g0 g1 g2 r0 r1 r2 ⊢
      refine (K1.out _).mono ?_
      rintro e w' ⟨rfl, rfl⟩
      go_wp2_with fail
      refine (K2.out _).mono ?_
      rintro e w' ⟨rfl, rfl⟩
      go_wp2_with fail
      generalize ((((W0).setCell ⟨w.heap.size, 0, none⟩ (.int .i64 0)).setCell ⟨w.heap.size + 1, 0, none⟩ (.int .i64 0)).setCell ⟨w.heap.size + 1, 1, none⟩ (.int .i64 b)).setCell ⟨w.heap.size + 1, 2, none⟩ (.bool q) = WF at r0 r1 r2 HBF ⊢
      exact bodyPost_ret (v := .agg #[.int .i64 0, .int .i64 b, .bool q]) (by simp [results, Try.results42, go_sem, r0, r1, r2]) rfl ⟨by rw [HV.out], HBF.out⟩
  · cases y
    · have HV := Lib.hid (show (within a 3, within b 255, q) = (a, 0, q) from by rw [h1, h2]; rfl)
      have HBF := Lib.hid (((((hb0.setCell (p := ⟨w.heap.size, 1, none⟩) (by simp) (.int .i64 0)).setCell (p := ⟨w.heap.size + 1, 0, none⟩) (by simp) (.int .i64 a)).setCell (p := ⟨w.heap.size + 1, 1, none⟩) (by simp) (.int .i64 0)).setCell (p := ⟨w.heap.size + 1, 2, none⟩) (by simp) (.bool q)))
      have R := ((((t1.far (b' := w.heap.size) (by omega) 1 (.int .i64 0)).set 0 (.int .i64 a)).set 1 (.int .i64 0)).set 2 (.bool q))
      have v0 := t0.cell 0 (v := .int .i64 a) rfl
      have v1 := t0.cell 1 (v := .int .i64 b) rfl
      have v2 := t0.cell 2 (v := .bool q) rfl
      have f0 := t0.loose 0 (v := .int .i64 a) rfl
      have f1 := t0.loose 1 (v := .int .i64 b) rfl
      have u0 := t1.cell 0 (v := .int .i64 0) rfl
      have g0 := t1.loose 0 (v := .int .i64 0) rfl
      have u1 := t1.cell 1 (v := .int .i64 0) rfl
      have g1 := t1.loose 1 (v := .int .i64 0) rfl
      have u2 := t1.cell 2 (v := .bool false) rfl
      have g2 := t1.loose 2 (v := .bool false) rfl
      have r0 := R.cell 0 (v := .int .i64 a) rfl
      have r1 := R.cell 1 (v := .int .i64 0) rfl
      have r2 := R.cell 2 (v := .bool q) rfl
      clear h1 h2 hb0 t0 t1 R
      go_enter Try.func42, Try.ntmps42
      go_wp2_with fail
      generalize (w.alloc (.cells #[.int .i64 a, .int .i64 b, .bool q] 25)).alloc (.cells #[.int .i64 0, .int .i64 0, .bool false] 25) = W0 at HBF v0 v1 v2 f0 f1 u0 u1 u2 g0 g1 g2 r0 r1 r2 ⊢
      refine (K1.out _).mono ?_
      rintro e w' ⟨rfl, rfl⟩
      go_wp2_with fail
      refine (K2.out _).mono ?_
      rintro e w' ⟨rfl, rfl⟩
      go_wp2_with fail
      generalize ((((W0).setCell ⟨w.heap.size, 1, none⟩ (.int .i64 0)).setCell ⟨w.heap.size + 1, 0, none⟩ (.int .i64 a)).setCell ⟨w.heap.size + 1, 1, none⟩ (.int .i64 0)).setCell ⟨w.heap.size + 1, 2, none⟩ (.bool q) = WF at r0 r1 r2 HBF ⊢
      exact bodyPost_ret (v := .agg #[.int .i64 a, .int .i64 0, .bool q]) (by simp [results, Try.results42, go_sem, r0, r1, r2]) rfl ⟨by rw [HV.out], HBF.out⟩
    · have HV := Lib.hid (show (within a 3, within b 255, q) = (a, b, q) from by rw [h1, h2]; rfl)
      have HBF := Lib.hid ((((hb0.setCell (p := ⟨w.heap.size + 1, 0, none⟩) (by simp) (.int .i64 a)).setCell (p := ⟨w.heap.size + 1, 1, none⟩) (by simp) (.int .i64 b)).setCell (p := ⟨w.heap.size + 1, 2, none⟩) (by simp) (.bool q)))
      have R := (((t1.set 0 (.int .i64 a)).set 1 (.int .i64 b)).set 2 (.bool q))
      have v0 := t0.cell 0 (v := .int .i64 a) rfl
      have v1 := t0.cell 1 (v := .int .i64 b) rfl
      have v2 := t0.cell 2 (v := .bool q) rfl
      have f0 := t0.loose 0 (v := .int .i64 a) rfl
      have f1 := t0.loose 1 (v := .int .i64 b) rfl
      have u0 := t1.cell 0 (v := .int .i64 0) rfl
      have g0 := t1.loose 0 (v := .int .i64 0) rfl
      have u1 := t1.cell 1 (v := .int .i64 0) rfl
      have g1 := t1.loose 1 (v := .int .i64 0) rfl
      have u2 := t1.cell 2 (v := .bool false) rfl
      have g2 := t1.loose 2 (v := .bool false) rfl
      have r0 := R.cell 0 (v := .int .i64 a) rfl
      have r1 := R.cell 1 (v := .int .i64 b) rfl
      have r2 := R.cell 2 (v := .bool q) rfl
      clear h1 h2 hb0 t0 t1 R
      go_enter Try.func42, Try.ntmps42
      go_wp2_with fail
      generalize (w.alloc (.cells #[.int .i64 a, .int .i64 b, .bool q] 25)).alloc (.cells #[.int .i64 0, .int .i64 0, .bool false] 25) = W0 at HBF v0 v1 v2 f0 f1 u0 u1 u2 g0 g1 g2 r0 r1 r2 ⊢
      refine (K1.out _).mono ?_
      rintro e w' ⟨rfl, rfl⟩
      go_wp2_with fail
      refine (K2.out _).mono ?_
      rintro e w' ⟨rfl, rfl⟩
      go_wp2_with fail
      generalize (((W0).setCell ⟨w.heap.size + 1, 0, none⟩ (.int .i64 a)).setCell ⟨w.heap.size + 1, 1, none⟩ (.int .i64 b)).setCell ⟨w.heap.size + 1, 2, none⟩ (.bool q) = WF at r0 r1 r2 HBF ⊢
      exact bodyPost_ret (v := .agg #[.int .i64 a, .int .i64 b, .bool q]) (by simp [results, Try.results42, go_sem, r0, r1, r2]) rfl ⟨by rw [HV.out], HBF.out⟩

theorem bv_less (a b m : BitVec 64) (h : a &&& m = a) : a &&& ~~~b = a &&& (m ^^^ b) := by
  rw [← h]
  ext i hi
  simp only [BitVec.getElem_and, BitVec.getElem_not, BitVec.getElem_xor]
  cases a[i] <;> cases m[i] <;> cases b[i] <;> rfl
theorem in_255 : ∀ n : Fin 256, BitVec.ofInt 64 (n.val : Int) &&& 255#64 = BitVec.ofInt 64 (n.val : Int) := by decide +kernel
theorem xor_255 : ∀ n : Fin 256, BitVec.ofInt 64 (bits .xor .i64 255 (n.val : Int)) = 255#64 ^^^ BitVec.ofInt 64 (n.val : Int) := by decide +kernel
theorem within_nat (n : Int) (m : Nat) : ∃ k : Nat, k ≤ m ∧ within n (m : Int) = (k : Int) := by
  unfold within
  cases h : inB n 0 (m : Int)
  · exact ⟨0, Nat.zero_le _, rfl⟩
  · obtain ⟨h1, h2⟩ := inB_iff.1 h
    exact ⟨n.toNat, by omega, by simp; omega⟩
theorem andNot_255 (u v : Int) : bits .andNot .i64 (within u 255) (within v 255) = bits .and .i64 (within u 255) (bits .xor .i64 255 (within v 255)) := by
  obtain ⟨k, hk, e1⟩ : ∃ n : Nat, n ≤ 255 ∧ within u 255 = (n : Int) := within_nat u 255
  obtain ⟨j, hj, e2⟩ : ∃ n : Nat, n ≤ 255 ∧ within v 255 = (n : Int) := within_nat v 255
  rw [e1, e2]
  have h1 := in_255 ⟨k, by omega⟩
  have h2 := xor_255 ⟨j, by omega⟩
  dsimp only at h1 h2
  have h3 : BitVec.ofInt 64 (k : Int) &&& ~~~BitVec.ofInt 64 (j : Int) = BitVec.ofInt 64 (k : Int) &&& BitVec.ofInt 64 (bits .xor .i64 255 (j : Int)) := (bv_less _ _ _ h1).trans (by rw [h2])
  exact congrArg (fun z : BitVec 64 => IntKind.i64.wrap z.toNat) h3
theorem four_all : ∀ x y : Fin 4, bits .andNot .i64 (x.val : Int) (y.val : Int) = bits .and .i64 (x.val : Int) (bits .xor .i64 3 (y.val : Int)) := by decide +kernel
theorem andNot_3 (u v : Int) : bits .andNot .i64 (within u 3) (within v 3) = bits .and .i64 (within u 3) (bits .xor .i64 3 (within v 3)) := by
  obtain ⟨k, hk, e1⟩ : ∃ n : Nat, n ≤ 3 ∧ within u 3 = (n : Int) := within_nat u 3
  obtain ⟨j, hj, e2⟩ : ∃ n : Nat, n ≤ 3 ∧ within v 3 = (n : Int) := within_nat v 3
  rw [e1, e2]
  exact four_all ⟨k, by omega⟩ ⟨j, by omega⟩

set_option maxRecDepth 100000 in
set_option maxHeartbeats 8000000 in
theorem impl_grants (a b : Int) (q : Bool) (a' b' : Int) (q' : Bool) (w : World) (ws : wfC (a, b, q)) (wu : wfC (a', b', q')) :
    Calls Try.prog 23 #[.agg #[.int .i64 a, .int .i64 b, .bool q], .agg #[.int .i64 a', .int .i64 b', .bool q']] w fun e w' => e = .returned (.bool (grants (a, b, q) (a', b', q'))) ∧ Below w.heap.size w w' := by
  have h1 := fun V : World => impl_inRange a b q V
  have h2 := fun V : World => impl_inRange a' b' q' V
  have hv : grants (a, b, q) (a', b', q') = ((bits .andNot .i64 (within a' 3) (within a 3) != 0) || (bits .andNot .i64 (within b 255) (within b' 255) != 0) || (q && !q')) := by rw [andNot_3, andNot_255]; rfl
  generalize within a 3 = x at h1 hv
  generalize within a' 3 = x' at h2 hv
  generalize within b 255 = y at h1 hv
  generalize within b' 255 = y' at h2 hv
  obtain ⟨c1, hc1⟩ : ∃ c, (bits .andNot .i64 x' x != 0) = c := ⟨_, rfl⟩
  obtain ⟨c2, hc2⟩ : ∃ c, (bits .andNot .i64 y y' != 0) = c := ⟨_, rfl⟩
  rw [hc1, hc2] at hv
  have H1 := Lib.hid h1
  have H2 := Lib.hid h2
  have HV := Lib.hid hv
  have HB0 := Lib.hid (((Below.refl w.heap.size w).alloc (Nat.le_refl _) (.cells #[.int .i64 a, .int .i64 b, .bool q] 25)).alloc (by simp) (.cells #[.int .i64 a', .int .i64 b', .bool q'] 25))
  have t0 : Var ((w.alloc (.cells #[.int .i64 a, .int .i64 b, .bool q] 25)).alloc (.cells #[.int .i64 a', .int .i64 b', .bool q'] 25)) w.heap.size [.int .i64 a, .int .i64 b, .bool q] := (Var.new w [.int .i64 a, .int .i64 b, .bool q] 25).below ((Below.refl _ _).alloc (Nat.le_refl _) _) (by simp)
  have t1 : Var ((w.alloc (.cells #[.int .i64 a, .int .i64 b, .bool q] 25)).alloc (.cells #[.int .i64 a', .int .i64 b', .bool q'] 25)) (w.heap.size + 1) [.int .i64 a', .int .i64 b', .bool q'] := by
    have := Var.new (w.alloc (.cells #[.int .i64 a, .int .i64 b, .bool q] 25)) [.int .i64 a', .int .i64 b', .bool q'] 25
    simpa using this
  have HT0 := Lib.hid (And.intro t0 t1)
  clear h1 h2 hv ws wu t0 t1
  go_enter Try.func23, Try.ntmps23
  go_wp2_with fail
  generalize (w.alloc (.cells #[.int .i64 a, .int .i64 b, .bool q] 25)).alloc (.cells #[.int .i64 a', .int .i64 b', .bool q'] 25) = W0 at HB0 HT0 ⊢
  refine Ord.wp_region_tree (fun _ => True) (.two 0 (.two 1 (.alone 2 (.alone 3 (.alone 4 (.alone 5 .nil)))) 2 (.alone 1 (.alone 3 (.alone 4 (.alone 5 .nil))))) 2 (.alone 0 (.alone 1 (.alone 3 (.alone 4 (.alone 5 .nil)))))) (by kernel_rfl) (by kernel_rfl) (by kernel_rfl) trivial ?_
  have HBd : Hid (Below w.heap.size w W0.drew) := Lib.hid HB0.out.drew
  have HTd : Hid (Var W0.drew w.heap.size [.int .i64 a, .int .i64 b, .bool q] ∧ Var W0.drew (w.heap.size + 1) [.int .i64 a', .int .i64 b', .bool q']) := HT0
  clear HB0 HT0
  generalize W0.drew = V0 at HBd HTd ⊢
  refine Ord.ot_two rfl rfl (fun K hK => ?_) (fun K hK => ?_)
  · have v0 := HTd.out.1.cell 0 (v := .int .i64 a) rfl
    have v1 := HTd.out.1.cell 1 (v := .int .i64 b) rfl
    have v2 := HTd.out.1.cell 2 (v := .bool q) rfl
    go_simp
    refine hK.out _ _ trivial ?_
    clear hK K v0 v1 v2
    (try simp only [Act.put, List.setIfInBounds_toArray, List.set_cons_zero, List.set_cons_succ])
    refine Ord.ot_two rfl rfl (fun K hK => ?_) (fun K hK => ?_)
    · go_simp
      refine (H1.out _).mono ?_
      rintro e V1 ⟨rfl, hb⟩
      have hb9 := Lib.hid (btr HBd.out hb)
      have ht9 := Lib.hid (And.intro (HTd.out.1.below hb (by have := HTd.out.1.2; omega)) (HTd.out.2.below hb (by have := HTd.out.2.2; omega)))
      clear hb HBd HTd
      have HBd := hb9
      have HTd := ht9
      clear hb9 ht9
      refine hK.out _ _ trivial ?_
      clear hK K
      (try simp only [Act.put, List.setIfInBounds_toArray, List.set_cons_zero, List.set_cons_succ])
      refine Ord.ot_alone rfl (fun K hK => ?_)
      have v0 := HTd.out.2.cell 0 (v := .int .i64 a') rfl
      have v1 := HTd.out.2.cell 1 (v := .int .i64 b') rfl
      have v2 := HTd.out.2.cell 2 (v := .bool q') rfl
      go_simp
      refine hK.out _ _ trivial ?_
      clear hK K v0 v1 v2
      (try simp only [Act.put, List.setIfInBounds_toArray, List.set_cons_zero, List.set_cons_succ])
      refine Ord.ot_alone rfl (fun K hK => ?_)
      go_simp
      refine (H2.out _).mono ?_
      rintro e V2 ⟨rfl, hb⟩
      have hb9 := Lib.hid (btr HBd.out hb)
      have ht9 := Lib.hid (And.intro (HTd.out.1.below hb (by have := HTd.out.1.2; omega)) (HTd.out.2.below hb (by have := HTd.out.2.2; omega)))
      clear hb HBd HTd
      have HBd := hb9
      have HTd := ht9
      clear hb9 ht9
      refine hK.out _ _ trivial ?_
      clear hK K
      (try simp only [Act.put, List.setIfInBounds_toArray, List.set_cons_zero, List.set_cons_succ])
      refine Ord.ot_alone rfl (fun K hK => ?_)
      have v0 := HTd.out.1.cell 0 (v := .int .i64 a) rfl
      have v1 := HTd.out.1.cell 1 (v := .int .i64 b) rfl
      have v2 := HTd.out.1.cell 2 (v := .bool q) rfl
      have f0 := HTd.out.1.loose 0 (v := .int .i64 a) rfl
      have f1 := HTd.out.1.loose 1 (v := .int .i64 b) rfl
      have f2 := HTd.out.1.loose 2 (v := .bool q) rfl
      have hb9 := Lib.hid ((((HBd.out).setCell (p := ⟨w.heap.size, 0, none⟩) (by simp) (.int .i64 x)).setCell (p := ⟨w.heap.size, 1, none⟩) (by simp) (.int .i64 y)).setCell (p := ⟨w.heap.size, 2, none⟩) (by simp) (.bool q))
      have ht9 := Lib.hid (And.intro ((((HTd.out.1).set 0 (.int .i64 x)).set 1 (.int .i64 y)).set 2 (.bool q)) ((((HTd.out.2).far (b' := w.heap.size) (by omega) 0 (.int .i64 x)).far (b' := w.heap.size) (by omega) 1 (.int .i64 y)).far (b' := w.heap.size) (by omega) 2 (.bool q)))
      change Hid (Var ((((V2).setCell ⟨w.heap.size, 0, none⟩ (.int .i64 x)).setCell ⟨w.heap.size, 1, none⟩ (.int .i64 y)).setCell ⟨w.heap.size, 2, none⟩ (.bool q)) w.heap.size [.int .i64 x, .int .i64 y, .bool q] ∧ Var ((((V2).setCell ⟨w.heap.size, 0, none⟩ (.int .i64 x)).setCell ⟨w.heap.size, 1, none⟩ (.int .i64 y)).setCell ⟨w.heap.size, 2, none⟩ (.bool q)) (w.heap.size + 1) [.int .i64 a', .int .i64 b', .bool q']) at ht9
      go_simp
      refine hK.out _ _ trivial ?_
      clear hK K v0 v1 v2 f0 f1 f2 HBd HTd
      have HBd := hb9
      have HTd := ht9
      clear hb9 ht9
      generalize (((V2).setCell ⟨w.heap.size, 0, none⟩ (.int .i64 x)).setCell ⟨w.heap.size, 1, none⟩ (.int .i64 y)).setCell ⟨w.heap.size, 2, none⟩ (.bool q) = V3 at HBd HTd ⊢
      (try simp only [Act.put, List.setIfInBounds_toArray, List.set_cons_zero, List.set_cons_succ])
      refine Ord.ot_alone rfl (fun K hK => ?_)
      have v0 := HTd.out.2.cell 0 (v := .int .i64 a') rfl
      have v1 := HTd.out.2.cell 1 (v := .int .i64 b') rfl
      have v2 := HTd.out.2.cell 2 (v := .bool q') rfl
      have f0 := HTd.out.2.loose 0 (v := .int .i64 a') rfl
      have f1 := HTd.out.2.loose 1 (v := .int .i64 b') rfl
      have f2 := HTd.out.2.loose 2 (v := .bool q') rfl
      have hb9 := Lib.hid ((((HBd.out).setCell (p := ⟨w.heap.size + 1, 0, none⟩) (by simp) (.int .i64 x')).setCell (p := ⟨w.heap.size + 1, 1, none⟩) (by simp) (.int .i64 y')).setCell (p := ⟨w.heap.size + 1, 2, none⟩) (by simp) (.bool q'))
      have ht9 := Lib.hid (And.intro ((((HTd.out.1).far (b' := w.heap.size + 1) (by omega) 0 (.int .i64 x')).far (b' := w.heap.size + 1) (by omega) 1 (.int .i64 y')).far (b' := w.heap.size + 1) (by omega) 2 (.bool q')) ((((HTd.out.2).set 0 (.int .i64 x')).set 1 (.int .i64 y')).set 2 (.bool q')))
      change Hid (Var ((((V3).setCell ⟨w.heap.size + 1, 0, none⟩ (.int .i64 x')).setCell ⟨w.heap.size + 1, 1, none⟩ (.int .i64 y')).setCell ⟨w.heap.size + 1, 2, none⟩ (.bool q')) w.heap.size [.int .i64 x, .int .i64 y, .bool q] ∧ Var ((((V3).setCell ⟨w.heap.size + 1, 0, none⟩ (.int .i64 x')).setCell ⟨w.heap.size + 1, 1, none⟩ (.int .i64 y')).setCell ⟨w.heap.size + 1, 2, none⟩ (.bool q')) (w.heap.size + 1) [.int .i64 x', .int .i64 y', .bool q']) at ht9
      go_simp
      refine hK.out _ _ trivial ?_
      clear hK K v0 v1 v2 f0 f1 f2 HBd HTd
      have HBd := hb9
      have HTd := ht9
      clear hb9 ht9
      generalize (((V3).setCell ⟨w.heap.size + 1, 0, none⟩ (.int .i64 x')).setCell ⟨w.heap.size + 1, 1, none⟩ (.int .i64 y')).setCell ⟨w.heap.size + 1, 2, none⟩ (.bool q') = V4 at HBd HTd ⊢
      (try simp only [Act.put, List.setIfInBounds_toArray, List.set_cons_zero, List.set_cons_succ])
      refine Ord.ot_nil ?_
      have v0 := HTd.out.1.cell 0 (v := .int .i64 x) rfl
      have v1 := HTd.out.1.cell 1 (v := .int .i64 y) rfl
      have v2 := HTd.out.1.cell 2 (v := .bool q) rfl
      have u0 := HTd.out.2.cell 0 (v := .int .i64 x') rfl
      have u1 := HTd.out.2.cell 1 (v := .int .i64 y') rfl
      have u2 := HTd.out.2.cell 2 (v := .bool q') rfl
      clear HTd
      cases c1 <;> cases c2 <;> cases q
      all_goals
        go_wp2_with fail
        go_ret
        exact ⟨by rw [HV.out]; rfl, HBd.out⟩
    · have v0 := HTd.out.2.cell 0 (v := .int .i64 a') rfl
      have v1 := HTd.out.2.cell 1 (v := .int .i64 b') rfl
      have v2 := HTd.out.2.cell 2 (v := .bool q') rfl
      go_simp
      refine hK.out _ _ trivial ?_
      clear hK K v0 v1 v2
      (try simp only [Act.put, List.setIfInBounds_toArray, List.set_cons_zero, List.set_cons_succ])
      refine Ord.ot_alone rfl (fun K hK => ?_)
      go_simp
      refine (H1.out _).mono ?_
      rintro e V1 ⟨rfl, hb⟩
      have hb9 := Lib.hid (btr HBd.out hb)
      have ht9 := Lib.hid (And.intro (HTd.out.1.below hb (by have := HTd.out.1.2; omega)) (HTd.out.2.below hb (by have := HTd.out.2.2; omega)))
      clear hb HBd HTd
      have HBd := hb9
      have HTd := ht9
      clear hb9 ht9
      refine hK.out _ _ trivial ?_
      clear hK K
      (try simp only [Act.put, List.setIfInBounds_toArray, List.set_cons_zero, List.set_cons_succ])
      refine Ord.ot_alone rfl (fun K hK => ?_)
      go_simp
      refine (H2.out _).mono ?_
      rintro e V2 ⟨rfl, hb⟩
      have hb9 := Lib.hid (btr HBd.out hb)
      have ht9 := Lib.hid (And.intro (HTd.out.1.below hb (by have := HTd.out.1.2; omega)) (HTd.out.2.below hb (by have := HTd.out.2.2; omega)))
      clear hb HBd HTd
      have HBd := hb9
      have HTd := ht9
      clear hb9 ht9
      refine hK.out _ _ trivial ?_
      clear hK K
      (try simp only [Act.put, List.setIfInBounds_toArray, List.set_cons_zero, List.set_cons_succ])
      refine Ord.ot_alone rfl (fun K hK => ?_)
      have v0 := HTd.out.1.cell 0 (v := .int .i64 a) rfl
      have v1 := HTd.out.1.cell 1 (v := .int .i64 b) rfl
      have v2 := HTd.out.1.cell 2 (v := .bool q) rfl
      have f0 := HTd.out.1.loose 0 (v := .int .i64 a) rfl
      have f1 := HTd.out.1.loose 1 (v := .int .i64 b) rfl
      have f2 := HTd.out.1.loose 2 (v := .bool q) rfl
      have hb9 := Lib.hid ((((HBd.out).setCell (p := ⟨w.heap.size, 0, none⟩) (by simp) (.int .i64 x)).setCell (p := ⟨w.heap.size, 1, none⟩) (by simp) (.int .i64 y)).setCell (p := ⟨w.heap.size, 2, none⟩) (by simp) (.bool q))
      have ht9 := Lib.hid (And.intro ((((HTd.out.1).set 0 (.int .i64 x)).set 1 (.int .i64 y)).set 2 (.bool q)) ((((HTd.out.2).far (b' := w.heap.size) (by omega) 0 (.int .i64 x)).far (b' := w.heap.size) (by omega) 1 (.int .i64 y)).far (b' := w.heap.size) (by omega) 2 (.bool q)))
      change Hid (Var ((((V2).setCell ⟨w.heap.size, 0, none⟩ (.int .i64 x)).setCell ⟨w.heap.size, 1, none⟩ (.int .i64 y)).setCell ⟨w.heap.size, 2, none⟩ (.bool q)) w.heap.size [.int .i64 x, .int .i64 y, .bool q] ∧ Var ((((V2).setCell ⟨w.heap.size, 0, none⟩ (.int .i64 x)).setCell ⟨w.heap.size, 1, none⟩ (.int .i64 y)).setCell ⟨w.heap.size, 2, none⟩ (.bool q)) (w.heap.size + 1) [.int .i64 a', .int .i64 b', .bool q']) at ht9
      go_simp
      refine hK.out _ _ trivial ?_
      clear hK K v0 v1 v2 f0 f1 f2 HBd HTd
      have HBd := hb9
      have HTd := ht9
      clear hb9 ht9
      generalize (((V2).setCell ⟨w.heap.size, 0, none⟩ (.int .i64 x)).setCell ⟨w.heap.size, 1, none⟩ (.int .i64 y)).setCell ⟨w.heap.size, 2, none⟩ (.bool q) = V3 at HBd HTd ⊢
      (try simp only [Act.put, List.setIfInBounds_toArray, List.set_cons_zero, List.set_cons_succ])
      refine Ord.ot_alone rfl (fun K hK => ?_)
      have v0 := HTd.out.2.cell 0 (v := .int .i64 a') rfl
      have v1 := HTd.out.2.cell 1 (v := .int .i64 b') rfl
      have v2 := HTd.out.2.cell 2 (v := .bool q') rfl
      have f0 := HTd.out.2.loose 0 (v := .int .i64 a') rfl
      have f1 := HTd.out.2.loose 1 (v := .int .i64 b') rfl
      have f2 := HTd.out.2.loose 2 (v := .bool q') rfl
      have hb9 := Lib.hid ((((HBd.out).setCell (p := ⟨w.heap.size + 1, 0, none⟩) (by simp) (.int .i64 x')).setCell (p := ⟨w.heap.size + 1, 1, none⟩) (by simp) (.int .i64 y')).setCell (p := ⟨w.heap.size + 1, 2, none⟩) (by simp) (.bool q'))
      have ht9 := Lib.hid (And.intro ((((HTd.out.1).far (b' := w.heap.size + 1) (by omega) 0 (.int .i64 x')).far (b' := w.heap.size + 1) (by omega) 1 (.int .i64 y')).far (b' := w.heap.size + 1) (by omega) 2 (.bool q')) ((((HTd.out.2).set 0 (.int .i64 x')).set 1 (.int .i64 y')).set 2 (.bool q')))
      change Hid (Var ((((V3).setCell ⟨w.heap.size + 1, 0, none⟩ (.int .i64 x')).setCell ⟨w.heap.size + 1, 1, none⟩ (.int .i64 y')).setCell ⟨w.heap.size + 1, 2, none⟩ (.bool q')) w.heap.size [.int .i64 x, .int .i64 y, .bool q] ∧ Var ((((V3).setCell ⟨w.heap.size + 1, 0, none⟩ (.int .i64 x')).setCell ⟨w.heap.size + 1, 1, none⟩ (.int .i64 y')).setCell ⟨w.heap.size + 1, 2, none⟩ (.bool q')) (w.heap.size + 1) [.int .i64 x', .int .i64 y', .bool q']) at ht9
      go_simp
      refine hK.out _ _ trivial ?_
      clear hK K v0 v1 v2 f0 f1 f2 HBd HTd
      have HBd := hb9
      have HTd := ht9
      clear hb9 ht9
      generalize (((V3).setCell ⟨w.heap.size + 1, 0, none⟩ (.int .i64 x')).setCell ⟨w.heap.size + 1, 1, none⟩ (.int .i64 y')).setCell ⟨w.heap.size + 1, 2, none⟩ (.bool q') = V4 at HBd HTd ⊢
      (try simp only [Act.put, List.setIfInBounds_toArray, List.set_cons_zero, List.set_cons_succ])
      refine Ord.ot_nil ?_
      have v0 := HTd.out.1.cell 0 (v := .int .i64 x) rfl
      have v1 := HTd.out.1.cell 1 (v := .int .i64 y) rfl
      have v2 := HTd.out.1.cell 2 (v := .bool q) rfl
      have u0 := HTd.out.2.cell 0 (v := .int .i64 x') rfl
      have u1 := HTd.out.2.cell 1 (v := .int .i64 y') rfl
      have u2 := HTd.out.2.cell 2 (v := .bool q') rfl
      clear HTd
      cases c1 <;> cases c2 <;> cases q
      all_goals
        go_wp2_with fail
        go_ret
        exact ⟨by rw [HV.out]; rfl, HBd.out⟩
  · have v0 := HTd.out.2.cell 0 (v := .int .i64 a') rfl
    have v1 := HTd.out.2.cell 1 (v := .int .i64 b') rfl
    have v2 := HTd.out.2.cell 2 (v := .bool q') rfl
    go_simp
    refine hK.out _ _ trivial ?_
    clear hK K v0 v1 v2
    (try simp only [Act.put, List.setIfInBounds_toArray, List.set_cons_zero, List.set_cons_succ])
    refine Ord.ot_alone rfl (fun K hK => ?_)
    have v0 := HTd.out.1.cell 0 (v := .int .i64 a) rfl
    have v1 := HTd.out.1.cell 1 (v := .int .i64 b) rfl
    have v2 := HTd.out.1.cell 2 (v := .bool q) rfl
    go_simp
    refine hK.out _ _ trivial ?_
    clear hK K v0 v1 v2
    (try simp only [Act.put, List.setIfInBounds_toArray, List.set_cons_zero, List.set_cons_succ])
    refine Ord.ot_alone rfl (fun K hK => ?_)
    go_simp
    refine (H1.out _).mono ?_
    rintro e V1 ⟨rfl, hb⟩
    have hb9 := Lib.hid (btr HBd.out hb)
    have ht9 := Lib.hid (And.intro (HTd.out.1.below hb (by have := HTd.out.1.2; omega)) (HTd.out.2.below hb (by have := HTd.out.2.2; omega)))
    clear hb HBd HTd
    have HBd := hb9
    have HTd := ht9
    clear hb9 ht9
    refine hK.out _ _ trivial ?_
    clear hK K
    (try simp only [Act.put, List.setIfInBounds_toArray, List.set_cons_zero, List.set_cons_succ])
    refine Ord.ot_alone rfl (fun K hK => ?_)
    go_simp
    refine (H2.out _).mono ?_
    rintro e V2 ⟨rfl, hb⟩
    have hb9 := Lib.hid (btr HBd.out hb)
    have ht9 := Lib.hid (And.intro (HTd.out.1.below hb (by have := HTd.out.1.2; omega)) (HTd.out.2.below hb (by have := HTd.out.2.2; omega)))
    clear hb HBd HTd
    have HBd := hb9
    have HTd := ht9
    clear hb9 ht9
    refine hK.out _ _ trivial ?_
    clear hK K
    (try simp only [Act.put, List.setIfInBounds_toArray, List.set_cons_zero, List.set_cons_succ])
    refine Ord.ot_alone rfl (fun K hK => ?_)
    have v0 := HTd.out.1.cell 0 (v := .int .i64 a) rfl
    have v1 := HTd.out.1.cell 1 (v := .int .i64 b) rfl
    have v2 := HTd.out.1.cell 2 (v := .bool q) rfl
    have f0 := HTd.out.1.loose 0 (v := .int .i64 a) rfl
    have f1 := HTd.out.1.loose 1 (v := .int .i64 b) rfl
    have f2 := HTd.out.1.loose 2 (v := .bool q) rfl
    have hb9 := Lib.hid ((((HBd.out).setCell (p := ⟨w.heap.size, 0, none⟩) (by simp) (.int .i64 x)).setCell (p := ⟨w.heap.size, 1, none⟩) (by simp) (.int .i64 y)).setCell (p := ⟨w.heap.size, 2, none⟩) (by simp) (.bool q))
    have ht9 := Lib.hid (And.intro ((((HTd.out.1).set 0 (.int .i64 x)).set 1 (.int .i64 y)).set 2 (.bool q)) ((((HTd.out.2).far (b' := w.heap.size) (by omega) 0 (.int .i64 x)).far (b' := w.heap.size) (by omega) 1 (.int .i64 y)).far (b' := w.heap.size) (by omega) 2 (.bool q)))
    change Hid (Var ((((V2).setCell ⟨w.heap.size, 0, none⟩ (.int .i64 x)).setCell ⟨w.heap.size, 1, none⟩ (.int .i64 y)).setCell ⟨w.heap.size, 2, none⟩ (.bool q)) w.heap.size [.int .i64 x, .int .i64 y, .bool q] ∧ Var ((((V2).setCell ⟨w.heap.size, 0, none⟩ (.int .i64 x)).setCell ⟨w.heap.size, 1, none⟩ (.int .i64 y)).setCell ⟨w.heap.size, 2, none⟩ (.bool q)) (w.heap.size + 1) [.int .i64 a', .int .i64 b', .bool q']) at ht9
    go_simp
    refine hK.out _ _ trivial ?_
    clear hK K v0 v1 v2 f0 f1 f2 HBd HTd
    have HBd := hb9
    have HTd := ht9
    clear hb9 ht9
    generalize (((V2).setCell ⟨w.heap.size, 0, none⟩ (.int .i64 x)).setCell ⟨w.heap.size, 1, none⟩ (.int .i64 y)).setCell ⟨w.heap.size, 2, none⟩ (.bool q) = V3 at HBd HTd ⊢
    (try simp only [Act.put, List.setIfInBounds_toArray, List.set_cons_zero, List.set_cons_succ])
    refine Ord.ot_alone rfl (fun K hK => ?_)
    have v0 := HTd.out.2.cell 0 (v := .int .i64 a') rfl
    have v1 := HTd.out.2.cell 1 (v := .int .i64 b') rfl
    have v2 := HTd.out.2.cell 2 (v := .bool q') rfl
    have f0 := HTd.out.2.loose 0 (v := .int .i64 a') rfl
    have f1 := HTd.out.2.loose 1 (v := .int .i64 b') rfl
    have f2 := HTd.out.2.loose 2 (v := .bool q') rfl
    have hb9 := Lib.hid ((((HBd.out).setCell (p := ⟨w.heap.size + 1, 0, none⟩) (by simp) (.int .i64 x')).setCell (p := ⟨w.heap.size + 1, 1, none⟩) (by simp) (.int .i64 y')).setCell (p := ⟨w.heap.size + 1, 2, none⟩) (by simp) (.bool q'))
    have ht9 := Lib.hid (And.intro ((((HTd.out.1).far (b' := w.heap.size + 1) (by omega) 0 (.int .i64 x')).far (b' := w.heap.size + 1) (by omega) 1 (.int .i64 y')).far (b' := w.heap.size + 1) (by omega) 2 (.bool q')) ((((HTd.out.2).set 0 (.int .i64 x')).set 1 (.int .i64 y')).set 2 (.bool q')))
    change Hid (Var ((((V3).setCell ⟨w.heap.size + 1, 0, none⟩ (.int .i64 x')).setCell ⟨w.heap.size + 1, 1, none⟩ (.int .i64 y')).setCell ⟨w.heap.size + 1, 2, none⟩ (.bool q')) w.heap.size [.int .i64 x, .int .i64 y, .bool q] ∧ Var ((((V3).setCell ⟨w.heap.size + 1, 0, none⟩ (.int .i64 x')).setCell ⟨w.heap.size + 1, 1, none⟩ (.int .i64 y')).setCell ⟨w.heap.size + 1, 2, none⟩ (.bool q')) (w.heap.size + 1) [.int .i64 x', .int .i64 y', .bool q']) at ht9
    go_simp
    refine hK.out _ _ trivial ?_
    clear hK K v0 v1 v2 f0 f1 f2 HBd HTd
    have HBd := hb9
    have HTd := ht9
    clear hb9 ht9
    generalize (((V3).setCell ⟨w.heap.size + 1, 0, none⟩ (.int .i64 x')).setCell ⟨w.heap.size + 1, 1, none⟩ (.int .i64 y')).setCell ⟨w.heap.size + 1, 2, none⟩ (.bool q') = V4 at HBd HTd ⊢
    (try simp only [Act.put, List.setIfInBounds_toArray, List.set_cons_zero, List.set_cons_succ])
    refine Ord.ot_nil ?_
    have v0 := HTd.out.1.cell 0 (v := .int .i64 x) rfl
    have v1 := HTd.out.1.cell 1 (v := .int .i64 y) rfl
    have v2 := HTd.out.1.cell 2 (v := .bool q) rfl
    have u0 := HTd.out.2.cell 0 (v := .int .i64 x') rfl
    have u1 := HTd.out.2.cell 1 (v := .int .i64 y') rfl
    have u2 := HTd.out.2.cell 2 (v := .bool q') rfl
    clear HTd
    cases c1 <;> cases c2 <;> cases q
    all_goals
      go_wp2_with fail
      go_ret
      exact ⟨by rw [HV.out]; rfl, HBd.out⟩
end Go.Proofs.Ytgpckcdkehmpiaa.Owns
