/-
  Exits as text: what ExitText computes, and the given model's function; no statement about the project's code stands here. No condition beyond an int's range.
-/
import Derived.Test.YtikamndjelamgaaDoorExit
import Derived.Test.YtikamndjelamgaaDoorOrdT
import Derived.Test.YtikamndjelamgaaDoorDecSpec
import Derived.Lib.ItoaLen
namespace Go.Proofs.YtikamndjelamgaaDoor.Exits
set_option maxRecDepth 100000
open Go.ChangeShapes Go.WideShapes Go.ChangeAt Go.RowKit
open Go.Proofs.YtikamndjelamgaaDoor.Base Go.Proofs.YtikamndjelamgaaDoor.Mem Go.Proofs.YtikamndjelamgaaDoor.Data
set_option linter.unusedVariables false
set_option linter.unusedSimpArgs false

def itoaE (n : Int) : ByteArray := ⟨(Lib.itoa n).toArray⟩
def exitT (s : QT) : ByteArray :=
  if s.1 = 1 then exitName s.1 ++ ⟨#[32]⟩ ++ itoaE s.2.1 ++ (if s.2.2.1 = true then ⟨#[32, 119]⟩ else ⟨#[32, 114]⟩)
  else if s.1 = 2 ∨ s.1 = 3 then exitName s.1 ++ ⟨#[32]⟩ ++ itoaE s.2.2.2
  else exitName s.1
theorem rangeE {x : Int} (h : (Lit.int .i64 x).wf = true) : -9223372036854775808 ≤ x ∧ x ≤ 9223372036854775807 := by
  have hm : IntKind.i64.min = -9223372036854775808 := by decide
  rw [← hm]; simpa [Lit.wf] using h
theorem itoaE_size {x : Int} (h : (Lit.int .i64 x).wf = true) : (itoaE x).size ≤ 21 := by
  have := Lib.itoa_length_le x (rangeE h).1 (rangeE h).2
  simpa [itoaE, ByteArray.size] using this
theorem exitName_size (k : Int) : (exitName k).size ≤ 5 := by
  by_cases h : 0 ≤ k ∧ k ≤ 4
  · have h8 : k = 0 ∨ k = 1 ∨ k = 2 ∨ k = 3 ∨ k = 4 := by omega
    rcases h8 with rfl | rfl | rfl | rfl | rfl <;> decide
  · rw [exitName_out (inB_false.2 (show k < 0 ∨ 4 < k by omega))]; decide

set_option maxRecDepth 100000 in
set_option maxHeartbeats 8000000 in
theorem spec_exitT (k p : Int) (q : Bool) (n : Int) (w : World) (ws : wfQ (k, p, q, n)) :
    Calls Tryd.prog 22 #[.agg #[.int .i64 k, .int .i64 p, .bool q, .int .i64 n]] w fun e w' => e = .returned (.string (exitT (k, p, q, n))) ∧ Below w.heap.size w w' := by
  by_cases h1 : k = 1
  · subst h1
    have hn := fun V : World => spec_exitName 1 V
    have hm := exitName_size 1
    have hd := fun V : World => DecW.decimal_any p (rangeE ws.2.1).1 (rangeE ws.2.1).2 V
    change ∀ V : World, Calls Tryd.prog 36 #[.int .i64 p] V (fun e w' => e = .returned (.string (itoaE p)) ∧ Below V.heap.size V w') at hd
    have hy := itoaE_size ws.2.1
    dsimp only at hy
    have hv : exitT (1, p, q, n) = exitName 1 ++ ⟨#[32]⟩ ++ itoaE p ++ (if q = true then ⟨#[32, 119]⟩ else ⟨#[32, 114]⟩) := rfl
    generalize exitName 1 = m at hn hm hv
    generalize itoaE p = y at hd hy hv
    have f1 : ¬ 9223372036854775807 < m.size + 1 := by omega
    have f2 : ¬ 9223372036854775807 < m.size + 1 + y.size := by omega
    have f3 : ¬ 9223372036854775807 < m.size + 1 + y.size + 2 := by omega
    have HN := Lib.hid hn
    have HD := Lib.hid hd
    have HV := Lib.hid hv
    clear hn hd hv ws
    have hb0 : Below w.heap.size w (w.alloc (.cells #[.int .i64 1, .int .i64 p, .bool q, .int .i64 n] 28)) := (Below.refl _ _).alloc (Nat.le_refl _) _
    have t0 : Var (w.alloc (.cells #[.int .i64 1, .int .i64 p, .bool q, .int .i64 n] 28)) w.heap.size [.int .i64 1, .int .i64 p, .bool q, .int .i64 n] := Var.new w [.int .i64 1, .int .i64 p, .bool q, .int .i64 n] 28
    have hz : w.heap.size < (w.alloc (.cells #[.int .i64 1, .int .i64 p, .bool q, .int .i64 n] 28)).heap.size := by simp
    go_enter Tryd.func22, Tryd.ntmps22
    go_wp2_with fail
    generalize w.alloc (.cells #[.int .i64 1, .int .i64 p, .bool q, .int .i64 n] 28) = W at t0 hb0 hz ⊢
    refine (HN.out _).mono ?_
    rintro e w1 ⟨rfl, hb1⟩
    have HB1 := Lib.hid (btr hb0 hb1)
    have t1 := t0.below hb1 hz
    have v0 := t1.cell 0 (v := .int .i64 1) rfl
    have v1 := t1.cell 1 (v := .int .i64 p) rfl
    have v2 := t1.cell 2 (v := .bool q) rfl
    have v3 := t1.cell 3 (v := .int .i64 n) rfl
    clear hb0 hb1 t0
    cases q
    all_goals
      go_wp2_with fail
      refine (HD.out _).mono ?_
      rintro e w2 ⟨rfl, hb2⟩
      have HB2 := Lib.hid (btr HB1.out hb2)
      clear hb2
      go_wp2_with fail
      go_ret
      exact ⟨by rw [HV.out]; rfl, HB2.out⟩
  · have h1' : (k == 1) = false := by simpa using h1
    by_cases h2 : k = 2
    · subst h2
      have hn := fun V : World => spec_exitName 2 V
      have hm := exitName_size 2
      have hd := fun V : World => DecW.decimal_any n (rangeE ws.2.2.2).1 (rangeE ws.2.2.2).2 V
      change ∀ V : World, Calls Tryd.prog 36 #[.int .i64 n] V (fun e w' => e = .returned (.string (itoaE n)) ∧ Below V.heap.size V w') at hd
      have hy := itoaE_size ws.2.2.2
      dsimp only at hy
      have hv : exitT (2, p, q, n) = exitName 2 ++ ⟨#[32]⟩ ++ itoaE n := rfl
      generalize exitName 2 = m at hn hm hv
      generalize itoaE n = y at hd hy hv
      have f1 : ¬ 9223372036854775807 < m.size + 1 := by omega
      have f2 : ¬ 9223372036854775807 < m.size + 1 + y.size := by omega
      have f3 : ¬ 9223372036854775807 < m.size + 1 + y.size + 2 := by omega
      have HN := Lib.hid hn
      have HD := Lib.hid hd
      have HV := Lib.hid hv
      clear hn hd hv ws
      have hb0 : Below w.heap.size w (w.alloc (.cells #[.int .i64 2, .int .i64 p, .bool q, .int .i64 n] 28)) := (Below.refl _ _).alloc (Nat.le_refl _) _
      have t0 : Var (w.alloc (.cells #[.int .i64 2, .int .i64 p, .bool q, .int .i64 n] 28)) w.heap.size [.int .i64 2, .int .i64 p, .bool q, .int .i64 n] := Var.new w [.int .i64 2, .int .i64 p, .bool q, .int .i64 n] 28
      have hz : w.heap.size < (w.alloc (.cells #[.int .i64 2, .int .i64 p, .bool q, .int .i64 n] 28)).heap.size := by simp
      go_enter Tryd.func22, Tryd.ntmps22
      go_wp2_with fail
      generalize w.alloc (.cells #[.int .i64 2, .int .i64 p, .bool q, .int .i64 n] 28) = W at t0 hb0 hz ⊢
      refine (HN.out _).mono ?_
      rintro e w1 ⟨rfl, hb1⟩
      have HB1 := Lib.hid (btr hb0 hb1)
      have t1 := t0.below hb1 hz
      have v0 := t1.cell 0 (v := .int .i64 2) rfl
      have v1 := t1.cell 1 (v := .int .i64 p) rfl
      have v2 := t1.cell 2 (v := .bool q) rfl
      have v3 := t1.cell 3 (v := .int .i64 n) rfl
      clear hb0 hb1 t0
      go_wp2_with fail
      refine (HD.out _).mono ?_
      rintro e w2 ⟨rfl, hb2⟩
      have HB2 := Lib.hid (btr HB1.out hb2)
      clear hb2
      go_wp2_with fail
      go_ret
      exact ⟨by rw [HV.out]; rfl, HB2.out⟩
    · have h2' : (k == 2) = false := by simpa using h2
      by_cases h3 : k = 3
      · subst h3
        have hn := fun V : World => spec_exitName 3 V
        have hm := exitName_size 3
        have hd := fun V : World => DecW.decimal_any n (rangeE ws.2.2.2).1 (rangeE ws.2.2.2).2 V
        change ∀ V : World, Calls Tryd.prog 36 #[.int .i64 n] V (fun e w' => e = .returned (.string (itoaE n)) ∧ Below V.heap.size V w') at hd
        have hy := itoaE_size ws.2.2.2
        dsimp only at hy
        have hv : exitT (3, p, q, n) = exitName 3 ++ ⟨#[32]⟩ ++ itoaE n := rfl
        generalize exitName 3 = m at hn hm hv
        generalize itoaE n = y at hd hy hv
        have f1 : ¬ 9223372036854775807 < m.size + 1 := by omega
        have f2 : ¬ 9223372036854775807 < m.size + 1 + y.size := by omega
        have f3 : ¬ 9223372036854775807 < m.size + 1 + y.size + 2 := by omega
        have HN := Lib.hid hn
        have HD := Lib.hid hd
        have HV := Lib.hid hv
        clear hn hd hv ws
        have hb0 : Below w.heap.size w (w.alloc (.cells #[.int .i64 3, .int .i64 p, .bool q, .int .i64 n] 28)) := (Below.refl _ _).alloc (Nat.le_refl _) _
        have t0 : Var (w.alloc (.cells #[.int .i64 3, .int .i64 p, .bool q, .int .i64 n] 28)) w.heap.size [.int .i64 3, .int .i64 p, .bool q, .int .i64 n] := Var.new w [.int .i64 3, .int .i64 p, .bool q, .int .i64 n] 28
        have hz : w.heap.size < (w.alloc (.cells #[.int .i64 3, .int .i64 p, .bool q, .int .i64 n] 28)).heap.size := by simp
        go_enter Tryd.func22, Tryd.ntmps22
        go_wp2_with fail
        generalize w.alloc (.cells #[.int .i64 3, .int .i64 p, .bool q, .int .i64 n] 28) = W at t0 hb0 hz ⊢
        refine (HN.out _).mono ?_
        rintro e w1 ⟨rfl, hb1⟩
        have HB1 := Lib.hid (btr hb0 hb1)
        have t1 := t0.below hb1 hz
        have v0 := t1.cell 0 (v := .int .i64 3) rfl
        have v1 := t1.cell 1 (v := .int .i64 p) rfl
        have v2 := t1.cell 2 (v := .bool q) rfl
        have v3 := t1.cell 3 (v := .int .i64 n) rfl
        clear hb0 hb1 t0
        go_wp2_with fail
        refine (HD.out _).mono ?_
        rintro e w2 ⟨rfl, hb2⟩
        have HB2 := Lib.hid (btr HB1.out hb2)
        clear hb2
        go_wp2_with fail
        go_ret
        exact ⟨by rw [HV.out]; rfl, HB2.out⟩
      · have h3' : (k == 3) = false := by simpa using h3
        have HN := Lib.hid (fun V : World => spec_exitName k V)
        have HV := Lib.hid (show exitT (k, p, q, n) = exitName k from by simp [exitT, h1, h2, h3])
        have hb0 : Below w.heap.size w (w.alloc (.cells #[.int .i64 k, .int .i64 p, .bool q, .int .i64 n] 28)) := (Below.refl _ _).alloc (Nat.le_refl _) _
        have t0 : Var (w.alloc (.cells #[.int .i64 k, .int .i64 p, .bool q, .int .i64 n] 28)) w.heap.size [.int .i64 k, .int .i64 p, .bool q, .int .i64 n] := Var.new w [.int .i64 k, .int .i64 p, .bool q, .int .i64 n] 28
        have hz : w.heap.size < (w.alloc (.cells #[.int .i64 k, .int .i64 p, .bool q, .int .i64 n] 28)).heap.size := by simp
        go_enter Tryd.func22, Tryd.ntmps22
        go_wp2_with fail
        generalize w.alloc (.cells #[.int .i64 k, .int .i64 p, .bool q, .int .i64 n] 28) = W at t0 hb0 hz ⊢
        refine (HN.out _).mono ?_
        rintro e w1 ⟨rfl, hb1⟩
        have HB1 := Lib.hid (btr hb0 hb1)
        have t1 := t0.below hb1 hz
        have v0 := t1.cell 0 (v := .int .i64 k) rfl
        have v1 := t1.cell 1 (v := .int .i64 p) rfl
        have v2 := t1.cell 2 (v := .bool q) rfl
        have v3 := t1.cell 3 (v := .int .i64 n) rfl
        clear hb0 hb1 t0
        go_wp2_with fail
        go_ret
        exact ⟨by rw [HV.out]; rfl, HB1.out⟩
end Go.Proofs.YtikamndjelamgaaDoor.Exits
