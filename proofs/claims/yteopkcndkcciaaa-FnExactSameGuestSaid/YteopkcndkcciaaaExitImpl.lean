/-
  Exits: the project's functions of chapter 13 but ExitName and ExitText. Conditions: ints of 64 bits.
-/
import Derived.Test.YteopkcndkcciaaaExit
import Derived.Test.YteopkcndkcciaaaOrdT
import Derived.Laws.Build
namespace Go.Proofs.Yteopkcndkcciaaa.Exits
set_option maxRecDepth 100000
open Go.ChangeShapes Go.WideShapes Go.ChangeAt Go.RowKit
open Go.Proofs.Yteopkcndkcciaaa.Base Go.Proofs.Yteopkcndkcciaaa.Mem Go.Proofs.Yteopkcndkcciaaa.Data
set_option linter.unusedVariables false
set_option linter.unusedSimpArgs false

/-- The exit in the type of its kind. -/
def usedV (k p : Int) (q : Bool) (n : Int) : Value :=
  if k = 0 then .iface 119 (.agg #[]) else if k = 1 then .iface 121 (.agg #[.int .i64 p, .bool q]) else if k = 2 then .iface 124 (.agg #[.int .i64 n]) else if k = 3 then .iface 126 (.agg #[.int .i64 n])
  else if k = 4 then .iface 127 (.agg #[]) else .nilIface
theorem usedV_0 (p : Int) (q : Bool) (n : Int) : usedV 0 p q n = .iface 119 (.agg #[]) := rfl
theorem usedV_1 (p : Int) (q : Bool) (n : Int) : usedV 1 p q n = .iface 121 (.agg #[.int .i64 p, .bool q]) := rfl
theorem usedV_2 (p : Int) (q : Bool) (n : Int) : usedV 2 p q n = .iface 124 (.agg #[.int .i64 n]) := rfl
theorem usedV_3 (p : Int) (q : Bool) (n : Int) : usedV 3 p q n = .iface 126 (.agg #[.int .i64 n]) := rfl
theorem usedV_4 (p : Int) (q : Bool) (n : Int) : usedV 4 p q n = .iface 127 (.agg #[]) := rfl
theorem usedV_else {k : Int} (p : Int) (q : Bool) (n : Int) (h : (k == 0) = false ∧ (k == 1) = false ∧ (k == 2) = false ∧ (k == 3) = false ∧ (k == 4) = false) : usedV k p q n = .nilIface := by
  simp only [beq_eq_false_iff_ne, ne_eq] at h
  simp [usedV, h]

set_option maxHeartbeats 4000000 in
theorem impl_usedBy (k p : Int) (q : Bool) (n : Int) (w : World) :
    Calls Try.prog 111 #[.agg #[.int .i64 k, .int .i64 p, .bool q, .int .i64 n]] w fun e w' => e = .returned (usedV k p q n) ∧ Below w.heap.size w w' := by
  rcases kind_cases k with rfl | rfl | rfl | rfl | rfl | h
  · have HV := Lib.hid (usedV_0 p q n)
    have HB := Lib.hid (show Below w.heap.size w (w.alloc (.cells #[.int .i64 0, .int .i64 p, .bool q, .int .i64 n] 31)) from (Below.refl _ _).alloc (Nat.le_refl _) _)
    go_enter Try.func111, Try.ntmps111
    go_wp2_with fail
    go_ret
    exact ⟨by rw [HV.out]; rfl, HB.out⟩
  · have HV := Lib.hid (usedV_4 p q n)
    have HB := Lib.hid (show Below w.heap.size w (w.alloc (.cells #[.int .i64 4, .int .i64 p, .bool q, .int .i64 n] 31)) from (Below.refl _ _).alloc (Nat.le_refl _) _)
    go_enter Try.func111, Try.ntmps111
    go_wp2_with fail
    go_ret
    exact ⟨by rw [HV.out]; rfl, HB.out⟩
  · have HV := Lib.hid (usedV_1 p q n)
    have HB := Lib.hid (show Below w.heap.size w (w.alloc (.cells #[.int .i64 1, .int .i64 p, .bool q, .int .i64 n] 31)) from (Below.refl _ _).alloc (Nat.le_refl _) _)
    go_enter Try.func111, Try.ntmps111
    go_wp2_with fail
    go_ret
    exact ⟨by rw [HV.out]; rfl, HB.out⟩
  · have HV := Lib.hid (usedV_2 p q n)
    have HB := Lib.hid (show Below w.heap.size w (w.alloc (.cells #[.int .i64 2, .int .i64 p, .bool q, .int .i64 n] 31)) from (Below.refl _ _).alloc (Nat.le_refl _) _)
    go_enter Try.func111, Try.ntmps111
    go_wp2_with fail
    go_ret
    exact ⟨by rw [HV.out]; rfl, HB.out⟩
  · have HV := Lib.hid (usedV_3 p q n)
    have HB := Lib.hid (show Below w.heap.size w (w.alloc (.cells #[.int .i64 3, .int .i64 p, .bool q, .int .i64 n] 31)) from (Below.refl _ _).alloc (Nat.le_refl _) _)
    go_enter Try.func111, Try.ntmps111
    go_wp2_with fail
    go_ret
    exact ⟨by rw [HV.out]; rfl, HB.out⟩
  · have HV := Lib.hid (usedV_else (k := k) p q n h)
    obtain ⟨h0, h1, h2, h3, h4⟩ := h
    have HB := Lib.hid (show Below w.heap.size w (w.alloc (.cells #[.int .i64 k, .int .i64 p, .bool q, .int .i64 n] 31)) from (Below.refl _ _).alloc (Nat.le_refl _) _)
    go_enter Try.func111, Try.ntmps111
    go_wp2_with fail
    go_ret
    exact ⟨by rw [HV.out]; rfl, HB.out⟩

theorem impl_cellOkE (v : Int) (w : World) :
    Calls Try.prog 99 #[.int .i64 v] w fun e w' => e = .returned (.bool (inB v 0 99)) ∧ Below w.heap.size w w' := by
  by_cases h0 : v < 0
  · have HV := Lib.hid (inB_false.2 (show v < 0 ∨ 99 < v from .inl h0))
    have h1 : ¬ v ≥ 0 := by omega
    clear h0
    go_enter Try.func99, Try.ntmps99
    go_wp2_with fail
    go_ret
    exact ⟨by rw [HV.out]; rfl, Below.refl _ _⟩
  · have h1 : v ≥ 0 := by omega
    by_cases h2 : v ≤ 99
    · have HV := Lib.hid (inB_iff.2 (show 0 ≤ v ∧ v ≤ 99 from ⟨h1, h2⟩))
      clear h0
      go_enter Try.func99, Try.ntmps99
      go_wp2_with fail
      go_ret
      exact ⟨by rw [HV.out]; rfl, Below.refl _ _⟩
    · have HV := Lib.hid (inB_false.2 (show v < 0 ∨ 99 < v from .inr (by omega)))
      clear h0
      go_enter Try.func99, Try.ntmps99
      go_wp2_with fail
      go_ret
      exact ⟨by rw [HV.out]; rfl, Below.refl _ _⟩

theorem impl_fault' (p : Int) (q : Bool) (w : World) :
    Calls Try.prog 112 #[.int .i64 p, .bool q] w (ExitP w (1, p, q, 0)) := by
  have HB := Lib.hid (show Below w.heap.size w (w.alloc (.cells #[.int .i64 1, .int .i64 p, .bool q, .int .i64 0] 31)) from (Below.refl _ _).alloc (Nat.le_refl _) _)
  have t1 : Var (w.alloc (.cells #[.int .i64 1, .int .i64 p, .bool q, .int .i64 0] 31)) w.heap.size [.int .i64 1, .int .i64 p, .bool q, .int .i64 0] := Var.new w [.int .i64 1, .int .i64 p, .bool q, .int .i64 0] 31
  have c0 := t1.cell 0 (v := .int .i64 1) rfl
  have c1 := t1.cell 1 (v := .int .i64 p) rfl
  have c2 := t1.cell 2 (v := .bool q) rfl
  have c3 := t1.cell 3 (v := .int .i64 0) rfl
  clear t1
  go_enter Try.func112, Try.ntmps112
  go_wp2_with fail
  generalize w.alloc (.cells #[.int .i64 1, .int .i64 p, .bool q, .int .i64 0] 31) = WF at c0 c1 c2 c3 HB ⊢
  exact bodyPost_ret (v := .agg #[.int .i64 1, .int .i64 p, .bool q, .int .i64 0]) (by simp [results, Try.results112, go_sem, c0, c1, c2, c3]) rfl ⟨rfl, HB.out⟩
theorem impl_fault (p : Int) (q : Bool) (w : World) (wp : (Lit.int .i64 p).wf = true) :
    Calls Try.prog 112 #[.int .i64 p, .bool q] w (ExitP w (1, p, q, 0)) := impl_fault' p q w

theorem impl_call' (n : Int) (w : World) :
    Calls Try.prog 113 #[.int .i64 n] w (ExitP w (2, 0, false, n)) := by
  have HB := Lib.hid (show Below w.heap.size w (w.alloc (.cells #[.int .i64 2, .int .i64 0, .bool false, .int .i64 n] 31)) from (Below.refl _ _).alloc (Nat.le_refl _) _)
  have t1 : Var (w.alloc (.cells #[.int .i64 2, .int .i64 0, .bool false, .int .i64 n] 31)) w.heap.size [.int .i64 2, .int .i64 0, .bool false, .int .i64 n] := Var.new w [.int .i64 2, .int .i64 0, .bool false, .int .i64 n] 31
  have c0 := t1.cell 0 (v := .int .i64 2) rfl
  have c1 := t1.cell 1 (v := .int .i64 0) rfl
  have c2 := t1.cell 2 (v := .bool false) rfl
  have c3 := t1.cell 3 (v := .int .i64 n) rfl
  clear t1
  go_enter Try.func113, Try.ntmps113
  go_wp2_with fail
  generalize w.alloc (.cells #[.int .i64 2, .int .i64 0, .bool false, .int .i64 n] 31) = WF at c0 c1 c2 c3 HB ⊢
  exact bodyPost_ret (v := .agg #[.int .i64 2, .int .i64 0, .bool false, .int .i64 n]) (by simp [results, Try.results113, go_sem, c0, c1, c2, c3]) rfl ⟨rfl, HB.out⟩
theorem impl_call (n : Int) (w : World) (wn : (Lit.int .i64 n).wf = true) :
    Calls Try.prog 113 #[.int .i64 n] w (ExitP w (2, 0, false, n)) := impl_call' n w

theorem impl_out' (n : Int) (w : World) :
    Calls Try.prog 114 #[.int .i64 n] w (ExitP w (3, 0, false, n)) := by
  have HB := Lib.hid (show Below w.heap.size w (w.alloc (.cells #[.int .i64 3, .int .i64 0, .bool false, .int .i64 n] 31)) from (Below.refl _ _).alloc (Nat.le_refl _) _)
  have t1 : Var (w.alloc (.cells #[.int .i64 3, .int .i64 0, .bool false, .int .i64 n] 31)) w.heap.size [.int .i64 3, .int .i64 0, .bool false, .int .i64 n] := Var.new w [.int .i64 3, .int .i64 0, .bool false, .int .i64 n] 31
  have c0 := t1.cell 0 (v := .int .i64 3) rfl
  have c1 := t1.cell 1 (v := .int .i64 0) rfl
  have c2 := t1.cell 2 (v := .bool false) rfl
  have c3 := t1.cell 3 (v := .int .i64 n) rfl
  clear t1
  go_enter Try.func114, Try.ntmps114
  go_wp2_with fail
  generalize w.alloc (.cells #[.int .i64 3, .int .i64 0, .bool false, .int .i64 n] 31) = WF at c0 c1 c2 c3 HB ⊢
  exact bodyPost_ret (v := .agg #[.int .i64 3, .int .i64 0, .bool false, .int .i64 n]) (by simp [results, Try.results114, go_sem, c0, c1, c2, c3]) rfl ⟨rfl, HB.out⟩
theorem impl_out (n : Int) (w : World) (wn : (Lit.int .i64 n).wf = true) :
    Calls Try.prog 114 #[.int .i64 n] w (ExitP w (3, 0, false, n)) := impl_out' n w

theorem as_no_no (x : Value) (W : World) : (Instr.typeAssert (.iface 119 x) 20 119 true).run Try.prog W = .ok (.tuple #[x, .bool true]) W := by kernel_rfl
theorem as_no_fault (x : Value) (W : World) : (Instr.typeAssert (.iface 119 x) 20 121 true).run Try.prog W = .ok (.tuple #[.agg #[.int .i64 0, .bool false], .bool false]) W := by kernel_rfl
theorem as_no_call (x : Value) (W : World) : (Instr.typeAssert (.iface 119 x) 20 124 true).run Try.prog W = .ok (.tuple #[.agg #[.int .i64 0], .bool false]) W := by kernel_rfl
theorem as_no_out (x : Value) (W : World) : (Instr.typeAssert (.iface 119 x) 20 126 true).run Try.prog W = .ok (.tuple #[.agg #[.int .i64 0], .bool false]) W := by kernel_rfl
theorem as_no_halt (x : Value) (W : World) : (Instr.typeAssert (.iface 119 x) 20 127 true).run Try.prog W = .ok (.tuple #[.agg #[], .bool false]) W := by kernel_rfl
theorem as_fault_no (x : Value) (W : World) : (Instr.typeAssert (.iface 121 x) 20 119 true).run Try.prog W = .ok (.tuple #[.agg #[], .bool false]) W := by kernel_rfl
theorem as_fault_fault (x : Value) (W : World) : (Instr.typeAssert (.iface 121 x) 20 121 true).run Try.prog W = .ok (.tuple #[x, .bool true]) W := by kernel_rfl
theorem as_fault_call (x : Value) (W : World) : (Instr.typeAssert (.iface 121 x) 20 124 true).run Try.prog W = .ok (.tuple #[.agg #[.int .i64 0], .bool false]) W := by kernel_rfl
theorem as_fault_out (x : Value) (W : World) : (Instr.typeAssert (.iface 121 x) 20 126 true).run Try.prog W = .ok (.tuple #[.agg #[.int .i64 0], .bool false]) W := by kernel_rfl
theorem as_fault_halt (x : Value) (W : World) : (Instr.typeAssert (.iface 121 x) 20 127 true).run Try.prog W = .ok (.tuple #[.agg #[], .bool false]) W := by kernel_rfl
theorem as_call_no (x : Value) (W : World) : (Instr.typeAssert (.iface 124 x) 20 119 true).run Try.prog W = .ok (.tuple #[.agg #[], .bool false]) W := by kernel_rfl
theorem as_call_fault (x : Value) (W : World) : (Instr.typeAssert (.iface 124 x) 20 121 true).run Try.prog W = .ok (.tuple #[.agg #[.int .i64 0, .bool false], .bool false]) W := by kernel_rfl
theorem as_call_call (x : Value) (W : World) : (Instr.typeAssert (.iface 124 x) 20 124 true).run Try.prog W = .ok (.tuple #[x, .bool true]) W := by kernel_rfl
theorem as_call_out (x : Value) (W : World) : (Instr.typeAssert (.iface 124 x) 20 126 true).run Try.prog W = .ok (.tuple #[.agg #[.int .i64 0], .bool false]) W := by kernel_rfl
theorem as_call_halt (x : Value) (W : World) : (Instr.typeAssert (.iface 124 x) 20 127 true).run Try.prog W = .ok (.tuple #[.agg #[], .bool false]) W := by kernel_rfl
theorem as_out_no (x : Value) (W : World) : (Instr.typeAssert (.iface 126 x) 20 119 true).run Try.prog W = .ok (.tuple #[.agg #[], .bool false]) W := by kernel_rfl
theorem as_out_fault (x : Value) (W : World) : (Instr.typeAssert (.iface 126 x) 20 121 true).run Try.prog W = .ok (.tuple #[.agg #[.int .i64 0, .bool false], .bool false]) W := by kernel_rfl
theorem as_out_call (x : Value) (W : World) : (Instr.typeAssert (.iface 126 x) 20 124 true).run Try.prog W = .ok (.tuple #[.agg #[.int .i64 0], .bool false]) W := by kernel_rfl
theorem as_out_out (x : Value) (W : World) : (Instr.typeAssert (.iface 126 x) 20 126 true).run Try.prog W = .ok (.tuple #[x, .bool true]) W := by kernel_rfl
theorem as_out_halt (x : Value) (W : World) : (Instr.typeAssert (.iface 126 x) 20 127 true).run Try.prog W = .ok (.tuple #[.agg #[], .bool false]) W := by kernel_rfl
theorem as_halt_no (x : Value) (W : World) : (Instr.typeAssert (.iface 127 x) 20 119 true).run Try.prog W = .ok (.tuple #[.agg #[], .bool false]) W := by kernel_rfl
theorem as_halt_fault (x : Value) (W : World) : (Instr.typeAssert (.iface 127 x) 20 121 true).run Try.prog W = .ok (.tuple #[.agg #[.int .i64 0, .bool false], .bool false]) W := by kernel_rfl
theorem as_halt_call (x : Value) (W : World) : (Instr.typeAssert (.iface 127 x) 20 124 true).run Try.prog W = .ok (.tuple #[.agg #[.int .i64 0], .bool false]) W := by kernel_rfl
theorem as_halt_out (x : Value) (W : World) : (Instr.typeAssert (.iface 127 x) 20 126 true).run Try.prog W = .ok (.tuple #[.agg #[.int .i64 0], .bool false]) W := by kernel_rfl
theorem as_halt_halt (x : Value) (W : World) : (Instr.typeAssert (.iface 127 x) 20 127 true).run Try.prog W = .ok (.tuple #[x, .bool true]) W := by kernel_rfl
theorem as_nil_no (W : World) : (Instr.typeAssert .nilIface 20 119 true).run Try.prog W = .ok (.tuple #[.agg #[], .bool false]) W := by kernel_rfl
theorem as_nil_fault (W : World) : (Instr.typeAssert .nilIface 20 121 true).run Try.prog W = .ok (.tuple #[.agg #[.int .i64 0, .bool false], .bool false]) W := by kernel_rfl
theorem as_nil_call (W : World) : (Instr.typeAssert .nilIface 20 124 true).run Try.prog W = .ok (.tuple #[.agg #[.int .i64 0], .bool false]) W := by kernel_rfl
theorem as_nil_out (W : World) : (Instr.typeAssert .nilIface 20 126 true).run Try.prog W = .ok (.tuple #[.agg #[.int .i64 0], .bool false]) W := by kernel_rfl
theorem as_nil_halt (W : World) : (Instr.typeAssert .nilIface 20 127 true).run Try.prog W = .ok (.tuple #[.agg #[], .bool false]) W := by kernel_rfl

theorem wf_k (x : Int) (h : 0 ≤ x ∧ x ≤ 4) : (Lit.int .i64 x).wf = true := by
  simp [Lit.wf]
  have e1 : IntKind.i64.min = -9223372036854775808 := by decide
  have e2 : IntKind.i64.max = 9223372036854775807 := by decide
  omega
set_option maxHeartbeats 16000000 in
theorem impl_exitOk (k p : Int) (q : Bool) (n : Int) (w : World) (ws : wfQ (k, p, q, n)) :
    Calls Try.prog 102 #[.agg #[.int .i64 k, .int .i64 p, .bool q, .int .i64 n]] w fun e w' => e = .returned (.bool (exitOk (k, p, q, n))) ∧ Below w.heap.size w w' := by
  clear ws
  rcases kind_cases k with rfl | rfl | rfl | rfl | rfl | h
  · by_cases hp : p = 0 <;> by_cases hn : n = 0 <;> cases q
    · subst hp
      subst hn
      have HV := Lib.hid (show exitOk (0, 0, false, 0) = true from by simp [exitOk])
      have HU := Lib.hid (fun V : World => impl_usedBy 0 0 false 0 V)
      rw [usedV_0] at HU
      have hb0 : Below w.heap.size w (w.alloc (.cells #[.int .i64 0, .int .i64 0, .bool false, .int .i64 0] 31)) := (Below.refl _ _).alloc (Nat.le_refl _) _
      have t0 : Var (w.alloc (.cells #[.int .i64 0, .int .i64 0, .bool false, .int .i64 0] 31)) w.heap.size [.int .i64 0, .int .i64 0, .bool false, .int .i64 0] := Var.new w [.int .i64 0, .int .i64 0, .bool false, .int .i64 0] 31
      have hz : w.heap.size < (w.alloc (.cells #[.int .i64 0, .int .i64 0, .bool false, .int .i64 0] 31)).heap.size := by simp
      go_enter Try.func102, Try.ntmps102
      go_wp2_with fail
      generalize w.alloc (.cells #[.int .i64 0, .int .i64 0, .bool false, .int .i64 0] 31) = W0 at t0 hb0 hz ⊢
      refine (HU.out _).mono ?_
      rintro e w1 ⟨rfl, hb1⟩
      have hb := btr hb0 hb1
      have T := t0.below hb1 hz
      have hz1 : w.heap.size < w1.heap.size := T.2
      clear hb0 hb1 t0 hz HU
      have as0 := as_no_no (.agg #[])
      have hA : Below w1.heap.size w1 (w1.alloc (.cells #[] 119)) := (Below.refl _ _).alloc (Nat.le_refl _) _
      have T2 := T.below hA hz1
      have v0 := T2.cell 0 (v := .int .i64 0) rfl
      have v1 := T2.cell 1 (v := .int .i64 0) rfl
      have v2 := T2.cell 2 (v := .bool false) rfl
      have v3 := T2.cell 3 (v := .int .i64 0) rfl
      have HB := Lib.hid (btr hb hA)
      clear T T2 hA hb hz1
      go_wp2_with fail
      go_ret
      exact ⟨by rw [HV.out]; rfl, HB.out⟩
    · subst hp
      subst hn
      have HV := Lib.hid (show exitOk (0, 0, true, 0) = false from by simp [exitOk])
      have HU := Lib.hid (fun V : World => impl_usedBy 0 0 true 0 V)
      rw [usedV_0] at HU
      have hb0 : Below w.heap.size w (w.alloc (.cells #[.int .i64 0, .int .i64 0, .bool true, .int .i64 0] 31)) := (Below.refl _ _).alloc (Nat.le_refl _) _
      have t0 : Var (w.alloc (.cells #[.int .i64 0, .int .i64 0, .bool true, .int .i64 0] 31)) w.heap.size [.int .i64 0, .int .i64 0, .bool true, .int .i64 0] := Var.new w [.int .i64 0, .int .i64 0, .bool true, .int .i64 0] 31
      have hz : w.heap.size < (w.alloc (.cells #[.int .i64 0, .int .i64 0, .bool true, .int .i64 0] 31)).heap.size := by simp
      go_enter Try.func102, Try.ntmps102
      go_wp2_with fail
      generalize w.alloc (.cells #[.int .i64 0, .int .i64 0, .bool true, .int .i64 0] 31) = W0 at t0 hb0 hz ⊢
      refine (HU.out _).mono ?_
      rintro e w1 ⟨rfl, hb1⟩
      have hb := btr hb0 hb1
      have T := t0.below hb1 hz
      have hz1 : w.heap.size < w1.heap.size := T.2
      clear hb0 hb1 t0 hz HU
      have as0 := as_no_no (.agg #[])
      have hA : Below w1.heap.size w1 (w1.alloc (.cells #[] 119)) := (Below.refl _ _).alloc (Nat.le_refl _) _
      have T2 := T.below hA hz1
      have v0 := T2.cell 0 (v := .int .i64 0) rfl
      have v1 := T2.cell 1 (v := .int .i64 0) rfl
      have v2 := T2.cell 2 (v := .bool true) rfl
      have v3 := T2.cell 3 (v := .int .i64 0) rfl
      have HB := Lib.hid (btr hb hA)
      clear T T2 hA hb hz1
      go_wp2_with fail
      go_ret
      exact ⟨by rw [HV.out]; rfl, HB.out⟩
    · subst hp
      have hn' : (n == 0) = false := by simpa using hn
      have HV := Lib.hid (show exitOk (0, 0, false, n) = false from by simp [exitOk, hn])
      have HU := Lib.hid (fun V : World => impl_usedBy 0 0 false n V)
      rw [usedV_0] at HU
      have hb0 : Below w.heap.size w (w.alloc (.cells #[.int .i64 0, .int .i64 0, .bool false, .int .i64 n] 31)) := (Below.refl _ _).alloc (Nat.le_refl _) _
      have t0 : Var (w.alloc (.cells #[.int .i64 0, .int .i64 0, .bool false, .int .i64 n] 31)) w.heap.size [.int .i64 0, .int .i64 0, .bool false, .int .i64 n] := Var.new w [.int .i64 0, .int .i64 0, .bool false, .int .i64 n] 31
      have hz : w.heap.size < (w.alloc (.cells #[.int .i64 0, .int .i64 0, .bool false, .int .i64 n] 31)).heap.size := by simp
      go_enter Try.func102, Try.ntmps102
      go_wp2_with fail
      generalize w.alloc (.cells #[.int .i64 0, .int .i64 0, .bool false, .int .i64 n] 31) = W0 at t0 hb0 hz ⊢
      refine (HU.out _).mono ?_
      rintro e w1 ⟨rfl, hb1⟩
      have hb := btr hb0 hb1
      have T := t0.below hb1 hz
      have hz1 : w.heap.size < w1.heap.size := T.2
      clear hb0 hb1 t0 hz HU
      have as0 := as_no_no (.agg #[])
      have hA : Below w1.heap.size w1 (w1.alloc (.cells #[] 119)) := (Below.refl _ _).alloc (Nat.le_refl _) _
      have T2 := T.below hA hz1
      have v0 := T2.cell 0 (v := .int .i64 0) rfl
      have v1 := T2.cell 1 (v := .int .i64 0) rfl
      have v2 := T2.cell 2 (v := .bool false) rfl
      have v3 := T2.cell 3 (v := .int .i64 n) rfl
      have HB := Lib.hid (btr hb hA)
      clear T T2 hA hb hz1
      go_wp2_with fail
      go_ret
      exact ⟨by rw [HV.out]; rfl, HB.out⟩
    · subst hp
      have hn' : (n == 0) = false := by simpa using hn
      have HV := Lib.hid (show exitOk (0, 0, true, n) = false from by simp [exitOk, hn])
      have HU := Lib.hid (fun V : World => impl_usedBy 0 0 true n V)
      rw [usedV_0] at HU
      have hb0 : Below w.heap.size w (w.alloc (.cells #[.int .i64 0, .int .i64 0, .bool true, .int .i64 n] 31)) := (Below.refl _ _).alloc (Nat.le_refl _) _
      have t0 : Var (w.alloc (.cells #[.int .i64 0, .int .i64 0, .bool true, .int .i64 n] 31)) w.heap.size [.int .i64 0, .int .i64 0, .bool true, .int .i64 n] := Var.new w [.int .i64 0, .int .i64 0, .bool true, .int .i64 n] 31
      have hz : w.heap.size < (w.alloc (.cells #[.int .i64 0, .int .i64 0, .bool true, .int .i64 n] 31)).heap.size := by simp
      go_enter Try.func102, Try.ntmps102
      go_wp2_with fail
      generalize w.alloc (.cells #[.int .i64 0, .int .i64 0, .bool true, .int .i64 n] 31) = W0 at t0 hb0 hz ⊢
      refine (HU.out _).mono ?_
      rintro e w1 ⟨rfl, hb1⟩
      have hb := btr hb0 hb1
      have T := t0.below hb1 hz
      have hz1 : w.heap.size < w1.heap.size := T.2
      clear hb0 hb1 t0 hz HU
      have as0 := as_no_no (.agg #[])
      have hA : Below w1.heap.size w1 (w1.alloc (.cells #[] 119)) := (Below.refl _ _).alloc (Nat.le_refl _) _
      have T2 := T.below hA hz1
      have v0 := T2.cell 0 (v := .int .i64 0) rfl
      have v1 := T2.cell 1 (v := .int .i64 0) rfl
      have v2 := T2.cell 2 (v := .bool true) rfl
      have v3 := T2.cell 3 (v := .int .i64 n) rfl
      have HB := Lib.hid (btr hb hA)
      clear T T2 hA hb hz1
      go_wp2_with fail
      go_ret
      exact ⟨by rw [HV.out]; rfl, HB.out⟩
    · have hp' : (p == 0) = false := by simpa using hp
      subst hn
      have HV := Lib.hid (show exitOk (0, p, false, 0) = false from by simp [exitOk, hp])
      have HU := Lib.hid (fun V : World => impl_usedBy 0 p false 0 V)
      rw [usedV_0] at HU
      have hb0 : Below w.heap.size w (w.alloc (.cells #[.int .i64 0, .int .i64 p, .bool false, .int .i64 0] 31)) := (Below.refl _ _).alloc (Nat.le_refl _) _
      have t0 : Var (w.alloc (.cells #[.int .i64 0, .int .i64 p, .bool false, .int .i64 0] 31)) w.heap.size [.int .i64 0, .int .i64 p, .bool false, .int .i64 0] := Var.new w [.int .i64 0, .int .i64 p, .bool false, .int .i64 0] 31
      have hz : w.heap.size < (w.alloc (.cells #[.int .i64 0, .int .i64 p, .bool false, .int .i64 0] 31)).heap.size := by simp
      go_enter Try.func102, Try.ntmps102
      go_wp2_with fail
      generalize w.alloc (.cells #[.int .i64 0, .int .i64 p, .bool false, .int .i64 0] 31) = W0 at t0 hb0 hz ⊢
      refine (HU.out _).mono ?_
      rintro e w1 ⟨rfl, hb1⟩
      have hb := btr hb0 hb1
      have T := t0.below hb1 hz
      have hz1 : w.heap.size < w1.heap.size := T.2
      clear hb0 hb1 t0 hz HU
      have as0 := as_no_no (.agg #[])
      have hA : Below w1.heap.size w1 (w1.alloc (.cells #[] 119)) := (Below.refl _ _).alloc (Nat.le_refl _) _
      have T2 := T.below hA hz1
      have v0 := T2.cell 0 (v := .int .i64 0) rfl
      have v1 := T2.cell 1 (v := .int .i64 p) rfl
      have v2 := T2.cell 2 (v := .bool false) rfl
      have v3 := T2.cell 3 (v := .int .i64 0) rfl
      have HB := Lib.hid (btr hb hA)
      clear T T2 hA hb hz1
      go_wp2_with fail
      go_ret
      exact ⟨by rw [HV.out]; rfl, HB.out⟩
    · have hp' : (p == 0) = false := by simpa using hp
      subst hn
      have HV := Lib.hid (show exitOk (0, p, true, 0) = false from by simp [exitOk, hp])
      have HU := Lib.hid (fun V : World => impl_usedBy 0 p true 0 V)
      rw [usedV_0] at HU
      have hb0 : Below w.heap.size w (w.alloc (.cells #[.int .i64 0, .int .i64 p, .bool true, .int .i64 0] 31)) := (Below.refl _ _).alloc (Nat.le_refl _) _
      have t0 : Var (w.alloc (.cells #[.int .i64 0, .int .i64 p, .bool true, .int .i64 0] 31)) w.heap.size [.int .i64 0, .int .i64 p, .bool true, .int .i64 0] := Var.new w [.int .i64 0, .int .i64 p, .bool true, .int .i64 0] 31
      have hz : w.heap.size < (w.alloc (.cells #[.int .i64 0, .int .i64 p, .bool true, .int .i64 0] 31)).heap.size := by simp
      go_enter Try.func102, Try.ntmps102
      go_wp2_with fail
      generalize w.alloc (.cells #[.int .i64 0, .int .i64 p, .bool true, .int .i64 0] 31) = W0 at t0 hb0 hz ⊢
      refine (HU.out _).mono ?_
      rintro e w1 ⟨rfl, hb1⟩
      have hb := btr hb0 hb1
      have T := t0.below hb1 hz
      have hz1 : w.heap.size < w1.heap.size := T.2
      clear hb0 hb1 t0 hz HU
      have as0 := as_no_no (.agg #[])
      have hA : Below w1.heap.size w1 (w1.alloc (.cells #[] 119)) := (Below.refl _ _).alloc (Nat.le_refl _) _
      have T2 := T.below hA hz1
      have v0 := T2.cell 0 (v := .int .i64 0) rfl
      have v1 := T2.cell 1 (v := .int .i64 p) rfl
      have v2 := T2.cell 2 (v := .bool true) rfl
      have v3 := T2.cell 3 (v := .int .i64 0) rfl
      have HB := Lib.hid (btr hb hA)
      clear T T2 hA hb hz1
      go_wp2_with fail
      go_ret
      exact ⟨by rw [HV.out]; rfl, HB.out⟩
    · have hp' : (p == 0) = false := by simpa using hp
      have hn' : (n == 0) = false := by simpa using hn
      have HV := Lib.hid (show exitOk (0, p, false, n) = false from by simp [exitOk, hp, hn])
      have HU := Lib.hid (fun V : World => impl_usedBy 0 p false n V)
      rw [usedV_0] at HU
      have hb0 : Below w.heap.size w (w.alloc (.cells #[.int .i64 0, .int .i64 p, .bool false, .int .i64 n] 31)) := (Below.refl _ _).alloc (Nat.le_refl _) _
      have t0 : Var (w.alloc (.cells #[.int .i64 0, .int .i64 p, .bool false, .int .i64 n] 31)) w.heap.size [.int .i64 0, .int .i64 p, .bool false, .int .i64 n] := Var.new w [.int .i64 0, .int .i64 p, .bool false, .int .i64 n] 31
      have hz : w.heap.size < (w.alloc (.cells #[.int .i64 0, .int .i64 p, .bool false, .int .i64 n] 31)).heap.size := by simp
      go_enter Try.func102, Try.ntmps102
      go_wp2_with fail
      generalize w.alloc (.cells #[.int .i64 0, .int .i64 p, .bool false, .int .i64 n] 31) = W0 at t0 hb0 hz ⊢
      refine (HU.out _).mono ?_
      rintro e w1 ⟨rfl, hb1⟩
      have hb := btr hb0 hb1
      have T := t0.below hb1 hz
      have hz1 : w.heap.size < w1.heap.size := T.2
      clear hb0 hb1 t0 hz HU
      have as0 := as_no_no (.agg #[])
      have hA : Below w1.heap.size w1 (w1.alloc (.cells #[] 119)) := (Below.refl _ _).alloc (Nat.le_refl _) _
      have T2 := T.below hA hz1
      have v0 := T2.cell 0 (v := .int .i64 0) rfl
      have v1 := T2.cell 1 (v := .int .i64 p) rfl
      have v2 := T2.cell 2 (v := .bool false) rfl
      have v3 := T2.cell 3 (v := .int .i64 n) rfl
      have HB := Lib.hid (btr hb hA)
      clear T T2 hA hb hz1
      go_wp2_with fail
      go_ret
      exact ⟨by rw [HV.out]; rfl, HB.out⟩
    · have hp' : (p == 0) = false := by simpa using hp
      have hn' : (n == 0) = false := by simpa using hn
      have HV := Lib.hid (show exitOk (0, p, true, n) = false from by simp [exitOk, hp, hn])
      have HU := Lib.hid (fun V : World => impl_usedBy 0 p true n V)
      rw [usedV_0] at HU
      have hb0 : Below w.heap.size w (w.alloc (.cells #[.int .i64 0, .int .i64 p, .bool true, .int .i64 n] 31)) := (Below.refl _ _).alloc (Nat.le_refl _) _
      have t0 : Var (w.alloc (.cells #[.int .i64 0, .int .i64 p, .bool true, .int .i64 n] 31)) w.heap.size [.int .i64 0, .int .i64 p, .bool true, .int .i64 n] := Var.new w [.int .i64 0, .int .i64 p, .bool true, .int .i64 n] 31
      have hz : w.heap.size < (w.alloc (.cells #[.int .i64 0, .int .i64 p, .bool true, .int .i64 n] 31)).heap.size := by simp
      go_enter Try.func102, Try.ntmps102
      go_wp2_with fail
      generalize w.alloc (.cells #[.int .i64 0, .int .i64 p, .bool true, .int .i64 n] 31) = W0 at t0 hb0 hz ⊢
      refine (HU.out _).mono ?_
      rintro e w1 ⟨rfl, hb1⟩
      have hb := btr hb0 hb1
      have T := t0.below hb1 hz
      have hz1 : w.heap.size < w1.heap.size := T.2
      clear hb0 hb1 t0 hz HU
      have as0 := as_no_no (.agg #[])
      have hA : Below w1.heap.size w1 (w1.alloc (.cells #[] 119)) := (Below.refl _ _).alloc (Nat.le_refl _) _
      have T2 := T.below hA hz1
      have v0 := T2.cell 0 (v := .int .i64 0) rfl
      have v1 := T2.cell 1 (v := .int .i64 p) rfl
      have v2 := T2.cell 2 (v := .bool true) rfl
      have v3 := T2.cell 3 (v := .int .i64 n) rfl
      have HB := Lib.hid (btr hb hA)
      clear T T2 hA hb hz1
      go_wp2_with fail
      go_ret
      exact ⟨by rw [HV.out]; rfl, HB.out⟩
  · by_cases hp : p = 0 <;> by_cases hn : n = 0 <;> cases q
    · subst hp
      subst hn
      have HV := Lib.hid (show exitOk (4, 0, false, 0) = true from by simp [exitOk])
      have HU := Lib.hid (fun V : World => impl_usedBy 4 0 false 0 V)
      rw [usedV_4] at HU
      have hb0 : Below w.heap.size w (w.alloc (.cells #[.int .i64 4, .int .i64 0, .bool false, .int .i64 0] 31)) := (Below.refl _ _).alloc (Nat.le_refl _) _
      have t0 : Var (w.alloc (.cells #[.int .i64 4, .int .i64 0, .bool false, .int .i64 0] 31)) w.heap.size [.int .i64 4, .int .i64 0, .bool false, .int .i64 0] := Var.new w [.int .i64 4, .int .i64 0, .bool false, .int .i64 0] 31
      have hz : w.heap.size < (w.alloc (.cells #[.int .i64 4, .int .i64 0, .bool false, .int .i64 0] 31)).heap.size := by simp
      go_enter Try.func102, Try.ntmps102
      go_wp2_with fail
      generalize w.alloc (.cells #[.int .i64 4, .int .i64 0, .bool false, .int .i64 0] 31) = W0 at t0 hb0 hz ⊢
      refine (HU.out _).mono ?_
      rintro e w1 ⟨rfl, hb1⟩
      have hb := btr hb0 hb1
      have T := t0.below hb1 hz
      have hz1 : w.heap.size < w1.heap.size := T.2
      clear hb0 hb1 t0 hz HU
      have as0 := as_halt_no (.agg #[])
      have as1 := as_halt_fault (.agg #[])
      have as2 := as_halt_call (.agg #[])
      have as3 := as_halt_out (.agg #[])
      have as4 := as_halt_halt (.agg #[])
      have hA : Below w1.heap.size w1 (w1.alloc (.cells #[] 127)) := (Below.refl _ _).alloc (Nat.le_refl _) _
      have T2 := T.below hA hz1
      have v0 := T2.cell 0 (v := .int .i64 4) rfl
      have v1 := T2.cell 1 (v := .int .i64 0) rfl
      have v2 := T2.cell 2 (v := .bool false) rfl
      have v3 := T2.cell 3 (v := .int .i64 0) rfl
      have HB := Lib.hid (btr hb hA)
      clear T T2 hA hb hz1
      go_wp2_with fail
      go_ret
      exact ⟨by rw [HV.out]; rfl, HB.out⟩
    · subst hp
      subst hn
      have HV := Lib.hid (show exitOk (4, 0, true, 0) = false from by simp [exitOk])
      have HU := Lib.hid (fun V : World => impl_usedBy 4 0 true 0 V)
      rw [usedV_4] at HU
      have hb0 : Below w.heap.size w (w.alloc (.cells #[.int .i64 4, .int .i64 0, .bool true, .int .i64 0] 31)) := (Below.refl _ _).alloc (Nat.le_refl _) _
      have t0 : Var (w.alloc (.cells #[.int .i64 4, .int .i64 0, .bool true, .int .i64 0] 31)) w.heap.size [.int .i64 4, .int .i64 0, .bool true, .int .i64 0] := Var.new w [.int .i64 4, .int .i64 0, .bool true, .int .i64 0] 31
      have hz : w.heap.size < (w.alloc (.cells #[.int .i64 4, .int .i64 0, .bool true, .int .i64 0] 31)).heap.size := by simp
      go_enter Try.func102, Try.ntmps102
      go_wp2_with fail
      generalize w.alloc (.cells #[.int .i64 4, .int .i64 0, .bool true, .int .i64 0] 31) = W0 at t0 hb0 hz ⊢
      refine (HU.out _).mono ?_
      rintro e w1 ⟨rfl, hb1⟩
      have hb := btr hb0 hb1
      have T := t0.below hb1 hz
      have hz1 : w.heap.size < w1.heap.size := T.2
      clear hb0 hb1 t0 hz HU
      have as0 := as_halt_no (.agg #[])
      have as1 := as_halt_fault (.agg #[])
      have as2 := as_halt_call (.agg #[])
      have as3 := as_halt_out (.agg #[])
      have as4 := as_halt_halt (.agg #[])
      have hA : Below w1.heap.size w1 (w1.alloc (.cells #[] 127)) := (Below.refl _ _).alloc (Nat.le_refl _) _
      have T2 := T.below hA hz1
      have v0 := T2.cell 0 (v := .int .i64 4) rfl
      have v1 := T2.cell 1 (v := .int .i64 0) rfl
      have v2 := T2.cell 2 (v := .bool true) rfl
      have v3 := T2.cell 3 (v := .int .i64 0) rfl
      have HB := Lib.hid (btr hb hA)
      clear T T2 hA hb hz1
      go_wp2_with fail
      go_ret
      exact ⟨by rw [HV.out]; rfl, HB.out⟩
    · subst hp
      have hn' : (n == 0) = false := by simpa using hn
      have HV := Lib.hid (show exitOk (4, 0, false, n) = false from by simp [exitOk, hn])
      have HU := Lib.hid (fun V : World => impl_usedBy 4 0 false n V)
      rw [usedV_4] at HU
      have hb0 : Below w.heap.size w (w.alloc (.cells #[.int .i64 4, .int .i64 0, .bool false, .int .i64 n] 31)) := (Below.refl _ _).alloc (Nat.le_refl _) _
      have t0 : Var (w.alloc (.cells #[.int .i64 4, .int .i64 0, .bool false, .int .i64 n] 31)) w.heap.size [.int .i64 4, .int .i64 0, .bool false, .int .i64 n] := Var.new w [.int .i64 4, .int .i64 0, .bool false, .int .i64 n] 31
      have hz : w.heap.size < (w.alloc (.cells #[.int .i64 4, .int .i64 0, .bool false, .int .i64 n] 31)).heap.size := by simp
      go_enter Try.func102, Try.ntmps102
      go_wp2_with fail
      generalize w.alloc (.cells #[.int .i64 4, .int .i64 0, .bool false, .int .i64 n] 31) = W0 at t0 hb0 hz ⊢
      refine (HU.out _).mono ?_
      rintro e w1 ⟨rfl, hb1⟩
      have hb := btr hb0 hb1
      have T := t0.below hb1 hz
      have hz1 : w.heap.size < w1.heap.size := T.2
      clear hb0 hb1 t0 hz HU
      have as0 := as_halt_no (.agg #[])
      have as1 := as_halt_fault (.agg #[])
      have as2 := as_halt_call (.agg #[])
      have as3 := as_halt_out (.agg #[])
      have as4 := as_halt_halt (.agg #[])
      have hA : Below w1.heap.size w1 (w1.alloc (.cells #[] 127)) := (Below.refl _ _).alloc (Nat.le_refl _) _
      have T2 := T.below hA hz1
      have v0 := T2.cell 0 (v := .int .i64 4) rfl
      have v1 := T2.cell 1 (v := .int .i64 0) rfl
      have v2 := T2.cell 2 (v := .bool false) rfl
      have v3 := T2.cell 3 (v := .int .i64 n) rfl
      have HB := Lib.hid (btr hb hA)
      clear T T2 hA hb hz1
      go_wp2_with fail
      go_ret
      exact ⟨by rw [HV.out]; rfl, HB.out⟩
    · subst hp
      have hn' : (n == 0) = false := by simpa using hn
      have HV := Lib.hid (show exitOk (4, 0, true, n) = false from by simp [exitOk, hn])
      have HU := Lib.hid (fun V : World => impl_usedBy 4 0 true n V)
      rw [usedV_4] at HU
      have hb0 : Below w.heap.size w (w.alloc (.cells #[.int .i64 4, .int .i64 0, .bool true, .int .i64 n] 31)) := (Below.refl _ _).alloc (Nat.le_refl _) _
      have t0 : Var (w.alloc (.cells #[.int .i64 4, .int .i64 0, .bool true, .int .i64 n] 31)) w.heap.size [.int .i64 4, .int .i64 0, .bool true, .int .i64 n] := Var.new w [.int .i64 4, .int .i64 0, .bool true, .int .i64 n] 31
      have hz : w.heap.size < (w.alloc (.cells #[.int .i64 4, .int .i64 0, .bool true, .int .i64 n] 31)).heap.size := by simp
      go_enter Try.func102, Try.ntmps102
      go_wp2_with fail
      generalize w.alloc (.cells #[.int .i64 4, .int .i64 0, .bool true, .int .i64 n] 31) = W0 at t0 hb0 hz ⊢
      refine (HU.out _).mono ?_
      rintro e w1 ⟨rfl, hb1⟩
      have hb := btr hb0 hb1
      have T := t0.below hb1 hz
      have hz1 : w.heap.size < w1.heap.size := T.2
      clear hb0 hb1 t0 hz HU
      have as0 := as_halt_no (.agg #[])
      have as1 := as_halt_fault (.agg #[])
      have as2 := as_halt_call (.agg #[])
      have as3 := as_halt_out (.agg #[])
      have as4 := as_halt_halt (.agg #[])
      have hA : Below w1.heap.size w1 (w1.alloc (.cells #[] 127)) := (Below.refl _ _).alloc (Nat.le_refl _) _
      have T2 := T.below hA hz1
      have v0 := T2.cell 0 (v := .int .i64 4) rfl
      have v1 := T2.cell 1 (v := .int .i64 0) rfl
      have v2 := T2.cell 2 (v := .bool true) rfl
      have v3 := T2.cell 3 (v := .int .i64 n) rfl
      have HB := Lib.hid (btr hb hA)
      clear T T2 hA hb hz1
      go_wp2_with fail
      go_ret
      exact ⟨by rw [HV.out]; rfl, HB.out⟩
    · have hp' : (p == 0) = false := by simpa using hp
      subst hn
      have HV := Lib.hid (show exitOk (4, p, false, 0) = false from by simp [exitOk, hp])
      have HU := Lib.hid (fun V : World => impl_usedBy 4 p false 0 V)
      rw [usedV_4] at HU
      have hb0 : Below w.heap.size w (w.alloc (.cells #[.int .i64 4, .int .i64 p, .bool false, .int .i64 0] 31)) := (Below.refl _ _).alloc (Nat.le_refl _) _
      have t0 : Var (w.alloc (.cells #[.int .i64 4, .int .i64 p, .bool false, .int .i64 0] 31)) w.heap.size [.int .i64 4, .int .i64 p, .bool false, .int .i64 0] := Var.new w [.int .i64 4, .int .i64 p, .bool false, .int .i64 0] 31
      have hz : w.heap.size < (w.alloc (.cells #[.int .i64 4, .int .i64 p, .bool false, .int .i64 0] 31)).heap.size := by simp
      go_enter Try.func102, Try.ntmps102
      go_wp2_with fail
      generalize w.alloc (.cells #[.int .i64 4, .int .i64 p, .bool false, .int .i64 0] 31) = W0 at t0 hb0 hz ⊢
      refine (HU.out _).mono ?_
      rintro e w1 ⟨rfl, hb1⟩
      have hb := btr hb0 hb1
      have T := t0.below hb1 hz
      have hz1 : w.heap.size < w1.heap.size := T.2
      clear hb0 hb1 t0 hz HU
      have as0 := as_halt_no (.agg #[])
      have as1 := as_halt_fault (.agg #[])
      have as2 := as_halt_call (.agg #[])
      have as3 := as_halt_out (.agg #[])
      have as4 := as_halt_halt (.agg #[])
      have hA : Below w1.heap.size w1 (w1.alloc (.cells #[] 127)) := (Below.refl _ _).alloc (Nat.le_refl _) _
      have T2 := T.below hA hz1
      have v0 := T2.cell 0 (v := .int .i64 4) rfl
      have v1 := T2.cell 1 (v := .int .i64 p) rfl
      have v2 := T2.cell 2 (v := .bool false) rfl
      have v3 := T2.cell 3 (v := .int .i64 0) rfl
      have HB := Lib.hid (btr hb hA)
      clear T T2 hA hb hz1
      go_wp2_with fail
      go_ret
      exact ⟨by rw [HV.out]; rfl, HB.out⟩
    · have hp' : (p == 0) = false := by simpa using hp
      subst hn
      have HV := Lib.hid (show exitOk (4, p, true, 0) = false from by simp [exitOk, hp])
      have HU := Lib.hid (fun V : World => impl_usedBy 4 p true 0 V)
      rw [usedV_4] at HU
      have hb0 : Below w.heap.size w (w.alloc (.cells #[.int .i64 4, .int .i64 p, .bool true, .int .i64 0] 31)) := (Below.refl _ _).alloc (Nat.le_refl _) _
      have t0 : Var (w.alloc (.cells #[.int .i64 4, .int .i64 p, .bool true, .int .i64 0] 31)) w.heap.size [.int .i64 4, .int .i64 p, .bool true, .int .i64 0] := Var.new w [.int .i64 4, .int .i64 p, .bool true, .int .i64 0] 31
      have hz : w.heap.size < (w.alloc (.cells #[.int .i64 4, .int .i64 p, .bool true, .int .i64 0] 31)).heap.size := by simp
      go_enter Try.func102, Try.ntmps102
      go_wp2_with fail
      generalize w.alloc (.cells #[.int .i64 4, .int .i64 p, .bool true, .int .i64 0] 31) = W0 at t0 hb0 hz ⊢
      refine (HU.out _).mono ?_
      rintro e w1 ⟨rfl, hb1⟩
      have hb := btr hb0 hb1
      have T := t0.below hb1 hz
      have hz1 : w.heap.size < w1.heap.size := T.2
      clear hb0 hb1 t0 hz HU
      have as0 := as_halt_no (.agg #[])
      have as1 := as_halt_fault (.agg #[])
      have as2 := as_halt_call (.agg #[])
      have as3 := as_halt_out (.agg #[])
      have as4 := as_halt_halt (.agg #[])
      have hA : Below w1.heap.size w1 (w1.alloc (.cells #[] 127)) := (Below.refl _ _).alloc (Nat.le_refl _) _
      have T2 := T.below hA hz1
      have v0 := T2.cell 0 (v := .int .i64 4) rfl
      have v1 := T2.cell 1 (v := .int .i64 p) rfl
      have v2 := T2.cell 2 (v := .bool true) rfl
      have v3 := T2.cell 3 (v := .int .i64 0) rfl
      have HB := Lib.hid (btr hb hA)
      clear T T2 hA hb hz1
      go_wp2_with fail
      go_ret
      exact ⟨by rw [HV.out]; rfl, HB.out⟩
    · have hp' : (p == 0) = false := by simpa using hp
      have hn' : (n == 0) = false := by simpa using hn
      have HV := Lib.hid (show exitOk (4, p, false, n) = false from by simp [exitOk, hp, hn])
      have HU := Lib.hid (fun V : World => impl_usedBy 4 p false n V)
      rw [usedV_4] at HU
      have hb0 : Below w.heap.size w (w.alloc (.cells #[.int .i64 4, .int .i64 p, .bool false, .int .i64 n] 31)) := (Below.refl _ _).alloc (Nat.le_refl _) _
      have t0 : Var (w.alloc (.cells #[.int .i64 4, .int .i64 p, .bool false, .int .i64 n] 31)) w.heap.size [.int .i64 4, .int .i64 p, .bool false, .int .i64 n] := Var.new w [.int .i64 4, .int .i64 p, .bool false, .int .i64 n] 31
      have hz : w.heap.size < (w.alloc (.cells #[.int .i64 4, .int .i64 p, .bool false, .int .i64 n] 31)).heap.size := by simp
      go_enter Try.func102, Try.ntmps102
      go_wp2_with fail
      generalize w.alloc (.cells #[.int .i64 4, .int .i64 p, .bool false, .int .i64 n] 31) = W0 at t0 hb0 hz ⊢
      refine (HU.out _).mono ?_
      rintro e w1 ⟨rfl, hb1⟩
      have hb := btr hb0 hb1
      have T := t0.below hb1 hz
      have hz1 : w.heap.size < w1.heap.size := T.2
      clear hb0 hb1 t0 hz HU
      have as0 := as_halt_no (.agg #[])
      have as1 := as_halt_fault (.agg #[])
      have as2 := as_halt_call (.agg #[])
      have as3 := as_halt_out (.agg #[])
      have as4 := as_halt_halt (.agg #[])
      have hA : Below w1.heap.size w1 (w1.alloc (.cells #[] 127)) := (Below.refl _ _).alloc (Nat.le_refl _) _
      have T2 := T.below hA hz1
      have v0 := T2.cell 0 (v := .int .i64 4) rfl
      have v1 := T2.cell 1 (v := .int .i64 p) rfl
      have v2 := T2.cell 2 (v := .bool false) rfl
      have v3 := T2.cell 3 (v := .int .i64 n) rfl
      have HB := Lib.hid (btr hb hA)
      clear T T2 hA hb hz1
      go_wp2_with fail
      go_ret
      exact ⟨by rw [HV.out]; rfl, HB.out⟩
    · have hp' : (p == 0) = false := by simpa using hp
      have hn' : (n == 0) = false := by simpa using hn
      have HV := Lib.hid (show exitOk (4, p, true, n) = false from by simp [exitOk, hp, hn])
      have HU := Lib.hid (fun V : World => impl_usedBy 4 p true n V)
      rw [usedV_4] at HU
      have hb0 : Below w.heap.size w (w.alloc (.cells #[.int .i64 4, .int .i64 p, .bool true, .int .i64 n] 31)) := (Below.refl _ _).alloc (Nat.le_refl _) _
      have t0 : Var (w.alloc (.cells #[.int .i64 4, .int .i64 p, .bool true, .int .i64 n] 31)) w.heap.size [.int .i64 4, .int .i64 p, .bool true, .int .i64 n] := Var.new w [.int .i64 4, .int .i64 p, .bool true, .int .i64 n] 31
      have hz : w.heap.size < (w.alloc (.cells #[.int .i64 4, .int .i64 p, .bool true, .int .i64 n] 31)).heap.size := by simp
      go_enter Try.func102, Try.ntmps102
      go_wp2_with fail
      generalize w.alloc (.cells #[.int .i64 4, .int .i64 p, .bool true, .int .i64 n] 31) = W0 at t0 hb0 hz ⊢
      refine (HU.out _).mono ?_
      rintro e w1 ⟨rfl, hb1⟩
      have hb := btr hb0 hb1
      have T := t0.below hb1 hz
      have hz1 : w.heap.size < w1.heap.size := T.2
      clear hb0 hb1 t0 hz HU
      have as0 := as_halt_no (.agg #[])
      have as1 := as_halt_fault (.agg #[])
      have as2 := as_halt_call (.agg #[])
      have as3 := as_halt_out (.agg #[])
      have as4 := as_halt_halt (.agg #[])
      have hA : Below w1.heap.size w1 (w1.alloc (.cells #[] 127)) := (Below.refl _ _).alloc (Nat.le_refl _) _
      have T2 := T.below hA hz1
      have v0 := T2.cell 0 (v := .int .i64 4) rfl
      have v1 := T2.cell 1 (v := .int .i64 p) rfl
      have v2 := T2.cell 2 (v := .bool true) rfl
      have v3 := T2.cell 3 (v := .int .i64 n) rfl
      have HB := Lib.hid (btr hb hA)
      clear T T2 hA hb hz1
      go_wp2_with fail
      go_ret
      exact ⟨by rw [HV.out]; rfl, HB.out⟩
  · have HM := Lib.hid (fun V : World => impl_fault' p q V)
    unfold ExitP at HM
    dsimp only at HM
    by_cases h0 : p < 0
    · have HV := Lib.hid (show exitOk (1, p, q, n) = false from by simp [exitOk, inB_false.2 (show p < 0 ∨ 3 < p from .inl h0)])
      have h9 : ¬ p ≥ 0 := by omega
      have h8 : decide (p ≥ 0) = false := decide_eq_false h9
      clear h0 HM
      have HU := Lib.hid (fun V : World => impl_usedBy 1 p q n V)
      rw [usedV_1] at HU
      have hb0 : Below w.heap.size w (w.alloc (.cells #[.int .i64 1, .int .i64 p, .bool q, .int .i64 n] 31)) := (Below.refl _ _).alloc (Nat.le_refl _) _
      have t0 : Var (w.alloc (.cells #[.int .i64 1, .int .i64 p, .bool q, .int .i64 n] 31)) w.heap.size [.int .i64 1, .int .i64 p, .bool q, .int .i64 n] := Var.new w [.int .i64 1, .int .i64 p, .bool q, .int .i64 n] 31
      have hz : w.heap.size < (w.alloc (.cells #[.int .i64 1, .int .i64 p, .bool q, .int .i64 n] 31)).heap.size := by simp
      go_enter Try.func102, Try.ntmps102
      go_wp2_with fail
      generalize w.alloc (.cells #[.int .i64 1, .int .i64 p, .bool q, .int .i64 n] 31) = W0 at t0 hb0 hz ⊢
      refine (HU.out _).mono ?_
      rintro e w1 ⟨rfl, hb1⟩
      have hb := btr hb0 hb1
      have T := t0.below hb1 hz
      have hz1 : w.heap.size < w1.heap.size := T.2
      clear hb0 hb1 t0 hz HU
      have as0 := as_fault_no (.agg #[.int .i64 p, .bool q])
      have as1 := as_fault_fault (.agg #[.int .i64 p, .bool q])
      have t2 : Var (w1.alloc (.cells #[.int .i64 p, .bool q] 121)) w1.heap.size [.int .i64 p, .bool q] := Var.new w1 [.int .i64 p, .bool q] 121
      have hA : Below w1.heap.size w1 (w1.alloc (.cells #[.int .i64 p, .bool q] 121)) := (Below.refl _ _).alloc (Nat.le_refl _) _
      have hB2 := btr hb hA
      have T2 := T.below hA hz1
      have hz2 : w1.heap.size < (w1.alloc (.cells #[.int .i64 p, .bool q] 121)).heap.size := by simp
      have hz3 : w.heap.size < (w1.alloc (.cells #[.int .i64 p, .bool q] 121)).heap.size := Nat.lt_trans hz1 hz2
      clear T hA hb
      go_wp2_with fail
      generalize w1.alloc (.cells #[.int .i64 p, .bool q] 121) = W2 at t2 T2 hB2 hz2 hz3 ⊢
      refine Ord.wp_region_ord (fun w' => w'.cell? ⟨w.heap.size, 0, none⟩ = some (.int .i64 1) ∧ w'.cell? ⟨w.heap.size, 1, none⟩ = some (.int .i64 p) ∧ w'.cell? ⟨w.heap.size, 2, none⟩ = some (.bool q) ∧ w'.cell? ⟨w.heap.size, 3, none⟩ = some (.int .i64 n) ∧ w'.cell? ⟨w1.heap.size, 0, none⟩ = some (.int .i64 p) ∧ w'.cell? ⟨w1.heap.size, 1, none⟩ = some (.bool q)) [(0, true), (1, true), (2, true), (3, true), (4, true), (5, true), (6, true), (7, true), (8, true), (9, true), (10, true), (11, true), (12, true), (13, true), (14, false), (15, true), (16, true), (17, true)] (by kernel_rfl) (by kernel_rfl) rfl (by kernel_rfl) (⟨T2.cell 0 (v := .int .i64 1) rfl, T2.cell 1 (v := .int .i64 p) rfl, T2.cell 2 (v := .bool q) rfl, T2.cell 3 (v := .int .i64 n) rfl, t2.cell 0 (v := .int .i64 p) rfl, t2.cell 1 (v := .bool q) rfl⟩) ?_
      simp only [Ord.ordOps, List.getElem?_toArray, List.getElem?_cons_zero, List.getElem?_cons_succ]
      repeat (first
        | (refine Ord.ord_plain (v := ?_) rfl (fun w' hS => ?_) ?_; rotate_left; (focus ((try dsimp only at hS); go_simp; first | done | with_reducible rfl)); simp only [Act.put, List.setIfInBounds_toArray, List.set_cons_zero, List.set_cons_succ])
        | (refine Ord.ord_skip (by rfl) ?_; simp only [Act.put, List.setIfInBounds_toArray, List.set_cons_zero, List.set_cons_succ])
        | (refine Ord.ord_take (v := ?_) (by rfl) (fun w' hS => ?_) ?_; rotate_left; (focus ((try dsimp only at hS); go_simp; first | done | with_reducible rfl)); simp only [Act.put, List.setIfInBounds_toArray, List.set_cons_zero, List.set_cons_succ]))
      have hbd : Below W2.heap.size W2 W2.drew := (Below.refl _ _).drew
      have hB3 := btr hB2 hbd
      have T3 := T2.below hbd hz3
      have t3 := t2.below hbd hz2
      have hz4 : W2.heap.size ≤ W2.drew.heap.size := hbd.size
      clear hbd
      refine Ord.ord_not (by rfl) (fun K hK => ?_)
      simp only [Act.put, List.setIfInBounds_toArray, List.set_cons_zero, List.set_cons_succ]
      refine hK.out _ _ (⟨T3.cell 0 (v := .int .i64 1) rfl, T3.cell 1 (v := .int .i64 p) rfl, T3.cell 2 (v := .bool q) rfl, T3.cell 3 (v := .int .i64 n) rfl, t3.cell 0 (v := .int .i64 p) rfl, t3.cell 1 (v := .bool q) rfl⟩) ?_
      clear hK K
      repeat (first
        | (refine Ord.ord_plain (v := ?_) rfl (fun w' hS => ?_) ?_; rotate_left; (focus ((try dsimp only at hS); go_simp; first | done | with_reducible rfl)); simp only [Act.put, List.setIfInBounds_toArray, List.set_cons_zero, List.set_cons_succ])
        | (refine Ord.ord_skip (by rfl) ?_; simp only [Act.put, List.setIfInBounds_toArray, List.set_cons_zero, List.set_cons_succ])
        | (refine Ord.ord_take (v := ?_) (by rfl) (fun w' hS => ?_) ?_; rotate_left; (focus ((try dsimp only at hS); go_simp; first | done | with_reducible rfl)); simp only [Act.put, List.setIfInBounds_toArray, List.set_cons_zero, List.set_cons_succ]))
      refine Ord.ord_nil ?_
      have HBF := Lib.hid hB3
      clear hB2 hB3
      go_wp2_with fail
      go_ret
      exact ⟨by rw [HV.out]; rfl, HBF.out⟩
    · by_cases h1 : p < 4
      · by_cases hn : n = 0
        · subst hn
          have HV := Lib.hid (show exitOk (1, p, q, 0) = true from by simp [exitOk, inB_iff.2 (show 0 ≤ p ∧ p ≤ 3 from ⟨by omega, by omega⟩)])
          have h9 : p ≥ 0 := by omega
          clear h0
          have HU := Lib.hid (fun V : World => impl_usedBy 1 p q 0 V)
          rw [usedV_1] at HU
          have hb0 : Below w.heap.size w (w.alloc (.cells #[.int .i64 1, .int .i64 p, .bool q, .int .i64 0] 31)) := (Below.refl _ _).alloc (Nat.le_refl _) _
          have t0 : Var (w.alloc (.cells #[.int .i64 1, .int .i64 p, .bool q, .int .i64 0] 31)) w.heap.size [.int .i64 1, .int .i64 p, .bool q, .int .i64 0] := Var.new w [.int .i64 1, .int .i64 p, .bool q, .int .i64 0] 31
          have hz : w.heap.size < (w.alloc (.cells #[.int .i64 1, .int .i64 p, .bool q, .int .i64 0] 31)).heap.size := by simp
          go_enter Try.func102, Try.ntmps102
          go_wp2_with fail
          generalize w.alloc (.cells #[.int .i64 1, .int .i64 p, .bool q, .int .i64 0] 31) = W0 at t0 hb0 hz ⊢
          refine (HU.out _).mono ?_
          rintro e w1 ⟨rfl, hb1⟩
          have hb := btr hb0 hb1
          have T := t0.below hb1 hz
          have hz1 : w.heap.size < w1.heap.size := T.2
          clear hb0 hb1 t0 hz HU
          have as0 := as_fault_no (.agg #[.int .i64 p, .bool q])
          have as1 := as_fault_fault (.agg #[.int .i64 p, .bool q])
          have t2 : Var (w1.alloc (.cells #[.int .i64 p, .bool q] 121)) w1.heap.size [.int .i64 p, .bool q] := Var.new w1 [.int .i64 p, .bool q] 121
          have hA : Below w1.heap.size w1 (w1.alloc (.cells #[.int .i64 p, .bool q] 121)) := (Below.refl _ _).alloc (Nat.le_refl _) _
          have hB2 := btr hb hA
          have T2 := T.below hA hz1
          have hz2 : w1.heap.size < (w1.alloc (.cells #[.int .i64 p, .bool q] 121)).heap.size := by simp
          have hz3 : w.heap.size < (w1.alloc (.cells #[.int .i64 p, .bool q] 121)).heap.size := Nat.lt_trans hz1 hz2
          clear T hA hb
          go_wp2_with fail
          generalize w1.alloc (.cells #[.int .i64 p, .bool q] 121) = W2 at t2 T2 hB2 hz2 hz3 ⊢
          refine Ord.wp_region_ord (fun w' => w'.cell? ⟨w.heap.size, 0, none⟩ = some (.int .i64 1) ∧ w'.cell? ⟨w.heap.size, 1, none⟩ = some (.int .i64 p) ∧ w'.cell? ⟨w.heap.size, 2, none⟩ = some (.bool q) ∧ w'.cell? ⟨w.heap.size, 3, none⟩ = some (.int .i64 0) ∧ w'.cell? ⟨w1.heap.size, 0, none⟩ = some (.int .i64 p) ∧ w'.cell? ⟨w1.heap.size, 1, none⟩ = some (.bool q)) [(0, true), (1, true), (2, true), (3, true), (4, true), (5, true), (6, true), (7, true), (8, true), (9, true), (10, true), (11, true), (12, true), (13, true), (14, false), (15, true), (16, true), (17, true)] (by kernel_rfl) (by kernel_rfl) rfl (by kernel_rfl) (⟨T2.cell 0 (v := .int .i64 1) rfl, T2.cell 1 (v := .int .i64 p) rfl, T2.cell 2 (v := .bool q) rfl, T2.cell 3 (v := .int .i64 0) rfl, t2.cell 0 (v := .int .i64 p) rfl, t2.cell 1 (v := .bool q) rfl⟩) ?_
          simp only [Ord.ordOps, List.getElem?_toArray, List.getElem?_cons_zero, List.getElem?_cons_succ]
          repeat (first
            | (refine Ord.ord_plain (v := ?_) rfl (fun w' hS => ?_) ?_; rotate_left; (focus ((try dsimp only at hS); go_simp; first | done | with_reducible rfl)); simp only [Act.put, List.setIfInBounds_toArray, List.set_cons_zero, List.set_cons_succ])
            | (refine Ord.ord_skip (by rfl) ?_; simp only [Act.put, List.setIfInBounds_toArray, List.set_cons_zero, List.set_cons_succ])
            | (refine Ord.ord_take (v := ?_) (by rfl) (fun w' hS => ?_) ?_; rotate_left; (focus ((try dsimp only at hS); go_simp; first | done | with_reducible rfl)); simp only [Act.put, List.setIfInBounds_toArray, List.set_cons_zero, List.set_cons_succ]))
          have hbd : Below W2.heap.size W2 W2.drew := (Below.refl _ _).drew
          have hB3 := btr hB2 hbd
          have T3 := T2.below hbd hz3
          have t3 := t2.below hbd hz2
          have hz4 : W2.heap.size ≤ W2.drew.heap.size := hbd.size
          clear hbd
          refine Ord.ord_call (fun K hK => ?_)
          go_simp
          refine (HM.out _).mono ?_
          rintro e v4' ⟨rfl, hb4⟩
          have hB4 := btr hB3 hb4
          have T4 := T3.below hb4 (by omega)
          have t4 := t3.below hb4 (by omega)
          have hy4 := hb4.size
          refine hK.out _ _ (⟨T4.cell 0 (v := .int .i64 1) rfl, T4.cell 1 (v := .int .i64 p) rfl, T4.cell 2 (v := .bool q) rfl, T4.cell 3 (v := .int .i64 0) rfl, t4.cell 0 (v := .int .i64 p) rfl, t4.cell 1 (v := .bool q) rfl⟩) ?_
          clear hK K
          repeat (first
            | (refine Ord.ord_plain (v := ?_) rfl (fun w' hS => ?_) ?_; rotate_left; (focus ((try dsimp only at hS); go_simp; first | done | with_reducible rfl)); simp only [Act.put, List.setIfInBounds_toArray, List.set_cons_zero, List.set_cons_succ])
            | (refine Ord.ord_skip (by rfl) ?_; simp only [Act.put, List.setIfInBounds_toArray, List.set_cons_zero, List.set_cons_succ])
            | (refine Ord.ord_take (v := ?_) (by rfl) (fun w' hS => ?_) ?_; rotate_left; (focus ((try dsimp only at hS); go_simp; first | done | with_reducible rfl)); simp only [Act.put, List.setIfInBounds_toArray, List.set_cons_zero, List.set_cons_succ]))
          refine Ord.ord_nil ?_
          have HBF := Lib.hid hB4
          clear hB2 hB3 hB4
          go_wp2_with fail
          go_ret
          exact ⟨by rw [HV.out]; rfl, HBF.out⟩
        · have hn' : (n == 0) = false := by simpa using hn
          have HV := Lib.hid (show exitOk (1, p, q, n) = false from by simp [exitOk, inB_iff.2 (show 0 ≤ p ∧ p ≤ 3 from ⟨by omega, by omega⟩), hn])
          have h9 : p ≥ 0 := by omega
          clear h0 hn
          have HU := Lib.hid (fun V : World => impl_usedBy 1 p q n V)
          rw [usedV_1] at HU
          have hb0 : Below w.heap.size w (w.alloc (.cells #[.int .i64 1, .int .i64 p, .bool q, .int .i64 n] 31)) := (Below.refl _ _).alloc (Nat.le_refl _) _
          have t0 : Var (w.alloc (.cells #[.int .i64 1, .int .i64 p, .bool q, .int .i64 n] 31)) w.heap.size [.int .i64 1, .int .i64 p, .bool q, .int .i64 n] := Var.new w [.int .i64 1, .int .i64 p, .bool q, .int .i64 n] 31
          have hz : w.heap.size < (w.alloc (.cells #[.int .i64 1, .int .i64 p, .bool q, .int .i64 n] 31)).heap.size := by simp
          go_enter Try.func102, Try.ntmps102
          go_wp2_with fail
          generalize w.alloc (.cells #[.int .i64 1, .int .i64 p, .bool q, .int .i64 n] 31) = W0 at t0 hb0 hz ⊢
          refine (HU.out _).mono ?_
          rintro e w1 ⟨rfl, hb1⟩
          have hb := btr hb0 hb1
          have T := t0.below hb1 hz
          have hz1 : w.heap.size < w1.heap.size := T.2
          clear hb0 hb1 t0 hz HU
          have as0 := as_fault_no (.agg #[.int .i64 p, .bool q])
          have as1 := as_fault_fault (.agg #[.int .i64 p, .bool q])
          have t2 : Var (w1.alloc (.cells #[.int .i64 p, .bool q] 121)) w1.heap.size [.int .i64 p, .bool q] := Var.new w1 [.int .i64 p, .bool q] 121
          have hA : Below w1.heap.size w1 (w1.alloc (.cells #[.int .i64 p, .bool q] 121)) := (Below.refl _ _).alloc (Nat.le_refl _) _
          have hB2 := btr hb hA
          have T2 := T.below hA hz1
          have hz2 : w1.heap.size < (w1.alloc (.cells #[.int .i64 p, .bool q] 121)).heap.size := by simp
          have hz3 : w.heap.size < (w1.alloc (.cells #[.int .i64 p, .bool q] 121)).heap.size := Nat.lt_trans hz1 hz2
          clear T hA hb
          go_wp2_with fail
          generalize w1.alloc (.cells #[.int .i64 p, .bool q] 121) = W2 at t2 T2 hB2 hz2 hz3 ⊢
          refine Ord.wp_region_ord (fun w' => w'.cell? ⟨w.heap.size, 0, none⟩ = some (.int .i64 1) ∧ w'.cell? ⟨w.heap.size, 1, none⟩ = some (.int .i64 p) ∧ w'.cell? ⟨w.heap.size, 2, none⟩ = some (.bool q) ∧ w'.cell? ⟨w.heap.size, 3, none⟩ = some (.int .i64 n) ∧ w'.cell? ⟨w1.heap.size, 0, none⟩ = some (.int .i64 p) ∧ w'.cell? ⟨w1.heap.size, 1, none⟩ = some (.bool q)) [(0, true), (1, true), (2, true), (3, true), (4, true), (5, true), (6, true), (7, true), (8, true), (9, true), (10, true), (11, true), (12, true), (13, true), (14, false), (15, true), (16, true), (17, true)] (by kernel_rfl) (by kernel_rfl) rfl (by kernel_rfl) (⟨T2.cell 0 (v := .int .i64 1) rfl, T2.cell 1 (v := .int .i64 p) rfl, T2.cell 2 (v := .bool q) rfl, T2.cell 3 (v := .int .i64 n) rfl, t2.cell 0 (v := .int .i64 p) rfl, t2.cell 1 (v := .bool q) rfl⟩) ?_
          simp only [Ord.ordOps, List.getElem?_toArray, List.getElem?_cons_zero, List.getElem?_cons_succ]
          repeat (first
            | (refine Ord.ord_plain (v := ?_) rfl (fun w' hS => ?_) ?_; rotate_left; (focus ((try dsimp only at hS); go_simp; first | done | with_reducible rfl)); simp only [Act.put, List.setIfInBounds_toArray, List.set_cons_zero, List.set_cons_succ])
            | (refine Ord.ord_skip (by rfl) ?_; simp only [Act.put, List.setIfInBounds_toArray, List.set_cons_zero, List.set_cons_succ])
            | (refine Ord.ord_take (v := ?_) (by rfl) (fun w' hS => ?_) ?_; rotate_left; (focus ((try dsimp only at hS); go_simp; first | done | with_reducible rfl)); simp only [Act.put, List.setIfInBounds_toArray, List.set_cons_zero, List.set_cons_succ]))
          have hbd : Below W2.heap.size W2 W2.drew := (Below.refl _ _).drew
          have hB3 := btr hB2 hbd
          have T3 := T2.below hbd hz3
          have t3 := t2.below hbd hz2
          have hz4 : W2.heap.size ≤ W2.drew.heap.size := hbd.size
          clear hbd
          refine Ord.ord_call (fun K hK => ?_)
          go_simp
          refine (HM.out _).mono ?_
          rintro e v4' ⟨rfl, hb4⟩
          have hB4 := btr hB3 hb4
          have T4 := T3.below hb4 (by omega)
          have t4 := t3.below hb4 (by omega)
          have hy4 := hb4.size
          refine hK.out _ _ (⟨T4.cell 0 (v := .int .i64 1) rfl, T4.cell 1 (v := .int .i64 p) rfl, T4.cell 2 (v := .bool q) rfl, T4.cell 3 (v := .int .i64 n) rfl, t4.cell 0 (v := .int .i64 p) rfl, t4.cell 1 (v := .bool q) rfl⟩) ?_
          clear hK K
          repeat (first
            | (refine Ord.ord_plain (v := ?_) rfl (fun w' hS => ?_) ?_; rotate_left; (focus ((try dsimp only at hS); go_simp; first | done | with_reducible rfl)); simp only [Act.put, List.setIfInBounds_toArray, List.set_cons_zero, List.set_cons_succ])
            | (refine Ord.ord_skip (by rfl) ?_; simp only [Act.put, List.setIfInBounds_toArray, List.set_cons_zero, List.set_cons_succ])
            | (refine Ord.ord_take (v := ?_) (by rfl) (fun w' hS => ?_) ?_; rotate_left; (focus ((try dsimp only at hS); go_simp; first | done | with_reducible rfl)); simp only [Act.put, List.setIfInBounds_toArray, List.set_cons_zero, List.set_cons_succ]))
          refine Ord.ord_nil ?_
          have HBF := Lib.hid hB4
          clear hB2 hB3 hB4
          go_wp2_with fail
          go_ret
          exact ⟨by rw [HV.out]; rfl, HBF.out⟩
      · have HV := Lib.hid (show exitOk (1, p, q, n) = false from by simp [exitOk, inB_false.2 (show p < 0 ∨ 3 < p from .inr (by omega))])
        have h9 : p ≥ 0 := by omega
        have h8 : decide (p < 4) = false := decide_eq_false h1
        clear h0 HM
        have HU := Lib.hid (fun V : World => impl_usedBy 1 p q n V)
        rw [usedV_1] at HU
        have hb0 : Below w.heap.size w (w.alloc (.cells #[.int .i64 1, .int .i64 p, .bool q, .int .i64 n] 31)) := (Below.refl _ _).alloc (Nat.le_refl _) _
        have t0 : Var (w.alloc (.cells #[.int .i64 1, .int .i64 p, .bool q, .int .i64 n] 31)) w.heap.size [.int .i64 1, .int .i64 p, .bool q, .int .i64 n] := Var.new w [.int .i64 1, .int .i64 p, .bool q, .int .i64 n] 31
        have hz : w.heap.size < (w.alloc (.cells #[.int .i64 1, .int .i64 p, .bool q, .int .i64 n] 31)).heap.size := by simp
        go_enter Try.func102, Try.ntmps102
        go_wp2_with fail
        generalize w.alloc (.cells #[.int .i64 1, .int .i64 p, .bool q, .int .i64 n] 31) = W0 at t0 hb0 hz ⊢
        refine (HU.out _).mono ?_
        rintro e w1 ⟨rfl, hb1⟩
        have hb := btr hb0 hb1
        have T := t0.below hb1 hz
        have hz1 : w.heap.size < w1.heap.size := T.2
        clear hb0 hb1 t0 hz HU
        have as0 := as_fault_no (.agg #[.int .i64 p, .bool q])
        have as1 := as_fault_fault (.agg #[.int .i64 p, .bool q])
        have t2 : Var (w1.alloc (.cells #[.int .i64 p, .bool q] 121)) w1.heap.size [.int .i64 p, .bool q] := Var.new w1 [.int .i64 p, .bool q] 121
        have hA : Below w1.heap.size w1 (w1.alloc (.cells #[.int .i64 p, .bool q] 121)) := (Below.refl _ _).alloc (Nat.le_refl _) _
        have hB2 := btr hb hA
        have T2 := T.below hA hz1
        have hz2 : w1.heap.size < (w1.alloc (.cells #[.int .i64 p, .bool q] 121)).heap.size := by simp
        have hz3 : w.heap.size < (w1.alloc (.cells #[.int .i64 p, .bool q] 121)).heap.size := Nat.lt_trans hz1 hz2
        clear T hA hb
        go_wp2_with fail
        generalize w1.alloc (.cells #[.int .i64 p, .bool q] 121) = W2 at t2 T2 hB2 hz2 hz3 ⊢
        refine Ord.wp_region_ord (fun w' => w'.cell? ⟨w.heap.size, 0, none⟩ = some (.int .i64 1) ∧ w'.cell? ⟨w.heap.size, 1, none⟩ = some (.int .i64 p) ∧ w'.cell? ⟨w.heap.size, 2, none⟩ = some (.bool q) ∧ w'.cell? ⟨w.heap.size, 3, none⟩ = some (.int .i64 n) ∧ w'.cell? ⟨w1.heap.size, 0, none⟩ = some (.int .i64 p) ∧ w'.cell? ⟨w1.heap.size, 1, none⟩ = some (.bool q)) [(0, true), (1, true), (2, true), (3, true), (4, true), (5, true), (6, true), (7, true), (8, true), (9, true), (10, true), (11, true), (12, true), (13, true), (14, false), (15, true), (16, true), (17, true)] (by kernel_rfl) (by kernel_rfl) rfl (by kernel_rfl) (⟨T2.cell 0 (v := .int .i64 1) rfl, T2.cell 1 (v := .int .i64 p) rfl, T2.cell 2 (v := .bool q) rfl, T2.cell 3 (v := .int .i64 n) rfl, t2.cell 0 (v := .int .i64 p) rfl, t2.cell 1 (v := .bool q) rfl⟩) ?_
        simp only [Ord.ordOps, List.getElem?_toArray, List.getElem?_cons_zero, List.getElem?_cons_succ]
        repeat (first
          | (refine Ord.ord_plain (v := ?_) rfl (fun w' hS => ?_) ?_; rotate_left; (focus ((try dsimp only at hS); go_simp; first | done | with_reducible rfl)); simp only [Act.put, List.setIfInBounds_toArray, List.set_cons_zero, List.set_cons_succ])
          | (refine Ord.ord_skip (by rfl) ?_; simp only [Act.put, List.setIfInBounds_toArray, List.set_cons_zero, List.set_cons_succ])
          | (refine Ord.ord_take (v := ?_) (by rfl) (fun w' hS => ?_) ?_; rotate_left; (focus ((try dsimp only at hS); go_simp; first | done | with_reducible rfl)); simp only [Act.put, List.setIfInBounds_toArray, List.set_cons_zero, List.set_cons_succ]))
        have hbd : Below W2.heap.size W2 W2.drew := (Below.refl _ _).drew
        have hB3 := btr hB2 hbd
        have T3 := T2.below hbd hz3
        have t3 := t2.below hbd hz2
        have hz4 : W2.heap.size ≤ W2.drew.heap.size := hbd.size
        clear hbd
        refine Ord.ord_not (by rfl) (fun K hK => ?_)
        simp only [Act.put, List.setIfInBounds_toArray, List.set_cons_zero, List.set_cons_succ]
        refine hK.out _ _ (⟨T3.cell 0 (v := .int .i64 1) rfl, T3.cell 1 (v := .int .i64 p) rfl, T3.cell 2 (v := .bool q) rfl, T3.cell 3 (v := .int .i64 n) rfl, t3.cell 0 (v := .int .i64 p) rfl, t3.cell 1 (v := .bool q) rfl⟩) ?_
        clear hK K
        repeat (first
          | (refine Ord.ord_plain (v := ?_) rfl (fun w' hS => ?_) ?_; rotate_left; (focus ((try dsimp only at hS); go_simp; first | done | with_reducible rfl)); simp only [Act.put, List.setIfInBounds_toArray, List.set_cons_zero, List.set_cons_succ])
          | (refine Ord.ord_skip (by rfl) ?_; simp only [Act.put, List.setIfInBounds_toArray, List.set_cons_zero, List.set_cons_succ])
          | (refine Ord.ord_take (v := ?_) (by rfl) (fun w' hS => ?_) ?_; rotate_left; (focus ((try dsimp only at hS); go_simp; first | done | with_reducible rfl)); simp only [Act.put, List.setIfInBounds_toArray, List.set_cons_zero, List.set_cons_succ]))
        refine Ord.ord_nil ?_
        have HBF := Lib.hid hB3
        clear hB2 hB3
        go_wp2_with fail
        go_ret
        exact ⟨by rw [HV.out]; rfl, HBF.out⟩
  · have HM := Lib.hid (fun V : World => impl_call' n V)
    unfold ExitP at HM
    dsimp only at HM
    have hC := fun V : World => impl_cellOkE n V
    cases hi : inB n 0 99
    · have HV := Lib.hid (show exitOk (2, p, q, n) = false from by simp [exitOk, hi])
      rw [hi] at hC
      have HC := Lib.hid hC
      clear hC HM hi
      have HU := Lib.hid (fun V : World => impl_usedBy 2 p q n V)
      rw [usedV_2] at HU
      have hb0 : Below w.heap.size w (w.alloc (.cells #[.int .i64 2, .int .i64 p, .bool q, .int .i64 n] 31)) := (Below.refl _ _).alloc (Nat.le_refl _) _
      have t0 : Var (w.alloc (.cells #[.int .i64 2, .int .i64 p, .bool q, .int .i64 n] 31)) w.heap.size [.int .i64 2, .int .i64 p, .bool q, .int .i64 n] := Var.new w [.int .i64 2, .int .i64 p, .bool q, .int .i64 n] 31
      have hz : w.heap.size < (w.alloc (.cells #[.int .i64 2, .int .i64 p, .bool q, .int .i64 n] 31)).heap.size := by simp
      go_enter Try.func102, Try.ntmps102
      go_wp2_with fail
      generalize w.alloc (.cells #[.int .i64 2, .int .i64 p, .bool q, .int .i64 n] 31) = W0 at t0 hb0 hz ⊢
      refine (HU.out _).mono ?_
      rintro e w1 ⟨rfl, hb1⟩
      have hb := btr hb0 hb1
      have T := t0.below hb1 hz
      have hz1 : w.heap.size < w1.heap.size := T.2
      clear hb0 hb1 t0 hz HU
      have as0 := as_call_no (.agg #[.int .i64 n])
      have as1 := as_call_fault (.agg #[.int .i64 n])
      have as2 := as_call_call (.agg #[.int .i64 n])
      have t2 : Var (w1.alloc (.cells #[.int .i64 n] 124)) w1.heap.size [.int .i64 n] := Var.new w1 [.int .i64 n] 124
      have hA : Below w1.heap.size w1 (w1.alloc (.cells #[.int .i64 n] 124)) := (Below.refl _ _).alloc (Nat.le_refl _) _
      have hB2 := btr hb hA
      have T2 := T.below hA hz1
      have hz2 : w1.heap.size < (w1.alloc (.cells #[.int .i64 n] 124)).heap.size := by simp
      have hz3 : w.heap.size < (w1.alloc (.cells #[.int .i64 n] 124)).heap.size := Nat.lt_trans hz1 hz2
      clear T hA hb
      go_wp2_with fail
      generalize w1.alloc (.cells #[.int .i64 n] 124) = W2 at t2 T2 hB2 hz2 hz3 ⊢
      refine Ord.wp_region_ord (fun w' => w'.cell? ⟨w.heap.size, 0, none⟩ = some (.int .i64 2) ∧ w'.cell? ⟨w.heap.size, 1, none⟩ = some (.int .i64 p) ∧ w'.cell? ⟨w.heap.size, 2, none⟩ = some (.bool q) ∧ w'.cell? ⟨w.heap.size, 3, none⟩ = some (.int .i64 n) ∧ w'.cell? ⟨w1.heap.size, 0, none⟩ = some (.int .i64 n)) [(0, true), (1, true), (2, false), (3, true), (4, true), (5, true), (6, true), (7, false), (8, true), (9, true), (10, true)] (by kernel_rfl) (by kernel_rfl) rfl (by kernel_rfl) (⟨T2.cell 0 (v := .int .i64 2) rfl, T2.cell 1 (v := .int .i64 p) rfl, T2.cell 2 (v := .bool q) rfl, T2.cell 3 (v := .int .i64 n) rfl, t2.cell 0 (v := .int .i64 n) rfl⟩) ?_
      simp only [Ord.ordOps, List.getElem?_toArray, List.getElem?_cons_zero, List.getElem?_cons_succ]
      repeat (first
        | (refine Ord.ord_plain (v := ?_) rfl (fun w' hS => ?_) ?_; rotate_left; (focus ((try dsimp only at hS); go_simp; first | done | with_reducible rfl)); simp only [Act.put, List.setIfInBounds_toArray, List.set_cons_zero, List.set_cons_succ])
        | (refine Ord.ord_skip (by rfl) ?_; simp only [Act.put, List.setIfInBounds_toArray, List.set_cons_zero, List.set_cons_succ])
        | (refine Ord.ord_take (v := ?_) (by rfl) (fun w' hS => ?_) ?_; rotate_left; (focus ((try dsimp only at hS); go_simp; first | done | with_reducible rfl)); simp only [Act.put, List.setIfInBounds_toArray, List.set_cons_zero, List.set_cons_succ]))
      have hbd : Below W2.heap.size W2 W2.drew := (Below.refl _ _).drew
      have hB3 := btr hB2 hbd
      have T3 := T2.below hbd hz3
      have t3 := t2.below hbd hz2
      have hz4 : W2.heap.size ≤ W2.drew.heap.size := hbd.size
      clear hbd
      refine Ord.ord_call (fun K hK => ?_)
      go_simp
      refine (HC.out _).mono ?_
      rintro e v4' ⟨rfl, hb4⟩
      have hB4 := btr hB3 hb4
      have T4 := T3.below hb4 (by omega)
      have t4 := t3.below hb4 (by omega)
      have hy4 := hb4.size
      refine hK.out _ _ (⟨T4.cell 0 (v := .int .i64 2) rfl, T4.cell 1 (v := .int .i64 p) rfl, T4.cell 2 (v := .bool q) rfl, T4.cell 3 (v := .int .i64 n) rfl, t4.cell 0 (v := .int .i64 n) rfl⟩) ?_
      clear hK K
      repeat (first
        | (refine Ord.ord_plain (v := ?_) rfl (fun w' hS => ?_) ?_; rotate_left; (focus ((try dsimp only at hS); go_simp; first | done | with_reducible rfl)); simp only [Act.put, List.setIfInBounds_toArray, List.set_cons_zero, List.set_cons_succ])
        | (refine Ord.ord_skip (by rfl) ?_; simp only [Act.put, List.setIfInBounds_toArray, List.set_cons_zero, List.set_cons_succ])
        | (refine Ord.ord_take (v := ?_) (by rfl) (fun w' hS => ?_) ?_; rotate_left; (focus ((try dsimp only at hS); go_simp; first | done | with_reducible rfl)); simp only [Act.put, List.setIfInBounds_toArray, List.set_cons_zero, List.set_cons_succ]))
      refine Ord.ord_not (by rfl) (fun K hK => ?_)
      simp only [Act.put, List.setIfInBounds_toArray, List.set_cons_zero, List.set_cons_succ]
      refine hK.out _ _ (⟨T4.cell 0 (v := .int .i64 2) rfl, T4.cell 1 (v := .int .i64 p) rfl, T4.cell 2 (v := .bool q) rfl, T4.cell 3 (v := .int .i64 n) rfl, t4.cell 0 (v := .int .i64 n) rfl⟩) ?_
      clear hK K
      repeat (first
        | (refine Ord.ord_plain (v := ?_) rfl (fun w' hS => ?_) ?_; rotate_left; (focus ((try dsimp only at hS); go_simp; first | done | with_reducible rfl)); simp only [Act.put, List.setIfInBounds_toArray, List.set_cons_zero, List.set_cons_succ])
        | (refine Ord.ord_skip (by rfl) ?_; simp only [Act.put, List.setIfInBounds_toArray, List.set_cons_zero, List.set_cons_succ])
        | (refine Ord.ord_take (v := ?_) (by rfl) (fun w' hS => ?_) ?_; rotate_left; (focus ((try dsimp only at hS); go_simp; first | done | with_reducible rfl)); simp only [Act.put, List.setIfInBounds_toArray, List.set_cons_zero, List.set_cons_succ]))
      refine Ord.ord_nil ?_
      have HBF := Lib.hid hB4
      clear hB2 hB3 hB4
      go_wp2_with fail
      go_ret
      exact ⟨by rw [HV.out]; rfl, HBF.out⟩
    · rw [hi] at hC
      have HC := Lib.hid hC
      clear hC
      by_cases hp : p = 0 <;> cases q
      · subst hp
        have HV := Lib.hid (show exitOk (2, 0, false, n) = true from by simp [exitOk, hi])
        clear hi
        have HU := Lib.hid (fun V : World => impl_usedBy 2 0 false n V)
        rw [usedV_2] at HU
        have hb0 : Below w.heap.size w (w.alloc (.cells #[.int .i64 2, .int .i64 0, .bool false, .int .i64 n] 31)) := (Below.refl _ _).alloc (Nat.le_refl _) _
        have t0 : Var (w.alloc (.cells #[.int .i64 2, .int .i64 0, .bool false, .int .i64 n] 31)) w.heap.size [.int .i64 2, .int .i64 0, .bool false, .int .i64 n] := Var.new w [.int .i64 2, .int .i64 0, .bool false, .int .i64 n] 31
        have hz : w.heap.size < (w.alloc (.cells #[.int .i64 2, .int .i64 0, .bool false, .int .i64 n] 31)).heap.size := by simp
        go_enter Try.func102, Try.ntmps102
        go_wp2_with fail
        generalize w.alloc (.cells #[.int .i64 2, .int .i64 0, .bool false, .int .i64 n] 31) = W0 at t0 hb0 hz ⊢
        refine (HU.out _).mono ?_
        rintro e w1 ⟨rfl, hb1⟩
        have hb := btr hb0 hb1
        have T := t0.below hb1 hz
        have hz1 : w.heap.size < w1.heap.size := T.2
        clear hb0 hb1 t0 hz HU
        have as0 := as_call_no (.agg #[.int .i64 n])
        have as1 := as_call_fault (.agg #[.int .i64 n])
        have as2 := as_call_call (.agg #[.int .i64 n])
        have t2 : Var (w1.alloc (.cells #[.int .i64 n] 124)) w1.heap.size [.int .i64 n] := Var.new w1 [.int .i64 n] 124
        have hA : Below w1.heap.size w1 (w1.alloc (.cells #[.int .i64 n] 124)) := (Below.refl _ _).alloc (Nat.le_refl _) _
        have hB2 := btr hb hA
        have T2 := T.below hA hz1
        have hz2 : w1.heap.size < (w1.alloc (.cells #[.int .i64 n] 124)).heap.size := by simp
        have hz3 : w.heap.size < (w1.alloc (.cells #[.int .i64 n] 124)).heap.size := Nat.lt_trans hz1 hz2
        clear T hA hb
        go_wp2_with fail
        generalize w1.alloc (.cells #[.int .i64 n] 124) = W2 at t2 T2 hB2 hz2 hz3 ⊢
        refine Ord.wp_region_ord (fun w' => w'.cell? ⟨w.heap.size, 0, none⟩ = some (.int .i64 2) ∧ w'.cell? ⟨w.heap.size, 1, none⟩ = some (.int .i64 0) ∧ w'.cell? ⟨w.heap.size, 2, none⟩ = some (.bool false) ∧ w'.cell? ⟨w.heap.size, 3, none⟩ = some (.int .i64 n) ∧ w'.cell? ⟨w1.heap.size, 0, none⟩ = some (.int .i64 n)) [(0, true), (1, true), (2, false), (3, true), (4, true), (5, true), (6, true), (7, false), (8, true), (9, true), (10, true)] (by kernel_rfl) (by kernel_rfl) rfl (by kernel_rfl) (⟨T2.cell 0 (v := .int .i64 2) rfl, T2.cell 1 (v := .int .i64 0) rfl, T2.cell 2 (v := .bool false) rfl, T2.cell 3 (v := .int .i64 n) rfl, t2.cell 0 (v := .int .i64 n) rfl⟩) ?_
        simp only [Ord.ordOps, List.getElem?_toArray, List.getElem?_cons_zero, List.getElem?_cons_succ]
        repeat (first
          | (refine Ord.ord_plain (v := ?_) rfl (fun w' hS => ?_) ?_; rotate_left; (focus ((try dsimp only at hS); go_simp; first | done | with_reducible rfl)); simp only [Act.put, List.setIfInBounds_toArray, List.set_cons_zero, List.set_cons_succ])
          | (refine Ord.ord_skip (by rfl) ?_; simp only [Act.put, List.setIfInBounds_toArray, List.set_cons_zero, List.set_cons_succ])
          | (refine Ord.ord_take (v := ?_) (by rfl) (fun w' hS => ?_) ?_; rotate_left; (focus ((try dsimp only at hS); go_simp; first | done | with_reducible rfl)); simp only [Act.put, List.setIfInBounds_toArray, List.set_cons_zero, List.set_cons_succ]))
        have hbd : Below W2.heap.size W2 W2.drew := (Below.refl _ _).drew
        have hB3 := btr hB2 hbd
        have T3 := T2.below hbd hz3
        have t3 := t2.below hbd hz2
        have hz4 : W2.heap.size ≤ W2.drew.heap.size := hbd.size
        clear hbd
        refine Ord.ord_call (fun K hK => ?_)
        go_simp
        refine (HC.out _).mono ?_
        rintro e v4' ⟨rfl, hb4⟩
        have hB4 := btr hB3 hb4
        have T4 := T3.below hb4 (by omega)
        have t4 := t3.below hb4 (by omega)
        have hy4 := hb4.size
        refine hK.out _ _ (⟨T4.cell 0 (v := .int .i64 2) rfl, T4.cell 1 (v := .int .i64 0) rfl, T4.cell 2 (v := .bool false) rfl, T4.cell 3 (v := .int .i64 n) rfl, t4.cell 0 (v := .int .i64 n) rfl⟩) ?_
        clear hK K
        repeat (first
          | (refine Ord.ord_plain (v := ?_) rfl (fun w' hS => ?_) ?_; rotate_left; (focus ((try dsimp only at hS); go_simp; first | done | with_reducible rfl)); simp only [Act.put, List.setIfInBounds_toArray, List.set_cons_zero, List.set_cons_succ])
          | (refine Ord.ord_skip (by rfl) ?_; simp only [Act.put, List.setIfInBounds_toArray, List.set_cons_zero, List.set_cons_succ])
          | (refine Ord.ord_take (v := ?_) (by rfl) (fun w' hS => ?_) ?_; rotate_left; (focus ((try dsimp only at hS); go_simp; first | done | with_reducible rfl)); simp only [Act.put, List.setIfInBounds_toArray, List.set_cons_zero, List.set_cons_succ]))
        refine Ord.ord_call (fun K hK => ?_)
        go_simp
        refine (HM.out _).mono ?_
        rintro e v5' ⟨rfl, hb5⟩
        have hB5 := btr hB4 hb5
        have T5 := T4.below hb5 (by omega)
        have t5 := t4.below hb5 (by omega)
        have hy5 := hb5.size
        refine hK.out _ _ (⟨T5.cell 0 (v := .int .i64 2) rfl, T5.cell 1 (v := .int .i64 0) rfl, T5.cell 2 (v := .bool false) rfl, T5.cell 3 (v := .int .i64 n) rfl, t5.cell 0 (v := .int .i64 n) rfl⟩) ?_
        clear hK K
        repeat (first
          | (refine Ord.ord_plain (v := ?_) rfl (fun w' hS => ?_) ?_; rotate_left; (focus ((try dsimp only at hS); go_simp; first | done | with_reducible rfl)); simp only [Act.put, List.setIfInBounds_toArray, List.set_cons_zero, List.set_cons_succ])
          | (refine Ord.ord_skip (by rfl) ?_; simp only [Act.put, List.setIfInBounds_toArray, List.set_cons_zero, List.set_cons_succ])
          | (refine Ord.ord_take (v := ?_) (by rfl) (fun w' hS => ?_) ?_; rotate_left; (focus ((try dsimp only at hS); go_simp; first | done | with_reducible rfl)); simp only [Act.put, List.setIfInBounds_toArray, List.set_cons_zero, List.set_cons_succ]))
        refine Ord.ord_nil ?_
        have HBF := Lib.hid hB5
        clear hB2 hB3 hB4 hB5
        go_wp2_with fail
        go_ret
        exact ⟨by rw [HV.out]; rfl, HBF.out⟩
      · subst hp
        have HV := Lib.hid (show exitOk (2, 0, true, n) = false from by simp [exitOk, hi])
        clear hi
        have HU := Lib.hid (fun V : World => impl_usedBy 2 0 true n V)
        rw [usedV_2] at HU
        have hb0 : Below w.heap.size w (w.alloc (.cells #[.int .i64 2, .int .i64 0, .bool true, .int .i64 n] 31)) := (Below.refl _ _).alloc (Nat.le_refl _) _
        have t0 : Var (w.alloc (.cells #[.int .i64 2, .int .i64 0, .bool true, .int .i64 n] 31)) w.heap.size [.int .i64 2, .int .i64 0, .bool true, .int .i64 n] := Var.new w [.int .i64 2, .int .i64 0, .bool true, .int .i64 n] 31
        have hz : w.heap.size < (w.alloc (.cells #[.int .i64 2, .int .i64 0, .bool true, .int .i64 n] 31)).heap.size := by simp
        go_enter Try.func102, Try.ntmps102
        go_wp2_with fail
        generalize w.alloc (.cells #[.int .i64 2, .int .i64 0, .bool true, .int .i64 n] 31) = W0 at t0 hb0 hz ⊢
        refine (HU.out _).mono ?_
        rintro e w1 ⟨rfl, hb1⟩
        have hb := btr hb0 hb1
        have T := t0.below hb1 hz
        have hz1 : w.heap.size < w1.heap.size := T.2
        clear hb0 hb1 t0 hz HU
        have as0 := as_call_no (.agg #[.int .i64 n])
        have as1 := as_call_fault (.agg #[.int .i64 n])
        have as2 := as_call_call (.agg #[.int .i64 n])
        have t2 : Var (w1.alloc (.cells #[.int .i64 n] 124)) w1.heap.size [.int .i64 n] := Var.new w1 [.int .i64 n] 124
        have hA : Below w1.heap.size w1 (w1.alloc (.cells #[.int .i64 n] 124)) := (Below.refl _ _).alloc (Nat.le_refl _) _
        have hB2 := btr hb hA
        have T2 := T.below hA hz1
        have hz2 : w1.heap.size < (w1.alloc (.cells #[.int .i64 n] 124)).heap.size := by simp
        have hz3 : w.heap.size < (w1.alloc (.cells #[.int .i64 n] 124)).heap.size := Nat.lt_trans hz1 hz2
        clear T hA hb
        go_wp2_with fail
        generalize w1.alloc (.cells #[.int .i64 n] 124) = W2 at t2 T2 hB2 hz2 hz3 ⊢
        refine Ord.wp_region_ord (fun w' => w'.cell? ⟨w.heap.size, 0, none⟩ = some (.int .i64 2) ∧ w'.cell? ⟨w.heap.size, 1, none⟩ = some (.int .i64 0) ∧ w'.cell? ⟨w.heap.size, 2, none⟩ = some (.bool true) ∧ w'.cell? ⟨w.heap.size, 3, none⟩ = some (.int .i64 n) ∧ w'.cell? ⟨w1.heap.size, 0, none⟩ = some (.int .i64 n)) [(0, true), (1, true), (2, false), (3, true), (4, true), (5, true), (6, true), (7, false), (8, true), (9, true), (10, true)] (by kernel_rfl) (by kernel_rfl) rfl (by kernel_rfl) (⟨T2.cell 0 (v := .int .i64 2) rfl, T2.cell 1 (v := .int .i64 0) rfl, T2.cell 2 (v := .bool true) rfl, T2.cell 3 (v := .int .i64 n) rfl, t2.cell 0 (v := .int .i64 n) rfl⟩) ?_
        simp only [Ord.ordOps, List.getElem?_toArray, List.getElem?_cons_zero, List.getElem?_cons_succ]
        repeat (first
          | (refine Ord.ord_plain (v := ?_) rfl (fun w' hS => ?_) ?_; rotate_left; (focus ((try dsimp only at hS); go_simp; first | done | with_reducible rfl)); simp only [Act.put, List.setIfInBounds_toArray, List.set_cons_zero, List.set_cons_succ])
          | (refine Ord.ord_skip (by rfl) ?_; simp only [Act.put, List.setIfInBounds_toArray, List.set_cons_zero, List.set_cons_succ])
          | (refine Ord.ord_take (v := ?_) (by rfl) (fun w' hS => ?_) ?_; rotate_left; (focus ((try dsimp only at hS); go_simp; first | done | with_reducible rfl)); simp only [Act.put, List.setIfInBounds_toArray, List.set_cons_zero, List.set_cons_succ]))
        have hbd : Below W2.heap.size W2 W2.drew := (Below.refl _ _).drew
        have hB3 := btr hB2 hbd
        have T3 := T2.below hbd hz3
        have t3 := t2.below hbd hz2
        have hz4 : W2.heap.size ≤ W2.drew.heap.size := hbd.size
        clear hbd
        refine Ord.ord_call (fun K hK => ?_)
        go_simp
        refine (HC.out _).mono ?_
        rintro e v4' ⟨rfl, hb4⟩
        have hB4 := btr hB3 hb4
        have T4 := T3.below hb4 (by omega)
        have t4 := t3.below hb4 (by omega)
        have hy4 := hb4.size
        refine hK.out _ _ (⟨T4.cell 0 (v := .int .i64 2) rfl, T4.cell 1 (v := .int .i64 0) rfl, T4.cell 2 (v := .bool true) rfl, T4.cell 3 (v := .int .i64 n) rfl, t4.cell 0 (v := .int .i64 n) rfl⟩) ?_
        clear hK K
        repeat (first
          | (refine Ord.ord_plain (v := ?_) rfl (fun w' hS => ?_) ?_; rotate_left; (focus ((try dsimp only at hS); go_simp; first | done | with_reducible rfl)); simp only [Act.put, List.setIfInBounds_toArray, List.set_cons_zero, List.set_cons_succ])
          | (refine Ord.ord_skip (by rfl) ?_; simp only [Act.put, List.setIfInBounds_toArray, List.set_cons_zero, List.set_cons_succ])
          | (refine Ord.ord_take (v := ?_) (by rfl) (fun w' hS => ?_) ?_; rotate_left; (focus ((try dsimp only at hS); go_simp; first | done | with_reducible rfl)); simp only [Act.put, List.setIfInBounds_toArray, List.set_cons_zero, List.set_cons_succ]))
        refine Ord.ord_call (fun K hK => ?_)
        go_simp
        refine (HM.out _).mono ?_
        rintro e v5' ⟨rfl, hb5⟩
        have hB5 := btr hB4 hb5
        have T5 := T4.below hb5 (by omega)
        have t5 := t4.below hb5 (by omega)
        have hy5 := hb5.size
        refine hK.out _ _ (⟨T5.cell 0 (v := .int .i64 2) rfl, T5.cell 1 (v := .int .i64 0) rfl, T5.cell 2 (v := .bool true) rfl, T5.cell 3 (v := .int .i64 n) rfl, t5.cell 0 (v := .int .i64 n) rfl⟩) ?_
        clear hK K
        repeat (first
          | (refine Ord.ord_plain (v := ?_) rfl (fun w' hS => ?_) ?_; rotate_left; (focus ((try dsimp only at hS); go_simp; first | done | with_reducible rfl)); simp only [Act.put, List.setIfInBounds_toArray, List.set_cons_zero, List.set_cons_succ])
          | (refine Ord.ord_skip (by rfl) ?_; simp only [Act.put, List.setIfInBounds_toArray, List.set_cons_zero, List.set_cons_succ])
          | (refine Ord.ord_take (v := ?_) (by rfl) (fun w' hS => ?_) ?_; rotate_left; (focus ((try dsimp only at hS); go_simp; first | done | with_reducible rfl)); simp only [Act.put, List.setIfInBounds_toArray, List.set_cons_zero, List.set_cons_succ]))
        refine Ord.ord_nil ?_
        have HBF := Lib.hid hB5
        clear hB2 hB3 hB4 hB5
        go_wp2_with fail
        go_ret
        exact ⟨by rw [HV.out]; rfl, HBF.out⟩
      · have hp' : (p == 0) = false := by simpa using hp
        have HV := Lib.hid (show exitOk (2, p, false, n) = false from by simp [exitOk, hi, hp])
        clear hi hp
        have HU := Lib.hid (fun V : World => impl_usedBy 2 p false n V)
        rw [usedV_2] at HU
        have hb0 : Below w.heap.size w (w.alloc (.cells #[.int .i64 2, .int .i64 p, .bool false, .int .i64 n] 31)) := (Below.refl _ _).alloc (Nat.le_refl _) _
        have t0 : Var (w.alloc (.cells #[.int .i64 2, .int .i64 p, .bool false, .int .i64 n] 31)) w.heap.size [.int .i64 2, .int .i64 p, .bool false, .int .i64 n] := Var.new w [.int .i64 2, .int .i64 p, .bool false, .int .i64 n] 31
        have hz : w.heap.size < (w.alloc (.cells #[.int .i64 2, .int .i64 p, .bool false, .int .i64 n] 31)).heap.size := by simp
        go_enter Try.func102, Try.ntmps102
        go_wp2_with fail
        generalize w.alloc (.cells #[.int .i64 2, .int .i64 p, .bool false, .int .i64 n] 31) = W0 at t0 hb0 hz ⊢
        refine (HU.out _).mono ?_
        rintro e w1 ⟨rfl, hb1⟩
        have hb := btr hb0 hb1
        have T := t0.below hb1 hz
        have hz1 : w.heap.size < w1.heap.size := T.2
        clear hb0 hb1 t0 hz HU
        have as0 := as_call_no (.agg #[.int .i64 n])
        have as1 := as_call_fault (.agg #[.int .i64 n])
        have as2 := as_call_call (.agg #[.int .i64 n])
        have t2 : Var (w1.alloc (.cells #[.int .i64 n] 124)) w1.heap.size [.int .i64 n] := Var.new w1 [.int .i64 n] 124
        have hA : Below w1.heap.size w1 (w1.alloc (.cells #[.int .i64 n] 124)) := (Below.refl _ _).alloc (Nat.le_refl _) _
        have hB2 := btr hb hA
        have T2 := T.below hA hz1
        have hz2 : w1.heap.size < (w1.alloc (.cells #[.int .i64 n] 124)).heap.size := by simp
        have hz3 : w.heap.size < (w1.alloc (.cells #[.int .i64 n] 124)).heap.size := Nat.lt_trans hz1 hz2
        clear T hA hb
        go_wp2_with fail
        generalize w1.alloc (.cells #[.int .i64 n] 124) = W2 at t2 T2 hB2 hz2 hz3 ⊢
        refine Ord.wp_region_ord (fun w' => w'.cell? ⟨w.heap.size, 0, none⟩ = some (.int .i64 2) ∧ w'.cell? ⟨w.heap.size, 1, none⟩ = some (.int .i64 p) ∧ w'.cell? ⟨w.heap.size, 2, none⟩ = some (.bool false) ∧ w'.cell? ⟨w.heap.size, 3, none⟩ = some (.int .i64 n) ∧ w'.cell? ⟨w1.heap.size, 0, none⟩ = some (.int .i64 n)) [(0, true), (1, true), (2, false), (3, true), (4, true), (5, true), (6, true), (7, false), (8, true), (9, true), (10, true)] (by kernel_rfl) (by kernel_rfl) rfl (by kernel_rfl) (⟨T2.cell 0 (v := .int .i64 2) rfl, T2.cell 1 (v := .int .i64 p) rfl, T2.cell 2 (v := .bool false) rfl, T2.cell 3 (v := .int .i64 n) rfl, t2.cell 0 (v := .int .i64 n) rfl⟩) ?_
        simp only [Ord.ordOps, List.getElem?_toArray, List.getElem?_cons_zero, List.getElem?_cons_succ]
        repeat (first
          | (refine Ord.ord_plain (v := ?_) rfl (fun w' hS => ?_) ?_; rotate_left; (focus ((try dsimp only at hS); go_simp; first | done | with_reducible rfl)); simp only [Act.put, List.setIfInBounds_toArray, List.set_cons_zero, List.set_cons_succ])
          | (refine Ord.ord_skip (by rfl) ?_; simp only [Act.put, List.setIfInBounds_toArray, List.set_cons_zero, List.set_cons_succ])
          | (refine Ord.ord_take (v := ?_) (by rfl) (fun w' hS => ?_) ?_; rotate_left; (focus ((try dsimp only at hS); go_simp; first | done | with_reducible rfl)); simp only [Act.put, List.setIfInBounds_toArray, List.set_cons_zero, List.set_cons_succ]))
        have hbd : Below W2.heap.size W2 W2.drew := (Below.refl _ _).drew
        have hB3 := btr hB2 hbd
        have T3 := T2.below hbd hz3
        have t3 := t2.below hbd hz2
        have hz4 : W2.heap.size ≤ W2.drew.heap.size := hbd.size
        clear hbd
        refine Ord.ord_call (fun K hK => ?_)
        go_simp
        refine (HC.out _).mono ?_
        rintro e v4' ⟨rfl, hb4⟩
        have hB4 := btr hB3 hb4
        have T4 := T3.below hb4 (by omega)
        have t4 := t3.below hb4 (by omega)
        have hy4 := hb4.size
        refine hK.out _ _ (⟨T4.cell 0 (v := .int .i64 2) rfl, T4.cell 1 (v := .int .i64 p) rfl, T4.cell 2 (v := .bool false) rfl, T4.cell 3 (v := .int .i64 n) rfl, t4.cell 0 (v := .int .i64 n) rfl⟩) ?_
        clear hK K
        repeat (first
          | (refine Ord.ord_plain (v := ?_) rfl (fun w' hS => ?_) ?_; rotate_left; (focus ((try dsimp only at hS); go_simp; first | done | with_reducible rfl)); simp only [Act.put, List.setIfInBounds_toArray, List.set_cons_zero, List.set_cons_succ])
          | (refine Ord.ord_skip (by rfl) ?_; simp only [Act.put, List.setIfInBounds_toArray, List.set_cons_zero, List.set_cons_succ])
          | (refine Ord.ord_take (v := ?_) (by rfl) (fun w' hS => ?_) ?_; rotate_left; (focus ((try dsimp only at hS); go_simp; first | done | with_reducible rfl)); simp only [Act.put, List.setIfInBounds_toArray, List.set_cons_zero, List.set_cons_succ]))
        refine Ord.ord_call (fun K hK => ?_)
        go_simp
        refine (HM.out _).mono ?_
        rintro e v5' ⟨rfl, hb5⟩
        have hB5 := btr hB4 hb5
        have T5 := T4.below hb5 (by omega)
        have t5 := t4.below hb5 (by omega)
        have hy5 := hb5.size
        refine hK.out _ _ (⟨T5.cell 0 (v := .int .i64 2) rfl, T5.cell 1 (v := .int .i64 p) rfl, T5.cell 2 (v := .bool false) rfl, T5.cell 3 (v := .int .i64 n) rfl, t5.cell 0 (v := .int .i64 n) rfl⟩) ?_
        clear hK K
        repeat (first
          | (refine Ord.ord_plain (v := ?_) rfl (fun w' hS => ?_) ?_; rotate_left; (focus ((try dsimp only at hS); go_simp; first | done | with_reducible rfl)); simp only [Act.put, List.setIfInBounds_toArray, List.set_cons_zero, List.set_cons_succ])
          | (refine Ord.ord_skip (by rfl) ?_; simp only [Act.put, List.setIfInBounds_toArray, List.set_cons_zero, List.set_cons_succ])
          | (refine Ord.ord_take (v := ?_) (by rfl) (fun w' hS => ?_) ?_; rotate_left; (focus ((try dsimp only at hS); go_simp; first | done | with_reducible rfl)); simp only [Act.put, List.setIfInBounds_toArray, List.set_cons_zero, List.set_cons_succ]))
        refine Ord.ord_nil ?_
        have HBF := Lib.hid hB5
        clear hB2 hB3 hB4 hB5
        go_wp2_with fail
        go_ret
        exact ⟨by rw [HV.out]; rfl, HBF.out⟩
      · have hp' : (p == 0) = false := by simpa using hp
        have HV := Lib.hid (show exitOk (2, p, true, n) = false from by simp [exitOk, hi, hp])
        clear hi hp
        have HU := Lib.hid (fun V : World => impl_usedBy 2 p true n V)
        rw [usedV_2] at HU
        have hb0 : Below w.heap.size w (w.alloc (.cells #[.int .i64 2, .int .i64 p, .bool true, .int .i64 n] 31)) := (Below.refl _ _).alloc (Nat.le_refl _) _
        have t0 : Var (w.alloc (.cells #[.int .i64 2, .int .i64 p, .bool true, .int .i64 n] 31)) w.heap.size [.int .i64 2, .int .i64 p, .bool true, .int .i64 n] := Var.new w [.int .i64 2, .int .i64 p, .bool true, .int .i64 n] 31
        have hz : w.heap.size < (w.alloc (.cells #[.int .i64 2, .int .i64 p, .bool true, .int .i64 n] 31)).heap.size := by simp
        go_enter Try.func102, Try.ntmps102
        go_wp2_with fail
        generalize w.alloc (.cells #[.int .i64 2, .int .i64 p, .bool true, .int .i64 n] 31) = W0 at t0 hb0 hz ⊢
        refine (HU.out _).mono ?_
        rintro e w1 ⟨rfl, hb1⟩
        have hb := btr hb0 hb1
        have T := t0.below hb1 hz
        have hz1 : w.heap.size < w1.heap.size := T.2
        clear hb0 hb1 t0 hz HU
        have as0 := as_call_no (.agg #[.int .i64 n])
        have as1 := as_call_fault (.agg #[.int .i64 n])
        have as2 := as_call_call (.agg #[.int .i64 n])
        have t2 : Var (w1.alloc (.cells #[.int .i64 n] 124)) w1.heap.size [.int .i64 n] := Var.new w1 [.int .i64 n] 124
        have hA : Below w1.heap.size w1 (w1.alloc (.cells #[.int .i64 n] 124)) := (Below.refl _ _).alloc (Nat.le_refl _) _
        have hB2 := btr hb hA
        have T2 := T.below hA hz1
        have hz2 : w1.heap.size < (w1.alloc (.cells #[.int .i64 n] 124)).heap.size := by simp
        have hz3 : w.heap.size < (w1.alloc (.cells #[.int .i64 n] 124)).heap.size := Nat.lt_trans hz1 hz2
        clear T hA hb
        go_wp2_with fail
        generalize w1.alloc (.cells #[.int .i64 n] 124) = W2 at t2 T2 hB2 hz2 hz3 ⊢
        refine Ord.wp_region_ord (fun w' => w'.cell? ⟨w.heap.size, 0, none⟩ = some (.int .i64 2) ∧ w'.cell? ⟨w.heap.size, 1, none⟩ = some (.int .i64 p) ∧ w'.cell? ⟨w.heap.size, 2, none⟩ = some (.bool true) ∧ w'.cell? ⟨w.heap.size, 3, none⟩ = some (.int .i64 n) ∧ w'.cell? ⟨w1.heap.size, 0, none⟩ = some (.int .i64 n)) [(0, true), (1, true), (2, false), (3, true), (4, true), (5, true), (6, true), (7, false), (8, true), (9, true), (10, true)] (by kernel_rfl) (by kernel_rfl) rfl (by kernel_rfl) (⟨T2.cell 0 (v := .int .i64 2) rfl, T2.cell 1 (v := .int .i64 p) rfl, T2.cell 2 (v := .bool true) rfl, T2.cell 3 (v := .int .i64 n) rfl, t2.cell 0 (v := .int .i64 n) rfl⟩) ?_
        simp only [Ord.ordOps, List.getElem?_toArray, List.getElem?_cons_zero, List.getElem?_cons_succ]
        repeat (first
          | (refine Ord.ord_plain (v := ?_) rfl (fun w' hS => ?_) ?_; rotate_left; (focus ((try dsimp only at hS); go_simp; first | done | with_reducible rfl)); simp only [Act.put, List.setIfInBounds_toArray, List.set_cons_zero, List.set_cons_succ])
          | (refine Ord.ord_skip (by rfl) ?_; simp only [Act.put, List.setIfInBounds_toArray, List.set_cons_zero, List.set_cons_succ])
          | (refine Ord.ord_take (v := ?_) (by rfl) (fun w' hS => ?_) ?_; rotate_left; (focus ((try dsimp only at hS); go_simp; first | done | with_reducible rfl)); simp only [Act.put, List.setIfInBounds_toArray, List.set_cons_zero, List.set_cons_succ]))
        have hbd : Below W2.heap.size W2 W2.drew := (Below.refl _ _).drew
        have hB3 := btr hB2 hbd
        have T3 := T2.below hbd hz3
        have t3 := t2.below hbd hz2
        have hz4 : W2.heap.size ≤ W2.drew.heap.size := hbd.size
        clear hbd
        refine Ord.ord_call (fun K hK => ?_)
        go_simp
        refine (HC.out _).mono ?_
        rintro e v4' ⟨rfl, hb4⟩
        have hB4 := btr hB3 hb4
        have T4 := T3.below hb4 (by omega)
        have t4 := t3.below hb4 (by omega)
        have hy4 := hb4.size
        refine hK.out _ _ (⟨T4.cell 0 (v := .int .i64 2) rfl, T4.cell 1 (v := .int .i64 p) rfl, T4.cell 2 (v := .bool true) rfl, T4.cell 3 (v := .int .i64 n) rfl, t4.cell 0 (v := .int .i64 n) rfl⟩) ?_
        clear hK K
        repeat (first
          | (refine Ord.ord_plain (v := ?_) rfl (fun w' hS => ?_) ?_; rotate_left; (focus ((try dsimp only at hS); go_simp; first | done | with_reducible rfl)); simp only [Act.put, List.setIfInBounds_toArray, List.set_cons_zero, List.set_cons_succ])
          | (refine Ord.ord_skip (by rfl) ?_; simp only [Act.put, List.setIfInBounds_toArray, List.set_cons_zero, List.set_cons_succ])
          | (refine Ord.ord_take (v := ?_) (by rfl) (fun w' hS => ?_) ?_; rotate_left; (focus ((try dsimp only at hS); go_simp; first | done | with_reducible rfl)); simp only [Act.put, List.setIfInBounds_toArray, List.set_cons_zero, List.set_cons_succ]))
        refine Ord.ord_call (fun K hK => ?_)
        go_simp
        refine (HM.out _).mono ?_
        rintro e v5' ⟨rfl, hb5⟩
        have hB5 := btr hB4 hb5
        have T5 := T4.below hb5 (by omega)
        have t5 := t4.below hb5 (by omega)
        have hy5 := hb5.size
        refine hK.out _ _ (⟨T5.cell 0 (v := .int .i64 2) rfl, T5.cell 1 (v := .int .i64 p) rfl, T5.cell 2 (v := .bool true) rfl, T5.cell 3 (v := .int .i64 n) rfl, t5.cell 0 (v := .int .i64 n) rfl⟩) ?_
        clear hK K
        repeat (first
          | (refine Ord.ord_plain (v := ?_) rfl (fun w' hS => ?_) ?_; rotate_left; (focus ((try dsimp only at hS); go_simp; first | done | with_reducible rfl)); simp only [Act.put, List.setIfInBounds_toArray, List.set_cons_zero, List.set_cons_succ])
          | (refine Ord.ord_skip (by rfl) ?_; simp only [Act.put, List.setIfInBounds_toArray, List.set_cons_zero, List.set_cons_succ])
          | (refine Ord.ord_take (v := ?_) (by rfl) (fun w' hS => ?_) ?_; rotate_left; (focus ((try dsimp only at hS); go_simp; first | done | with_reducible rfl)); simp only [Act.put, List.setIfInBounds_toArray, List.set_cons_zero, List.set_cons_succ]))
        refine Ord.ord_nil ?_
        have HBF := Lib.hid hB5
        clear hB2 hB3 hB4 hB5
        go_wp2_with fail
        go_ret
        exact ⟨by rw [HV.out]; rfl, HBF.out⟩
  · have HM := Lib.hid (fun V : World => impl_out' n V)
    unfold ExitP at HM
    dsimp only at HM
    have hC := fun V : World => impl_cellOkE n V
    cases hi : inB n 0 99
    · have HV := Lib.hid (show exitOk (3, p, q, n) = false from by simp [exitOk, hi])
      rw [hi] at hC
      have HC := Lib.hid hC
      clear hC HM hi
      have HU := Lib.hid (fun V : World => impl_usedBy 3 p q n V)
      rw [usedV_3] at HU
      have hb0 : Below w.heap.size w (w.alloc (.cells #[.int .i64 3, .int .i64 p, .bool q, .int .i64 n] 31)) := (Below.refl _ _).alloc (Nat.le_refl _) _
      have t0 : Var (w.alloc (.cells #[.int .i64 3, .int .i64 p, .bool q, .int .i64 n] 31)) w.heap.size [.int .i64 3, .int .i64 p, .bool q, .int .i64 n] := Var.new w [.int .i64 3, .int .i64 p, .bool q, .int .i64 n] 31
      have hz : w.heap.size < (w.alloc (.cells #[.int .i64 3, .int .i64 p, .bool q, .int .i64 n] 31)).heap.size := by simp
      go_enter Try.func102, Try.ntmps102
      go_wp2_with fail
      generalize w.alloc (.cells #[.int .i64 3, .int .i64 p, .bool q, .int .i64 n] 31) = W0 at t0 hb0 hz ⊢
      refine (HU.out _).mono ?_
      rintro e w1 ⟨rfl, hb1⟩
      have hb := btr hb0 hb1
      have T := t0.below hb1 hz
      have hz1 : w.heap.size < w1.heap.size := T.2
      clear hb0 hb1 t0 hz HU
      have as0 := as_out_no (.agg #[.int .i64 n])
      have as1 := as_out_fault (.agg #[.int .i64 n])
      have as2 := as_out_call (.agg #[.int .i64 n])
      have as3 := as_out_out (.agg #[.int .i64 n])
      have t2 : Var (w1.alloc (.cells #[.int .i64 n] 126)) w1.heap.size [.int .i64 n] := Var.new w1 [.int .i64 n] 126
      have hA : Below w1.heap.size w1 (w1.alloc (.cells #[.int .i64 n] 126)) := (Below.refl _ _).alloc (Nat.le_refl _) _
      have hB2 := btr hb hA
      have T2 := T.below hA hz1
      have hz2 : w1.heap.size < (w1.alloc (.cells #[.int .i64 n] 126)).heap.size := by simp
      have hz3 : w.heap.size < (w1.alloc (.cells #[.int .i64 n] 126)).heap.size := Nat.lt_trans hz1 hz2
      clear T hA hb
      go_wp2_with fail
      generalize w1.alloc (.cells #[.int .i64 n] 126) = W2 at t2 T2 hB2 hz2 hz3 ⊢
      refine Ord.wp_region_ord (fun w' => w'.cell? ⟨w.heap.size, 0, none⟩ = some (.int .i64 3) ∧ w'.cell? ⟨w.heap.size, 1, none⟩ = some (.int .i64 p) ∧ w'.cell? ⟨w.heap.size, 2, none⟩ = some (.bool q) ∧ w'.cell? ⟨w.heap.size, 3, none⟩ = some (.int .i64 n) ∧ w'.cell? ⟨w1.heap.size, 0, none⟩ = some (.int .i64 n)) [(0, true), (1, true), (2, false), (3, true), (4, true), (5, true), (6, true), (7, false), (8, true), (9, true), (10, true)] (by kernel_rfl) (by kernel_rfl) rfl (by kernel_rfl) (⟨T2.cell 0 (v := .int .i64 3) rfl, T2.cell 1 (v := .int .i64 p) rfl, T2.cell 2 (v := .bool q) rfl, T2.cell 3 (v := .int .i64 n) rfl, t2.cell 0 (v := .int .i64 n) rfl⟩) ?_
      simp only [Ord.ordOps, List.getElem?_toArray, List.getElem?_cons_zero, List.getElem?_cons_succ]
      repeat (first
        | (refine Ord.ord_plain (v := ?_) rfl (fun w' hS => ?_) ?_; rotate_left; (focus ((try dsimp only at hS); go_simp; first | done | with_reducible rfl)); simp only [Act.put, List.setIfInBounds_toArray, List.set_cons_zero, List.set_cons_succ])
        | (refine Ord.ord_skip (by rfl) ?_; simp only [Act.put, List.setIfInBounds_toArray, List.set_cons_zero, List.set_cons_succ])
        | (refine Ord.ord_take (v := ?_) (by rfl) (fun w' hS => ?_) ?_; rotate_left; (focus ((try dsimp only at hS); go_simp; first | done | with_reducible rfl)); simp only [Act.put, List.setIfInBounds_toArray, List.set_cons_zero, List.set_cons_succ]))
      have hbd : Below W2.heap.size W2 W2.drew := (Below.refl _ _).drew
      have hB3 := btr hB2 hbd
      have T3 := T2.below hbd hz3
      have t3 := t2.below hbd hz2
      have hz4 : W2.heap.size ≤ W2.drew.heap.size := hbd.size
      clear hbd
      refine Ord.ord_call (fun K hK => ?_)
      go_simp
      refine (HC.out _).mono ?_
      rintro e v4' ⟨rfl, hb4⟩
      have hB4 := btr hB3 hb4
      have T4 := T3.below hb4 (by omega)
      have t4 := t3.below hb4 (by omega)
      have hy4 := hb4.size
      refine hK.out _ _ (⟨T4.cell 0 (v := .int .i64 3) rfl, T4.cell 1 (v := .int .i64 p) rfl, T4.cell 2 (v := .bool q) rfl, T4.cell 3 (v := .int .i64 n) rfl, t4.cell 0 (v := .int .i64 n) rfl⟩) ?_
      clear hK K
      repeat (first
        | (refine Ord.ord_plain (v := ?_) rfl (fun w' hS => ?_) ?_; rotate_left; (focus ((try dsimp only at hS); go_simp; first | done | with_reducible rfl)); simp only [Act.put, List.setIfInBounds_toArray, List.set_cons_zero, List.set_cons_succ])
        | (refine Ord.ord_skip (by rfl) ?_; simp only [Act.put, List.setIfInBounds_toArray, List.set_cons_zero, List.set_cons_succ])
        | (refine Ord.ord_take (v := ?_) (by rfl) (fun w' hS => ?_) ?_; rotate_left; (focus ((try dsimp only at hS); go_simp; first | done | with_reducible rfl)); simp only [Act.put, List.setIfInBounds_toArray, List.set_cons_zero, List.set_cons_succ]))
      refine Ord.ord_not (by rfl) (fun K hK => ?_)
      simp only [Act.put, List.setIfInBounds_toArray, List.set_cons_zero, List.set_cons_succ]
      refine hK.out _ _ (⟨T4.cell 0 (v := .int .i64 3) rfl, T4.cell 1 (v := .int .i64 p) rfl, T4.cell 2 (v := .bool q) rfl, T4.cell 3 (v := .int .i64 n) rfl, t4.cell 0 (v := .int .i64 n) rfl⟩) ?_
      clear hK K
      repeat (first
        | (refine Ord.ord_plain (v := ?_) rfl (fun w' hS => ?_) ?_; rotate_left; (focus ((try dsimp only at hS); go_simp; first | done | with_reducible rfl)); simp only [Act.put, List.setIfInBounds_toArray, List.set_cons_zero, List.set_cons_succ])
        | (refine Ord.ord_skip (by rfl) ?_; simp only [Act.put, List.setIfInBounds_toArray, List.set_cons_zero, List.set_cons_succ])
        | (refine Ord.ord_take (v := ?_) (by rfl) (fun w' hS => ?_) ?_; rotate_left; (focus ((try dsimp only at hS); go_simp; first | done | with_reducible rfl)); simp only [Act.put, List.setIfInBounds_toArray, List.set_cons_zero, List.set_cons_succ]))
      refine Ord.ord_nil ?_
      have HBF := Lib.hid hB4
      clear hB2 hB3 hB4
      go_wp2_with fail
      go_ret
      exact ⟨by rw [HV.out]; rfl, HBF.out⟩
    · rw [hi] at hC
      have HC := Lib.hid hC
      clear hC
      by_cases hp : p = 0 <;> cases q
      · subst hp
        have HV := Lib.hid (show exitOk (3, 0, false, n) = true from by simp [exitOk, hi])
        clear hi
        have HU := Lib.hid (fun V : World => impl_usedBy 3 0 false n V)
        rw [usedV_3] at HU
        have hb0 : Below w.heap.size w (w.alloc (.cells #[.int .i64 3, .int .i64 0, .bool false, .int .i64 n] 31)) := (Below.refl _ _).alloc (Nat.le_refl _) _
        have t0 : Var (w.alloc (.cells #[.int .i64 3, .int .i64 0, .bool false, .int .i64 n] 31)) w.heap.size [.int .i64 3, .int .i64 0, .bool false, .int .i64 n] := Var.new w [.int .i64 3, .int .i64 0, .bool false, .int .i64 n] 31
        have hz : w.heap.size < (w.alloc (.cells #[.int .i64 3, .int .i64 0, .bool false, .int .i64 n] 31)).heap.size := by simp
        go_enter Try.func102, Try.ntmps102
        go_wp2_with fail
        generalize w.alloc (.cells #[.int .i64 3, .int .i64 0, .bool false, .int .i64 n] 31) = W0 at t0 hb0 hz ⊢
        refine (HU.out _).mono ?_
        rintro e w1 ⟨rfl, hb1⟩
        have hb := btr hb0 hb1
        have T := t0.below hb1 hz
        have hz1 : w.heap.size < w1.heap.size := T.2
        clear hb0 hb1 t0 hz HU
        have as0 := as_out_no (.agg #[.int .i64 n])
        have as1 := as_out_fault (.agg #[.int .i64 n])
        have as2 := as_out_call (.agg #[.int .i64 n])
        have as3 := as_out_out (.agg #[.int .i64 n])
        have t2 : Var (w1.alloc (.cells #[.int .i64 n] 126)) w1.heap.size [.int .i64 n] := Var.new w1 [.int .i64 n] 126
        have hA : Below w1.heap.size w1 (w1.alloc (.cells #[.int .i64 n] 126)) := (Below.refl _ _).alloc (Nat.le_refl _) _
        have hB2 := btr hb hA
        have T2 := T.below hA hz1
        have hz2 : w1.heap.size < (w1.alloc (.cells #[.int .i64 n] 126)).heap.size := by simp
        have hz3 : w.heap.size < (w1.alloc (.cells #[.int .i64 n] 126)).heap.size := Nat.lt_trans hz1 hz2
        clear T hA hb
        go_wp2_with fail
        generalize w1.alloc (.cells #[.int .i64 n] 126) = W2 at t2 T2 hB2 hz2 hz3 ⊢
        refine Ord.wp_region_ord (fun w' => w'.cell? ⟨w.heap.size, 0, none⟩ = some (.int .i64 3) ∧ w'.cell? ⟨w.heap.size, 1, none⟩ = some (.int .i64 0) ∧ w'.cell? ⟨w.heap.size, 2, none⟩ = some (.bool false) ∧ w'.cell? ⟨w.heap.size, 3, none⟩ = some (.int .i64 n) ∧ w'.cell? ⟨w1.heap.size, 0, none⟩ = some (.int .i64 n)) [(0, true), (1, true), (2, false), (3, true), (4, true), (5, true), (6, true), (7, false), (8, true), (9, true), (10, true)] (by kernel_rfl) (by kernel_rfl) rfl (by kernel_rfl) (⟨T2.cell 0 (v := .int .i64 3) rfl, T2.cell 1 (v := .int .i64 0) rfl, T2.cell 2 (v := .bool false) rfl, T2.cell 3 (v := .int .i64 n) rfl, t2.cell 0 (v := .int .i64 n) rfl⟩) ?_
        simp only [Ord.ordOps, List.getElem?_toArray, List.getElem?_cons_zero, List.getElem?_cons_succ]
        repeat (first
          | (refine Ord.ord_plain (v := ?_) rfl (fun w' hS => ?_) ?_; rotate_left; (focus ((try dsimp only at hS); go_simp; first | done | with_reducible rfl)); simp only [Act.put, List.setIfInBounds_toArray, List.set_cons_zero, List.set_cons_succ])
          | (refine Ord.ord_skip (by rfl) ?_; simp only [Act.put, List.setIfInBounds_toArray, List.set_cons_zero, List.set_cons_succ])
          | (refine Ord.ord_take (v := ?_) (by rfl) (fun w' hS => ?_) ?_; rotate_left; (focus ((try dsimp only at hS); go_simp; first | done | with_reducible rfl)); simp only [Act.put, List.setIfInBounds_toArray, List.set_cons_zero, List.set_cons_succ]))
        have hbd : Below W2.heap.size W2 W2.drew := (Below.refl _ _).drew
        have hB3 := btr hB2 hbd
        have T3 := T2.below hbd hz3
        have t3 := t2.below hbd hz2
        have hz4 : W2.heap.size ≤ W2.drew.heap.size := hbd.size
        clear hbd
        refine Ord.ord_call (fun K hK => ?_)
        go_simp
        refine (HC.out _).mono ?_
        rintro e v4' ⟨rfl, hb4⟩
        have hB4 := btr hB3 hb4
        have T4 := T3.below hb4 (by omega)
        have t4 := t3.below hb4 (by omega)
        have hy4 := hb4.size
        refine hK.out _ _ (⟨T4.cell 0 (v := .int .i64 3) rfl, T4.cell 1 (v := .int .i64 0) rfl, T4.cell 2 (v := .bool false) rfl, T4.cell 3 (v := .int .i64 n) rfl, t4.cell 0 (v := .int .i64 n) rfl⟩) ?_
        clear hK K
        repeat (first
          | (refine Ord.ord_plain (v := ?_) rfl (fun w' hS => ?_) ?_; rotate_left; (focus ((try dsimp only at hS); go_simp; first | done | with_reducible rfl)); simp only [Act.put, List.setIfInBounds_toArray, List.set_cons_zero, List.set_cons_succ])
          | (refine Ord.ord_skip (by rfl) ?_; simp only [Act.put, List.setIfInBounds_toArray, List.set_cons_zero, List.set_cons_succ])
          | (refine Ord.ord_take (v := ?_) (by rfl) (fun w' hS => ?_) ?_; rotate_left; (focus ((try dsimp only at hS); go_simp; first | done | with_reducible rfl)); simp only [Act.put, List.setIfInBounds_toArray, List.set_cons_zero, List.set_cons_succ]))
        refine Ord.ord_call (fun K hK => ?_)
        go_simp
        refine (HM.out _).mono ?_
        rintro e v5' ⟨rfl, hb5⟩
        have hB5 := btr hB4 hb5
        have T5 := T4.below hb5 (by omega)
        have t5 := t4.below hb5 (by omega)
        have hy5 := hb5.size
        refine hK.out _ _ (⟨T5.cell 0 (v := .int .i64 3) rfl, T5.cell 1 (v := .int .i64 0) rfl, T5.cell 2 (v := .bool false) rfl, T5.cell 3 (v := .int .i64 n) rfl, t5.cell 0 (v := .int .i64 n) rfl⟩) ?_
        clear hK K
        repeat (first
          | (refine Ord.ord_plain (v := ?_) rfl (fun w' hS => ?_) ?_; rotate_left; (focus ((try dsimp only at hS); go_simp; first | done | with_reducible rfl)); simp only [Act.put, List.setIfInBounds_toArray, List.set_cons_zero, List.set_cons_succ])
          | (refine Ord.ord_skip (by rfl) ?_; simp only [Act.put, List.setIfInBounds_toArray, List.set_cons_zero, List.set_cons_succ])
          | (refine Ord.ord_take (v := ?_) (by rfl) (fun w' hS => ?_) ?_; rotate_left; (focus ((try dsimp only at hS); go_simp; first | done | with_reducible rfl)); simp only [Act.put, List.setIfInBounds_toArray, List.set_cons_zero, List.set_cons_succ]))
        refine Ord.ord_nil ?_
        have HBF := Lib.hid hB5
        clear hB2 hB3 hB4 hB5
        go_wp2_with fail
        go_ret
        exact ⟨by rw [HV.out]; rfl, HBF.out⟩
      · subst hp
        have HV := Lib.hid (show exitOk (3, 0, true, n) = false from by simp [exitOk, hi])
        clear hi
        have HU := Lib.hid (fun V : World => impl_usedBy 3 0 true n V)
        rw [usedV_3] at HU
        have hb0 : Below w.heap.size w (w.alloc (.cells #[.int .i64 3, .int .i64 0, .bool true, .int .i64 n] 31)) := (Below.refl _ _).alloc (Nat.le_refl _) _
        have t0 : Var (w.alloc (.cells #[.int .i64 3, .int .i64 0, .bool true, .int .i64 n] 31)) w.heap.size [.int .i64 3, .int .i64 0, .bool true, .int .i64 n] := Var.new w [.int .i64 3, .int .i64 0, .bool true, .int .i64 n] 31
        have hz : w.heap.size < (w.alloc (.cells #[.int .i64 3, .int .i64 0, .bool true, .int .i64 n] 31)).heap.size := by simp
        go_enter Try.func102, Try.ntmps102
        go_wp2_with fail
        generalize w.alloc (.cells #[.int .i64 3, .int .i64 0, .bool true, .int .i64 n] 31) = W0 at t0 hb0 hz ⊢
        refine (HU.out _).mono ?_
        rintro e w1 ⟨rfl, hb1⟩
        have hb := btr hb0 hb1
        have T := t0.below hb1 hz
        have hz1 : w.heap.size < w1.heap.size := T.2
        clear hb0 hb1 t0 hz HU
        have as0 := as_out_no (.agg #[.int .i64 n])
        have as1 := as_out_fault (.agg #[.int .i64 n])
        have as2 := as_out_call (.agg #[.int .i64 n])
        have as3 := as_out_out (.agg #[.int .i64 n])
        have t2 : Var (w1.alloc (.cells #[.int .i64 n] 126)) w1.heap.size [.int .i64 n] := Var.new w1 [.int .i64 n] 126
        have hA : Below w1.heap.size w1 (w1.alloc (.cells #[.int .i64 n] 126)) := (Below.refl _ _).alloc (Nat.le_refl _) _
        have hB2 := btr hb hA
        have T2 := T.below hA hz1
        have hz2 : w1.heap.size < (w1.alloc (.cells #[.int .i64 n] 126)).heap.size := by simp
        have hz3 : w.heap.size < (w1.alloc (.cells #[.int .i64 n] 126)).heap.size := Nat.lt_trans hz1 hz2
        clear T hA hb
        go_wp2_with fail
        generalize w1.alloc (.cells #[.int .i64 n] 126) = W2 at t2 T2 hB2 hz2 hz3 ⊢
        refine Ord.wp_region_ord (fun w' => w'.cell? ⟨w.heap.size, 0, none⟩ = some (.int .i64 3) ∧ w'.cell? ⟨w.heap.size, 1, none⟩ = some (.int .i64 0) ∧ w'.cell? ⟨w.heap.size, 2, none⟩ = some (.bool true) ∧ w'.cell? ⟨w.heap.size, 3, none⟩ = some (.int .i64 n) ∧ w'.cell? ⟨w1.heap.size, 0, none⟩ = some (.int .i64 n)) [(0, true), (1, true), (2, false), (3, true), (4, true), (5, true), (6, true), (7, false), (8, true), (9, true), (10, true)] (by kernel_rfl) (by kernel_rfl) rfl (by kernel_rfl) (⟨T2.cell 0 (v := .int .i64 3) rfl, T2.cell 1 (v := .int .i64 0) rfl, T2.cell 2 (v := .bool true) rfl, T2.cell 3 (v := .int .i64 n) rfl, t2.cell 0 (v := .int .i64 n) rfl⟩) ?_
        simp only [Ord.ordOps, List.getElem?_toArray, List.getElem?_cons_zero, List.getElem?_cons_succ]
        repeat (first
          | (refine Ord.ord_plain (v := ?_) rfl (fun w' hS => ?_) ?_; rotate_left; (focus ((try dsimp only at hS); go_simp; first | done | with_reducible rfl)); simp only [Act.put, List.setIfInBounds_toArray, List.set_cons_zero, List.set_cons_succ])
          | (refine Ord.ord_skip (by rfl) ?_; simp only [Act.put, List.setIfInBounds_toArray, List.set_cons_zero, List.set_cons_succ])
          | (refine Ord.ord_take (v := ?_) (by rfl) (fun w' hS => ?_) ?_; rotate_left; (focus ((try dsimp only at hS); go_simp; first | done | with_reducible rfl)); simp only [Act.put, List.setIfInBounds_toArray, List.set_cons_zero, List.set_cons_succ]))
        have hbd : Below W2.heap.size W2 W2.drew := (Below.refl _ _).drew
        have hB3 := btr hB2 hbd
        have T3 := T2.below hbd hz3
        have t3 := t2.below hbd hz2
        have hz4 : W2.heap.size ≤ W2.drew.heap.size := hbd.size
        clear hbd
        refine Ord.ord_call (fun K hK => ?_)
        go_simp
        refine (HC.out _).mono ?_
        rintro e v4' ⟨rfl, hb4⟩
        have hB4 := btr hB3 hb4
        have T4 := T3.below hb4 (by omega)
        have t4 := t3.below hb4 (by omega)
        have hy4 := hb4.size
        refine hK.out _ _ (⟨T4.cell 0 (v := .int .i64 3) rfl, T4.cell 1 (v := .int .i64 0) rfl, T4.cell 2 (v := .bool true) rfl, T4.cell 3 (v := .int .i64 n) rfl, t4.cell 0 (v := .int .i64 n) rfl⟩) ?_
        clear hK K
        repeat (first
          | (refine Ord.ord_plain (v := ?_) rfl (fun w' hS => ?_) ?_; rotate_left; (focus ((try dsimp only at hS); go_simp; first | done | with_reducible rfl)); simp only [Act.put, List.setIfInBounds_toArray, List.set_cons_zero, List.set_cons_succ])
          | (refine Ord.ord_skip (by rfl) ?_; simp only [Act.put, List.setIfInBounds_toArray, List.set_cons_zero, List.set_cons_succ])
          | (refine Ord.ord_take (v := ?_) (by rfl) (fun w' hS => ?_) ?_; rotate_left; (focus ((try dsimp only at hS); go_simp; first | done | with_reducible rfl)); simp only [Act.put, List.setIfInBounds_toArray, List.set_cons_zero, List.set_cons_succ]))
        refine Ord.ord_call (fun K hK => ?_)
        go_simp
        refine (HM.out _).mono ?_
        rintro e v5' ⟨rfl, hb5⟩
        have hB5 := btr hB4 hb5
        have T5 := T4.below hb5 (by omega)
        have t5 := t4.below hb5 (by omega)
        have hy5 := hb5.size
        refine hK.out _ _ (⟨T5.cell 0 (v := .int .i64 3) rfl, T5.cell 1 (v := .int .i64 0) rfl, T5.cell 2 (v := .bool true) rfl, T5.cell 3 (v := .int .i64 n) rfl, t5.cell 0 (v := .int .i64 n) rfl⟩) ?_
        clear hK K
        repeat (first
          | (refine Ord.ord_plain (v := ?_) rfl (fun w' hS => ?_) ?_; rotate_left; (focus ((try dsimp only at hS); go_simp; first | done | with_reducible rfl)); simp only [Act.put, List.setIfInBounds_toArray, List.set_cons_zero, List.set_cons_succ])
          | (refine Ord.ord_skip (by rfl) ?_; simp only [Act.put, List.setIfInBounds_toArray, List.set_cons_zero, List.set_cons_succ])
          | (refine Ord.ord_take (v := ?_) (by rfl) (fun w' hS => ?_) ?_; rotate_left; (focus ((try dsimp only at hS); go_simp; first | done | with_reducible rfl)); simp only [Act.put, List.setIfInBounds_toArray, List.set_cons_zero, List.set_cons_succ]))
        refine Ord.ord_nil ?_
        have HBF := Lib.hid hB5
        clear hB2 hB3 hB4 hB5
        go_wp2_with fail
        go_ret
        exact ⟨by rw [HV.out]; rfl, HBF.out⟩
      · have hp' : (p == 0) = false := by simpa using hp
        have HV := Lib.hid (show exitOk (3, p, false, n) = false from by simp [exitOk, hi, hp])
        clear hi hp
        have HU := Lib.hid (fun V : World => impl_usedBy 3 p false n V)
        rw [usedV_3] at HU
        have hb0 : Below w.heap.size w (w.alloc (.cells #[.int .i64 3, .int .i64 p, .bool false, .int .i64 n] 31)) := (Below.refl _ _).alloc (Nat.le_refl _) _
        have t0 : Var (w.alloc (.cells #[.int .i64 3, .int .i64 p, .bool false, .int .i64 n] 31)) w.heap.size [.int .i64 3, .int .i64 p, .bool false, .int .i64 n] := Var.new w [.int .i64 3, .int .i64 p, .bool false, .int .i64 n] 31
        have hz : w.heap.size < (w.alloc (.cells #[.int .i64 3, .int .i64 p, .bool false, .int .i64 n] 31)).heap.size := by simp
        go_enter Try.func102, Try.ntmps102
        go_wp2_with fail
        generalize w.alloc (.cells #[.int .i64 3, .int .i64 p, .bool false, .int .i64 n] 31) = W0 at t0 hb0 hz ⊢
        refine (HU.out _).mono ?_
        rintro e w1 ⟨rfl, hb1⟩
        have hb := btr hb0 hb1
        have T := t0.below hb1 hz
        have hz1 : w.heap.size < w1.heap.size := T.2
        clear hb0 hb1 t0 hz HU
        have as0 := as_out_no (.agg #[.int .i64 n])
        have as1 := as_out_fault (.agg #[.int .i64 n])
        have as2 := as_out_call (.agg #[.int .i64 n])
        have as3 := as_out_out (.agg #[.int .i64 n])
        have t2 : Var (w1.alloc (.cells #[.int .i64 n] 126)) w1.heap.size [.int .i64 n] := Var.new w1 [.int .i64 n] 126
        have hA : Below w1.heap.size w1 (w1.alloc (.cells #[.int .i64 n] 126)) := (Below.refl _ _).alloc (Nat.le_refl _) _
        have hB2 := btr hb hA
        have T2 := T.below hA hz1
        have hz2 : w1.heap.size < (w1.alloc (.cells #[.int .i64 n] 126)).heap.size := by simp
        have hz3 : w.heap.size < (w1.alloc (.cells #[.int .i64 n] 126)).heap.size := Nat.lt_trans hz1 hz2
        clear T hA hb
        go_wp2_with fail
        generalize w1.alloc (.cells #[.int .i64 n] 126) = W2 at t2 T2 hB2 hz2 hz3 ⊢
        refine Ord.wp_region_ord (fun w' => w'.cell? ⟨w.heap.size, 0, none⟩ = some (.int .i64 3) ∧ w'.cell? ⟨w.heap.size, 1, none⟩ = some (.int .i64 p) ∧ w'.cell? ⟨w.heap.size, 2, none⟩ = some (.bool false) ∧ w'.cell? ⟨w.heap.size, 3, none⟩ = some (.int .i64 n) ∧ w'.cell? ⟨w1.heap.size, 0, none⟩ = some (.int .i64 n)) [(0, true), (1, true), (2, false), (3, true), (4, true), (5, true), (6, true), (7, false), (8, true), (9, true), (10, true)] (by kernel_rfl) (by kernel_rfl) rfl (by kernel_rfl) (⟨T2.cell 0 (v := .int .i64 3) rfl, T2.cell 1 (v := .int .i64 p) rfl, T2.cell 2 (v := .bool false) rfl, T2.cell 3 (v := .int .i64 n) rfl, t2.cell 0 (v := .int .i64 n) rfl⟩) ?_
        simp only [Ord.ordOps, List.getElem?_toArray, List.getElem?_cons_zero, List.getElem?_cons_succ]
        repeat (first
          | (refine Ord.ord_plain (v := ?_) rfl (fun w' hS => ?_) ?_; rotate_left; (focus ((try dsimp only at hS); go_simp; first | done | with_reducible rfl)); simp only [Act.put, List.setIfInBounds_toArray, List.set_cons_zero, List.set_cons_succ])
          | (refine Ord.ord_skip (by rfl) ?_; simp only [Act.put, List.setIfInBounds_toArray, List.set_cons_zero, List.set_cons_succ])
          | (refine Ord.ord_take (v := ?_) (by rfl) (fun w' hS => ?_) ?_; rotate_left; (focus ((try dsimp only at hS); go_simp; first | done | with_reducible rfl)); simp only [Act.put, List.setIfInBounds_toArray, List.set_cons_zero, List.set_cons_succ]))
        have hbd : Below W2.heap.size W2 W2.drew := (Below.refl _ _).drew
        have hB3 := btr hB2 hbd
        have T3 := T2.below hbd hz3
        have t3 := t2.below hbd hz2
        have hz4 : W2.heap.size ≤ W2.drew.heap.size := hbd.size
        clear hbd
        refine Ord.ord_call (fun K hK => ?_)
        go_simp
        refine (HC.out _).mono ?_
        rintro e v4' ⟨rfl, hb4⟩
        have hB4 := btr hB3 hb4
        have T4 := T3.below hb4 (by omega)
        have t4 := t3.below hb4 (by omega)
        have hy4 := hb4.size
        refine hK.out _ _ (⟨T4.cell 0 (v := .int .i64 3) rfl, T4.cell 1 (v := .int .i64 p) rfl, T4.cell 2 (v := .bool false) rfl, T4.cell 3 (v := .int .i64 n) rfl, t4.cell 0 (v := .int .i64 n) rfl⟩) ?_
        clear hK K
        repeat (first
          | (refine Ord.ord_plain (v := ?_) rfl (fun w' hS => ?_) ?_; rotate_left; (focus ((try dsimp only at hS); go_simp; first | done | with_reducible rfl)); simp only [Act.put, List.setIfInBounds_toArray, List.set_cons_zero, List.set_cons_succ])
          | (refine Ord.ord_skip (by rfl) ?_; simp only [Act.put, List.setIfInBounds_toArray, List.set_cons_zero, List.set_cons_succ])
          | (refine Ord.ord_take (v := ?_) (by rfl) (fun w' hS => ?_) ?_; rotate_left; (focus ((try dsimp only at hS); go_simp; first | done | with_reducible rfl)); simp only [Act.put, List.setIfInBounds_toArray, List.set_cons_zero, List.set_cons_succ]))
        refine Ord.ord_call (fun K hK => ?_)
        go_simp
        refine (HM.out _).mono ?_
        rintro e v5' ⟨rfl, hb5⟩
        have hB5 := btr hB4 hb5
        have T5 := T4.below hb5 (by omega)
        have t5 := t4.below hb5 (by omega)
        have hy5 := hb5.size
        refine hK.out _ _ (⟨T5.cell 0 (v := .int .i64 3) rfl, T5.cell 1 (v := .int .i64 p) rfl, T5.cell 2 (v := .bool false) rfl, T5.cell 3 (v := .int .i64 n) rfl, t5.cell 0 (v := .int .i64 n) rfl⟩) ?_
        clear hK K
        repeat (first
          | (refine Ord.ord_plain (v := ?_) rfl (fun w' hS => ?_) ?_; rotate_left; (focus ((try dsimp only at hS); go_simp; first | done | with_reducible rfl)); simp only [Act.put, List.setIfInBounds_toArray, List.set_cons_zero, List.set_cons_succ])
          | (refine Ord.ord_skip (by rfl) ?_; simp only [Act.put, List.setIfInBounds_toArray, List.set_cons_zero, List.set_cons_succ])
          | (refine Ord.ord_take (v := ?_) (by rfl) (fun w' hS => ?_) ?_; rotate_left; (focus ((try dsimp only at hS); go_simp; first | done | with_reducible rfl)); simp only [Act.put, List.setIfInBounds_toArray, List.set_cons_zero, List.set_cons_succ]))
        refine Ord.ord_nil ?_
        have HBF := Lib.hid hB5
        clear hB2 hB3 hB4 hB5
        go_wp2_with fail
        go_ret
        exact ⟨by rw [HV.out]; rfl, HBF.out⟩
      · have hp' : (p == 0) = false := by simpa using hp
        have HV := Lib.hid (show exitOk (3, p, true, n) = false from by simp [exitOk, hi, hp])
        clear hi hp
        have HU := Lib.hid (fun V : World => impl_usedBy 3 p true n V)
        rw [usedV_3] at HU
        have hb0 : Below w.heap.size w (w.alloc (.cells #[.int .i64 3, .int .i64 p, .bool true, .int .i64 n] 31)) := (Below.refl _ _).alloc (Nat.le_refl _) _
        have t0 : Var (w.alloc (.cells #[.int .i64 3, .int .i64 p, .bool true, .int .i64 n] 31)) w.heap.size [.int .i64 3, .int .i64 p, .bool true, .int .i64 n] := Var.new w [.int .i64 3, .int .i64 p, .bool true, .int .i64 n] 31
        have hz : w.heap.size < (w.alloc (.cells #[.int .i64 3, .int .i64 p, .bool true, .int .i64 n] 31)).heap.size := by simp
        go_enter Try.func102, Try.ntmps102
        go_wp2_with fail
        generalize w.alloc (.cells #[.int .i64 3, .int .i64 p, .bool true, .int .i64 n] 31) = W0 at t0 hb0 hz ⊢
        refine (HU.out _).mono ?_
        rintro e w1 ⟨rfl, hb1⟩
        have hb := btr hb0 hb1
        have T := t0.below hb1 hz
        have hz1 : w.heap.size < w1.heap.size := T.2
        clear hb0 hb1 t0 hz HU
        have as0 := as_out_no (.agg #[.int .i64 n])
        have as1 := as_out_fault (.agg #[.int .i64 n])
        have as2 := as_out_call (.agg #[.int .i64 n])
        have as3 := as_out_out (.agg #[.int .i64 n])
        have t2 : Var (w1.alloc (.cells #[.int .i64 n] 126)) w1.heap.size [.int .i64 n] := Var.new w1 [.int .i64 n] 126
        have hA : Below w1.heap.size w1 (w1.alloc (.cells #[.int .i64 n] 126)) := (Below.refl _ _).alloc (Nat.le_refl _) _
        have hB2 := btr hb hA
        have T2 := T.below hA hz1
        have hz2 : w1.heap.size < (w1.alloc (.cells #[.int .i64 n] 126)).heap.size := by simp
        have hz3 : w.heap.size < (w1.alloc (.cells #[.int .i64 n] 126)).heap.size := Nat.lt_trans hz1 hz2
        clear T hA hb
        go_wp2_with fail
        generalize w1.alloc (.cells #[.int .i64 n] 126) = W2 at t2 T2 hB2 hz2 hz3 ⊢
        refine Ord.wp_region_ord (fun w' => w'.cell? ⟨w.heap.size, 0, none⟩ = some (.int .i64 3) ∧ w'.cell? ⟨w.heap.size, 1, none⟩ = some (.int .i64 p) ∧ w'.cell? ⟨w.heap.size, 2, none⟩ = some (.bool true) ∧ w'.cell? ⟨w.heap.size, 3, none⟩ = some (.int .i64 n) ∧ w'.cell? ⟨w1.heap.size, 0, none⟩ = some (.int .i64 n)) [(0, true), (1, true), (2, false), (3, true), (4, true), (5, true), (6, true), (7, false), (8, true), (9, true), (10, true)] (by kernel_rfl) (by kernel_rfl) rfl (by kernel_rfl) (⟨T2.cell 0 (v := .int .i64 3) rfl, T2.cell 1 (v := .int .i64 p) rfl, T2.cell 2 (v := .bool true) rfl, T2.cell 3 (v := .int .i64 n) rfl, t2.cell 0 (v := .int .i64 n) rfl⟩) ?_
        simp only [Ord.ordOps, List.getElem?_toArray, List.getElem?_cons_zero, List.getElem?_cons_succ]
        repeat (first
          | (refine Ord.ord_plain (v := ?_) rfl (fun w' hS => ?_) ?_; rotate_left; (focus ((try dsimp only at hS); go_simp; first | done | with_reducible rfl)); simp only [Act.put, List.setIfInBounds_toArray, List.set_cons_zero, List.set_cons_succ])
          | (refine Ord.ord_skip (by rfl) ?_; simp only [Act.put, List.setIfInBounds_toArray, List.set_cons_zero, List.set_cons_succ])
          | (refine Ord.ord_take (v := ?_) (by rfl) (fun w' hS => ?_) ?_; rotate_left; (focus ((try dsimp only at hS); go_simp; first | done | with_reducible rfl)); simp only [Act.put, List.setIfInBounds_toArray, List.set_cons_zero, List.set_cons_succ]))
        have hbd : Below W2.heap.size W2 W2.drew := (Below.refl _ _).drew
        have hB3 := btr hB2 hbd
        have T3 := T2.below hbd hz3
        have t3 := t2.below hbd hz2
        have hz4 : W2.heap.size ≤ W2.drew.heap.size := hbd.size
        clear hbd
        refine Ord.ord_call (fun K hK => ?_)
        go_simp
        refine (HC.out _).mono ?_
        rintro e v4' ⟨rfl, hb4⟩
        have hB4 := btr hB3 hb4
        have T4 := T3.below hb4 (by omega)
        have t4 := t3.below hb4 (by omega)
        have hy4 := hb4.size
        refine hK.out _ _ (⟨T4.cell 0 (v := .int .i64 3) rfl, T4.cell 1 (v := .int .i64 p) rfl, T4.cell 2 (v := .bool true) rfl, T4.cell 3 (v := .int .i64 n) rfl, t4.cell 0 (v := .int .i64 n) rfl⟩) ?_
        clear hK K
        repeat (first
          | (refine Ord.ord_plain (v := ?_) rfl (fun w' hS => ?_) ?_; rotate_left; (focus ((try dsimp only at hS); go_simp; first | done | with_reducible rfl)); simp only [Act.put, List.setIfInBounds_toArray, List.set_cons_zero, List.set_cons_succ])
          | (refine Ord.ord_skip (by rfl) ?_; simp only [Act.put, List.setIfInBounds_toArray, List.set_cons_zero, List.set_cons_succ])
          | (refine Ord.ord_take (v := ?_) (by rfl) (fun w' hS => ?_) ?_; rotate_left; (focus ((try dsimp only at hS); go_simp; first | done | with_reducible rfl)); simp only [Act.put, List.setIfInBounds_toArray, List.set_cons_zero, List.set_cons_succ]))
        refine Ord.ord_call (fun K hK => ?_)
        go_simp
        refine (HM.out _).mono ?_
        rintro e v5' ⟨rfl, hb5⟩
        have hB5 := btr hB4 hb5
        have T5 := T4.below hb5 (by omega)
        have t5 := t4.below hb5 (by omega)
        have hy5 := hb5.size
        refine hK.out _ _ (⟨T5.cell 0 (v := .int .i64 3) rfl, T5.cell 1 (v := .int .i64 p) rfl, T5.cell 2 (v := .bool true) rfl, T5.cell 3 (v := .int .i64 n) rfl, t5.cell 0 (v := .int .i64 n) rfl⟩) ?_
        clear hK K
        repeat (first
          | (refine Ord.ord_plain (v := ?_) rfl (fun w' hS => ?_) ?_; rotate_left; (focus ((try dsimp only at hS); go_simp; first | done | with_reducible rfl)); simp only [Act.put, List.setIfInBounds_toArray, List.set_cons_zero, List.set_cons_succ])
          | (refine Ord.ord_skip (by rfl) ?_; simp only [Act.put, List.setIfInBounds_toArray, List.set_cons_zero, List.set_cons_succ])
          | (refine Ord.ord_take (v := ?_) (by rfl) (fun w' hS => ?_) ?_; rotate_left; (focus ((try dsimp only at hS); go_simp; first | done | with_reducible rfl)); simp only [Act.put, List.setIfInBounds_toArray, List.set_cons_zero, List.set_cons_succ]))
        refine Ord.ord_nil ?_
        have HBF := Lib.hid hB5
        clear hB2 hB3 hB4 hB5
        go_wp2_with fail
        go_ret
        exact ⟨by rw [HV.out]; rfl, HBF.out⟩
  · have HV := Lib.hid (exitOk_else (p := p) (n := n) (w := q) h)
    have HU := Lib.hid (fun V : World => impl_usedBy k p q n V)
    rw [usedV_else p q n h] at HU
    have hb0 : Below w.heap.size w (w.alloc (.cells #[.int .i64 k, .int .i64 p, .bool q, .int .i64 n] 31)) := (Below.refl _ _).alloc (Nat.le_refl _) _
    have t0 : Var (w.alloc (.cells #[.int .i64 k, .int .i64 p, .bool q, .int .i64 n] 31)) w.heap.size [.int .i64 k, .int .i64 p, .bool q, .int .i64 n] := Var.new w [.int .i64 k, .int .i64 p, .bool q, .int .i64 n] 31
    have hz : w.heap.size < (w.alloc (.cells #[.int .i64 k, .int .i64 p, .bool q, .int .i64 n] 31)).heap.size := by simp
    go_enter Try.func102, Try.ntmps102
    go_wp2_with fail
    generalize w.alloc (.cells #[.int .i64 k, .int .i64 p, .bool q, .int .i64 n] 31) = W0 at t0 hb0 hz ⊢
    refine (HU.out _).mono ?_
    rintro e w1 ⟨rfl, hb1⟩
    have hb := btr hb0 hb1
    have T := t0.below hb1 hz
    have hz1 : w.heap.size < w1.heap.size := T.2
    clear hb0 hb1 t0 hz HU
    have as0 := as_nil_no
    have as1 := as_nil_fault
    have as2 := as_nil_call
    have as3 := as_nil_out
    have as4 := as_nil_halt
    have HB := Lib.hid hb
    clear T hb hz1 h
    go_wp2_with fail
    go_ret
    exact ⟨by rw [HV.out]; rfl, HB.out⟩
end Go.Proofs.Yteopkcndkcciaaa.Exits
