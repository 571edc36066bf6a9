/-
  At every argument the law FnExactBareOk returns true: the project's BareOk answers as the given model's BareOk, changes no argument, and what it returns is its own. No condition.
-/
import Derived.Test.YtldgadmpclgfhaaKBareOkB2
import Derived.Laws.Build
import Derived.Laws.StructEq
import Derived.BigQuiet
namespace Go.Proofs.Ytldgadmpclgfhaa.Exits
set_option maxRecDepth 100000
open Go.ChangeShapes Go.WideShapes Go.ChangeAt Go.RowKit
open Go.Proofs.Ytldgadmpclgfhaa.Base Go.Proofs.Ytldgadmpclgfhaa.Mem Go.Proofs.Ytldgadmpclgfhaa.Data
set_option linter.unusedVariables false
set_option linter.unusedSimpArgs false
/-- The exit in the type of its kind. -/
def usedV (k p : Int) (q : Bool) (n : Int) : Value :=
  if k = 0 then .iface 152 (.agg #[]) else if k = 1 then .iface 154 (.agg #[.int .i64 p, .bool q]) else if k = 2 then .iface 157 (.agg #[.int .i64 n]) else if k = 3 then .iface 159 (.agg #[.int .i64 n])
  else if k = 4 then .iface 160 (.agg #[]) else .nilIface
theorem usedV_0 (p : Int) (q : Bool) (n : Int) : usedV 0 p q n = .iface 152 (.agg #[]) := rfl
theorem usedV_1 (p : Int) (q : Bool) (n : Int) : usedV 1 p q n = .iface 154 (.agg #[.int .i64 p, .bool q]) := rfl
theorem usedV_2 (p : Int) (q : Bool) (n : Int) : usedV 2 p q n = .iface 157 (.agg #[.int .i64 n]) := rfl
theorem usedV_3 (p : Int) (q : Bool) (n : Int) : usedV 3 p q n = .iface 159 (.agg #[.int .i64 n]) := rfl
theorem usedV_4 (p : Int) (q : Bool) (n : Int) : usedV 4 p q n = .iface 160 (.agg #[]) := rfl
theorem usedV_else {k : Int} (p : Int) (q : Bool) (n : Int) (h : (k == 0) = false ∧ (k == 1) = false ∧ (k == 2) = false ∧ (k == 3) = false ∧ (k == 4) = false) : usedV k p q n = .nilIface := by
  simp only [beq_eq_false_iff_ne, ne_eq] at h
  simp [usedV, h]
set_option maxHeartbeats 4000000 in
theorem impl_usedBy (k p : Int) (q : Bool) (n : Int) (w : World) :
    Calls Try.prog 143 #[.agg #[.int .i64 k, .int .i64 p, .bool q, .int .i64 n]] w fun e w' => e = .returned (usedV k p q n) ∧ Below w.heap.size w w' := by
  rcases kind_cases k with rfl | rfl | rfl | rfl | rfl | h
  · have HV := Lib.hid (usedV_0 p q n)
    have HB := Lib.hid (show Below w.heap.size w (w.alloc (.cells #[.int .i64 0, .int .i64 p, .bool q, .int .i64 n] 49)) from (Below.refl _ _).alloc (Nat.le_refl _) _)
    go_enter Try.func143, Try.ntmps143
    go_wp2_with fail
    go_ret
    exact ⟨by rw [HV.out]; rfl, HB.out⟩
  · have HV := Lib.hid (usedV_4 p q n)
    have HB := Lib.hid (show Below w.heap.size w (w.alloc (.cells #[.int .i64 4, .int .i64 p, .bool q, .int .i64 n] 49)) from (Below.refl _ _).alloc (Nat.le_refl _) _)
    go_enter Try.func143, Try.ntmps143
    go_wp2_with fail
    go_ret
    exact ⟨by rw [HV.out]; rfl, HB.out⟩
  · have HV := Lib.hid (usedV_1 p q n)
    have HB := Lib.hid (show Below w.heap.size w (w.alloc (.cells #[.int .i64 1, .int .i64 p, .bool q, .int .i64 n] 49)) from (Below.refl _ _).alloc (Nat.le_refl _) _)
    go_enter Try.func143, Try.ntmps143
    go_wp2_with fail
    go_ret
    exact ⟨by rw [HV.out]; rfl, HB.out⟩
  · have HV := Lib.hid (usedV_2 p q n)
    have HB := Lib.hid (show Below w.heap.size w (w.alloc (.cells #[.int .i64 2, .int .i64 p, .bool q, .int .i64 n] 49)) from (Below.refl _ _).alloc (Nat.le_refl _) _)
    go_enter Try.func143, Try.ntmps143
    go_wp2_with fail
    go_ret
    exact ⟨by rw [HV.out]; rfl, HB.out⟩
  · have HV := Lib.hid (usedV_3 p q n)
    have HB := Lib.hid (show Below w.heap.size w (w.alloc (.cells #[.int .i64 3, .int .i64 p, .bool q, .int .i64 n] 49)) from (Below.refl _ _).alloc (Nat.le_refl _) _)
    go_enter Try.func143, Try.ntmps143
    go_wp2_with fail
    go_ret
    exact ⟨by rw [HV.out]; rfl, HB.out⟩
  · have HV := Lib.hid (usedV_else (k := k) p q n h)
    obtain ⟨h0, h1, h2, h3, h4⟩ := h
    have HB := Lib.hid (show Below w.heap.size w (w.alloc (.cells #[.int .i64 k, .int .i64 p, .bool q, .int .i64 n] 49)) from (Below.refl _ _).alloc (Nat.le_refl _) _)
    go_enter Try.func143, Try.ntmps143
    go_wp2_with fail
    go_ret
    exact ⟨by rw [HV.out]; rfl, HB.out⟩
theorem impl_cellOkE (v : Int) (w : World) :
    Calls Try.prog 126 #[.int .i64 v] w fun e w' => e = .returned (.bool (inB v 0 99)) ∧ Below w.heap.size w w' := by
  by_cases h0 : v < 0
  · have HV := Lib.hid (inB_false.2 (show v < 0 ∨ 99 < v from .inl h0))
    have h1 : ¬ v ≥ 0 := by omega
    clear h0
    go_enter Try.func126, Try.ntmps126
    go_wp2_with fail
    go_ret
    exact ⟨by rw [HV.out]; rfl, Below.refl _ _⟩
  · have h1 : v ≥ 0 := by omega
    by_cases h2 : v ≤ 99
    · have HV := Lib.hid (inB_iff.2 (show 0 ≤ v ∧ v ≤ 99 from ⟨h1, h2⟩))
      clear h0
      go_enter Try.func126, Try.ntmps126
      go_wp2_with fail
      go_ret
      exact ⟨by rw [HV.out]; rfl, Below.refl _ _⟩
    · have HV := Lib.hid (inB_false.2 (show v < 0 ∨ 99 < v from .inr (by omega)))
      clear h0
      go_enter Try.func126, Try.ntmps126
      go_wp2_with fail
      go_ret
      exact ⟨by rw [HV.out]; rfl, Below.refl _ _⟩
theorem impl_fault' (p : Int) (q : Bool) (w : World) :
    Calls Try.prog 144 #[.int .i64 p, .bool q] w (ExitP w (1, p, q, 0)) := by
  have HB := Lib.hid (show Below w.heap.size w (w.alloc (.cells #[.int .i64 1, .int .i64 p, .bool q, .int .i64 0] 49)) from (Below.refl _ _).alloc (Nat.le_refl _) _)
  have t1 : Var (w.alloc (.cells #[.int .i64 1, .int .i64 p, .bool q, .int .i64 0] 49)) w.heap.size [.int .i64 1, .int .i64 p, .bool q, .int .i64 0] := Var.new w [.int .i64 1, .int .i64 p, .bool q, .int .i64 0] 49
  have c0 := t1.cell 0 (v := .int .i64 1) rfl
  have c1 := t1.cell 1 (v := .int .i64 p) rfl
  have c2 := t1.cell 2 (v := .bool q) rfl
  have c3 := t1.cell 3 (v := .int .i64 0) rfl
  clear t1
  go_enter Try.func144, Try.ntmps144
  go_wp2_with fail
  generalize w.alloc (.cells #[.int .i64 1, .int .i64 p, .bool q, .int .i64 0] 49) = WF at c0 c1 c2 c3 HB ⊢
  exact bodyPost_ret (v := .agg #[.int .i64 1, .int .i64 p, .bool q, .int .i64 0]) (by simp [results, Try.results144, go_sem, c0, c1, c2, c3]) rfl ⟨rfl, HB.out⟩
theorem impl_call' (n : Int) (w : World) :
    Calls Try.prog 145 #[.int .i64 n] w (ExitP w (2, 0, false, n)) := by
  have HB := Lib.hid (show Below w.heap.size w (w.alloc (.cells #[.int .i64 2, .int .i64 0, .bool false, .int .i64 n] 49)) from (Below.refl _ _).alloc (Nat.le_refl _) _)
  have t1 : Var (w.alloc (.cells #[.int .i64 2, .int .i64 0, .bool false, .int .i64 n] 49)) w.heap.size [.int .i64 2, .int .i64 0, .bool false, .int .i64 n] := Var.new w [.int .i64 2, .int .i64 0, .bool false, .int .i64 n] 49
  have c0 := t1.cell 0 (v := .int .i64 2) rfl
  have c1 := t1.cell 1 (v := .int .i64 0) rfl
  have c2 := t1.cell 2 (v := .bool false) rfl
  have c3 := t1.cell 3 (v := .int .i64 n) rfl
  clear t1
  go_enter Try.func145, Try.ntmps145
  go_wp2_with fail
  generalize w.alloc (.cells #[.int .i64 2, .int .i64 0, .bool false, .int .i64 n] 49) = WF at c0 c1 c2 c3 HB ⊢
  exact bodyPost_ret (v := .agg #[.int .i64 2, .int .i64 0, .bool false, .int .i64 n]) (by simp [results, Try.results145, go_sem, c0, c1, c2, c3]) rfl ⟨rfl, HB.out⟩
theorem impl_out' (n : Int) (w : World) :
    Calls Try.prog 146 #[.int .i64 n] w (ExitP w (3, 0, false, n)) := by
  have HB := Lib.hid (show Below w.heap.size w (w.alloc (.cells #[.int .i64 3, .int .i64 0, .bool false, .int .i64 n] 49)) from (Below.refl _ _).alloc (Nat.le_refl _) _)
  have t1 : Var (w.alloc (.cells #[.int .i64 3, .int .i64 0, .bool false, .int .i64 n] 49)) w.heap.size [.int .i64 3, .int .i64 0, .bool false, .int .i64 n] := Var.new w [.int .i64 3, .int .i64 0, .bool false, .int .i64 n] 49
  have c0 := t1.cell 0 (v := .int .i64 3) rfl
  have c1 := t1.cell 1 (v := .int .i64 0) rfl
  have c2 := t1.cell 2 (v := .bool false) rfl
  have c3 := t1.cell 3 (v := .int .i64 n) rfl
  clear t1
  go_enter Try.func146, Try.ntmps146
  go_wp2_with fail
  generalize w.alloc (.cells #[.int .i64 3, .int .i64 0, .bool false, .int .i64 n] 49) = WF at c0 c1 c2 c3 HB ⊢
  exact bodyPost_ret (v := .agg #[.int .i64 3, .int .i64 0, .bool false, .int .i64 n]) (by simp [results, Try.results146, go_sem, c0, c1, c2, c3]) rfl ⟨rfl, HB.out⟩
theorem as_no_no (x : Value) (W : World) : (Instr.typeAssert (.iface 152 x) 20 152 true).run Try.prog W = .ok (.tuple #[x, .bool true]) W := by kernel_rfl
theorem as_fault_no (x : Value) (W : World) : (Instr.typeAssert (.iface 154 x) 20 152 true).run Try.prog W = .ok (.tuple #[.agg #[], .bool false]) W := by kernel_rfl
theorem as_fault_fault (x : Value) (W : World) : (Instr.typeAssert (.iface 154 x) 20 154 true).run Try.prog W = .ok (.tuple #[x, .bool true]) W := by kernel_rfl
theorem as_call_no (x : Value) (W : World) : (Instr.typeAssert (.iface 157 x) 20 152 true).run Try.prog W = .ok (.tuple #[.agg #[], .bool false]) W := by kernel_rfl
theorem as_call_fault (x : Value) (W : World) : (Instr.typeAssert (.iface 157 x) 20 154 true).run Try.prog W = .ok (.tuple #[.agg #[.int .i64 0, .bool false], .bool false]) W := by kernel_rfl
theorem as_call_call (x : Value) (W : World) : (Instr.typeAssert (.iface 157 x) 20 157 true).run Try.prog W = .ok (.tuple #[x, .bool true]) W := by kernel_rfl
theorem as_out_no (x : Value) (W : World) : (Instr.typeAssert (.iface 159 x) 20 152 true).run Try.prog W = .ok (.tuple #[.agg #[], .bool false]) W := by kernel_rfl
theorem as_out_fault (x : Value) (W : World) : (Instr.typeAssert (.iface 159 x) 20 154 true).run Try.prog W = .ok (.tuple #[.agg #[.int .i64 0, .bool false], .bool false]) W := by kernel_rfl
theorem as_out_call (x : Value) (W : World) : (Instr.typeAssert (.iface 159 x) 20 157 true).run Try.prog W = .ok (.tuple #[.agg #[.int .i64 0], .bool false]) W := by kernel_rfl
theorem as_out_out (x : Value) (W : World) : (Instr.typeAssert (.iface 159 x) 20 159 true).run Try.prog W = .ok (.tuple #[x, .bool true]) W := by kernel_rfl
theorem as_halt_no (x : Value) (W : World) : (Instr.typeAssert (.iface 160 x) 20 152 true).run Try.prog W = .ok (.tuple #[.agg #[], .bool false]) W := by kernel_rfl
theorem as_halt_fault (x : Value) (W : World) : (Instr.typeAssert (.iface 160 x) 20 154 true).run Try.prog W = .ok (.tuple #[.agg #[.int .i64 0, .bool false], .bool false]) W := by kernel_rfl
theorem as_halt_call (x : Value) (W : World) : (Instr.typeAssert (.iface 160 x) 20 157 true).run Try.prog W = .ok (.tuple #[.agg #[.int .i64 0], .bool false]) W := by kernel_rfl
theorem as_halt_out (x : Value) (W : World) : (Instr.typeAssert (.iface 160 x) 20 159 true).run Try.prog W = .ok (.tuple #[.agg #[.int .i64 0], .bool false]) W := by kernel_rfl
theorem as_halt_halt (x : Value) (W : World) : (Instr.typeAssert (.iface 160 x) 20 160 true).run Try.prog W = .ok (.tuple #[x, .bool true]) W := by kernel_rfl
theorem as_nil_no (W : World) : (Instr.typeAssert .nilIface 20 152 true).run Try.prog W = .ok (.tuple #[.agg #[], .bool false]) W := by kernel_rfl
theorem as_nil_fault (W : World) : (Instr.typeAssert .nilIface 20 154 true).run Try.prog W = .ok (.tuple #[.agg #[.int .i64 0, .bool false], .bool false]) W := by kernel_rfl
theorem as_nil_call (W : World) : (Instr.typeAssert .nilIface 20 157 true).run Try.prog W = .ok (.tuple #[.agg #[.int .i64 0], .bool false]) W := by kernel_rfl
theorem as_nil_out (W : World) : (Instr.typeAssert .nilIface 20 159 true).run Try.prog W = .ok (.tuple #[.agg #[.int .i64 0], .bool false]) W := by kernel_rfl
theorem as_nil_halt (W : World) : (Instr.typeAssert .nilIface 20 160 true).run Try.prog W = .ok (.tuple #[.agg #[], .bool false]) W := by kernel_rfl
set_option maxHeartbeats 16000000 in
theorem impl_exitOk (k p : Int) (q : Bool) (n : Int) (w : World) (ws : wfQ (k, p, q, n)) :
    Calls Try.prog 138 #[.agg #[.int .i64 k, .int .i64 p, .bool q, .int .i64 n]] w fun e w' => e = .returned (.bool (exitOk (k, p, q, n))) ∧ Below w.heap.size w w' := by
  clear ws
  rcases kind_cases k with rfl | rfl | rfl | rfl | rfl | h
  · by_cases hp : p = 0 <;> by_cases hn : n = 0 <;> cases q
    · subst hp
      subst hn
      have HV := Lib.hid (show exitOk (0, 0, false, 0) = true from by simp [exitOk])
      have HU := Lib.hid (fun V : World => impl_usedBy 0 0 false 0 V)
      rw [usedV_0] at HU
      have hb0 : Below w.heap.size w (w.alloc (.cells #[.int .i64 0, .int .i64 0, .bool false, .int .i64 0] 49)) := (Below.refl _ _).alloc (Nat.le_refl _) _
      have t0 : Var (w.alloc (.cells #[.int .i64 0, .int .i64 0, .bool false, .int .i64 0] 49)) w.heap.size [.int .i64 0, .int .i64 0, .bool false, .int .i64 0] := Var.new w [.int .i64 0, .int .i64 0, .bool false, .int .i64 0] 49
      have hz : w.heap.size < (w.alloc (.cells #[.int .i64 0, .int .i64 0, .bool false, .int .i64 0] 49)).heap.size := by simp
      go_enter Try.func138, Try.ntmps138
      go_wp2_with fail
      generalize w.alloc (.cells #[.int .i64 0, .int .i64 0, .bool false, .int .i64 0] 49) = W0 at t0 hb0 hz ⊢
      refine (HU.out _).mono ?_
      rintro e w1 ⟨rfl, hb1⟩
      have hb := btr hb0 hb1
      have T := t0.below hb1 hz
      have hz1 : w.heap.size < w1.heap.size := T.2
      clear hb0 hb1 t0 hz HU
      have as0 := as_no_no (.agg #[])
      have hA : Below w1.heap.size w1 (w1.alloc (.cells #[] 152)) := (Below.refl _ _).alloc (Nat.le_refl _) _
      have T2 := T.below hA hz1
      have v0 := T2.cell 0 (v := .int .i64 0) rfl
      have v1 := T2.cell 1 (v := .int .i64 0) rfl
      have v2 := T2.cell 2 (v := .bool false) rfl
      have v3 := T2.cell 3 (v := .int .i64 0) rfl
      have HB := Lib.hid (btr hb hA)
      clear T T2 hA hb hz1
      go_wp2_with fail
      go_ret
      exact ⟨by rw [HV.out]; rfl, HB.out⟩
    · subst hp
      subst hn
      have HV := Lib.hid (show exitOk (0, 0, true, 0) = false from by simp [exitOk])
      have HU := Lib.hid (fun V : World => impl_usedBy 0 0 true 0 V)
      rw [usedV_0] at HU
      have hb0 : Below w.heap.size w (w.alloc (.cells #[.int .i64 0, .int .i64 0, .bool true, .int .i64 0] 49)) := (Below.refl _ _).alloc (Nat.le_refl _) _
      have t0 : Var (w.alloc (.cells #[.int .i64 0, .int .i64 0, .bool true, .int .i64 0] 49)) w.heap.size [.int .i64 0, .int .i64 0, .bool true, .int .i64 0] := Var.new w [.int .i64 0, .int .i64 0, .bool true, .int .i64 0] 49
      have hz : w.heap.size < (w.alloc (.cells #[.int .i64 0, .int .i64 0, .bool true, .int .i64 0] 49)).heap.size := by simp
      go_enter Try.func138, Try.ntmps138
      go_wp2_with fail
      generalize w.alloc (.cells #[.int .i64 0, .int .i64 0, .bool true, .int .i64 0] 49) = W0 at t0 hb0 hz ⊢
      refine (HU.out _).mono ?_
      rintro e w1 ⟨rfl, hb1⟩
      have hb := btr hb0 hb1
      have T := t0.below hb1 hz
      have hz1 : w.heap.size < w1.heap.size := T.2
      clear hb0 hb1 t0 hz HU
      have as0 := as_no_no (.agg #[])
      have hA : Below w1.heap.size w1 (w1.alloc (.cells #[] 152)) := (Below.refl _ _).alloc (Nat.le_refl _) _
      have T2 := T.below hA hz1
      have v0 := T2.cell 0 (v := .int .i64 0) rfl
      have v1 := T2.cell 1 (v := .int .i64 0) rfl
      have v2 := T2.cell 2 (v := .bool true) rfl
      have v3 := T2.cell 3 (v := .int .i64 0) rfl
      have HB := Lib.hid (btr hb hA)
      clear T T2 hA hb hz1
      go_wp2_with fail
      go_ret
      exact ⟨by rw [HV.out]; rfl, HB.out⟩
    · subst hp
      have hn' : (n == 0) = false := by simpa using hn
      have HV := Lib.hid (show exitOk (0, 0, false, n) = false from by simp [exitOk, hn])
      have HU := Lib.hid (fun V : World => impl_usedBy 0 0 false n V)
      rw [usedV_0] at HU
      have hb0 : Below w.heap.size w (w.alloc (.cells #[.int .i64 0, .int .i64 0, .bool false, .int .i64 n] 49)) := (Below.refl _ _).alloc (Nat.le_refl _) _
      have t0 : Var (w.alloc (.cells #[.int .i64 0, .int .i64 0, .bool false, .int .i64 n] 49)) w.heap.size [.int .i64 0, .int .i64 0, .bool false, .int .i64 n] := Var.new w [.int .i64 0, .int .i64 0, .bool false, .int .i64 n] 49
      have hz : w.heap.size < (w.alloc (.cells #[.int .i64 0, .int .i64 0, .bool false, .int .i64 n] 49)).heap.size := by simp
      go_enter Try.func138, Try.ntmps138
      go_wp2_with fail
      generalize w.alloc (.cells #[.int .i64 0, .int .i64 0, .bool false, .int .i64 n] 49) = W0 at t0 hb0 hz ⊢
      refine (HU.out _).mono ?_
      rintro e w1 ⟨rfl, hb1⟩
      have hb := btr hb0 hb1
      have T := t0.below hb1 hz
      have hz1 : w.heap.size < w1.heap.size := T.2
      clear hb0 hb1 t0 hz HU
      have as0 := as_no_no (.agg #[])
      have hA : Below w1.heap.size w1 (w1.alloc (.cells #[] 152)) := (Below.refl _ _).alloc (Nat.le_refl _) _
      have T2 := T.below hA hz1
      have v0 := T2.cell 0 (v := .int .i64 0) rfl
      have v1 := T2.cell 1 (v := .int .i64 0) rfl
      have v2 := T2.cell 2 (v := .bool false) rfl
      have v3 := T2.cell 3 (v := .int .i64 n) rfl
      have HB := Lib.hid (btr hb hA)
      clear T T2 hA hb hz1
      go_wp2_with fail
      go_ret
      exact ⟨by rw [HV.out]; rfl, HB.out⟩
    · subst hp
      have hn' : (n == 0) = false := by simpa using hn
      have HV := Lib.hid (show exitOk (0, 0, true, n) = false from by simp [exitOk, hn])
      have HU := Lib.hid (fun V : World => impl_usedBy 0 0 true n V)
      rw [usedV_0] at HU
      have hb0 : Below w.heap.size w (w.alloc (.cells #[.int .i64 0, .int .i64 0, .bool true, .int .i64 n] 49)) := (Below.refl _ _).alloc (Nat.le_refl _) _
      have t0 : Var (w.alloc (.cells #[.int .i64 0, .int .i64 0, .bool true, .int .i64 n] 49)) w.heap.size [.int .i64 0, .int .i64 0, .bool true, .int .i64 n] := Var.new w [.int .i64 0, .int .i64 0, .bool true, .int .i64 n] 49
      have hz : w.heap.size < (w.alloc (.cells #[.int .i64 0, .int .i64 0, .bool true, .int .i64 n] 49)).heap.size := by simp
      go_enter Try.func138, Try.ntmps138
      go_wp2_with fail
      generalize w.alloc (.cells #[.int .i64 0, .int .i64 0, .bool true, .int .i64 n] 49) = W0 at t0 hb0 hz ⊢
      refine (HU.out _).mono ?_
      rintro e w1 ⟨rfl, hb1⟩
      have hb := btr hb0 hb1
      have T := t0.below hb1 hz
      have hz1 : w.heap.size < w1.heap.size := T.2
      clear hb0 hb1 t0 hz HU
      have as0 := as_no_no (.agg #[])
      have hA : Below w1.heap.size w1 (w1.alloc (.cells #[] 152)) := (Below.refl _ _).alloc (Nat.le_refl _) _
      have T2 := T.below hA hz1
      have v0 := T2.cell 0 (v := .int .i64 0) rfl
      have v1 := T2.cell 1 (v := .int .i64 0) rfl
      have v2 := T2.cell 2 (v := .bool true) rfl
      have v3 := T2.cell 3 (v := .int .i64 n) rfl
      have HB := Lib.hid (btr hb hA)
      clear T T2 hA hb hz1
      go_wp2_with fail
      go_ret
      exact ⟨by rw [HV.out]; rfl, HB.out⟩
    · have hp' : (p == 0) = false := by simpa using hp
      subst hn
      have HV := Lib.hid (show exitOk (0, p, false, 0) = false from by simp [exitOk, hp])
      have HU := Lib.hid (fun V : World => impl_usedBy 0 p false 0 V)
      rw [usedV_0] at HU
      have hb0 : Below w.heap.size w (w.alloc (.cells #[.int .i64 0, .int .i64 p, .bool false, .int .i64 0] 49)) := (Below.refl _ _).alloc (Nat.le_refl _) _
      have t0 : Var (w.alloc (.cells #[.int .i64 0, .int .i64 p, .bool false, .int .i64 0] 49)) w.heap.size [.int .i64 0, .int .i64 p, .bool false, .int .i64 0] := Var.new w [.int .i64 0, .int .i64 p, .bool false, .int .i64 0] 49
      have hz : w.heap.size < (w.alloc (.cells #[.int .i64 0, .int .i64 p, .bool false, .int .i64 0] 49)).heap.size := by simp
      go_enter Try.func138, Try.ntmps138
      go_wp2_with fail
      generalize w.alloc (.cells #[.int .i64 0, .int .i64 p, .bool false, .int .i64 0] 49) = W0 at t0 hb0 hz ⊢
      refine (HU.out _).mono ?_
      rintro e w1 ⟨rfl, hb1⟩
      have hb := btr hb0 hb1
      have T := t0.below hb1 hz
      have hz1 : w.heap.size < w1.heap.size := T.2
      clear hb0 hb1 t0 hz HU
      have as0 := as_no_no (.agg #[])
      have hA : Below w1.heap.size w1 (w1.alloc (.cells #[] 152)) := (Below.refl _ _).alloc (Nat.le_refl _) _
      have T2 := T.below hA hz1
      have v0 := T2.cell 0 (v := .int .i64 0) rfl
      have v1 := T2.cell 1 (v := .int .i64 p) rfl
      have v2 := T2.cell 2 (v := .bool false) rfl
      have v3 := T2.cell 3 (v := .int .i64 0) rfl
      have HB := Lib.hid (btr hb hA)
      clear T T2 hA hb hz1
      go_wp2_with fail
      go_ret
      exact ⟨by rw [HV.out]; rfl, HB.out⟩
    · have hp' : (p == 0) = false := by simpa using hp
      subst hn
      have HV := Lib.hid (show exitOk (0, p, true, 0) = false from by simp [exitOk, hp])
      have HU := Lib.hid (fun V : World => impl_usedBy 0 p true 0 V)
      rw [usedV_0] at HU
      have hb0 : Below w.heap.size w (w.alloc (.cells #[.int .i64 0, .int .i64 p, .bool true, .int .i64 0] 49)) := (Below.refl _ _).alloc (Nat.le_refl _) _
      have t0 : Var (w.alloc (.cells #[.int .i64 0, .int .i64 p, .bool true, .int .i64 0] 49)) w.heap.size [.int .i64 0, .int .i64 p, .bool true, .int .i64 0] := Var.new w [.int .i64 0, .int .i64 p, .bool true, .int .i64 0] 49
      have hz : w.heap.size < (w.alloc (.cells #[.int .i64 0, .int .i64 p, .bool true, .int .i64 0] 49)).heap.size := by simp
      go_enter Try.func138, Try.ntmps138
      go_wp2_with fail
      generalize w.alloc (.cells #[.int .i64 0, .int .i64 p, .bool true, .int .i64 0] 49) = W0 at t0 hb0 hz ⊢
      refine (HU.out _).mono ?_
      rintro e w1 ⟨rfl, hb1⟩
      have hb := btr hb0 hb1
      have T := t0.below hb1 hz
      have hz1 : w.heap.size < w1.heap.size := T.2
      clear hb0 hb1 t0 hz HU
      have as0 := as_no_no (.agg #[])
      have hA : Below w1.heap.size w1 (w1.alloc (.cells #[] 152)) := (Below.refl _ _).alloc (Nat.le_refl _) _
      have T2 := T.below hA hz1
      have v0 := T2.cell 0 (v := .int .i64 0) rfl
      have v1 := T2.cell 1 (v := .int .i64 p) rfl
      have v2 := T2.cell 2 (v := .bool true) rfl
      have v3 := T2.cell 3 (v := .int .i64 0) rfl
      have HB := Lib.hid (btr hb hA)
      clear T T2 hA hb hz1
      go_wp2_with fail
      go_ret
      exact ⟨by rw [HV.out]; rfl, HB.out⟩
    · have hp' : (p == 0) = false := by simpa using hp
      have hn' : (n == 0) = false := by simpa using hn
      have HV := Lib.hid (show exitOk (0, p, false, n) = false from by simp [exitOk, hp, hn])
      have HU := Lib.hid (fun V : World => impl_usedBy 0 p false n V)
      rw [usedV_0] at HU
      have hb0 : Below w.heap.size w (w.alloc (.cells #[.int .i64 0, .int .i64 p, .bool false, .int .i64 n] 49)) := (Below.refl _ _).alloc (Nat.le_refl _) _
      have t0 : Var (w.alloc (.cells #[.int .i64 0, .int .i64 p, .bool false, .int .i64 n] 49)) w.heap.size [.int .i64 0, .int .i64 p, .bool false, .int .i64 n] := Var.new w [.int .i64 0, .int .i64 p, .bool false, .int .i64 n] 49
      have hz : w.heap.size < (w.alloc (.cells #[.int .i64 0, .int .i64 p, .bool false, .int .i64 n] 49)).heap.size := by simp
      go_enter Try.func138, Try.ntmps138
      go_wp2_with fail
      generalize w.alloc (.cells #[.int .i64 0, .int .i64 p, .bool false, .int .i64 n] 49) = W0 at t0 hb0 hz ⊢
      refine (HU.out _).mono ?_
      rintro e w1 ⟨rfl, hb1⟩
      have hb := btr hb0 hb1
      have T := t0.below hb1 hz
      have hz1 : w.heap.size < w1.heap.size := T.2
      clear hb0 hb1 t0 hz HU
      have as0 := as_no_no (.agg #[])
      have hA : Below w1.heap.size w1 (w1.alloc (.cells #[] 152)) := (Below.refl _ _).alloc (Nat.le_refl _) _
      have T2 := T.below hA hz1
      have v0 := T2.cell 0 (v := .int .i64 0) rfl
      have v1 := T2.cell 1 (v := .int .i64 p) rfl
      have v2 := T2.cell 2 (v := .bool false) rfl
      have v3 := T2.cell 3 (v := .int .i64 n) rfl
      have HB := Lib.hid (btr hb hA)
      clear T T2 hA hb hz1
      go_wp2_with fail
      go_ret
      exact ⟨by rw [HV.out]; rfl, HB.out⟩
    · have hp' : (p == 0) = false := by simpa using hp
      have hn' : (n == 0) = false := by simpa using hn
      have HV := Lib.hid (show exitOk (0, p, true, n) = false from by simp [exitOk, hp, hn])
      have HU := Lib.hid (fun V : World => impl_usedBy 0 p true n V)
      rw [usedV_0] at HU
      have hb0 : Below w.heap.size w (w.alloc (.cells #[.int .i64 0, .int .i64 p, .bool true, .int .i64 n] 49)) := (Below.refl _ _).alloc (Nat.le_refl _) _
      have t0 : Var (w.alloc (.cells #[.int .i64 0, .int .i64 p, .bool true, .int .i64 n] 49)) w.heap.size [.int .i64 0, .int .i64 p, .bool true, .int .i64 n] := Var.new w [.int .i64 0, .int .i64 p, .bool true, .int .i64 n] 49
      have hz : w.heap.size < (w.alloc (.cells #[.int .i64 0, .int .i64 p, .bool true, .int .i64 n] 49)).heap.size := by simp
      go_enter Try.func138, Try.ntmps138
      go_wp2_with fail
      generalize w.alloc (.cells #[.int .i64 0, .int .i64 p, .bool true, .int .i64 n] 49) = W0 at t0 hb0 hz ⊢
      refine (HU.out _).mono ?_
      rintro e w1 ⟨rfl, hb1⟩
      have hb := btr hb0 hb1
      have T := t0.below hb1 hz
      have hz1 : w.heap.size < w1.heap.size := T.2
      clear hb0 hb1 t0 hz HU
      have as0 := as_no_no (.agg #[])
      have hA : Below w1.heap.size w1 (w1.alloc (.cells #[] 152)) := (Below.refl _ _).alloc (Nat.le_refl _) _
      have T2 := T.below hA hz1
      have v0 := T2.cell 0 (v := .int .i64 0) rfl
      have v1 := T2.cell 1 (v := .int .i64 p) rfl
      have v2 := T2.cell 2 (v := .bool true) rfl
      have v3 := T2.cell 3 (v := .int .i64 n) rfl
      have HB := Lib.hid (btr hb hA)
      clear T T2 hA hb hz1
      go_wp2_with fail
      go_ret
      exact ⟨by rw [HV.out]; rfl, HB.out⟩
  · by_cases hp : p = 0 <;> by_cases hn : n = 0 <;> cases q
    · subst hp
      subst hn
      have HV := Lib.hid (show exitOk (4, 0, false, 0) = true from by simp [exitOk])
      have HU := Lib.hid (fun V : World => impl_usedBy 4 0 false 0 V)
      rw [usedV_4] at HU
      have hb0 : Below w.heap.size w (w.alloc (.cells #[.int .i64 4, .int .i64 0, .bool false, .int .i64 0] 49)) := (Below.refl _ _).alloc (Nat.le_refl _) _
      have t0 : Var (w.alloc (.cells #[.int .i64 4, .int .i64 0, .bool false, .int .i64 0] 49)) w.heap.size [.int .i64 4, .int .i64 0, .bool false, .int .i64 0] := Var.new w [.int .i64 4, .int .i64 0, .bool false, .int .i64 0] 49
      have hz : w.heap.size < (w.alloc (.cells #[.int .i64 4, .int .i64 0, .bool false, .int .i64 0] 49)).heap.size := by simp
      go_enter Try.func138, Try.ntmps138
      go_wp2_with fail
      generalize w.alloc (.cells #[.int .i64 4, .int .i64 0, .bool false, .int .i64 0] 49) = W0 at t0 hb0 hz ⊢
      refine (HU.out _).mono ?_
      rintro e w1 ⟨rfl, hb1⟩
      have hb := btr hb0 hb1
      have T := t0.below hb1 hz
      have hz1 : w.heap.size < w1.heap.size := T.2
      clear hb0 hb1 t0 hz HU
      have as0 := as_halt_no (.agg #[])
      have as1 := as_halt_fault (.agg #[])
      have as2 := as_halt_call (.agg #[])
      have as3 := as_halt_out (.agg #[])
      have as4 := as_halt_halt (.agg #[])
      have hA : Below w1.heap.size w1 (w1.alloc (.cells #[] 160)) := (Below.refl _ _).alloc (Nat.le_refl _) _
      have T2 := T.below hA hz1
      have v0 := T2.cell 0 (v := .int .i64 4) rfl
      have v1 := T2.cell 1 (v := .int .i64 0) rfl
      have v2 := T2.cell 2 (v := .bool false) rfl
      have v3 := T2.cell 3 (v := .int .i64 0) rfl
      have HB := Lib.hid (btr hb hA)
      clear T T2 hA hb hz1
      go_wp2_with fail
      go_ret
      exact ⟨by rw [HV.out]; rfl, HB.out⟩
    · subst hp
      subst hn
      have HV := Lib.hid (show exitOk (4, 0, true, 0) = false from by simp [exitOk])
      have HU := Lib.hid (fun V : World => impl_usedBy 4 0 true 0 V)
      rw [usedV_4] at HU
      have hb0 : Below w.heap.size w (w.alloc (.cells #[.int .i64 4, .int .i64 0, .bool true, .int .i64 0] 49)) := (Below.refl _ _).alloc (Nat.le_refl _) _
      have t0 : Var (w.alloc (.cells #[.int .i64 4, .int .i64 0, .bool true, .int .i64 0] 49)) w.heap.size [.int .i64 4, .int .i64 0, .bool true, .int .i64 0] := Var.new w [.int .i64 4, .int .i64 0, .bool true, .int .i64 0] 49
      have hz : w.heap.size < (w.alloc (.cells #[.int .i64 4, .int .i64 0, .bool true, .int .i64 0] 49)).heap.size := by simp
      go_enter Try.func138, Try.ntmps138
      go_wp2_with fail
      generalize w.alloc (.cells #[.int .i64 4, .int .i64 0, .bool true, .int .i64 0] 49) = W0 at t0 hb0 hz ⊢
      refine (HU.out _).mono ?_
      rintro e w1 ⟨rfl, hb1⟩
      have hb := btr hb0 hb1
      have T := t0.below hb1 hz
      have hz1 : w.heap.size < w1.heap.size := T.2
      clear hb0 hb1 t0 hz HU
      have as0 := as_halt_no (.agg #[])
      have as1 := as_halt_fault (.agg #[])
      have as2 := as_halt_call (.agg #[])
      have as3 := as_halt_out (.agg #[])
      have as4 := as_halt_halt (.agg #[])
      have hA : Below w1.heap.size w1 (w1.alloc (.cells #[] 160)) := (Below.refl _ _).alloc (Nat.le_refl _) _
      have T2 := T.below hA hz1
      have v0 := T2.cell 0 (v := .int .i64 4) rfl
      have v1 := T2.cell 1 (v := .int .i64 0) rfl
      have v2 := T2.cell 2 (v := .bool true) rfl
      have v3 := T2.cell 3 (v := .int .i64 0) rfl
      have HB := Lib.hid (btr hb hA)
      clear T T2 hA hb hz1
      go_wp2_with fail
      go_ret
      exact ⟨by rw [HV.out]; rfl, HB.out⟩
    · subst hp
      have hn' : (n == 0) = false := by simpa using hn
      have HV := Lib.hid (show exitOk (4, 0, false, n) = false from by simp [exitOk, hn])
      have HU := Lib.hid (fun V : World => impl_usedBy 4 0 false n V)
      rw [usedV_4] at HU
      have hb0 : Below w.heap.size w (w.alloc (.cells #[.int .i64 4, .int .i64 0, .bool false, .int .i64 n] 49)) := (Below.refl _ _).alloc (Nat.le_refl _) _
      have t0 : Var (w.alloc (.cells #[.int .i64 4, .int .i64 0, .bool false, .int .i64 n] 49)) w.heap.size [.int .i64 4, .int .i64 0, .bool false, .int .i64 n] := Var.new w [.int .i64 4, .int .i64 0, .bool false, .int .i64 n] 49
      have hz : w.heap.size < (w.alloc (.cells #[.int .i64 4, .int .i64 0, .bool false, .int .i64 n] 49)).heap.size := by simp
      go_enter Try.func138, Try.ntmps138
      go_wp2_with fail
      generalize w.alloc (.cells #[.int .i64 4, .int .i64 0, .bool false, .int .i64 n] 49) = W0 at t0 hb0 hz ⊢
      refine (HU.out _).mono ?_
      rintro e w1 ⟨rfl, hb1⟩
      have hb := btr hb0 hb1
      have T := t0.below hb1 hz
      have hz1 : w.heap.size < w1.heap.size := T.2
      clear hb0 hb1 t0 hz HU
      have as0 := as_halt_no (.agg #[])
      have as1 := as_halt_fault (.agg #[])
      have as2 := as_halt_call (.agg #[])
      have as3 := as_halt_out (.agg #[])
      have as4 := as_halt_halt (.agg #[])
      have hA : Below w1.heap.size w1 (w1.alloc (.cells #[] 160)) := (Below.refl _ _).alloc (Nat.le_refl _) _
      have T2 := T.below hA hz1
      have v0 := T2.cell 0 (v := .int .i64 4) rfl
      have v1 := T2.cell 1 (v := .int .i64 0) rfl
      have v2 := T2.cell 2 (v := .bool false) rfl
      have v3 := T2.cell 3 (v := .int .i64 n) rfl
      have HB := Lib.hid (btr hb hA)
      clear T T2 hA hb hz1
      go_wp2_with fail
      go_ret
      exact ⟨by rw [HV.out]; rfl, HB.out⟩
    · subst hp
      have hn' : (n == 0) = false := by simpa using hn
      have HV := Lib.hid (show exitOk (4, 0, true, n) = false from by simp [exitOk, hn])
      have HU := Lib.hid (fun V : World => impl_usedBy 4 0 true n V)
      rw [usedV_4] at HU
      have hb0 : Below w.heap.size w (w.alloc (.cells #[.int .i64 4, .int .i64 0, .bool true, .int .i64 n] 49)) := (Below.refl _ _).alloc (Nat.le_refl _) _
      have t0 : Var (w.alloc (.cells #[.int .i64 4, .int .i64 0, .bool true, .int .i64 n] 49)) w.heap.size [.int .i64 4, .int .i64 0, .bool true, .int .i64 n] := Var.new w [.int .i64 4, .int .i64 0, .bool true, .int .i64 n] 49
      have hz : w.heap.size < (w.alloc (.cells #[.int .i64 4, .int .i64 0, .bool true, .int .i64 n] 49)).heap.size := by simp
      go_enter Try.func138, Try.ntmps138
      go_wp2_with fail
      generalize w.alloc (.cells #[.int .i64 4, .int .i64 0, .bool true, .int .i64 n] 49) = W0 at t0 hb0 hz ⊢
      refine (HU.out _).mono ?_
      rintro e w1 ⟨rfl, hb1⟩
      have hb := btr hb0 hb1
      have T := t0.below hb1 hz
      have hz1 : w.heap.size < w1.heap.size := T.2
      clear hb0 hb1 t0 hz HU
      have as0 := as_halt_no (.agg #[])
      have as1 := as_halt_fault (.agg #[])
      have as2 := as_halt_call (.agg #[])
      have as3 := as_halt_out (.agg #[])
      have as4 := as_halt_halt (.agg #[])
      have hA : Below w1.heap.size w1 (w1.alloc (.cells #[] 160)) := (Below.refl _ _).alloc (Nat.le_refl _) _
      have T2 := T.below hA hz1
      have v0 := T2.cell 0 (v := .int .i64 4) rfl
      have v1 := T2.cell 1 (v := .int .i64 0) rfl
      have v2 := T2.cell 2 (v := .bool true) rfl
      have v3 := T2.cell 3 (v := .int .i64 n) rfl
      have HB := Lib.hid (btr hb hA)
      clear T T2 hA hb hz1
      go_wp2_with fail
      go_ret
      exact ⟨by rw [HV.out]; rfl, HB.out⟩
    · have hp' : (p == 0) = false := by simpa using hp
      subst hn
      have HV := Lib.hid (show exitOk (4, p, false, 0) = false from by simp [exitOk, hp])
      have HU := Lib.hid (fun V : World => impl_usedBy 4 p false 0 V)
      rw [usedV_4] at HU
      have hb0 : Below w.heap.size w (w.alloc (.cells #[.int .i64 4, .int .i64 p, .bool false, .int .i64 0] 49)) := (Below.refl _ _).alloc (Nat.le_refl _) _
      have t0 : Var (w.alloc (.cells #[.int .i64 4, .int .i64 p, .bool false, .int .i64 0] 49)) w.heap.size [.int .i64 4, .int .i64 p, .bool false, .int .i64 0] := Var.new w [.int .i64 4, .int .i64 p, .bool false, .int .i64 0] 49
      have hz : w.heap.size < (w.alloc (.cells #[.int .i64 4, .int .i64 p, .bool false, .int .i64 0] 49)).heap.size := by simp
      go_enter Try.func138, Try.ntmps138
      go_wp2_with fail
      generalize w.alloc (.cells #[.int .i64 4, .int .i64 p, .bool false, .int .i64 0] 49) = W0 at t0 hb0 hz ⊢
      refine (HU.out _).mono ?_
      rintro e w1 ⟨rfl, hb1⟩
      have hb := btr hb0 hb1
      have T := t0.below hb1 hz
      have hz1 : w.heap.size < w1.heap.size := T.2
      clear hb0 hb1 t0 hz HU
      have as0 := as_halt_no (.agg #[])
      have as1 := as_halt_fault (.agg #[])
      have as2 := as_halt_call (.agg #[])
      have as3 := as_halt_out (.agg #[])
      have as4 := as_halt_halt (.agg #[])
      have hA : Below w1.heap.size w1 (w1.alloc (.cells #[] 160)) := (Below.refl _ _).alloc (Nat.le_refl _) _
      have T2 := T.below hA hz1
      have v0 := T2.cell 0 (v := .int .i64 4) rfl
      have v1 := T2.cell 1 (v := .int .i64 p) rfl
      have v2 := T2.cell 2 (v := .bool false) rfl
      have v3 := T2.cell 3 (v := .int .i64 0) rfl
      have HB := Lib.hid (btr hb hA)
      clear T T2 hA hb hz1
      go_wp2_with fail
      go_ret
      exact ⟨by rw [HV.out]; rfl, HB.out⟩
    · have hp' : (p == 0) = false := by simpa using hp
      subst hn
      have HV := Lib.hid (show exitOk (4, p, true, 0) = false from by simp [exitOk, hp])
      have HU := Lib.hid (fun V : World => impl_usedBy 4 p true 0 V)
      rw [usedV_4] at HU
      have hb0 : Below w.heap.size w (w.alloc (.cells #[.int .i64 4, .int .i64 p, .bool true, .int .i64 0] 49)) := (Below.refl _ _).alloc (Nat.le_refl _) _
      have t0 : Var (w.alloc (.cells #[.int .i64 4, .int .i64 p, .bool true, .int .i64 0] 49)) w.heap.size [.int .i64 4, .int .i64 p, .bool true, .int .i64 0] := Var.new w [.int .i64 4, .int .i64 p, .bool true, .int .i64 0] 49
      have hz : w.heap.size < (w.alloc (.cells #[.int .i64 4, .int .i64 p, .bool true, .int .i64 0] 49)).heap.size := by simp
      go_enter Try.func138, Try.ntmps138
      go_wp2_with fail
      generalize w.alloc (.cells #[.int .i64 4, .int .i64 p, .bool true, .int .i64 0] 49) = W0 at t0 hb0 hz ⊢
      refine (HU.out _).mono ?_
      rintro e w1 ⟨rfl, hb1⟩
      have hb := btr hb0 hb1
      have T := t0.below hb1 hz
      have hz1 : w.heap.size < w1.heap.size := T.2
      clear hb0 hb1 t0 hz HU
      have as0 := as_halt_no (.agg #[])
      have as1 := as_halt_fault (.agg #[])
      have as2 := as_halt_call (.agg #[])
      have as3 := as_halt_out (.agg #[])
      have as4 := as_halt_halt (.agg #[])
      have hA : Below w1.heap.size w1 (w1.alloc (.cells #[] 160)) := (Below.refl _ _).alloc (Nat.le_refl _) _
      have T2 := T.below hA hz1
      have v0 := T2.cell 0 (v := .int .i64 4) rfl
      have v1 := T2.cell 1 (v := .int .i64 p) rfl
      have v2 := T2.cell 2 (v := .bool true) rfl
      have v3 := T2.cell 3 (v := .int .i64 0) rfl
      have HB := Lib.hid (btr hb hA)
      clear T T2 hA hb hz1
      go_wp2_with fail
      go_ret
      exact ⟨by rw [HV.out]; rfl, HB.out⟩
    · have hp' : (p == 0) = false := by simpa using hp
      have hn' : (n == 0) = false := by simpa using hn
      have HV := Lib.hid (show exitOk (4, p, false, n) = false from by simp [exitOk, hp, hn])
      have HU := Lib.hid (fun V : World => impl_usedBy 4 p false n V)
      rw [usedV_4] at HU
      have hb0 : Below w.heap.size w (w.alloc (.cells #[.int .i64 4, .int .i64 p, .bool false, .int .i64 n] 49)) := (Below.refl _ _).alloc (Nat.le_refl _) _
      have t0 : Var (w.alloc (.cells #[.int .i64 4, .int .i64 p, .bool false, .int .i64 n] 49)) w.heap.size [.int .i64 4, .int .i64 p, .bool false, .int .i64 n] := Var.new w [.int .i64 4, .int .i64 p, .bool false, .int .i64 n] 49
      have hz : w.heap.size < (w.alloc (.cells #[.int .i64 4, .int .i64 p, .bool false, .int .i64 n] 49)).heap.size := by simp
      go_enter Try.func138, Try.ntmps138
      go_wp2_with fail
      generalize w.alloc (.cells #[.int .i64 4, .int .i64 p, .bool false, .int .i64 n] 49) = W0 at t0 hb0 hz ⊢
      refine (HU.out _).mono ?_
      rintro e w1 ⟨rfl, hb1⟩
      have hb := btr hb0 hb1
      have T := t0.below hb1 hz
      have hz1 : w.heap.size < w1.heap.size := T.2
      clear hb0 hb1 t0 hz HU
      have as0 := as_halt_no (.agg #[])
      have as1 := as_halt_fault (.agg #[])
      have as2 := as_halt_call (.agg #[])
      have as3 := as_halt_out (.agg #[])
      have as4 := as_halt_halt (.agg #[])
      have hA : Below w1.heap.size w1 (w1.alloc (.cells #[] 160)) := (Below.refl _ _).alloc (Nat.le_refl _) _
      have T2 := T.below hA hz1
      have v0 := T2.cell 0 (v := .int .i64 4) rfl
      have v1 := T2.cell 1 (v := .int .i64 p) rfl
      have v2 := T2.cell 2 (v := .bool false) rfl
      have v3 := T2.cell 3 (v := .int .i64 n) rfl
      have HB := Lib.hid (btr hb hA)
      clear T T2 hA hb hz1
      go_wp2_with fail
      go_ret
      exact ⟨by rw [HV.out]; rfl, HB.out⟩
    · have hp' : (p == 0) = false := by simpa using hp
      have hn' : (n == 0) = false := by simpa using hn
      have HV := Lib.hid (show exitOk (4, p, true, n) = false from by simp [exitOk, hp, hn])
      have HU := Lib.hid (fun V : World => impl_usedBy 4 p true n V)
      rw [usedV_4] at HU
      have hb0 : Below w.heap.size w (w.alloc (.cells #[.int .i64 4, .int .i64 p, .bool true, .int .i64 n] 49)) := (Below.refl _ _).alloc (Nat.le_refl _) _
      have t0 : Var (w.alloc (.cells #[.int .i64 4, .int .i64 p, .bool true, .int .i64 n] 49)) w.heap.size [.int .i64 4, .int .i64 p, .bool true, .int .i64 n] := Var.new w [.int .i64 4, .int .i64 p, .bool true, .int .i64 n] 49
      have hz : w.heap.size < (w.alloc (.cells #[.int .i64 4, .int .i64 p, .bool true, .int .i64 n] 49)).heap.size := by simp
      go_enter Try.func138, Try.ntmps138
      go_wp2_with fail
      generalize w.alloc (.cells #[.int .i64 4, .int .i64 p, .bool true, .int .i64 n] 49) = W0 at t0 hb0 hz ⊢
      refine (HU.out _).mono ?_
      rintro e w1 ⟨rfl, hb1⟩
      have hb := btr hb0 hb1
      have T := t0.below hb1 hz
      have hz1 : w.heap.size < w1.heap.size := T.2
      clear hb0 hb1 t0 hz HU
      have as0 := as_halt_no (.agg #[])
      have as1 := as_halt_fault (.agg #[])
      have as2 := as_halt_call (.agg #[])
      have as3 := as_halt_out (.agg #[])
      have as4 := as_halt_halt (.agg #[])
      have hA : Below w1.heap.size w1 (w1.alloc (.cells #[] 160)) := (Below.refl _ _).alloc (Nat.le_refl _) _
      have T2 := T.below hA hz1
      have v0 := T2.cell 0 (v := .int .i64 4) rfl
      have v1 := T2.cell 1 (v := .int .i64 p) rfl
      have v2 := T2.cell 2 (v := .bool true) rfl
      have v3 := T2.cell 3 (v := .int .i64 n) rfl
      have HB := Lib.hid (btr hb hA)
      clear T T2 hA hb hz1
      go_wp2_with fail
      go_ret
      exact ⟨by rw [HV.out]; rfl, HB.out⟩
  · have HM := Lib.hid (fun V : World => impl_fault' p q V)
    unfold ExitP at HM
    dsimp only at HM
    by_cases h0 : p < 0
    · have HV := Lib.hid (show exitOk (1, p, q, n) = false from by simp [exitOk, inB_false.2 (show p < 0 ∨ 3 < p from .inl h0)])
      have h9 : ¬ p ≥ 0 := by omega
      have h8 : decide (p ≥ 0) = false := decide_eq_false h9
      clear h0 HM
      have HU := Lib.hid (fun V : World => impl_usedBy 1 p q n V)
      rw [usedV_1] at HU
      have hb0 : Below w.heap.size w (w.alloc (.cells #[.int .i64 1, .int .i64 p, .bool q, .int .i64 n] 49)) := (Below.refl _ _).alloc (Nat.le_refl _) _
      have t0 : Var (w.alloc (.cells #[.int .i64 1, .int .i64 p, .bool q, .int .i64 n] 49)) w.heap.size [.int .i64 1, .int .i64 p, .bool q, .int .i64 n] := Var.new w [.int .i64 1, .int .i64 p, .bool q, .int .i64 n] 49
      have hz : w.heap.size < (w.alloc (.cells #[.int .i64 1, .int .i64 p, .bool q, .int .i64 n] 49)).heap.size := by simp
      go_enter Try.func138, Try.ntmps138
      go_wp2_with fail
      generalize w.alloc (.cells #[.int .i64 1, .int .i64 p, .bool q, .int .i64 n] 49) = W0 at t0 hb0 hz ⊢
      refine (HU.out _).mono ?_
      rintro e w1 ⟨rfl, hb1⟩
      have hb := btr hb0 hb1
      have T := t0.below hb1 hz
      have hz1 : w.heap.size < w1.heap.size := T.2
      clear hb0 hb1 t0 hz HU
      have as0 := as_fault_no (.agg #[.int .i64 p, .bool q])
      have as1 := as_fault_fault (.agg #[.int .i64 p, .bool q])
      have t2 : Var (w1.alloc (.cells #[.int .i64 p, .bool q] 154)) w1.heap.size [.int .i64 p, .bool q] := Var.new w1 [.int .i64 p, .bool q] 154
      have hA : Below w1.heap.size w1 (w1.alloc (.cells #[.int .i64 p, .bool q] 154)) := (Below.refl _ _).alloc (Nat.le_refl _) _
      have hB2 := btr hb hA
      have T2 := T.below hA hz1
      have hz2 : w1.heap.size < (w1.alloc (.cells #[.int .i64 p, .bool q] 154)).heap.size := by simp
      have hz3 : w.heap.size < (w1.alloc (.cells #[.int .i64 p, .bool q] 154)).heap.size := Nat.lt_trans hz1 hz2
      clear T hA hb
      go_wp2_with fail
      generalize w1.alloc (.cells #[.int .i64 p, .bool q] 154) = W2 at t2 T2 hB2 hz2 hz3 ⊢
      refine Ord.wp_region_ord (fun w' => w'.cell? ⟨w.heap.size, 0, none⟩ = some (.int .i64 1) ∧ w'.cell? ⟨w.heap.size, 1, none⟩ = some (.int .i64 p) ∧ w'.cell? ⟨w.heap.size, 2, none⟩ = some (.bool q) ∧ w'.cell? ⟨w.heap.size, 3, none⟩ = some (.int .i64 n) ∧ w'.cell? ⟨w1.heap.size, 0, none⟩ = some (.int .i64 p) ∧ w'.cell? ⟨w1.heap.size, 1, none⟩ = some (.bool q)) [(0, true), (1, true), (2, true), (3, true), (4, true), (5, true), (6, true), (7, true), (8, true), (9, true), (10, true), (11, true), (12, true), (13, true), (14, false), (15, true), (16, true), (17, true)] (by kernel_rfl) (by kernel_rfl) rfl (by kernel_rfl) (⟨T2.cell 0 (v := .int .i64 1) rfl, T2.cell 1 (v := .int .i64 p) rfl, T2.cell 2 (v := .bool q) rfl, T2.cell 3 (v := .int .i64 n) rfl, t2.cell 0 (v := .int .i64 p) rfl, t2.cell 1 (v := .bool q) rfl⟩) ?_
      simp only [Ord.ordOps, List.getElem?_toArray, List.getElem?_cons_zero, List.getElem?_cons_succ]
      repeat (first
        | (refine Ord.ord_plain (v := ?_) rfl (fun w' hS => ?_) ?_; rotate_left; (focus ((try dsimp only at hS); go_simp; first | done | with_reducible rfl)); simp only [Act.put, List.setIfInBounds_toArray, List.set_cons_zero, List.set_cons_succ])
        | (refine Ord.ord_skip (by rfl) ?_; simp only [Act.put, List.setIfInBounds_toArray, List.set_cons_zero, List.set_cons_succ])
        | (refine Ord.ord_take (v := ?_) (by rfl) (fun w' hS => ?_) ?_; rotate_left; (focus ((try dsimp only at hS); go_simp; first | done | with_reducible rfl)); simp only [Act.put, List.setIfInBounds_toArray, List.set_cons_zero, List.set_cons_succ]))
      have hbd : Below W2.heap.size W2 W2.drew := (Below.refl _ _).drew
      have hB3 := btr hB2 hbd
      have T3 := T2.below hbd hz3
      have t3 := t2.below hbd hz2
      have hz4 : W2.heap.size ≤ W2.drew.heap.size := hbd.size
      clear hbd
      refine Ord.ord_not (by rfl) (fun K hK => ?_)
      simp only [Act.put, List.setIfInBounds_toArray, List.set_cons_zero, List.set_cons_succ]
      refine hK.out _ _ (⟨T3.cell 0 (v := .int .i64 1) rfl, T3.cell 1 (v := .int .i64 p) rfl, T3.cell 2 (v := .bool q) rfl, T3.cell 3 (v := .int .i64 n) rfl, t3.cell 0 (v := .int .i64 p) rfl, t3.cell 1 (v := .bool q) rfl⟩) ?_
      clear hK K
      repeat (first
        | (refine Ord.ord_plain (v := ?_) rfl (fun w' hS => ?_) ?_; rotate_left; (focus ((try dsimp only at hS); go_simp; first | done | with_reducible rfl)); simp only [Act.put, List.setIfInBounds_toArray, List.set_cons_zero, List.set_cons_succ])
        | (refine Ord.ord_skip (by rfl) ?_; simp only [Act.put, List.setIfInBounds_toArray, List.set_cons_zero, List.set_cons_succ])
        | (refine Ord.ord_take (v := ?_) (by rfl) (fun w' hS => ?_) ?_; rotate_left; (focus ((try dsimp only at hS); go_simp; first | done | with_reducible rfl)); simp only [Act.put, List.setIfInBounds_toArray, List.set_cons_zero, List.set_cons_succ]))
      refine Ord.ord_nil ?_
      have HBF := Lib.hid hB3
      clear hB2 hB3
      go_wp2_with fail
      go_ret
      exact ⟨by rw [HV.out]; rfl, HBF.out⟩
    · by_cases h1 : p < 4
      · by_cases hn : n = 0
        · subst hn
          have HV := Lib.hid (show exitOk (1, p, q, 0) = true from by simp [exitOk, inB_iff.2 (show 0 ≤ p ∧ p ≤ 3 from ⟨by omega, by omega⟩)])
          have h9 : p ≥ 0 := by omega
          clear h0
          have HU := Lib.hid (fun V : World => impl_usedBy 1 p q 0 V)
          rw [usedV_1] at HU
          have hb0 : Below w.heap.size w (w.alloc (.cells #[.int .i64 1, .int .i64 p, .bool q, .int .i64 0] 49)) := (Below.refl _ _).alloc (Nat.le_refl _) _
          have t0 : Var (w.alloc (.cells #[.int .i64 1, .int .i64 p, .bool q, .int .i64 0] 49)) w.heap.size [.int .i64 1, .int .i64 p, .bool q, .int .i64 0] := Var.new w [.int .i64 1, .int .i64 p, .bool q, .int .i64 0] 49
          have hz : w.heap.size < (w.alloc (.cells #[.int .i64 1, .int .i64 p, .bool q, .int .i64 0] 49)).heap.size := by simp
          go_enter Try.func138, Try.ntmps138
          go_wp2_with fail
          generalize w.alloc (.cells #[.int .i64 1, .int .i64 p, .bool q, .int .i64 0] 49) = W0 at t0 hb0 hz ⊢
          refine (HU.out _).mono ?_
          rintro e w1 ⟨rfl, hb1⟩
          have hb := btr hb0 hb1
          have T := t0.below hb1 hz
          have hz1 : w.heap.size < w1.heap.size := T.2
          clear hb0 hb1 t0 hz HU
          have as0 := as_fault_no (.agg #[.int .i64 p, .bool q])
          have as1 := as_fault_fault (.agg #[.int .i64 p, .bool q])
          have t2 : Var (w1.alloc (.cells #[.int .i64 p, .bool q] 154)) w1.heap.size [.int .i64 p, .bool q] := Var.new w1 [.int .i64 p, .bool q] 154
          have hA : Below w1.heap.size w1 (w1.alloc (.cells #[.int .i64 p, .bool q] 154)) := (Below.refl _ _).alloc (Nat.le_refl _) _
          have hB2 := btr hb hA
          have T2 := T.below hA hz1
          have hz2 : w1.heap.size < (w1.alloc (.cells #[.int .i64 p, .bool q] 154)).heap.size := by simp
          have hz3 : w.heap.size < (w1.alloc (.cells #[.int .i64 p, .bool q] 154)).heap.size := Nat.lt_trans hz1 hz2
          clear T hA hb
          go_wp2_with fail
          generalize w1.alloc (.cells #[.int .i64 p, .bool q] 154) = W2 at t2 T2 hB2 hz2 hz3 ⊢
          refine Ord.wp_region_ord (fun w' => w'.cell? ⟨w.heap.size, 0, none⟩ = some (.int .i64 1) ∧ w'.cell? ⟨w.heap.size, 1, none⟩ = some (.int .i64 p) ∧ w'.cell? ⟨w.heap.size, 2, none⟩ = some (.bool q) ∧ w'.cell? ⟨w.heap.size, 3, none⟩ = some (.int .i64 0) ∧ w'.cell? ⟨w1.heap.size, 0, none⟩ = some (.int .i64 p) ∧ w'.cell? ⟨w1.heap.size, 1, none⟩ = some (.bool q)) [(0, true), (1, true), (2, true), (3, true), (4, true), (5, true), (6, true), (7, true), (8, true), (9, true), (10, true), (11, true), (12, true), (13, true), (14, false), (15, true), (16, true), (17, true)] (by kernel_rfl) (by kernel_rfl) rfl (by kernel_rfl) (⟨T2.cell 0 (v := .int .i64 1) rfl, T2.cell 1 (v := .int .i64 p) rfl, T2.cell 2 (v := .bool q) rfl, T2.cell 3 (v := .int .i64 0) rfl, t2.cell 0 (v := .int .i64 p) rfl, t2.cell 1 (v := .bool q) rfl⟩) ?_
          simp only [Ord.ordOps, List.getElem?_toArray, List.getElem?_cons_zero, List.getElem?_cons_succ]
          repeat (first
            | (refine Ord.ord_plain (v := ?_) rfl (fun w' hS => ?_) ?_; rotate_left; (focus ((try dsimp only at hS); go_simp; first | done | with_reducible rfl)); simp only [Act.put, List.setIfInBounds_toArray, List.set_cons_zero, List.set_cons_succ])
            | (refine Ord.ord_skip (by rfl) ?_; simp only [Act.put, List.setIfInBounds_toArray, List.set_cons_zero, List.set_cons_succ])
            | (refine Ord.ord_take (v := ?_) (by rfl) (fun w' hS => ?_) ?_; rotate_left; (focus ((try dsimp only at hS); go_simp; first | done | with_reducible rfl)); simp only [Act.put, List.setIfInBounds_toArray, List.set_cons_zero, List.set_cons_succ]))
          have hbd : Below W2.heap.size W2 W2.drew := (Below.refl _ _).drew
          have hB3 := btr hB2 hbd
          have T3 := T2.below hbd hz3
          have t3 := t2.below hbd hz2
          have hz4 : W2.heap.size ≤ W2.drew.heap.size := hbd.size
          clear hbd
          refine Ord.ord_call (fun K hK => ?_)
          go_simp
          refine (HM.out _).mono ?_
          rintro e v4' ⟨rfl, hb4⟩
          have hB4 := btr hB3 hb4
          have T4 := T3.below hb4 (by omega)
          have t4 := t3.below hb4 (by omega)
          have hy4 := hb4.size
          refine hK.out _ _ (⟨T4.cell 0 (v := .int .i64 1) rfl, T4.cell 1 (v := .int .i64 p) rfl, T4.cell 2 (v := .bool q) rfl, T4.cell 3 (v := .int .i64 0) rfl, t4.cell 0 (v := .int .i64 p) rfl, t4.cell 1 (v := .bool q) rfl⟩) ?_
          clear hK K
          repeat (first
            | (refine Ord.ord_plain (v := ?_) rfl (fun w' hS => ?_) ?_; rotate_left; (focus ((try dsimp only at hS); go_simp; first | done | with_reducible rfl)); simp only [Act.put, List.setIfInBounds_toArray, List.set_cons_zero, List.set_cons_succ])
            | (refine Ord.ord_skip (by rfl) ?_; simp only [Act.put, List.setIfInBounds_toArray, List.set_cons_zero, List.set_cons_succ])
            | (refine Ord.ord_take (v := ?_) (by rfl) (fun w' hS => ?_) ?_; rotate_left; (focus ((try dsimp only at hS); go_simp; first | done | with_reducible rfl)); simp only [Act.put, List.setIfInBounds_toArray, List.set_cons_zero, List.set_cons_succ]))
          refine Ord.ord_nil ?_
          have HBF := Lib.hid hB4
          clear hB2 hB3 hB4
          go_wp2_with fail
          go_ret
          exact ⟨by rw [HV.out]; rfl, HBF.out⟩
        · have hn' : (n == 0) = false := by simpa using hn
          have HV := Lib.hid (show exitOk (1, p, q, n) = false from by simp [exitOk, inB_iff.2 (show 0 ≤ p ∧ p ≤ 3 from ⟨by omega, by omega⟩), hn])
          have h9 : p ≥ 0 := by omega
          clear h0 hn
          have HU := Lib.hid (fun V : World => impl_usedBy 1 p q n V)
          rw [usedV_1] at HU
          have hb0 : Below w.heap.size w (w.alloc (.cells #[.int .i64 1, .int .i64 p, .bool q, .int .i64 n] 49)) := (Below.refl _ _).alloc (Nat.le_refl _) _
          have t0 : Var (w.alloc (.cells #[.int .i64 1, .int .i64 p, .bool q, .int .i64 n] 49)) w.heap.size [.int .i64 1, .int .i64 p, .bool q, .int .i64 n] := Var.new w [.int .i64 1, .int .i64 p, .bool q, .int .i64 n] 49
          have hz : w.heap.size < (w.alloc (.cells #[.int .i64 1, .int .i64 p, .bool q, .int .i64 n] 49)).heap.size := by simp
          go_enter Try.func138, Try.ntmps138
          go_wp2_with fail
          generalize w.alloc (.cells #[.int .i64 1, .int .i64 p, .bool q, .int .i64 n] 49) = W0 at t0 hb0 hz ⊢
          refine (HU.out _).mono ?_
          rintro e w1 ⟨rfl, hb1⟩
          have hb := btr hb0 hb1
          have T := t0.below hb1 hz
          have hz1 : w.heap.size < w1.heap.size := T.2
          clear hb0 hb1 t0 hz HU
          have as0 := as_fault_no (.agg #[.int .i64 p, .bool q])
          have as1 := as_fault_fault (.agg #[.int .i64 p, .bool q])
          have t2 : Var (w1.alloc (.cells #[.int .i64 p, .bool q] 154)) w1.heap.size [.int .i64 p, .bool q] := Var.new w1 [.int .i64 p, .bool q] 154
          have hA : Below w1.heap.size w1 (w1.alloc (.cells #[.int .i64 p, .bool q] 154)) := (Below.refl _ _).alloc (Nat.le_refl _) _
          have hB2 := btr hb hA
          have T2 := T.below hA hz1
          have hz2 : w1.heap.size < (w1.alloc (.cells #[.int .i64 p, .bool q] 154)).heap.size := by simp
          have hz3 : w.heap.size < (w1.alloc (.cells #[.int .i64 p, .bool q] 154)).heap.size := Nat.lt_trans hz1 hz2
          clear T hA hb
          go_wp2_with fail
          generalize w1.alloc (.cells #[.int .i64 p, .bool q] 154) = W2 at t2 T2 hB2 hz2 hz3 ⊢
          refine Ord.wp_region_ord (fun w' => w'.cell? ⟨w.heap.size, 0, none⟩ = some (.int .i64 1) ∧ w'.cell? ⟨w.heap.size, 1, none⟩ = some (.int .i64 p) ∧ w'.cell? ⟨w.heap.size, 2, none⟩ = some (.bool q) ∧ w'.cell? ⟨w.heap.size, 3, none⟩ = some (.int .i64 n) ∧ w'.cell? ⟨w1.heap.size, 0, none⟩ = some (.int .i64 p) ∧ w'.cell? ⟨w1.heap.size, 1, none⟩ = some (.bool q)) [(0, true), (1, true), (2, true), (3, true), (4, true), (5, true), (6, true), (7, true), (8, true), (9, true), (10, true), (11, true), (12, true), (13, true), (14, false), (15, true), (16, true), (17, true)] (by kernel_rfl) (by kernel_rfl) rfl (by kernel_rfl) (⟨T2.cell 0 (v := .int .i64 1) rfl, T2.cell 1 (v := .int .i64 p) rfl, T2.cell 2 (v := .bool q) rfl, T2.cell 3 (v := .int .i64 n) rfl, t2.cell 0 (v := .int .i64 p) rfl, t2.cell 1 (v := .bool q) rfl⟩) ?_
          simp only [Ord.ordOps, List.getElem?_toArray, List.getElem?_cons_zero, List.getElem?_cons_succ]
          repeat (first
            | (refine Ord.ord_plain (v := ?_) rfl (fun w' hS => ?_) ?_; rotate_left; (focus ((try dsimp only at hS); go_simp; first | done | with_reducible rfl)); simp only [Act.put, List.setIfInBounds_toArray, List.set_cons_zero, List.set_cons_succ])
            | (refine Ord.ord_skip (by rfl) ?_; simp only [Act.put, List.setIfInBounds_toArray, List.set_cons_zero, List.set_cons_succ])
            | (refine Ord.ord_take (v := ?_) (by rfl) (fun w' hS => ?_) ?_; rotate_left; (focus ((try dsimp only at hS); go_simp; first | done | with_reducible rfl)); simp only [Act.put, List.setIfInBounds_toArray, List.set_cons_zero, List.set_cons_succ]))
          have hbd : Below W2.heap.size W2 W2.drew := (Below.refl _ _).drew
          have hB3 := btr hB2 hbd
          have T3 := T2.below hbd hz3
          have t3 := t2.below hbd hz2
          have hz4 : W2.heap.size ≤ W2.drew.heap.size := hbd.size
          clear hbd
          refine Ord.ord_call (fun K hK => ?_)
          go_simp
          refine (HM.out _).mono ?_
          rintro e v4' ⟨rfl, hb4⟩
          have hB4 := btr hB3 hb4
          have T4 := T3.below hb4 (by omega)
          have t4 := t3.below hb4 (by omega)
          have hy4 := hb4.size
          refine hK.out _ _ (⟨T4.cell 0 (v := .int .i64 1) rfl, T4.cell 1 (v := .int .i64 p) rfl, T4.cell 2 (v := .bool q) rfl, T4.cell 3 (v := .int .i64 n) rfl, t4.cell 0 (v := .int .i64 p) rfl, t4.cell 1 (v := .bool q) rfl⟩) ?_
          clear hK K
          repeat (first
            | (refine Ord.ord_plain (v := ?_) rfl (fun w' hS => ?_) ?_; rotate_left; (focus ((try dsimp only at hS); go_simp; first | done | with_reducible rfl)); simp only [Act.put, List.setIfInBounds_toArray, List.set_cons_zero, List.set_cons_succ])
            | (refine Ord.ord_skip (by rfl) ?_; simp only [Act.put, List.setIfInBounds_toArray, List.set_cons_zero, List.set_cons_succ])
            | (refine Ord.ord_take (v := ?_) (by rfl) (fun w' hS => ?_) ?_; rotate_left; (focus ((try dsimp only at hS); go_simp; first | done | with_reducible rfl)); simp only [Act.put, List.setIfInBounds_toArray, List.set_cons_zero, List.set_cons_succ]))
          refine Ord.ord_nil ?_
          have HBF := Lib.hid hB4
          clear hB2 hB3 hB4
          go_wp2_with fail
          go_ret
          exact ⟨by rw [HV.out]; rfl, HBF.out⟩
      · have HV := Lib.hid (show exitOk (1, p, q, n) = false from by simp [exitOk, inB_false.2 (show p < 0 ∨ 3 < p from .inr (by omega))])
        have h9 : p ≥ 0 := by omega
        have h8 : decide (p < 4) = false := decide_eq_false h1
        clear h0 HM
        have HU := Lib.hid (fun V : World => impl_usedBy 1 p q n V)
        rw [usedV_1] at HU
        have hb0 : Below w.heap.size w (w.alloc (.cells #[.int .i64 1, .int .i64 p, .bool q, .int .i64 n] 49)) := (Below.refl _ _).alloc (Nat.le_refl _) _
        have t0 : Var (w.alloc (.cells #[.int .i64 1, .int .i64 p, .bool q, .int .i64 n] 49)) w.heap.size [.int .i64 1, .int .i64 p, .bool q, .int .i64 n] := Var.new w [.int .i64 1, .int .i64 p, .bool q, .int .i64 n] 49
        have hz : w.heap.size < (w.alloc (.cells #[.int .i64 1, .int .i64 p, .bool q, .int .i64 n] 49)).heap.size := by simp
        go_enter Try.func138, Try.ntmps138
        go_wp2_with fail
        generalize w.alloc (.cells #[.int .i64 1, .int .i64 p, .bool q, .int .i64 n] 49) = W0 at t0 hb0 hz ⊢
        refine (HU.out _).mono ?_
        rintro e w1 ⟨rfl, hb1⟩
        have hb := btr hb0 hb1
        have T := t0.below hb1 hz
        have hz1 : w.heap.size < w1.heap.size := T.2
        clear hb0 hb1 t0 hz HU
        have as0 := as_fault_no (.agg #[.int .i64 p, .bool q])
        have as1 := as_fault_fault (.agg #[.int .i64 p, .bool q])
        have t2 : Var (w1.alloc (.cells #[.int .i64 p, .bool q] 154)) w1.heap.size [.int .i64 p, .bool q] := Var.new w1 [.int .i64 p, .bool q] 154
        have hA : Below w1.heap.size w1 (w1.alloc (.cells #[.int .i64 p, .bool q] 154)) := (Below.refl _ _).alloc (Nat.le_refl _) _
        have hB2 := btr hb hA
        have T2 := T.below hA hz1
        have hz2 : w1.heap.size < (w1.alloc (.cells #[.int .i64 p, .bool q] 154)).heap.size := by simp
        have hz3 : w.heap.size < (w1.alloc (.cells #[.int .i64 p, .bool q] 154)).heap.size := Nat.lt_trans hz1 hz2
        clear T hA hb
        go_wp2_with fail
        generalize w1.alloc (.cells #[.int .i64 p, .bool q] 154) = W2 at t2 T2 hB2 hz2 hz3 ⊢
        refine Ord.wp_region_ord (fun w' => w'.cell? ⟨w.heap.size, 0, none⟩ = some (.int .i64 1) ∧ w'.cell? ⟨w.heap.size, 1, none⟩ = some (.int .i64 p) ∧ w'.cell? ⟨w.heap.size, 2, none⟩ = some (.bool q) ∧ w'.cell? ⟨w.heap.size, 3, none⟩ = some (.int .i64 n) ∧ w'.cell? ⟨w1.heap.size, 0, none⟩ = some (.int .i64 p) ∧ w'.cell? ⟨w1.heap.size, 1, none⟩ = some (.bool q)) [(0, true), (1, true), (2, true), (3, true), (4, true), (5, true), (6, true), (7, true), (8, true), (9, true), (10, true), (11, true), (12, true), (13, true), (14, false), (15, true), (16, true), (17, true)] (by kernel_rfl) (by kernel_rfl) rfl (by kernel_rfl) (⟨T2.cell 0 (v := .int .i64 1) rfl, T2.cell 1 (v := .int .i64 p) rfl, T2.cell 2 (v := .bool q) rfl, T2.cell 3 (v := .int .i64 n) rfl, t2.cell 0 (v := .int .i64 p) rfl, t2.cell 1 (v := .bool q) rfl⟩) ?_
        simp only [Ord.ordOps, List.getElem?_toArray, List.getElem?_cons_zero, List.getElem?_cons_succ]
        repeat (first
          | (refine Ord.ord_plain (v := ?_) rfl (fun w' hS => ?_) ?_; rotate_left; (focus ((try dsimp only at hS); go_simp; first | done | with_reducible rfl)); simp only [Act.put, List.setIfInBounds_toArray, List.set_cons_zero, List.set_cons_succ])
          | (refine Ord.ord_skip (by rfl) ?_; simp only [Act.put, List.setIfInBounds_toArray, List.set_cons_zero, List.set_cons_succ])
          | (refine Ord.ord_take (v := ?_) (by rfl) (fun w' hS => ?_) ?_; rotate_left; (focus ((try dsimp only at hS); go_simp; first | done | with_reducible rfl)); simp only [Act.put, List.setIfInBounds_toArray, List.set_cons_zero, List.set_cons_succ]))
        have hbd : Below W2.heap.size W2 W2.drew := (Below.refl _ _).drew
        have hB3 := btr hB2 hbd
        have T3 := T2.below hbd hz3
        have t3 := t2.below hbd hz2
        have hz4 : W2.heap.size ≤ W2.drew.heap.size := hbd.size
        clear hbd
        refine Ord.ord_not (by rfl) (fun K hK => ?_)
        simp only [Act.put, List.setIfInBounds_toArray, List.set_cons_zero, List.set_cons_succ]
        refine hK.out _ _ (⟨T3.cell 0 (v := .int .i64 1) rfl, T3.cell 1 (v := .int .i64 p) rfl, T3.cell 2 (v := .bool q) rfl, T3.cell 3 (v := .int .i64 n) rfl, t3.cell 0 (v := .int .i64 p) rfl, t3.cell 1 (v := .bool q) rfl⟩) ?_
        clear hK K
        repeat (first
          | (refine Ord.ord_plain (v := ?_) rfl (fun w' hS => ?_) ?_; rotate_left; (focus ((try dsimp only at hS); go_simp; first | done | with_reducible rfl)); simp only [Act.put, List.setIfInBounds_toArray, List.set_cons_zero, List.set_cons_succ])
          | (refine Ord.ord_skip (by rfl) ?_; simp only [Act.put, List.setIfInBounds_toArray, List.set_cons_zero, List.set_cons_succ])
          | (refine Ord.ord_take (v := ?_) (by rfl) (fun w' hS => ?_) ?_; rotate_left; (focus ((try dsimp only at hS); go_simp; first | done | with_reducible rfl)); simp only [Act.put, List.setIfInBounds_toArray, List.set_cons_zero, List.set_cons_succ]))
        refine Ord.ord_nil ?_
        have HBF := Lib.hid hB3
        clear hB2 hB3
        go_wp2_with fail
        go_ret
        exact ⟨by rw [HV.out]; rfl, HBF.out⟩
  · have HM := Lib.hid (fun V : World => impl_call' n V)
    unfold ExitP at HM
    dsimp only at HM
    have hC := fun V : World => impl_cellOkE n V
    cases hi : inB n 0 99
    · have HV := Lib.hid (show exitOk (2, p, q, n) = false from by simp [exitOk, hi])
      rw [hi] at hC
      have HC := Lib.hid hC
      clear hC HM hi
      have HU := Lib.hid (fun V : World => impl_usedBy 2 p q n V)
      rw [usedV_2] at HU
      have hb0 : Below w.heap.size w (w.alloc (.cells #[.int .i64 2, .int .i64 p, .bool q, .int .i64 n] 49)) := (Below.refl _ _).alloc (Nat.le_refl _) _
      have t0 : Var (w.alloc (.cells #[.int .i64 2, .int .i64 p, .bool q, .int .i64 n] 49)) w.heap.size [.int .i64 2, .int .i64 p, .bool q, .int .i64 n] := Var.new w [.int .i64 2, .int .i64 p, .bool q, .int .i64 n] 49
      have hz : w.heap.size < (w.alloc (.cells #[.int .i64 2, .int .i64 p, .bool q, .int .i64 n] 49)).heap.size := by simp
      go_enter Try.func138, Try.ntmps138
      go_wp2_with fail
      generalize w.alloc (.cells #[.int .i64 2, .int .i64 p, .bool q, .int .i64 n] 49) = W0 at t0 hb0 hz ⊢
      refine (HU.out _).mono ?_
      rintro e w1 ⟨rfl, hb1⟩
      have hb := btr hb0 hb1
      have T := t0.below hb1 hz
      have hz1 : w.heap.size < w1.heap.size := T.2
      clear hb0 hb1 t0 hz HU
      have as0 := as_call_no (.agg #[.int .i64 n])
      have as1 := as_call_fault (.agg #[.int .i64 n])
      have as2 := as_call_call (.agg #[.int .i64 n])
      have t2 : Var (w1.alloc (.cells #[.int .i64 n] 157)) w1.heap.size [.int .i64 n] := Var.new w1 [.int .i64 n] 157
      have hA : Below w1.heap.size w1 (w1.alloc (.cells #[.int .i64 n] 157)) := (Below.refl _ _).alloc (Nat.le_refl _) _
      have hB2 := btr hb hA
      have T2 := T.below hA hz1
      have hz2 : w1.heap.size < (w1.alloc (.cells #[.int .i64 n] 157)).heap.size := by simp
      have hz3 : w.heap.size < (w1.alloc (.cells #[.int .i64 n] 157)).heap.size := Nat.lt_trans hz1 hz2
      clear T hA hb
      go_wp2_with fail
      generalize w1.alloc (.cells #[.int .i64 n] 157) = W2 at t2 T2 hB2 hz2 hz3 ⊢
      refine Ord.wp_region_ord (fun w' => w'.cell? ⟨w.heap.size, 0, none⟩ = some (.int .i64 2) ∧ w'.cell? ⟨w.heap.size, 1, none⟩ = some (.int .i64 p) ∧ w'.cell? ⟨w.heap.size, 2, none⟩ = some (.bool q) ∧ w'.cell? ⟨w.heap.size, 3, none⟩ = some (.int .i64 n) ∧ w'.cell? ⟨w1.heap.size, 0, none⟩ = some (.int .i64 n)) [(0, true), (1, true), (2, false), (3, true), (4, true), (5, true), (6, true), (7, false), (8, true), (9, true), (10, true)] (by kernel_rfl) (by kernel_rfl) rfl (by kernel_rfl) (⟨T2.cell 0 (v := .int .i64 2) rfl, T2.cell 1 (v := .int .i64 p) rfl, T2.cell 2 (v := .bool q) rfl, T2.cell 3 (v := .int .i64 n) rfl, t2.cell 0 (v := .int .i64 n) rfl⟩) ?_
      simp only [Ord.ordOps, List.getElem?_toArray, List.getElem?_cons_zero, List.getElem?_cons_succ]
      repeat (first
        | (refine Ord.ord_plain (v := ?_) rfl (fun w' hS => ?_) ?_; rotate_left; (focus ((try dsimp only at hS); go_simp; first | done | with_reducible rfl)); simp only [Act.put, List.setIfInBounds_toArray, List.set_cons_zero, List.set_cons_succ])
        | (refine Ord.ord_skip (by rfl) ?_; simp only [Act.put, List.setIfInBounds_toArray, List.set_cons_zero, List.set_cons_succ])
        | (refine Ord.ord_take (v := ?_) (by rfl) (fun w' hS => ?_) ?_; rotate_left; (focus ((try dsimp only at hS); go_simp; first | done | with_reducible rfl)); simp only [Act.put, List.setIfInBounds_toArray, List.set_cons_zero, List.set_cons_succ]))
      have hbd : Below W2.heap.size W2 W2.drew := (Below.refl _ _).drew
      have hB3 := btr hB2 hbd
      have T3 := T2.below hbd hz3
      have t3 := t2.below hbd hz2
      have hz4 : W2.heap.size ≤ W2.drew.heap.size := hbd.size
      clear hbd
      refine Ord.ord_call (fun K hK => ?_)
      go_simp
      refine (HC.out _).mono ?_
      rintro e v4' ⟨rfl, hb4⟩
      have hB4 := btr hB3 hb4
      have T4 := T3.below hb4 (by omega)
      have t4 := t3.below hb4 (by omega)
      have hy4 := hb4.size
      refine hK.out _ _ (⟨T4.cell 0 (v := .int .i64 2) rfl, T4.cell 1 (v := .int .i64 p) rfl, T4.cell 2 (v := .bool q) rfl, T4.cell 3 (v := .int .i64 n) rfl, t4.cell 0 (v := .int .i64 n) rfl⟩) ?_
      clear hK K
      repeat (first
        | (refine Ord.ord_plain (v := ?_) rfl (fun w' hS => ?_) ?_; rotate_left; (focus ((try dsimp only at hS); go_simp; first | done | with_reducible rfl)); simp only [Act.put, List.setIfInBounds_toArray, List.set_cons_zero, List.set_cons_succ])
        | (refine Ord.ord_skip (by rfl) ?_; simp only [Act.put, List.setIfInBounds_toArray, List.set_cons_zero, List.set_cons_succ])
        | (refine Ord.ord_take (v := ?_) (by rfl) (fun w' hS => ?_) ?_; rotate_left; (focus ((try dsimp only at hS); go_simp; first | done | with_reducible rfl)); simp only [Act.put, List.setIfInBounds_toArray, List.set_cons_zero, List.set_cons_succ]))
      refine Ord.ord_not (by rfl) (fun K hK => ?_)
      simp only [Act.put, List.setIfInBounds_toArray, List.set_cons_zero, List.set_cons_succ]
      refine hK.out _ _ (⟨T4.cell 0 (v := .int .i64 2) rfl, T4.cell 1 (v := .int .i64 p) rfl, T4.cell 2 (v := .bool q) rfl, T4.cell 3 (v := .int .i64 n) rfl, t4.cell 0 (v := .int .i64 n) rfl⟩) ?_
      clear hK K
      repeat (first
        | (refine Ord.ord_plain (v := ?_) rfl (fun w' hS => ?_) ?_; rotate_left; (focus ((try dsimp only at hS); go_simp; first | done | with_reducible rfl)); simp only [Act.put, List.setIfInBounds_toArray, List.set_cons_zero, List.set_cons_succ])
        | (refine Ord.ord_skip (by rfl) ?_; simp only [Act.put, List.setIfInBounds_toArray, List.set_cons_zero, List.set_cons_succ])
        | (refine Ord.ord_take (v := ?_) (by rfl) (fun w' hS => ?_) ?_; rotate_left; (focus ((try dsimp only at hS); go_simp; first | done | with_reducible rfl)); simp only [Act.put, List.setIfInBounds_toArray, List.set_cons_zero, List.set_cons_succ]))
      refine Ord.ord_nil ?_
      have HBF := Lib.hid hB4
      clear hB2 hB3 hB4
      go_wp2_with fail
      go_ret
      exact ⟨by rw [HV.out]; rfl, HBF.out⟩
    · rw [hi] at hC
      have HC := Lib.hid hC
      clear hC
      by_cases hp : p = 0 <;> cases q
      · subst hp
        have HV := Lib.hid (show exitOk (2, 0, false, n) = true from by simp [exitOk, hi])
        clear hi
        have HU := Lib.hid (fun V : World => impl_usedBy 2 0 false n V)
        rw [usedV_2] at HU
        have hb0 : Below w.heap.size w (w.alloc (.cells #[.int .i64 2, .int .i64 0, .bool false, .int .i64 n] 49)) := (Below.refl _ _).alloc (Nat.le_refl _) _
        have t0 : Var (w.alloc (.cells #[.int .i64 2, .int .i64 0, .bool false, .int .i64 n] 49)) w.heap.size [.int .i64 2, .int .i64 0, .bool false, .int .i64 n] := Var.new w [.int .i64 2, .int .i64 0, .bool false, .int .i64 n] 49
        have hz : w.heap.size < (w.alloc (.cells #[.int .i64 2, .int .i64 0, .bool false, .int .i64 n] 49)).heap.size := by simp
        go_enter Try.func138, Try.ntmps138
        go_wp2_with fail
        generalize w.alloc (.cells #[.int .i64 2, .int .i64 0, .bool false, .int .i64 n] 49) = W0 at t0 hb0 hz ⊢
        refine (HU.out _).mono ?_
        rintro e w1 ⟨rfl, hb1⟩
        have hb := btr hb0 hb1
        have T := t0.below hb1 hz
        have hz1 : w.heap.size < w1.heap.size := T.2
        clear hb0 hb1 t0 hz HU
        have as0 := as_call_no (.agg #[.int .i64 n])
        have as1 := as_call_fault (.agg #[.int .i64 n])
        have as2 := as_call_call (.agg #[.int .i64 n])
        have t2 : Var (w1.alloc (.cells #[.int .i64 n] 157)) w1.heap.size [.int .i64 n] := Var.new w1 [.int .i64 n] 157
        have hA : Below w1.heap.size w1 (w1.alloc (.cells #[.int .i64 n] 157)) := (Below.refl _ _).alloc (Nat.le_refl _) _
        have hB2 := btr hb hA
        have T2 := T.below hA hz1
        have hz2 : w1.heap.size < (w1.alloc (.cells #[.int .i64 n] 157)).heap.size := by simp
        have hz3 : w.heap.size < (w1.alloc (.cells #[.int .i64 n] 157)).heap.size := Nat.lt_trans hz1 hz2
        clear T hA hb
        go_wp2_with fail
        generalize w1.alloc (.cells #[.int .i64 n] 157) = W2 at t2 T2 hB2 hz2 hz3 ⊢
        refine Ord.wp_region_ord (fun w' => w'.cell? ⟨w.heap.size, 0, none⟩ = some (.int .i64 2) ∧ w'.cell? ⟨w.heap.size, 1, none⟩ = some (.int .i64 0) ∧ w'.cell? ⟨w.heap.size, 2, none⟩ = some (.bool false) ∧ w'.cell? ⟨w.heap.size, 3, none⟩ = some (.int .i64 n) ∧ w'.cell? ⟨w1.heap.size, 0, none⟩ = some (.int .i64 n)) [(0, true), (1, true), (2, false), (3, true), (4, true), (5, true), (6, true), (7, false), (8, true), (9, true), (10, true)] (by kernel_rfl) (by kernel_rfl) rfl (by kernel_rfl) (⟨T2.cell 0 (v := .int .i64 2) rfl, T2.cell 1 (v := .int .i64 0) rfl, T2.cell 2 (v := .bool false) rfl, T2.cell 3 (v := .int .i64 n) rfl, t2.cell 0 (v := .int .i64 n) rfl⟩) ?_
        simp only [Ord.ordOps, List.getElem?_toArray, List.getElem?_cons_zero, List.getElem?_cons_succ]
        repeat (first
          | (refine Ord.ord_plain (v := ?_) rfl (fun w' hS => ?_) ?_; rotate_left; (focus ((try dsimp only at hS); go_simp; first | done | with_reducible rfl)); simp only [Act.put, List.setIfInBounds_toArray, List.set_cons_zero, List.set_cons_succ])
          | (refine Ord.ord_skip (by rfl) ?_; simp only [Act.put, List.setIfInBounds_toArray, List.set_cons_zero, List.set_cons_succ])
          | (refine Ord.ord_take (v := ?_) (by rfl) (fun w' hS => ?_) ?_; rotate_left; (focus ((try dsimp only at hS); go_simp; first | done | with_reducible rfl)); simp only [Act.put, List.setIfInBounds_toArray, List.set_cons_zero, List.set_cons_succ]))
        have hbd : Below W2.heap.size W2 W2.drew := (Below.refl _ _).drew
        have hB3 := btr hB2 hbd
        have T3 := T2.below hbd hz3
        have t3 := t2.below hbd hz2
        have hz4 : W2.heap.size ≤ W2.drew.heap.size := hbd.size
        clear hbd
        refine Ord.ord_call (fun K hK => ?_)
        go_simp
        refine (HC.out _).mono ?_
        rintro e v4' ⟨rfl, hb4⟩
        have hB4 := btr hB3 hb4
        have T4 := T3.below hb4 (by omega)
        have t4 := t3.below hb4 (by omega)
        have hy4 := hb4.size
        refine hK.out _ _ (⟨T4.cell 0 (v := .int .i64 2) rfl, T4.cell 1 (v := .int .i64 0) rfl, T4.cell 2 (v := .bool false) rfl, T4.cell 3 (v := .int .i64 n) rfl, t4.cell 0 (v := .int .i64 n) rfl⟩) ?_
        clear hK K
        repeat (first
          | (refine Ord.ord_plain (v := ?_) rfl (fun w' hS => ?_) ?_; rotate_left; (focus ((try dsimp only at hS); go_simp; first | done | with_reducible rfl)); simp only [Act.put, List.setIfInBounds_toArray, List.set_cons_zero, List.set_cons_succ])
          | (refine Ord.ord_skip (by rfl) ?_; simp only [Act.put, List.setIfInBounds_toArray, List.set_cons_zero, List.set_cons_succ])
          | (refine Ord.ord_take (v := ?_) (by rfl) (fun w' hS => ?_) ?_; rotate_left; (focus ((try dsimp only at hS); go_simp; first | done | with_reducible rfl)); simp only [Act.put, List.setIfInBounds_toArray, List.set_cons_zero, List.set_cons_succ]))
        refine Ord.ord_call (fun K hK => ?_)
        go_simp
        refine (HM.out _).mono ?_
        rintro e v5' ⟨rfl, hb5⟩
        have hB5 := btr hB4 hb5
        have T5 := T4.below hb5 (by omega)
        have t5 := t4.below hb5 (by omega)
        have hy5 := hb5.size
        refine hK.out _ _ (⟨T5.cell 0 (v := .int .i64 2) rfl, T5.cell 1 (v := .int .i64 0) rfl, T5.cell 2 (v := .bool false) rfl, T5.cell 3 (v := .int .i64 n) rfl, t5.cell 0 (v := .int .i64 n) rfl⟩) ?_
        clear hK K
        repeat (first
          | (refine Ord.ord_plain (v := ?_) rfl (fun w' hS => ?_) ?_; rotate_left; (focus ((try dsimp only at hS); go_simp; first | done | with_reducible rfl)); simp only [Act.put, List.setIfInBounds_toArray, List.set_cons_zero, List.set_cons_succ])
          | (refine Ord.ord_skip (by rfl) ?_; simp only [Act.put, List.setIfInBounds_toArray, List.set_cons_zero, List.set_cons_succ])
          | (refine Ord.ord_take (v := ?_) (by rfl) (fun w' hS => ?_) ?_; rotate_left; (focus ((try dsimp only at hS); go_simp; first | done | with_reducible rfl)); simp only [Act.put, List.setIfInBounds_toArray, List.set_cons_zero, List.set_cons_succ]))
        refine Ord.ord_nil ?_
        have HBF := Lib.hid hB5
        clear hB2 hB3 hB4 hB5
        go_wp2_with fail
        go_ret
        exact ⟨by rw [HV.out]; rfl, HBF.out⟩
      · subst hp
        have HV := Lib.hid (show exitOk (2, 0, true, n) = false from by simp [exitOk, hi])
        clear hi
        have HU := Lib.hid (fun V : World => impl_usedBy 2 0 true n V)
        rw [usedV_2] at HU
        have hb0 : Below w.heap.size w (w.alloc (.cells #[.int .i64 2, .int .i64 0, .bool true, .int .i64 n] 49)) := (Below.refl _ _).alloc (Nat.le_refl _) _
        have t0 : Var (w.alloc (.cells #[.int .i64 2, .int .i64 0, .bool true, .int .i64 n] 49)) w.heap.size [.int .i64 2, .int .i64 0, .bool true, .int .i64 n] := Var.new w [.int .i64 2, .int .i64 0, .bool true, .int .i64 n] 49
        have hz : w.heap.size < (w.alloc (.cells #[.int .i64 2, .int .i64 0, .bool true, .int .i64 n] 49)).heap.size := by simp
        go_enter Try.func138, Try.ntmps138
        go_wp2_with fail
        generalize w.alloc (.cells #[.int .i64 2, .int .i64 0, .bool true, .int .i64 n] 49) = W0 at t0 hb0 hz ⊢
        refine (HU.out _).mono ?_
        rintro e w1 ⟨rfl, hb1⟩
        have hb := btr hb0 hb1
        have T := t0.below hb1 hz
        have hz1 : w.heap.size < w1.heap.size := T.2
        clear hb0 hb1 t0 hz HU
        have as0 := as_call_no (.agg #[.int .i64 n])
        have as1 := as_call_fault (.agg #[.int .i64 n])
        have as2 := as_call_call (.agg #[.int .i64 n])
        have t2 : Var (w1.alloc (.cells #[.int .i64 n] 157)) w1.heap.size [.int .i64 n] := Var.new w1 [.int .i64 n] 157
        have hA : Below w1.heap.size w1 (w1.alloc (.cells #[.int .i64 n] 157)) := (Below.refl _ _).alloc (Nat.le_refl _) _
        have hB2 := btr hb hA
        have T2 := T.below hA hz1
        have hz2 : w1.heap.size < (w1.alloc (.cells #[.int .i64 n] 157)).heap.size := by simp
        have hz3 : w.heap.size < (w1.alloc (.cells #[.int .i64 n] 157)).heap.size := Nat.lt_trans hz1 hz2
        clear T hA hb
        go_wp2_with fail
        generalize w1.alloc (.cells #[.int .i64 n] 157) = W2 at t2 T2 hB2 hz2 hz3 ⊢
        refine Ord.wp_region_ord (fun w' => w'.cell? ⟨w.heap.size, 0, none⟩ = some (.int .i64 2) ∧ w'.cell? ⟨w.heap.size, 1, none⟩ = some (.int .i64 0) ∧ w'.cell? ⟨w.heap.size, 2, none⟩ = some (.bool true) ∧ w'.cell? ⟨w.heap.size, 3, none⟩ = some (.int .i64 n) ∧ w'.cell? ⟨w1.heap.size, 0, none⟩ = some (.int .i64 n)) [(0, true), (1, true), (2, false), (3, true), (4, true), (5, true), (6, true), (7, false), (8, true), (9, true), (10, true)] (by kernel_rfl) (by kernel_rfl) rfl (by kernel_rfl) (⟨T2.cell 0 (v := .int .i64 2) rfl, T2.cell 1 (v := .int .i64 0) rfl, T2.cell 2 (v := .bool true) rfl, T2.cell 3 (v := .int .i64 n) rfl, t2.cell 0 (v := .int .i64 n) rfl⟩) ?_
        simp only [Ord.ordOps, List.getElem?_toArray, List.getElem?_cons_zero, List.getElem?_cons_succ]
        repeat (first
          | (refine Ord.ord_plain (v := ?_) rfl (fun w' hS => ?_) ?_; rotate_left; (focus ((try dsimp only at hS); go_simp; first | done | with_reducible rfl)); simp only [Act.put, List.setIfInBounds_toArray, List.set_cons_zero, List.set_cons_succ])
          | (refine Ord.ord_skip (by rfl) ?_; simp only [Act.put, List.setIfInBounds_toArray, List.set_cons_zero, List.set_cons_succ])
          | (refine Ord.ord_take (v := ?_) (by rfl) (fun w' hS => ?_) ?_; rotate_left; (focus ((try dsimp only at hS); go_simp; first | done | with_reducible rfl)); simp only [Act.put, List.setIfInBounds_toArray, List.set_cons_zero, List.set_cons_succ]))
        have hbd : Below W2.heap.size W2 W2.drew := (Below.refl _ _).drew
        have hB3 := btr hB2 hbd
        have T3 := T2.below hbd hz3
        have t3 := t2.below hbd hz2
        have hz4 : W2.heap.size ≤ W2.drew.heap.size := hbd.size
        clear hbd
        refine Ord.ord_call (fun K hK => ?_)
        go_simp
        refine (HC.out _).mono ?_
        rintro e v4' ⟨rfl, hb4⟩
        have hB4 := btr hB3 hb4
        have T4 := T3.below hb4 (by omega)
        have t4 := t3.below hb4 (by omega)
        have hy4 := hb4.size
        refine hK.out _ _ (⟨T4.cell 0 (v := .int .i64 2) rfl, T4.cell 1 (v := .int .i64 0) rfl, T4.cell 2 (v := .bool true) rfl, T4.cell 3 (v := .int .i64 n) rfl, t4.cell 0 (v := .int .i64 n) rfl⟩) ?_
        clear hK K
        repeat (first
          | (refine Ord.ord_plain (v := ?_) rfl (fun w' hS => ?_) ?_; rotate_left; (focus ((try dsimp only at hS); go_simp; first | done | with_reducible rfl)); simp only [Act.put, List.setIfInBounds_toArray, List.set_cons_zero, List.set_cons_succ])
          | (refine Ord.ord_skip (by rfl) ?_; simp only [Act.put, List.setIfInBounds_toArray, List.set_cons_zero, List.set_cons_succ])
          | (refine Ord.ord_take (v := ?_) (by rfl) (fun w' hS => ?_) ?_; rotate_left; (focus ((try dsimp only at hS); go_simp; first | done | with_reducible rfl)); simp only [Act.put, List.setIfInBounds_toArray, List.set_cons_zero, List.set_cons_succ]))
        refine Ord.ord_call (fun K hK => ?_)
        go_simp
        refine (HM.out _).mono ?_
        rintro e v5' ⟨rfl, hb5⟩
        have hB5 := btr hB4 hb5
        have T5 := T4.below hb5 (by omega)
        have t5 := t4.below hb5 (by omega)
        have hy5 := hb5.size
        refine hK.out _ _ (⟨T5.cell 0 (v := .int .i64 2) rfl, T5.cell 1 (v := .int .i64 0) rfl, T5.cell 2 (v := .bool true) rfl, T5.cell 3 (v := .int .i64 n) rfl, t5.cell 0 (v := .int .i64 n) rfl⟩) ?_
        clear hK K
        repeat (first
          | (refine Ord.ord_plain (v := ?_) rfl (fun w' hS => ?_) ?_; rotate_left; (focus ((try dsimp only at hS); go_simp; first | done | with_reducible rfl)); simp only [Act.put, List.setIfInBounds_toArray, List.set_cons_zero, List.set_cons_succ])
          | (refine Ord.ord_skip (by rfl) ?_; simp only [Act.put, List.setIfInBounds_toArray, List.set_cons_zero, List.set_cons_succ])
          | (refine Ord.ord_take (v := ?_) (by rfl) (fun w' hS => ?_) ?_; rotate_left; (focus ((try dsimp only at hS); go_simp; first | done | with_reducible rfl)); simp only [Act.put, List.setIfInBounds_toArray, List.set_cons_zero, List.set_cons_succ]))
        refine Ord.ord_nil ?_
        have HBF := Lib.hid hB5
        clear hB2 hB3 hB4 hB5
        go_wp2_with fail
        go_ret
        exact ⟨by rw [HV.out]; rfl, HBF.out⟩
      · have hp' : (p == 0) = false := by simpa using hp
        have HV := Lib.hid (show exitOk (2, p, false, n) = false from by simp [exitOk, hi, hp])
        clear hi hp
        have HU := Lib.hid (fun V : World => impl_usedBy 2 p false n V)
        rw [usedV_2] at HU
        have hb0 : Below w.heap.size w (w.alloc (.cells #[.int .i64 2, .int .i64 p, .bool false, .int .i64 n] 49)) := (Below.refl _ _).alloc (Nat.le_refl _) _
        have t0 : Var (w.alloc (.cells #[.int .i64 2, .int .i64 p, .bool false, .int .i64 n] 49)) w.heap.size [.int .i64 2, .int .i64 p, .bool false, .int .i64 n] := Var.new w [.int .i64 2, .int .i64 p, .bool false, .int .i64 n] 49
        have hz : w.heap.size < (w.alloc (.cells #[.int .i64 2, .int .i64 p, .bool false, .int .i64 n] 49)).heap.size := by simp
        go_enter Try.func138, Try.ntmps138
        go_wp2_with fail
        generalize w.alloc (.cells #[.int .i64 2, .int .i64 p, .bool false, .int .i64 n] 49) = W0 at t0 hb0 hz ⊢
        refine (HU.out _).mono ?_
        rintro e w1 ⟨rfl, hb1⟩
        have hb := btr hb0 hb1
        have T := t0.below hb1 hz
        have hz1 : w.heap.size < w1.heap.size := T.2
        clear hb0 hb1 t0 hz HU
        have as0 := as_call_no (.agg #[.int .i64 n])
        have as1 := as_call_fault (.agg #[.int .i64 n])
        have as2 := as_call_call (.agg #[.int .i64 n])
        have t2 : Var (w1.alloc (.cells #[.int .i64 n] 157)) w1.heap.size [.int .i64 n] := Var.new w1 [.int .i64 n] 157
        have hA : Below w1.heap.size w1 (w1.alloc (.cells #[.int .i64 n] 157)) := (Below.refl _ _).alloc (Nat.le_refl _) _
        have hB2 := btr hb hA
        have T2 := T.below hA hz1
        have hz2 : w1.heap.size < (w1.alloc (.cells #[.int .i64 n] 157)).heap.size := by simp
        have hz3 : w.heap.size < (w1.alloc (.cells #[.int .i64 n] 157)).heap.size := Nat.lt_trans hz1 hz2
        clear T hA hb
        go_wp2_with fail
        generalize w1.alloc (.cells #[.int .i64 n] 157) = W2 at t2 T2 hB2 hz2 hz3 ⊢
        refine Ord.wp_region_ord (fun w' => w'.cell? ⟨w.heap.size, 0, none⟩ = some (.int .i64 2) ∧ w'.cell? ⟨w.heap.size, 1, none⟩ = some (.int .i64 p) ∧ w'.cell? ⟨w.heap.size, 2, none⟩ = some (.bool false) ∧ w'.cell? ⟨w.heap.size, 3, none⟩ = some (.int .i64 n) ∧ w'.cell? ⟨w1.heap.size, 0, none⟩ = some (.int .i64 n)) [(0, true), (1, true), (2, false), (3, true), (4, true), (5, true), (6, true), (7, false), (8, true), (9, true), (10, true)] (by kernel_rfl) (by kernel_rfl) rfl (by kernel_rfl) (⟨T2.cell 0 (v := .int .i64 2) rfl, T2.cell 1 (v := .int .i64 p) rfl, T2.cell 2 (v := .bool false) rfl, T2.cell 3 (v := .int .i64 n) rfl, t2.cell 0 (v := .int .i64 n) rfl⟩) ?_
        simp only [Ord.ordOps, List.getElem?_toArray, List.getElem?_cons_zero, List.getElem?_cons_succ]
        repeat (first
          | (refine Ord.ord_plain (v := ?_) rfl (fun w' hS => ?_) ?_; rotate_left; (focus ((try dsimp only at hS); go_simp; first | done | with_reducible rfl)); simp only [Act.put, List.setIfInBounds_toArray, List.set_cons_zero, List.set_cons_succ])
          | (refine Ord.ord_skip (by rfl) ?_; simp only [Act.put, List.setIfInBounds_toArray, List.set_cons_zero, List.set_cons_succ])
          | (refine Ord.ord_take (v := ?_) (by rfl) (fun w' hS => ?_) ?_; rotate_left; (focus ((try dsimp only at hS); go_simp; first | done | with_reducible rfl)); simp only [Act.put, List.setIfInBounds_toArray, List.set_cons_zero, List.set_cons_succ]))
        have hbd : Below W2.heap.size W2 W2.drew := (Below.refl _ _).drew
        have hB3 := btr hB2 hbd
        have T3 := T2.below hbd hz3
        have t3 := t2.below hbd hz2
        have hz4 : W2.heap.size ≤ W2.drew.heap.size := hbd.size
        clear hbd
        refine Ord.ord_call (fun K hK => ?_)
        go_simp
        refine (HC.out _).mono ?_
        rintro e v4' ⟨rfl, hb4⟩
        have hB4 := btr hB3 hb4
        have T4 := T3.below hb4 (by omega)
        have t4 := t3.below hb4 (by omega)
        have hy4 := hb4.size
        refine hK.out _ _ (⟨T4.cell 0 (v := .int .i64 2) rfl, T4.cell 1 (v := .int .i64 p) rfl, T4.cell 2 (v := .bool false) rfl, T4.cell 3 (v := .int .i64 n) rfl, t4.cell 0 (v := .int .i64 n) rfl⟩) ?_
        clear hK K
        repeat (first
          | (refine Ord.ord_plain (v := ?_) rfl (fun w' hS => ?_) ?_; rotate_left; (focus ((try dsimp only at hS); go_simp; first | done | with_reducible rfl)); simp only [Act.put, List.setIfInBounds_toArray, List.set_cons_zero, List.set_cons_succ])
          | (refine Ord.ord_skip (by rfl) ?_; simp only [Act.put, List.setIfInBounds_toArray, List.set_cons_zero, List.set_cons_succ])
          | (refine Ord.ord_take (v := ?_) (by rfl) (fun w' hS => ?_) ?_; rotate_left; (focus ((try dsimp only at hS); go_simp; first | done | with_reducible rfl)); simp only [Act.put, List.setIfInBounds_toArray, List.set_cons_zero, List.set_cons_succ]))
        refine Ord.ord_call (fun K hK => ?_)
        go_simp
        refine (HM.out _).mono ?_
        rintro e v5' ⟨rfl, hb5⟩
        have hB5 := btr hB4 hb5
        have T5 := T4.below hb5 (by omega)
        have t5 := t4.below hb5 (by omega)
        have hy5 := hb5.size
        refine hK.out _ _ (⟨T5.cell 0 (v := .int .i64 2) rfl, T5.cell 1 (v := .int .i64 p) rfl, T5.cell 2 (v := .bool false) rfl, T5.cell 3 (v := .int .i64 n) rfl, t5.cell 0 (v := .int .i64 n) rfl⟩) ?_
        clear hK K
        repeat (first
          | (refine Ord.ord_plain (v := ?_) rfl (fun w' hS => ?_) ?_; rotate_left; (focus ((try dsimp only at hS); go_simp; first | done | with_reducible rfl)); simp only [Act.put, List.setIfInBounds_toArray, List.set_cons_zero, List.set_cons_succ])
          | (refine Ord.ord_skip (by rfl) ?_; simp only [Act.put, List.setIfInBounds_toArray, List.set_cons_zero, List.set_cons_succ])
          | (refine Ord.ord_take (v := ?_) (by rfl) (fun w' hS => ?_) ?_; rotate_left; (focus ((try dsimp only at hS); go_simp; first | done | with_reducible rfl)); simp only [Act.put, List.setIfInBounds_toArray, List.set_cons_zero, List.set_cons_succ]))
        refine Ord.ord_nil ?_
        have HBF := Lib.hid hB5
        clear hB2 hB3 hB4 hB5
        go_wp2_with fail
        go_ret
        exact ⟨by rw [HV.out]; rfl, HBF.out⟩
      · have hp' : (p == 0) = false := by simpa using hp
        have HV := Lib.hid (show exitOk (2, p, true, n) = false from by simp [exitOk, hi, hp])
        clear hi hp
        have HU := Lib.hid (fun V : World => impl_usedBy 2 p true n V)
        rw [usedV_2] at HU
        have hb0 : Below w.heap.size w (w.alloc (.cells #[.int .i64 2, .int .i64 p, .bool true, .int .i64 n] 49)) := (Below.refl _ _).alloc (Nat.le_refl _) _
        have t0 : Var (w.alloc (.cells #[.int .i64 2, .int .i64 p, .bool true, .int .i64 n] 49)) w.heap.size [.int .i64 2, .int .i64 p, .bool true, .int .i64 n] := Var.new w [.int .i64 2, .int .i64 p, .bool true, .int .i64 n] 49
        have hz : w.heap.size < (w.alloc (.cells #[.int .i64 2, .int .i64 p, .bool true, .int .i64 n] 49)).heap.size := by simp
        go_enter Try.func138, Try.ntmps138
        go_wp2_with fail
        generalize w.alloc (.cells #[.int .i64 2, .int .i64 p, .bool true, .int .i64 n] 49) = W0 at t0 hb0 hz ⊢
        refine (HU.out _).mono ?_
        rintro e w1 ⟨rfl, hb1⟩
        have hb := btr hb0 hb1
        have T := t0.below hb1 hz
        have hz1 : w.heap.size < w1.heap.size := T.2
        clear hb0 hb1 t0 hz HU
        have as0 := as_call_no (.agg #[.int .i64 n])
        have as1 := as_call_fault (.agg #[.int .i64 n])
        have as2 := as_call_call (.agg #[.int .i64 n])
        have t2 : Var (w1.alloc (.cells #[.int .i64 n] 157)) w1.heap.size [.int .i64 n] := Var.new w1 [.int .i64 n] 157
        have hA : Below w1.heap.size w1 (w1.alloc (.cells #[.int .i64 n] 157)) := (Below.refl _ _).alloc (Nat.le_refl _) _
        have hB2 := btr hb hA
        have T2 := T.below hA hz1
        have hz2 : w1.heap.size < (w1.alloc (.cells #[.int .i64 n] 157)).heap.size := by simp
        have hz3 : w.heap.size < (w1.alloc (.cells #[.int .i64 n] 157)).heap.size := Nat.lt_trans hz1 hz2
        clear T hA hb
        go_wp2_with fail
        generalize w1.alloc (.cells #[.int .i64 n] 157) = W2 at t2 T2 hB2 hz2 hz3 ⊢
        refine Ord.wp_region_ord (fun w' => w'.cell? ⟨w.heap.size, 0, none⟩ = some (.int .i64 2) ∧ w'.cell? ⟨w.heap.size, 1, none⟩ = some (.int .i64 p) ∧ w'.cell? ⟨w.heap.size, 2, none⟩ = some (.bool true) ∧ w'.cell? ⟨w.heap.size, 3, none⟩ = some (.int .i64 n) ∧ w'.cell? ⟨w1.heap.size, 0, none⟩ = some (.int .i64 n)) [(0, true), (1, true), (2, false), (3, true), (4, true), (5, true), (6, true), (7, false), (8, true), (9, true), (10, true)] (by kernel_rfl) (by kernel_rfl) rfl (by kernel_rfl) (⟨T2.cell 0 (v := .int .i64 2) rfl, T2.cell 1 (v := .int .i64 p) rfl, T2.cell 2 (v := .bool true) rfl, T2.cell 3 (v := .int .i64 n) rfl, t2.cell 0 (v := .int .i64 n) rfl⟩) ?_
        simp only [Ord.ordOps, List.getElem?_toArray, List.getElem?_cons_zero, List.getElem?_cons_succ]
        repeat (first
          | (refine Ord.ord_plain (v := ?_) rfl (fun w' hS => ?_) ?_; rotate_left; (focus ((try dsimp only at hS); go_simp; first | done | with_reducible rfl)); simp only [Act.put, List.setIfInBounds_toArray, List.set_cons_zero, List.set_cons_succ])
          | (refine Ord.ord_skip (by rfl) ?_; simp only [Act.put, List.setIfInBounds_toArray, List.set_cons_zero, List.set_cons_succ])
          | (refine Ord.ord_take (v := ?_) (by rfl) (fun w' hS => ?_) ?_; rotate_left; (focus ((try dsimp only at hS); go_simp; first | done | with_reducible rfl)); simp only [Act.put, List.setIfInBounds_toArray, List.set_cons_zero, List.set_cons_succ]))
        have hbd : Below W2.heap.size W2 W2.drew := (Below.refl _ _).drew
        have hB3 := btr hB2 hbd
        have T3 := T2.below hbd hz3
        have t3 := t2.below hbd hz2
        have hz4 : W2.heap.size ≤ W2.drew.heap.size := hbd.size
        clear hbd
        refine Ord.ord_call (fun K hK => ?_)
        go_simp
        refine (HC.out _).mono ?_
        rintro e v4' ⟨rfl, hb4⟩
        have hB4 := btr hB3 hb4
        have T4 := T3.below hb4 (by omega)
        have t4 := t3.below hb4 (by omega)
        have hy4 := hb4.size
        refine hK.out _ _ (⟨T4.cell 0 (v := .int .i64 2) rfl, T4.cell 1 (v := .int .i64 p) rfl, T4.cell 2 (v := .bool true) rfl, T4.cell 3 (v := .int .i64 n) rfl, t4.cell 0 (v := .int .i64 n) rfl⟩) ?_
        clear hK K
        repeat (first
          | (refine Ord.ord_plain (v := ?_) rfl (fun w' hS => ?_) ?_; rotate_left; (focus ((try dsimp only at hS); go_simp; first | done | with_reducible rfl)); simp only [Act.put, List.setIfInBounds_toArray, List.set_cons_zero, List.set_cons_succ])
          | (refine Ord.ord_skip (by rfl) ?_; simp only [Act.put, List.setIfInBounds_toArray, List.set_cons_zero, List.set_cons_succ])
          | (refine Ord.ord_take (v := ?_) (by rfl) (fun w' hS => ?_) ?_; rotate_left; (focus ((try dsimp only at hS); go_simp; first | done | with_reducible rfl)); simp only [Act.put, List.setIfInBounds_toArray, List.set_cons_zero, List.set_cons_succ]))
        refine Ord.ord_call (fun K hK => ?_)
        go_simp
        refine (HM.out _).mono ?_
        rintro e v5' ⟨rfl, hb5⟩
        have hB5 := btr hB4 hb5
        have T5 := T4.below hb5 (by omega)
        have t5 := t4.below hb5 (by omega)
        have hy5 := hb5.size
        refine hK.out _ _ (⟨T5.cell 0 (v := .int .i64 2) rfl, T5.cell 1 (v := .int .i64 p) rfl, T5.cell 2 (v := .bool true) rfl, T5.cell 3 (v := .int .i64 n) rfl, t5.cell 0 (v := .int .i64 n) rfl⟩) ?_
        clear hK K
        repeat (first
          | (refine Ord.ord_plain (v := ?_) rfl (fun w' hS => ?_) ?_; rotate_left; (focus ((try dsimp only at hS); go_simp; first | done | with_reducible rfl)); simp only [Act.put, List.setIfInBounds_toArray, List.set_cons_zero, List.set_cons_succ])
          | (refine Ord.ord_skip (by rfl) ?_; simp only [Act.put, List.setIfInBounds_toArray, List.set_cons_zero, List.set_cons_succ])
          | (refine Ord.ord_take (v := ?_) (by rfl) (fun w' hS => ?_) ?_; rotate_left; (focus ((try dsimp only at hS); go_simp; first | done | with_reducible rfl)); simp only [Act.put, List.setIfInBounds_toArray, List.set_cons_zero, List.set_cons_succ]))
        refine Ord.ord_nil ?_
        have HBF := Lib.hid hB5
        clear hB2 hB3 hB4 hB5
        go_wp2_with fail
        go_ret
        exact ⟨by rw [HV.out]; rfl, HBF.out⟩
  · have HM := Lib.hid (fun V : World => impl_out' n V)
    unfold ExitP at HM
    dsimp only at HM
    have hC := fun V : World => impl_cellOkE n V
    cases hi : inB n 0 99
    · have HV := Lib.hid (show exitOk (3, p, q, n) = false from by simp [exitOk, hi])
      rw [hi] at hC
      have HC := Lib.hid hC
      clear hC HM hi
      have HU := Lib.hid (fun V : World => impl_usedBy 3 p q n V)
      rw [usedV_3] at HU
      have hb0 : Below w.heap.size w (w.alloc (.cells #[.int .i64 3, .int .i64 p, .bool q, .int .i64 n] 49)) := (Below.refl _ _).alloc (Nat.le_refl _) _
      have t0 : Var (w.alloc (.cells #[.int .i64 3, .int .i64 p, .bool q, .int .i64 n] 49)) w.heap.size [.int .i64 3, .int .i64 p, .bool q, .int .i64 n] := Var.new w [.int .i64 3, .int .i64 p, .bool q, .int .i64 n] 49
      have hz : w.heap.size < (w.alloc (.cells #[.int .i64 3, .int .i64 p, .bool q, .int .i64 n] 49)).heap.size := by simp
      go_enter Try.func138, Try.ntmps138
      go_wp2_with fail
      generalize w.alloc (.cells #[.int .i64 3, .int .i64 p, .bool q, .int .i64 n] 49) = W0 at t0 hb0 hz ⊢
      refine (HU.out _).mono ?_
      rintro e w1 ⟨rfl, hb1⟩
      have hb := btr hb0 hb1
      have T := t0.below hb1 hz
      have hz1 : w.heap.size < w1.heap.size := T.2
      clear hb0 hb1 t0 hz HU
      have as0 := as_out_no (.agg #[.int .i64 n])
      have as1 := as_out_fault (.agg #[.int .i64 n])
      have as2 := as_out_call (.agg #[.int .i64 n])
      have as3 := as_out_out (.agg #[.int .i64 n])
      have t2 : Var (w1.alloc (.cells #[.int .i64 n] 159)) w1.heap.size [.int .i64 n] := Var.new w1 [.int .i64 n] 159
      have hA : Below w1.heap.size w1 (w1.alloc (.cells #[.int .i64 n] 159)) := (Below.refl _ _).alloc (Nat.le_refl _) _
      have hB2 := btr hb hA
      have T2 := T.below hA hz1
      have hz2 : w1.heap.size < (w1.alloc (.cells #[.int .i64 n] 159)).heap.size := by simp
      have hz3 : w.heap.size < (w1.alloc (.cells #[.int .i64 n] 159)).heap.size := Nat.lt_trans hz1 hz2
      clear T hA hb
      go_wp2_with fail
      generalize w1.alloc (.cells #[.int .i64 n] 159) = W2 at t2 T2 hB2 hz2 hz3 ⊢
      refine Ord.wp_region_ord (fun w' => w'.cell? ⟨w.heap.size, 0, none⟩ = some (.int .i64 3) ∧ w'.cell? ⟨w.heap.size, 1, none⟩ = some (.int .i64 p) ∧ w'.cell? ⟨w.heap.size, 2, none⟩ = some (.bool q) ∧ w'.cell? ⟨w.heap.size, 3, none⟩ = some (.int .i64 n) ∧ w'.cell? ⟨w1.heap.size, 0, none⟩ = some (.int .i64 n)) [(0, true), (1, true), (2, false), (3, true), (4, true), (5, true), (6, true), (7, false), (8, true), (9, true), (10, true)] (by kernel_rfl) (by kernel_rfl) rfl (by kernel_rfl) (⟨T2.cell 0 (v := .int .i64 3) rfl, T2.cell 1 (v := .int .i64 p) rfl, T2.cell 2 (v := .bool q) rfl, T2.cell 3 (v := .int .i64 n) rfl, t2.cell 0 (v := .int .i64 n) rfl⟩) ?_
      simp only [Ord.ordOps, List.getElem?_toArray, List.getElem?_cons_zero, List.getElem?_cons_succ]
      repeat (first
        | (refine Ord.ord_plain (v := ?_) rfl (fun w' hS => ?_) ?_; rotate_left; (focus ((try dsimp only at hS); go_simp; first | done | with_reducible rfl)); simp only [Act.put, List.setIfInBounds_toArray, List.set_cons_zero, List.set_cons_succ])
        | (refine Ord.ord_skip (by rfl) ?_; simp only [Act.put, List.setIfInBounds_toArray, List.set_cons_zero, List.set_cons_succ])
        | (refine Ord.ord_take (v := ?_) (by rfl) (fun w' hS => ?_) ?_; rotate_left; (focus ((try dsimp only at hS); go_simp; first | done | with_reducible rfl)); simp only [Act.put, List.setIfInBounds_toArray, List.set_cons_zero, List.set_cons_succ]))
      have hbd : Below W2.heap.size W2 W2.drew := (Below.refl _ _).drew
      have hB3 := btr hB2 hbd
      have T3 := T2.below hbd hz3
      have t3 := t2.below hbd hz2
      have hz4 : W2.heap.size ≤ W2.drew.heap.size := hbd.size
      clear hbd
      refine Ord.ord_call (fun K hK => ?_)
      go_simp
      refine (HC.out _).mono ?_
      rintro e v4' ⟨rfl, hb4⟩
      have hB4 := btr hB3 hb4
      have T4 := T3.below hb4 (by omega)
      have t4 := t3.below hb4 (by omega)
      have hy4 := hb4.size
      refine hK.out _ _ (⟨T4.cell 0 (v := .int .i64 3) rfl, T4.cell 1 (v := .int .i64 p) rfl, T4.cell 2 (v := .bool q) rfl, T4.cell 3 (v := .int .i64 n) rfl, t4.cell 0 (v := .int .i64 n) rfl⟩) ?_
      clear hK K
      repeat (first
        | (refine Ord.ord_plain (v := ?_) rfl (fun w' hS => ?_) ?_; rotate_left; (focus ((try dsimp only at hS); go_simp; first | done | with_reducible rfl)); simp only [Act.put, List.setIfInBounds_toArray, List.set_cons_zero, List.set_cons_succ])
        | (refine Ord.ord_skip (by rfl) ?_; simp only [Act.put, List.setIfInBounds_toArray, List.set_cons_zero, List.set_cons_succ])
        | (refine Ord.ord_take (v := ?_) (by rfl) (fun w' hS => ?_) ?_; rotate_left; (focus ((try dsimp only at hS); go_simp; first | done | with_reducible rfl)); simp only [Act.put, List.setIfInBounds_toArray, List.set_cons_zero, List.set_cons_succ]))
      refine Ord.ord_not (by rfl) (fun K hK => ?_)
      simp only [Act.put, List.setIfInBounds_toArray, List.set_cons_zero, List.set_cons_succ]
      refine hK.out _ _ (⟨T4.cell 0 (v := .int .i64 3) rfl, T4.cell 1 (v := .int .i64 p) rfl, T4.cell 2 (v := .bool q) rfl, T4.cell 3 (v := .int .i64 n) rfl, t4.cell 0 (v := .int .i64 n) rfl⟩) ?_
      clear hK K
      repeat (first
        | (refine Ord.ord_plain (v := ?_) rfl (fun w' hS => ?_) ?_; rotate_left; (focus ((try dsimp only at hS); go_simp; first | done | with_reducible rfl)); simp only [Act.put, List.setIfInBounds_toArray, List.set_cons_zero, List.set_cons_succ])
        | (refine Ord.ord_skip (by rfl) ?_; simp only [Act.put, List.setIfInBounds_toArray, List.set_cons_zero, List.set_cons_succ])
        | (refine Ord.ord_take (v := ?_) (by rfl) (fun w' hS => ?_) ?_; rotate_left; (focus ((try dsimp only at hS); go_simp; first | done | with_reducible rfl)); simp only [Act.put, List.setIfInBounds_toArray, List.set_cons_zero, List.set_cons_succ]))
      refine Ord.ord_nil ?_
      have HBF := Lib.hid hB4
      clear hB2 hB3 hB4
      go_wp2_with fail
      go_ret
      exact ⟨by rw [HV.out]; rfl, HBF.out⟩
    · rw [hi] at hC
      have HC := Lib.hid hC
      clear hC
      by_cases hp : p = 0 <;> cases q
      · subst hp
        have HV := Lib.hid (show exitOk (3, 0, false, n) = true from by simp [exitOk, hi])
        clear hi
        have HU := Lib.hid (fun V : World => impl_usedBy 3 0 false n V)
        rw [usedV_3] at HU
        have hb0 : Below w.heap.size w (w.alloc (.cells #[.int .i64 3, .int .i64 0, .bool false, .int .i64 n] 49)) := (Below.refl _ _).alloc (Nat.le_refl _) _
        have t0 : Var (w.alloc (.cells #[.int .i64 3, .int .i64 0, .bool false, .int .i64 n] 49)) w.heap.size [.int .i64 3, .int .i64 0, .bool false, .int .i64 n] := Var.new w [.int .i64 3, .int .i64 0, .bool false, .int .i64 n] 49
        have hz : w.heap.size < (w.alloc (.cells #[.int .i64 3, .int .i64 0, .bool false, .int .i64 n] 49)).heap.size := by simp
        go_enter Try.func138, Try.ntmps138
        go_wp2_with fail
        generalize w.alloc (.cells #[.int .i64 3, .int .i64 0, .bool false, .int .i64 n] 49) = W0 at t0 hb0 hz ⊢
        refine (HU.out _).mono ?_
        rintro e w1 ⟨rfl, hb1⟩
        have hb := btr hb0 hb1
        have T := t0.below hb1 hz
        have hz1 : w.heap.size < w1.heap.size := T.2
        clear hb0 hb1 t0 hz HU
        have as0 := as_out_no (.agg #[.int .i64 n])
        have as1 := as_out_fault (.agg #[.int .i64 n])
        have as2 := as_out_call (.agg #[.int .i64 n])
        have as3 := as_out_out (.agg #[.int .i64 n])
        have t2 : Var (w1.alloc (.cells #[.int .i64 n] 159)) w1.heap.size [.int .i64 n] := Var.new w1 [.int .i64 n] 159
        have hA : Below w1.heap.size w1 (w1.alloc (.cells #[.int .i64 n] 159)) := (Below.refl _ _).alloc (Nat.le_refl _) _
        have hB2 := btr hb hA
        have T2 := T.below hA hz1
        have hz2 : w1.heap.size < (w1.alloc (.cells #[.int .i64 n] 159)).heap.size := by simp
        have hz3 : w.heap.size < (w1.alloc (.cells #[.int .i64 n] 159)).heap.size := Nat.lt_trans hz1 hz2
        clear T hA hb
        go_wp2_with fail
        generalize w1.alloc (.cells #[.int .i64 n] 159) = W2 at t2 T2 hB2 hz2 hz3 ⊢
        refine Ord.wp_region_ord (fun w' => w'.cell? ⟨w.heap.size, 0, none⟩ = some (.int .i64 3) ∧ w'.cell? ⟨w.heap.size, 1, none⟩ = some (.int .i64 0) ∧ w'.cell? ⟨w.heap.size, 2, none⟩ = some (.bool false) ∧ w'.cell? ⟨w.heap.size, 3, none⟩ = some (.int .i64 n) ∧ w'.cell? ⟨w1.heap.size, 0, none⟩ = some (.int .i64 n)) [(0, true), (1, true), (2, false), (3, true), (4, true), (5, true), (6, true), (7, false), (8, true), (9, true), (10, true)] (by kernel_rfl) (by kernel_rfl) rfl (by kernel_rfl) (⟨T2.cell 0 (v := .int .i64 3) rfl, T2.cell 1 (v := .int .i64 0) rfl, T2.cell 2 (v := .bool false) rfl, T2.cell 3 (v := .int .i64 n) rfl, t2.cell 0 (v := .int .i64 n) rfl⟩) ?_
        simp only [Ord.ordOps, List.getElem?_toArray, List.getElem?_cons_zero, List.getElem?_cons_succ]
        repeat (first
          | (refine Ord.ord_plain (v := ?_) rfl (fun w' hS => ?_) ?_; rotate_left; (focus ((try dsimp only at hS); go_simp; first | done | with_reducible rfl)); simp only [Act.put, List.setIfInBounds_toArray, List.set_cons_zero, List.set_cons_succ])
          | (refine Ord.ord_skip (by rfl) ?_; simp only [Act.put, List.setIfInBounds_toArray, List.set_cons_zero, List.set_cons_succ])
          | (refine Ord.ord_take (v := ?_) (by rfl) (fun w' hS => ?_) ?_; rotate_left; (focus ((try dsimp only at hS); go_simp; first | done | with_reducible rfl)); simp only [Act.put, List.setIfInBounds_toArray, List.set_cons_zero, List.set_cons_succ]))
        have hbd : Below W2.heap.size W2 W2.drew := (Below.refl _ _).drew
        have hB3 := btr hB2 hbd
        have T3 := T2.below hbd hz3
        have t3 := t2.below hbd hz2
        have hz4 : W2.heap.size ≤ W2.drew.heap.size := hbd.size
        clear hbd
        refine Ord.ord_call (fun K hK => ?_)
        go_simp
        refine (HC.out _).mono ?_
        rintro e v4' ⟨rfl, hb4⟩
        have hB4 := btr hB3 hb4
        have T4 := T3.below hb4 (by omega)
        have t4 := t3.below hb4 (by omega)
        have hy4 := hb4.size
        refine hK.out _ _ (⟨T4.cell 0 (v := .int .i64 3) rfl, T4.cell 1 (v := .int .i64 0) rfl, T4.cell 2 (v := .bool false) rfl, T4.cell 3 (v := .int .i64 n) rfl, t4.cell 0 (v := .int .i64 n) rfl⟩) ?_
        clear hK K
        repeat (first
          | (refine Ord.ord_plain (v := ?_) rfl (fun w' hS => ?_) ?_; rotate_left; (focus ((try dsimp only at hS); go_simp; first | done | with_reducible rfl)); simp only [Act.put, List.setIfInBounds_toArray, List.set_cons_zero, List.set_cons_succ])
          | (refine Ord.ord_skip (by rfl) ?_; simp only [Act.put, List.setIfInBounds_toArray, List.set_cons_zero, List.set_cons_succ])
          | (refine Ord.ord_take (v := ?_) (by rfl) (fun w' hS => ?_) ?_; rotate_left; (focus ((try dsimp only at hS); go_simp; first | done | with_reducible rfl)); simp only [Act.put, List.setIfInBounds_toArray, List.set_cons_zero, List.set_cons_succ]))
        refine Ord.ord_call (fun K hK => ?_)
        go_simp
        refine (HM.out _).mono ?_
        rintro e v5' ⟨rfl, hb5⟩
        have hB5 := btr hB4 hb5
        have T5 := T4.below hb5 (by omega)
        have t5 := t4.below hb5 (by omega)
        have hy5 := hb5.size
        refine hK.out _ _ (⟨T5.cell 0 (v := .int .i64 3) rfl, T5.cell 1 (v := .int .i64 0) rfl, T5.cell 2 (v := .bool false) rfl, T5.cell 3 (v := .int .i64 n) rfl, t5.cell 0 (v := .int .i64 n) rfl⟩) ?_
        clear hK K
        repeat (first
          | (refine Ord.ord_plain (v := ?_) rfl (fun w' hS => ?_) ?_; rotate_left; (focus ((try dsimp only at hS); go_simp; first | done | with_reducible rfl)); simp only [Act.put, List.setIfInBounds_toArray, List.set_cons_zero, List.set_cons_succ])
          | (refine Ord.ord_skip (by rfl) ?_; simp only [Act.put, List.setIfInBounds_toArray, List.set_cons_zero, List.set_cons_succ])
          | (refine Ord.ord_take (v := ?_) (by rfl) (fun w' hS => ?_) ?_; rotate_left; (focus ((try dsimp only at hS); go_simp; first | done | with_reducible rfl)); simp only [Act.put, List.setIfInBounds_toArray, List.set_cons_zero, List.set_cons_succ]))
        refine Ord.ord_nil ?_
        have HBF := Lib.hid hB5
        clear hB2 hB3 hB4 hB5
        go_wp2_with fail
        go_ret
        exact ⟨by rw [HV.out]; rfl, HBF.out⟩
      · subst hp
        have HV := Lib.hid (show exitOk (3, 0, true, n) = false from by simp [exitOk, hi])
        clear hi
        have HU := Lib.hid (fun V : World => impl_usedBy 3 0 true n V)
        rw [usedV_3] at HU
        have hb0 : Below w.heap.size w (w.alloc (.cells #[.int .i64 3, .int .i64 0, .bool true, .int .i64 n] 49)) := (Below.refl _ _).alloc (Nat.le_refl _) _
        have t0 : Var (w.alloc (.cells #[.int .i64 3, .int .i64 0, .bool true, .int .i64 n] 49)) w.heap.size [.int .i64 3, .int .i64 0, .bool true, .int .i64 n] := Var.new w [.int .i64 3, .int .i64 0, .bool true, .int .i64 n] 49
        have hz : w.heap.size < (w.alloc (.cells #[.int .i64 3, .int .i64 0, .bool true, .int .i64 n] 49)).heap.size := by simp
        go_enter Try.func138, Try.ntmps138
        go_wp2_with fail
        generalize w.alloc (.cells #[.int .i64 3, .int .i64 0, .bool true, .int .i64 n] 49) = W0 at t0 hb0 hz ⊢
        refine (HU.out _).mono ?_
        rintro e w1 ⟨rfl, hb1⟩
        have hb := btr hb0 hb1
        have T := t0.below hb1 hz
        have hz1 : w.heap.size < w1.heap.size := T.2
        clear hb0 hb1 t0 hz HU
        have as0 := as_out_no (.agg #[.int .i64 n])
        have as1 := as_out_fault (.agg #[.int .i64 n])
        have as2 := as_out_call (.agg #[.int .i64 n])
        have as3 := as_out_out (.agg #[.int .i64 n])
        have t2 : Var (w1.alloc (.cells #[.int .i64 n] 159)) w1.heap.size [.int .i64 n] := Var.new w1 [.int .i64 n] 159
        have hA : Below w1.heap.size w1 (w1.alloc (.cells #[.int .i64 n] 159)) := (Below.refl _ _).alloc (Nat.le_refl _) _
        have hB2 := btr hb hA
        have T2 := T.below hA hz1
        have hz2 : w1.heap.size < (w1.alloc (.cells #[.int .i64 n] 159)).heap.size := by simp
        have hz3 : w.heap.size < (w1.alloc (.cells #[.int .i64 n] 159)).heap.size := Nat.lt_trans hz1 hz2
        clear T hA hb
        go_wp2_with fail
        generalize w1.alloc (.cells #[.int .i64 n] 159) = W2 at t2 T2 hB2 hz2 hz3 ⊢
        refine Ord.wp_region_ord (fun w' => w'.cell? ⟨w.heap.size, 0, none⟩ = some (.int .i64 3) ∧ w'.cell? ⟨w.heap.size, 1, none⟩ = some (.int .i64 0) ∧ w'.cell? ⟨w.heap.size, 2, none⟩ = some (.bool true) ∧ w'.cell? ⟨w.heap.size, 3, none⟩ = some (.int .i64 n) ∧ w'.cell? ⟨w1.heap.size, 0, none⟩ = some (.int .i64 n)) [(0, true), (1, true), (2, false), (3, true), (4, true), (5, true), (6, true), (7, false), (8, true), (9, true), (10, true)] (by kernel_rfl) (by kernel_rfl) rfl (by kernel_rfl) (⟨T2.cell 0 (v := .int .i64 3) rfl, T2.cell 1 (v := .int .i64 0) rfl, T2.cell 2 (v := .bool true) rfl, T2.cell 3 (v := .int .i64 n) rfl, t2.cell 0 (v := .int .i64 n) rfl⟩) ?_
        simp only [Ord.ordOps, List.getElem?_toArray, List.getElem?_cons_zero, List.getElem?_cons_succ]
        repeat (first
          | (refine Ord.ord_plain (v := ?_) rfl (fun w' hS => ?_) ?_; rotate_left; (focus ((try dsimp only at hS); go_simp; first | done | with_reducible rfl)); simp only [Act.put, List.setIfInBounds_toArray, List.set_cons_zero, List.set_cons_succ])
          | (refine Ord.ord_skip (by rfl) ?_; simp only [Act.put, List.setIfInBounds_toArray, List.set_cons_zero, List.set_cons_succ])
          | (refine Ord.ord_take (v := ?_) (by rfl) (fun w' hS => ?_) ?_; rotate_left; (focus ((try dsimp only at hS); go_simp; first | done | with_reducible rfl)); simp only [Act.put, List.setIfInBounds_toArray, List.set_cons_zero, List.set_cons_succ]))
        have hbd : Below W2.heap.size W2 W2.drew := (Below.refl _ _).drew
        have hB3 := btr hB2 hbd
        have T3 := T2.below hbd hz3
        have t3 := t2.below hbd hz2
        have hz4 : W2.heap.size ≤ W2.drew.heap.size := hbd.size
        clear hbd
        refine Ord.ord_call (fun K hK => ?_)
        go_simp
        refine (HC.out _).mono ?_
        rintro e v4' ⟨rfl, hb4⟩
        have hB4 := btr hB3 hb4
        have T4 := T3.below hb4 (by omega)
        have t4 := t3.below hb4 (by omega)
        have hy4 := hb4.size
        refine hK.out _ _ (⟨T4.cell 0 (v := .int .i64 3) rfl, T4.cell 1 (v := .int .i64 0) rfl, T4.cell 2 (v := .bool true) rfl, T4.cell 3 (v := .int .i64 n) rfl, t4.cell 0 (v := .int .i64 n) rfl⟩) ?_
        clear hK K
        repeat (first
          | (refine Ord.ord_plain (v := ?_) rfl (fun w' hS => ?_) ?_; rotate_left; (focus ((try dsimp only at hS); go_simp; first | done | with_reducible rfl)); simp only [Act.put, List.setIfInBounds_toArray, List.set_cons_zero, List.set_cons_succ])
          | (refine Ord.ord_skip (by rfl) ?_; simp only [Act.put, List.setIfInBounds_toArray, List.set_cons_zero, List.set_cons_succ])
          | (refine Ord.ord_take (v := ?_) (by rfl) (fun w' hS => ?_) ?_; rotate_left; (focus ((try dsimp only at hS); go_simp; first | done | with_reducible rfl)); simp only [Act.put, List.setIfInBounds_toArray, List.set_cons_zero, List.set_cons_succ]))
        refine Ord.ord_call (fun K hK => ?_)
        go_simp
        refine (HM.out _).mono ?_
        rintro e v5' ⟨rfl, hb5⟩
        have hB5 := btr hB4 hb5
        have T5 := T4.below hb5 (by omega)
        have t5 := t4.below hb5 (by omega)
        have hy5 := hb5.size
        refine hK.out _ _ (⟨T5.cell 0 (v := .int .i64 3) rfl, T5.cell 1 (v := .int .i64 0) rfl, T5.cell 2 (v := .bool true) rfl, T5.cell 3 (v := .int .i64 n) rfl, t5.cell 0 (v := .int .i64 n) rfl⟩) ?_
        clear hK K
        repeat (first
          | (refine Ord.ord_plain (v := ?_) rfl (fun w' hS => ?_) ?_; rotate_left; (focus ((try dsimp only at hS); go_simp; first | done | with_reducible rfl)); simp only [Act.put, List.setIfInBounds_toArray, List.set_cons_zero, List.set_cons_succ])
          | (refine Ord.ord_skip (by rfl) ?_; simp only [Act.put, List.setIfInBounds_toArray, List.set_cons_zero, List.set_cons_succ])
          | (refine Ord.ord_take (v := ?_) (by rfl) (fun w' hS => ?_) ?_; rotate_left; (focus ((try dsimp only at hS); go_simp; first | done | with_reducible rfl)); simp only [Act.put, List.setIfInBounds_toArray, List.set_cons_zero, List.set_cons_succ]))
        refine Ord.ord_nil ?_
        have HBF := Lib.hid hB5
        clear hB2 hB3 hB4 hB5
        go_wp2_with fail
        go_ret
        exact ⟨by rw [HV.out]; rfl, HBF.out⟩
      · have hp' : (p == 0) = false := by simpa using hp
        have HV := Lib.hid (show exitOk (3, p, false, n) = false from by simp [exitOk, hi, hp])
        clear hi hp
        have HU := Lib.hid (fun V : World => impl_usedBy 3 p false n V)
        rw [usedV_3] at HU
        have hb0 : Below w.heap.size w (w.alloc (.cells #[.int .i64 3, .int .i64 p, .bool false, .int .i64 n] 49)) := (Below.refl _ _).alloc (Nat.le_refl _) _
        have t0 : Var (w.alloc (.cells #[.int .i64 3, .int .i64 p, .bool false, .int .i64 n] 49)) w.heap.size [.int .i64 3, .int .i64 p, .bool false, .int .i64 n] := Var.new w [.int .i64 3, .int .i64 p, .bool false, .int .i64 n] 49
        have hz : w.heap.size < (w.alloc (.cells #[.int .i64 3, .int .i64 p, .bool false, .int .i64 n] 49)).heap.size := by simp
        go_enter Try.func138, Try.ntmps138
        go_wp2_with fail
        generalize w.alloc (.cells #[.int .i64 3, .int .i64 p, .bool false, .int .i64 n] 49) = W0 at t0 hb0 hz ⊢
        refine (HU.out _).mono ?_
        rintro e w1 ⟨rfl, hb1⟩
        have hb := btr hb0 hb1
        have T := t0.below hb1 hz
        have hz1 : w.heap.size < w1.heap.size := T.2
        clear hb0 hb1 t0 hz HU
        have as0 := as_out_no (.agg #[.int .i64 n])
        have as1 := as_out_fault (.agg #[.int .i64 n])
        have as2 := as_out_call (.agg #[.int .i64 n])
        have as3 := as_out_out (.agg #[.int .i64 n])
        have t2 : Var (w1.alloc (.cells #[.int .i64 n] 159)) w1.heap.size [.int .i64 n] := Var.new w1 [.int .i64 n] 159
        have hA : Below w1.heap.size w1 (w1.alloc (.cells #[.int .i64 n] 159)) := (Below.refl _ _).alloc (Nat.le_refl _) _
        have hB2 := btr hb hA
        have T2 := T.below hA hz1
        have hz2 : w1.heap.size < (w1.alloc (.cells #[.int .i64 n] 159)).heap.size := by simp
        have hz3 : w.heap.size < (w1.alloc (.cells #[.int .i64 n] 159)).heap.size := Nat.lt_trans hz1 hz2
        clear T hA hb
        go_wp2_with fail
        generalize w1.alloc (.cells #[.int .i64 n] 159) = W2 at t2 T2 hB2 hz2 hz3 ⊢
        refine Ord.wp_region_ord (fun w' => w'.cell? ⟨w.heap.size, 0, none⟩ = some (.int .i64 3) ∧ w'.cell? ⟨w.heap.size, 1, none⟩ = some (.int .i64 p) ∧ w'.cell? ⟨w.heap.size, 2, none⟩ = some (.bool false) ∧ w'.cell? ⟨w.heap.size, 3, none⟩ = some (.int .i64 n) ∧ w'.cell? ⟨w1.heap.size, 0, none⟩ = some (.int .i64 n)) [(0, true), (1, true), (2, false), (3, true), (4, true), (5, true), (6, true), (7, false), (8, true), (9, true), (10, true)] (by kernel_rfl) (by kernel_rfl) rfl (by kernel_rfl) (⟨T2.cell 0 (v := .int .i64 3) rfl, T2.cell 1 (v := .int .i64 p) rfl, T2.cell 2 (v := .bool false) rfl, T2.cell 3 (v := .int .i64 n) rfl, t2.cell 0 (v := .int .i64 n) rfl⟩) ?_
        simp only [Ord.ordOps, List.getElem?_toArray, List.getElem?_cons_zero, List.getElem?_cons_succ]
        repeat (first
          | (refine Ord.ord_plain (v := ?_) rfl (fun w' hS => ?_) ?_; rotate_left; (focus ((try dsimp only at hS); go_simp; first | done | with_reducible rfl)); simp only [Act.put, List.setIfInBounds_toArray, List.set_cons_zero, List.set_cons_succ])
          | (refine Ord.ord_skip (by rfl) ?_; simp only [Act.put, List.setIfInBounds_toArray, List.set_cons_zero, List.set_cons_succ])
          | (refine Ord.ord_take (v := ?_) (by rfl) (fun w' hS => ?_) ?_; rotate_left; (focus ((try dsimp only at hS); go_simp; first | done | with_reducible rfl)); simp only [Act.put, List.setIfInBounds_toArray, List.set_cons_zero, List.set_cons_succ]))
        have hbd : Below W2.heap.size W2 W2.drew := (Below.refl _ _).drew
        have hB3 := btr hB2 hbd
        have T3 := T2.below hbd hz3
        have t3 := t2.below hbd hz2
        have hz4 : W2.heap.size ≤ W2.drew.heap.size := hbd.size
        clear hbd
        refine Ord.ord_call (fun K hK => ?_)
        go_simp
        refine (HC.out _).mono ?_
        rintro e v4' ⟨rfl, hb4⟩
        have hB4 := btr hB3 hb4
        have T4 := T3.below hb4 (by omega)
        have t4 := t3.below hb4 (by omega)
        have hy4 := hb4.size
        refine hK.out _ _ (⟨T4.cell 0 (v := .int .i64 3) rfl, T4.cell 1 (v := .int .i64 p) rfl, T4.cell 2 (v := .bool false) rfl, T4.cell 3 (v := .int .i64 n) rfl, t4.cell 0 (v := .int .i64 n) rfl⟩) ?_
        clear hK K
        repeat (first
          | (refine Ord.ord_plain (v := ?_) rfl (fun w' hS => ?_) ?_; rotate_left; (focus ((try dsimp only at hS); go_simp; first | done | with_reducible rfl)); simp only [Act.put, List.setIfInBounds_toArray, List.set_cons_zero, List.set_cons_succ])
          | (refine Ord.ord_skip (by rfl) ?_; simp only [Act.put, List.setIfInBounds_toArray, List.set_cons_zero, List.set_cons_succ])
          | (refine Ord.ord_take (v := ?_) (by rfl) (fun w' hS => ?_) ?_; rotate_left; (focus ((try dsimp only at hS); go_simp; first | done | with_reducible rfl)); simp only [Act.put, List.setIfInBounds_toArray, List.set_cons_zero, List.set_cons_succ]))
        refine Ord.ord_call (fun K hK => ?_)
        go_simp
        refine (HM.out _).mono ?_
        rintro e v5' ⟨rfl, hb5⟩
        have hB5 := btr hB4 hb5
        have T5 := T4.below hb5 (by omega)
        have t5 := t4.below hb5 (by omega)
        have hy5 := hb5.size
        refine hK.out _ _ (⟨T5.cell 0 (v := .int .i64 3) rfl, T5.cell 1 (v := .int .i64 p) rfl, T5.cell 2 (v := .bool false) rfl, T5.cell 3 (v := .int .i64 n) rfl, t5.cell 0 (v := .int .i64 n) rfl⟩) ?_
        clear hK K
        repeat (first
          | (refine Ord.ord_plain (v := ?_) rfl (fun w' hS => ?_) ?_; rotate_left; (focus ((try dsimp only at hS); go_simp; first | done | with_reducible rfl)); simp only [Act.put, List.setIfInBounds_toArray, List.set_cons_zero, List.set_cons_succ])
          | (refine Ord.ord_skip (by rfl) ?_; simp only [Act.put, List.setIfInBounds_toArray, List.set_cons_zero, List.set_cons_succ])
          | (refine Ord.ord_take (v := ?_) (by rfl) (fun w' hS => ?_) ?_; rotate_left; (focus ((try dsimp only at hS); go_simp; first | done | with_reducible rfl)); simp only [Act.put, List.setIfInBounds_toArray, List.set_cons_zero, List.set_cons_succ]))
        refine Ord.ord_nil ?_
        have HBF := Lib.hid hB5
        clear hB2 hB3 hB4 hB5
        go_wp2_with fail
        go_ret
        exact ⟨by rw [HV.out]; rfl, HBF.out⟩
      · have hp' : (p == 0) = false := by simpa using hp
        have HV := Lib.hid (show exitOk (3, p, true, n) = false from by simp [exitOk, hi, hp])
        clear hi hp
        have HU := Lib.hid (fun V : World => impl_usedBy 3 p true n V)
        rw [usedV_3] at HU
        have hb0 : Below w.heap.size w (w.alloc (.cells #[.int .i64 3, .int .i64 p, .bool true, .int .i64 n] 49)) := (Below.refl _ _).alloc (Nat.le_refl _) _
        have t0 : Var (w.alloc (.cells #[.int .i64 3, .int .i64 p, .bool true, .int .i64 n] 49)) w.heap.size [.int .i64 3, .int .i64 p, .bool true, .int .i64 n] := Var.new w [.int .i64 3, .int .i64 p, .bool true, .int .i64 n] 49
        have hz : w.heap.size < (w.alloc (.cells #[.int .i64 3, .int .i64 p, .bool true, .int .i64 n] 49)).heap.size := by simp
        go_enter Try.func138, Try.ntmps138
        go_wp2_with fail
        generalize w.alloc (.cells #[.int .i64 3, .int .i64 p, .bool true, .int .i64 n] 49) = W0 at t0 hb0 hz ⊢
        refine (HU.out _).mono ?_
        rintro e w1 ⟨rfl, hb1⟩
        have hb := btr hb0 hb1
        have T := t0.below hb1 hz
        have hz1 : w.heap.size < w1.heap.size := T.2
        clear hb0 hb1 t0 hz HU
        have as0 := as_out_no (.agg #[.int .i64 n])
        have as1 := as_out_fault (.agg #[.int .i64 n])
        have as2 := as_out_call (.agg #[.int .i64 n])
        have as3 := as_out_out (.agg #[.int .i64 n])
        have t2 : Var (w1.alloc (.cells #[.int .i64 n] 159)) w1.heap.size [.int .i64 n] := Var.new w1 [.int .i64 n] 159
        have hA : Below w1.heap.size w1 (w1.alloc (.cells #[.int .i64 n] 159)) := (Below.refl _ _).alloc (Nat.le_refl _) _
        have hB2 := btr hb hA
        have T2 := T.below hA hz1
        have hz2 : w1.heap.size < (w1.alloc (.cells #[.int .i64 n] 159)).heap.size := by simp
        have hz3 : w.heap.size < (w1.alloc (.cells #[.int .i64 n] 159)).heap.size := Nat.lt_trans hz1 hz2
        clear T hA hb
        go_wp2_with fail
        generalize w1.alloc (.cells #[.int .i64 n] 159) = W2 at t2 T2 hB2 hz2 hz3 ⊢
        refine Ord.wp_region_ord (fun w' => w'.cell? ⟨w.heap.size, 0, none⟩ = some (.int .i64 3) ∧ w'.cell? ⟨w.heap.size, 1, none⟩ = some (.int .i64 p) ∧ w'.cell? ⟨w.heap.size, 2, none⟩ = some (.bool true) ∧ w'.cell? ⟨w.heap.size, 3, none⟩ = some (.int .i64 n) ∧ w'.cell? ⟨w1.heap.size, 0, none⟩ = some (.int .i64 n)) [(0, true), (1, true), (2, false), (3, true), (4, true), (5, true), (6, true), (7, false), (8, true), (9, true), (10, true)] (by kernel_rfl) (by kernel_rfl) rfl (by kernel_rfl) (⟨T2.cell 0 (v := .int .i64 3) rfl, T2.cell 1 (v := .int .i64 p) rfl, T2.cell 2 (v := .bool true) rfl, T2.cell 3 (v := .int .i64 n) rfl, t2.cell 0 (v := .int .i64 n) rfl⟩) ?_
        simp only [Ord.ordOps, List.getElem?_toArray, List.getElem?_cons_zero, List.getElem?_cons_succ]
        repeat (first
          | (refine Ord.ord_plain (v := ?_) rfl (fun w' hS => ?_) ?_; rotate_left; (focus ((try dsimp only at hS); go_simp; first | done | with_reducible rfl)); simp only [Act.put, List.setIfInBounds_toArray, List.set_cons_zero, List.set_cons_succ])
          | (refine Ord.ord_skip (by rfl) ?_; simp only [Act.put, List.setIfInBounds_toArray, List.set_cons_zero, List.set_cons_succ])
          | (refine Ord.ord_take (v := ?_) (by rfl) (fun w' hS => ?_) ?_; rotate_left; (focus ((try dsimp only at hS); go_simp; first | done | with_reducible rfl)); simp only [Act.put, List.setIfInBounds_toArray, List.set_cons_zero, List.set_cons_succ]))
        have hbd : Below W2.heap.size W2 W2.drew := (Below.refl _ _).drew
        have hB3 := btr hB2 hbd
        have T3 := T2.below hbd hz3
        have t3 := t2.below hbd hz2
        have hz4 : W2.heap.size ≤ W2.drew.heap.size := hbd.size
        clear hbd
        refine Ord.ord_call (fun K hK => ?_)
        go_simp
        refine (HC.out _).mono ?_
        rintro e v4' ⟨rfl, hb4⟩
        have hB4 := btr hB3 hb4
        have T4 := T3.below hb4 (by omega)
        have t4 := t3.below hb4 (by omega)
        have hy4 := hb4.size
        refine hK.out _ _ (⟨T4.cell 0 (v := .int .i64 3) rfl, T4.cell 1 (v := .int .i64 p) rfl, T4.cell 2 (v := .bool true) rfl, T4.cell 3 (v := .int .i64 n) rfl, t4.cell 0 (v := .int .i64 n) rfl⟩) ?_
        clear hK K
        repeat (first
          | (refine Ord.ord_plain (v := ?_) rfl (fun w' hS => ?_) ?_; rotate_left; (focus ((try dsimp only at hS); go_simp; first | done | with_reducible rfl)); simp only [Act.put, List.setIfInBounds_toArray, List.set_cons_zero, List.set_cons_succ])
          | (refine Ord.ord_skip (by rfl) ?_; simp only [Act.put, List.setIfInBounds_toArray, List.set_cons_zero, List.set_cons_succ])
          | (refine Ord.ord_take (v := ?_) (by rfl) (fun w' hS => ?_) ?_; rotate_left; (focus ((try dsimp only at hS); go_simp; first | done | with_reducible rfl)); simp only [Act.put, List.setIfInBounds_toArray, List.set_cons_zero, List.set_cons_succ]))
        refine Ord.ord_call (fun K hK => ?_)
        go_simp
        refine (HM.out _).mono ?_
        rintro e v5' ⟨rfl, hb5⟩
        have hB5 := btr hB4 hb5
        have T5 := T4.below hb5 (by omega)
        have t5 := t4.below hb5 (by omega)
        have hy5 := hb5.size
        refine hK.out _ _ (⟨T5.cell 0 (v := .int .i64 3) rfl, T5.cell 1 (v := .int .i64 p) rfl, T5.cell 2 (v := .bool true) rfl, T5.cell 3 (v := .int .i64 n) rfl, t5.cell 0 (v := .int .i64 n) rfl⟩) ?_
        clear hK K
        repeat (first
          | (refine Ord.ord_plain (v := ?_) rfl (fun w' hS => ?_) ?_; rotate_left; (focus ((try dsimp only at hS); go_simp; first | done | with_reducible rfl)); simp only [Act.put, List.setIfInBounds_toArray, List.set_cons_zero, List.set_cons_succ])
          | (refine Ord.ord_skip (by rfl) ?_; simp only [Act.put, List.setIfInBounds_toArray, List.set_cons_zero, List.set_cons_succ])
          | (refine Ord.ord_take (v := ?_) (by rfl) (fun w' hS => ?_) ?_; rotate_left; (focus ((try dsimp only at hS); go_simp; first | done | with_reducible rfl)); simp only [Act.put, List.setIfInBounds_toArray, List.set_cons_zero, List.set_cons_succ]))
        refine Ord.ord_nil ?_
        have HBF := Lib.hid hB5
        clear hB2 hB3 hB4 hB5
        go_wp2_with fail
        go_ret
        exact ⟨by rw [HV.out]; rfl, HBF.out⟩
  · have HV := Lib.hid (exitOk_else (p := p) (n := n) (w := q) h)
    have HU := Lib.hid (fun V : World => impl_usedBy k p q n V)
    rw [usedV_else p q n h] at HU
    have hb0 : Below w.heap.size w (w.alloc (.cells #[.int .i64 k, .int .i64 p, .bool q, .int .i64 n] 49)) := (Below.refl _ _).alloc (Nat.le_refl _) _
    have t0 : Var (w.alloc (.cells #[.int .i64 k, .int .i64 p, .bool q, .int .i64 n] 49)) w.heap.size [.int .i64 k, .int .i64 p, .bool q, .int .i64 n] := Var.new w [.int .i64 k, .int .i64 p, .bool q, .int .i64 n] 49
    have hz : w.heap.size < (w.alloc (.cells #[.int .i64 k, .int .i64 p, .bool q, .int .i64 n] 49)).heap.size := by simp
    go_enter Try.func138, Try.ntmps138
    go_wp2_with fail
    generalize w.alloc (.cells #[.int .i64 k, .int .i64 p, .bool q, .int .i64 n] 49) = W0 at t0 hb0 hz ⊢
    refine (HU.out _).mono ?_
    rintro e w1 ⟨rfl, hb1⟩
    have hb := btr hb0 hb1
    have T := t0.below hb1 hz
    have hz1 : w.heap.size < w1.heap.size := T.2
    clear hb0 hb1 t0 hz HU
    have as0 := as_nil_no
    have as1 := as_nil_fault
    have as2 := as_nil_call
    have as3 := as_nil_out
    have as4 := as_nil_halt
    have HB := Lib.hid hb
    clear T hb hz1 h
    go_wp2_with fail
    go_ret
    exact ⟨by rw [HV.out]; rfl, HB.out⟩
end Go.Proofs.Ytldgadmpclgfhaa.Exits
namespace Go.Proofs.Ytldgadmpclgfhaa.Ctls
set_option maxRecDepth 100000
open Go.ChangeShapes Go.WideShapes Go.ChangeAt Go.RowKit
open Go.Proofs.Ytldgadmpclgfhaa.Base Go.Proofs.Ytldgadmpclgfhaa.Mem Go.Proofs.Ytldgadmpclgfhaa.Data Go.Proofs.Ytldgadmpclgfhaa.Ints Go.Proofs.Ytldgadmpclgfhaa.Slots
set_option linter.unusedVariables false
set_option linter.unusedSimpArgs false
theorem impl_trapsOk (n : Int) (w : World) :
    Calls Try.prog 148 #[.int .i64 n] w fun e w' => e = .returned (.bool (inB n 0 3)) ∧ w = w' := by
  have hv : inB n 0 3 = (decide (n ≥ 0) && decide (n ≤ 3)) := rfl
  cases h1 : decide (n ≥ 0)
  all_goals
    cases h2 : decide (n ≤ 3)
    all_goals
      rw [h1, h2] at hv
      simp only [Bool.and_false, Bool.and_true] at hv
      rw [hv]; clear hv
      go_enter Try.func148, Try.ntmps148
      go_wp2
      go_ret
      exact ⟨rfl, rfl⟩
theorem impl_postOk (n : Int) (w : World) :
    Calls Try.prog 106 #[.int .i64 n] w fun e w' => e = .returned (.bool (inB n 0 255)) ∧ w = w' := by
  have hv : inB n 0 255 = (decide (n ≥ 0) && decide (n ≤ 255)) := rfl
  cases h1 : decide (n ≥ 0)
  all_goals
    cases h2 : decide (n ≤ 255)
    all_goals
      rw [h1, h2] at hv
      simp only [Bool.and_false, Bool.and_true] at hv
      rw [hv]; clear hv
      go_enter Try.func106, Try.ntmps106
      go_wp2
      go_ret
      exact ⟨rfl, rfl⟩
/-- The faults that four tests give, in their order. -/
def faultsL (p q r s : Bool) : List Int :=
  (if p = true then [1] else []) ++ ((if q = true then [2] else []) ++ ((if r = true then [3] else []) ++ (if s = true then [4] else [])))
/-- The first fault at or behind the number f. -/
def nextF (p q r s : Bool) (f : Int) : Int :=
  if f = 1 then (if p = true then 1 else if q = true then 2 else if r = true then 3 else if s = true then 4 else 0)
  else if f = 2 then (if q = true then 2 else if r = true then 3 else if s = true then 4 else 0)
  else if f = 3 then (if r = true then 3 else if s = true then 4 else 0)
  else if f = 4 then (if s = true then 4 else 0) else 0
def p1 (s : CT) : Bool := !inB s.1 0 3
def p2 (s : CT) : Bool := !inB s.2.1 0 255
def p3 (s : CT) : Bool := (s.2.1 != 0) && !s.2.2
def p4 (s : CT) : Bool := (s.2.1 != 0) && (s.1 == 2)
def nx (s : CT) (f : Int) : Int := nextF (p1 s) (p2 s) (p3 s) (p4 s) f
theorem ctlF_is (s : CT) : ctlF s = faultsL (p1 s) (p2 s) (p3 s) (p4 s) := by
  unfold ctlF faultsL p1 p2 p3 p4
  congr 1
  · cases inB s.1 0 3 <;> simp
  · congr 1
    · cases inB s.2.1 0 255 <;> simp
    · congr 1
      · by_cases h : s.2.1 = 0 <;> cases s.2.2 <;> simp [h]
      · by_cases h : s.2.1 = 0 <;> by_cases h2 : s.1 = 2 <;> simp [h, h2]
theorem ok_next : ∀ p q r s : Bool, ((faultsL p q r s).length == 0) = (nextF p q r s 1 == 0) := by decide +kernel
theorem ctlOk_is (s : CT) : ctlOk s = (nx s 1 == 0) := by unfold ctlOk nx; rw [ctlF_is]; exact ok_next _ _ _ _
set_option maxRecDepth 100000 in
set_option maxHeartbeats 8000000 in
theorem impl_faultFrom (a b f : Int) (o : Bool) (w : World) (hf : f = 1 ∨ f = 2 ∨ f = 3 ∨ f = 4 ∨ f = 5) :
    Calls Try.prog 142 #[.agg #[.int .i64 a, .int .i64 b, .bool o], .int .i64 f] w fun e w' => e = .returned (.int .i64 (nx (a, b, o) f)) ∧ Below w.heap.size w w' := by
  have hb0 : Below w.heap.size w (w.alloc (.cells #[.int .i64 a, .int .i64 b, .bool o] 47)) := (Below.refl _ _).alloc (Nat.le_refl _) _
  have t0 := Var.new w [.int .i64 a, .int .i64 b, .bool o] 47
  change Var (w.alloc (.cells #[.int .i64 a, .int .i64 b, .bool o] 47)) w.heap.size [.int .i64 a, .int .i64 b, .bool o] at t0
  have K1 := fun V : World => impl_trapsOk a V
  have K2 := fun V : World => impl_postOk b V
  have hv : nx (a, b, o) f = nextF (!inB a 0 3) (!inB b 0 255) ((b != 0) && !o) ((b != 0) && (a == 2)) f := rfl
  generalize inB a 0 3 = x at K1 hv
  generalize inB b 0 255 = y at K2 hv
  rcases hf with rfl | rfl | rfl | rfl | rfl
  · skip
    cases x
    · skip
      have HV := Lib.hid (show nx (a, b, o) 1 = 1 from by rw [hv]; simp [nextF])
      clear hv
      go_enter Try.func142, Try.ntmps142
      go_wp2_with fail
      generalize w.alloc (.cells #[.int .i64 a, .int .i64 b, .bool o] 47) = W0 at t0 hb0 ⊢
      have v0 := t0.cell 0 (v := .int .i64 a) rfl
      have v1 := t0.cell 1 (v := .int .i64 b) rfl
      have v2 := t0.cell 2 (v := .bool o) rfl
      refine (K1 _).mono ?_
      rintro e w' ⟨rfl, rfl⟩
      go_wp2_with fail
      go_ret
      exact ⟨by rw [HV.out]; rfl, hb0⟩
    · skip
      cases y
      · skip
        have HV := Lib.hid (show nx (a, b, o) 1 = 2 from by rw [hv]; simp [nextF])
        clear hv
        go_enter Try.func142, Try.ntmps142
        go_wp2_with fail
        generalize w.alloc (.cells #[.int .i64 a, .int .i64 b, .bool o] 47) = W0 at t0 hb0 ⊢
        have v0 := t0.cell 0 (v := .int .i64 a) rfl
        have v1 := t0.cell 1 (v := .int .i64 b) rfl
        have v2 := t0.cell 2 (v := .bool o) rfl
        refine (K1 _).mono ?_
        rintro e w' ⟨rfl, rfl⟩
        go_wp2_with fail
        refine (K2 _).mono ?_
        rintro e w' ⟨rfl, rfl⟩
        go_wp2_with fail
        go_ret
        exact ⟨by rw [HV.out]; rfl, hb0⟩
      · skip
        by_cases hb2 : b = 0
        · subst hb2
          have HV := Lib.hid (show nx (a, 0, o) 1 = 0 from by rw [hv]; simp [nextF])
          clear hv
          go_enter Try.func142, Try.ntmps142
          go_wp2_with fail
          generalize w.alloc (.cells #[.int .i64 a, .int .i64 0, .bool o] 47) = W0 at t0 hb0 ⊢
          have v0 := t0.cell 0 (v := .int .i64 a) rfl
          have v1 := t0.cell 1 (v := .int .i64 0) rfl
          have v2 := t0.cell 2 (v := .bool o) rfl
          refine (K1 _).mono ?_
          rintro e w' ⟨rfl, rfl⟩
          go_wp2_with fail
          refine (K2 _).mono ?_
          rintro e w' ⟨rfl, rfl⟩
          go_wp2_with fail
          go_ret
          exact ⟨by rw [HV.out]; rfl, hb0⟩
        · have hbn : (b != 0) = true := by simpa using hb2
          cases o
          · skip
            have HV := Lib.hid (show nx (a, b, false) 1 = 3 from by rw [hv]; simp [nextF, hbn])
            clear hv
            go_enter Try.func142, Try.ntmps142
            go_wp2_with fail
            generalize w.alloc (.cells #[.int .i64 a, .int .i64 b, .bool false] 47) = W0 at t0 hb0 ⊢
            have v0 := t0.cell 0 (v := .int .i64 a) rfl
            have v1 := t0.cell 1 (v := .int .i64 b) rfl
            have v2 := t0.cell 2 (v := .bool false) rfl
            refine (K1 _).mono ?_
            rintro e w' ⟨rfl, rfl⟩
            go_wp2_with fail
            refine (K2 _).mono ?_
            rintro e w' ⟨rfl, rfl⟩
            go_wp2_with fail
            go_ret
            exact ⟨by rw [HV.out]; rfl, hb0⟩
          · skip
            by_cases ha2 : a = 2
            · subst ha2
              have HV := Lib.hid (show nx (2, b, true) 1 = 4 from by rw [hv]; simp [nextF, hbn])
              clear hv
              go_enter Try.func142, Try.ntmps142
              go_wp2_with fail
              generalize w.alloc (.cells #[.int .i64 2, .int .i64 b, .bool true] 47) = W0 at t0 hb0 ⊢
              have v0 := t0.cell 0 (v := .int .i64 2) rfl
              have v1 := t0.cell 1 (v := .int .i64 b) rfl
              have v2 := t0.cell 2 (v := .bool true) rfl
              refine (K1 _).mono ?_
              rintro e w' ⟨rfl, rfl⟩
              go_wp2_with fail
              refine (K2 _).mono ?_
              rintro e w' ⟨rfl, rfl⟩
              go_wp2_with fail
              go_ret
              exact ⟨by rw [HV.out]; rfl, hb0⟩
            · have han : (a == 2) = false := by simpa using ha2
              have HV := Lib.hid (show nx (a, b, true) 1 = 0 from by rw [hv]; simp [nextF, hbn, han])
              clear hv
              go_enter Try.func142, Try.ntmps142
              go_wp2_with fail
              generalize w.alloc (.cells #[.int .i64 a, .int .i64 b, .bool true] 47) = W0 at t0 hb0 ⊢
              have v0 := t0.cell 0 (v := .int .i64 a) rfl
              have v1 := t0.cell 1 (v := .int .i64 b) rfl
              have v2 := t0.cell 2 (v := .bool true) rfl
              refine (K1 _).mono ?_
              rintro e w' ⟨rfl, rfl⟩
              go_wp2_with fail
              refine (K2 _).mono ?_
              rintro e w' ⟨rfl, rfl⟩
              go_wp2_with fail
              go_ret
              exact ⟨by rw [HV.out]; rfl, hb0⟩
  · skip
    cases y
    · skip
      have HV := Lib.hid (show nx (a, b, o) 2 = 2 from by rw [hv]; simp [nextF])
      clear hv
      go_enter Try.func142, Try.ntmps142
      go_wp2_with fail
      generalize w.alloc (.cells #[.int .i64 a, .int .i64 b, .bool o] 47) = W0 at t0 hb0 ⊢
      have v0 := t0.cell 0 (v := .int .i64 a) rfl
      have v1 := t0.cell 1 (v := .int .i64 b) rfl
      have v2 := t0.cell 2 (v := .bool o) rfl
      refine (K2 _).mono ?_
      rintro e w' ⟨rfl, rfl⟩
      go_wp2_with fail
      go_ret
      exact ⟨by rw [HV.out]; rfl, hb0⟩
    · skip
      by_cases hb2 : b = 0
      · subst hb2
        have HV := Lib.hid (show nx (a, 0, o) 2 = 0 from by rw [hv]; simp [nextF])
        clear hv
        go_enter Try.func142, Try.ntmps142
        go_wp2_with fail
        generalize w.alloc (.cells #[.int .i64 a, .int .i64 0, .bool o] 47) = W0 at t0 hb0 ⊢
        have v0 := t0.cell 0 (v := .int .i64 a) rfl
        have v1 := t0.cell 1 (v := .int .i64 0) rfl
        have v2 := t0.cell 2 (v := .bool o) rfl
        refine (K2 _).mono ?_
        rintro e w' ⟨rfl, rfl⟩
        go_wp2_with fail
        go_ret
        exact ⟨by rw [HV.out]; rfl, hb0⟩
      · have hbn : (b != 0) = true := by simpa using hb2
        cases o
        · skip
          have HV := Lib.hid (show nx (a, b, false) 2 = 3 from by rw [hv]; simp [nextF, hbn])
          clear hv
          go_enter Try.func142, Try.ntmps142
          go_wp2_with fail
          generalize w.alloc (.cells #[.int .i64 a, .int .i64 b, .bool false] 47) = W0 at t0 hb0 ⊢
          have v0 := t0.cell 0 (v := .int .i64 a) rfl
          have v1 := t0.cell 1 (v := .int .i64 b) rfl
          have v2 := t0.cell 2 (v := .bool false) rfl
          refine (K2 _).mono ?_
          rintro e w' ⟨rfl, rfl⟩
          go_wp2_with fail
          go_ret
          exact ⟨by rw [HV.out]; rfl, hb0⟩
        · skip
          by_cases ha2 : a = 2
          · subst ha2
            have HV := Lib.hid (show nx (2, b, true) 2 = 4 from by rw [hv]; simp [nextF, hbn])
            clear hv
            go_enter Try.func142, Try.ntmps142
            go_wp2_with fail
            generalize w.alloc (.cells #[.int .i64 2, .int .i64 b, .bool true] 47) = W0 at t0 hb0 ⊢
            have v0 := t0.cell 0 (v := .int .i64 2) rfl
            have v1 := t0.cell 1 (v := .int .i64 b) rfl
            have v2 := t0.cell 2 (v := .bool true) rfl
            refine (K2 _).mono ?_
            rintro e w' ⟨rfl, rfl⟩
            go_wp2_with fail
            go_ret
            exact ⟨by rw [HV.out]; rfl, hb0⟩
          · have han : (a == 2) = false := by simpa using ha2
            have HV := Lib.hid (show nx (a, b, true) 2 = 0 from by rw [hv]; simp [nextF, hbn, han])
            clear hv
            go_enter Try.func142, Try.ntmps142
            go_wp2_with fail
            generalize w.alloc (.cells #[.int .i64 a, .int .i64 b, .bool true] 47) = W0 at t0 hb0 ⊢
            have v0 := t0.cell 0 (v := .int .i64 a) rfl
            have v1 := t0.cell 1 (v := .int .i64 b) rfl
            have v2 := t0.cell 2 (v := .bool true) rfl
            refine (K2 _).mono ?_
            rintro e w' ⟨rfl, rfl⟩
            go_wp2_with fail
            go_ret
            exact ⟨by rw [HV.out]; rfl, hb0⟩
  · skip
    by_cases hb2 : b = 0
    · subst hb2
      have HV := Lib.hid (show nx (a, 0, o) 3 = 0 from by rw [hv]; simp [nextF])
      clear hv
      go_enter Try.func142, Try.ntmps142
      go_wp2_with fail
      generalize w.alloc (.cells #[.int .i64 a, .int .i64 0, .bool o] 47) = W0 at t0 hb0 ⊢
      have v0 := t0.cell 0 (v := .int .i64 a) rfl
      have v1 := t0.cell 1 (v := .int .i64 0) rfl
      have v2 := t0.cell 2 (v := .bool o) rfl
      go_ret
      exact ⟨by rw [HV.out]; rfl, hb0⟩
    · have hbn : (b != 0) = true := by simpa using hb2
      cases o
      · skip
        have HV := Lib.hid (show nx (a, b, false) 3 = 3 from by rw [hv]; simp [nextF, hbn])
        clear hv
        go_enter Try.func142, Try.ntmps142
        go_wp2_with fail
        generalize w.alloc (.cells #[.int .i64 a, .int .i64 b, .bool false] 47) = W0 at t0 hb0 ⊢
        have v0 := t0.cell 0 (v := .int .i64 a) rfl
        have v1 := t0.cell 1 (v := .int .i64 b) rfl
        have v2 := t0.cell 2 (v := .bool false) rfl
        go_ret
        exact ⟨by rw [HV.out]; rfl, hb0⟩
      · skip
        by_cases ha2 : a = 2
        · subst ha2
          have HV := Lib.hid (show nx (2, b, true) 3 = 4 from by rw [hv]; simp [nextF, hbn])
          clear hv
          go_enter Try.func142, Try.ntmps142
          go_wp2_with fail
          generalize w.alloc (.cells #[.int .i64 2, .int .i64 b, .bool true] 47) = W0 at t0 hb0 ⊢
          have v0 := t0.cell 0 (v := .int .i64 2) rfl
          have v1 := t0.cell 1 (v := .int .i64 b) rfl
          have v2 := t0.cell 2 (v := .bool true) rfl
          go_ret
          exact ⟨by rw [HV.out]; rfl, hb0⟩
        · have han : (a == 2) = false := by simpa using ha2
          have HV := Lib.hid (show nx (a, b, true) 3 = 0 from by rw [hv]; simp [nextF, hbn, han])
          clear hv
          go_enter Try.func142, Try.ntmps142
          go_wp2_with fail
          generalize w.alloc (.cells #[.int .i64 a, .int .i64 b, .bool true] 47) = W0 at t0 hb0 ⊢
          have v0 := t0.cell 0 (v := .int .i64 a) rfl
          have v1 := t0.cell 1 (v := .int .i64 b) rfl
          have v2 := t0.cell 2 (v := .bool true) rfl
          go_ret
          exact ⟨by rw [HV.out]; rfl, hb0⟩
  · skip
    by_cases hb2 : b = 0
    · subst hb2
      have HV := Lib.hid (show nx (a, 0, o) 4 = 0 from by rw [hv]; simp [nextF])
      clear hv
      go_enter Try.func142, Try.ntmps142
      go_wp2_with fail
      generalize w.alloc (.cells #[.int .i64 a, .int .i64 0, .bool o] 47) = W0 at t0 hb0 ⊢
      have v0 := t0.cell 0 (v := .int .i64 a) rfl
      have v1 := t0.cell 1 (v := .int .i64 0) rfl
      have v2 := t0.cell 2 (v := .bool o) rfl
      go_ret
      exact ⟨by rw [HV.out]; rfl, hb0⟩
    · have hbn : (b != 0) = true := by simpa using hb2
      by_cases ha2 : a = 2
      · subst ha2
        have HV := Lib.hid (show nx (2, b, o) 4 = 4 from by rw [hv]; simp [nextF, hbn])
        clear hv
        go_enter Try.func142, Try.ntmps142
        go_wp2_with fail
        generalize w.alloc (.cells #[.int .i64 2, .int .i64 b, .bool o] 47) = W0 at t0 hb0 ⊢
        have v0 := t0.cell 0 (v := .int .i64 2) rfl
        have v1 := t0.cell 1 (v := .int .i64 b) rfl
        have v2 := t0.cell 2 (v := .bool o) rfl
        go_ret
        exact ⟨by rw [HV.out]; rfl, hb0⟩
      · have han : (a == 2) = false := by simpa using ha2
        have HV := Lib.hid (show nx (a, b, o) 4 = 0 from by rw [hv]; simp [nextF, hbn, han])
        clear hv
        go_enter Try.func142, Try.ntmps142
        go_wp2_with fail
        generalize w.alloc (.cells #[.int .i64 a, .int .i64 b, .bool o] 47) = W0 at t0 hb0 ⊢
        have v0 := t0.cell 0 (v := .int .i64 a) rfl
        have v1 := t0.cell 1 (v := .int .i64 b) rfl
        have v2 := t0.cell 2 (v := .bool o) rfl
        go_ret
        exact ⟨by rw [HV.out]; rfl, hb0⟩
  · skip
    have HV := Lib.hid (show nx (a, b, o) 5 = 0 from by rw [hv]; simp [nextF])
    clear hv
    go_enter Try.func142, Try.ntmps142
    go_wp2_with fail
    generalize w.alloc (.cells #[.int .i64 a, .int .i64 b, .bool o] 47) = W0 at t0 hb0 ⊢
    have v0 := t0.cell 0 (v := .int .i64 a) rfl
    have v1 := t0.cell 1 (v := .int .i64 b) rfl
    have v2 := t0.cell 2 (v := .bool o) rfl
    go_ret
    exact ⟨by rw [HV.out]; rfl, hb0⟩
theorem impl_ctlOk (a b : Int) (o : Bool) (w : World) (ws : wfC (a, b, o)) :
    Calls Try.prog 137 #[.agg #[.int .i64 a, .int .i64 b, .bool o]] w fun e w' => e = .returned (.bool (ctlOk (a, b, o))) ∧ Below w.heap.size w w' := by
  have H1 := Lib.hid (fun V : World => impl_faultFrom a b 1 o V (.inl rfl))
  have HV := Lib.hid (ctlOk_is (a, b, o))
  generalize nx (a, b, o) 1 = z at H1 HV
  go_enter Try.func137, Try.ntmps137
  go_wp2_with fail
  refine (H1.out _).mono ?_
  rintro e w1 ⟨rfl, hb1⟩
  have HB1 := Lib.hid (btr ((Below.refl w.heap.size w).alloc (Nat.le_refl _) (.cells #[.int .i64 a, .int .i64 b, .bool o] 47)) hb1)
  clear hb1
  go_wp2_with fail
  go_ret
  exact ⟨by rw [HV.out]; rfl, HB1.out⟩
end Go.Proofs.Ytldgadmpclgfhaa.Ctls
namespace Go.Proofs.Ytldgadmpclgfhaa.Inss
set_option maxRecDepth 100000
open Go.ChangeShapes Go.WideShapes Go.ChangeAt Go.RowKit
open Go.Proofs.Ytldgadmpclgfhaa.Base Go.Proofs.Ytldgadmpclgfhaa.Mem Go.Proofs.Ytldgadmpclgfhaa.Data Go.Proofs.Ytldgadmpclgfhaa.Addrs Go.Proofs.Ytldgadmpclgfhaa.Rights
set_option linter.unusedVariables false
set_option linter.unusedSimpArgs false
/-- The largest X of an operation. -/
def topX (o : Int) : Int := if o = 1 ∨ o = 2 ∨ o = 5 ∨ o = 6 then 99 else if o = 3 ∨ o = 4 then 15 else if o = 7 then 0 else if o = 8 then 11 else -1
theorem insOk_top (o x : Int) : insOk (o, x) = (decide (0 ≤ x) && decide (x ≤ topX o)) := by
  unfold insOk topX
  dsimp only
  have hz : (x == 0) = (decide (0 ≤ x) && decide (x ≤ 0)) := by
    rw [Bool.eq_iff_iff, beq_iff_eq, Bool.and_eq_true, decide_eq_true_iff, decide_eq_true_iff]; omega
  have hb : ∀ k : Int, inB x 0 k = (decide (0 ≤ x) && decide (x ≤ k)) := fun k => by
    rw [Bool.eq_iff_iff, inB_iff, Bool.and_eq_true, decide_eq_true_iff, decide_eq_true_iff]
  have hn : false = (decide (0 ≤ x) && decide (x ≤ -1)) := by
    rw [eq_comm, Bool.and_eq_false_iff, decide_eq_false_iff_not, decide_eq_false_iff_not]; omega
  split
  · exact hb 99
  · split
    · exact hb 15
    · split
      · exact hz
      · split
        · exact hb 11
        · exact hn
set_option maxHeartbeats 4000000 in
theorem impl_topX (o : Int) (w : World) :
    Calls Try.prog 141 #[.int .i64 o] w fun e w' => e = .returned (.int .i64 (topX o)) ∧ w' = w := by
  rcases op_cases o with rfl | rfl | rfl | rfl | rfl | rfl | rfl | rfl | h
  iterate 8
    · go_enter Try.func141, Try.ntmps141
      go_wp2_with fail
      go_ret
      exact ⟨rfl, rfl⟩
  · have HV := Lib.hid (show topX o = -1 by
      simp only [beq_eq_false_iff_ne, ne_eq] at h
      simp [topX, h])
    obtain ⟨h1, h2, h3, h4, h5, h6, h7, h8⟩ := h
    go_enter Try.func141, Try.ntmps141
    go_wp2_with fail
    go_ret
    exact ⟨by rw [HV.out]; rfl, rfl⟩
set_option maxHeartbeats 4000000 in
theorem impl_insOk (o x : Int) (w : World) (ws : wfJ (o, x)) :
    Calls Try.prog 136 #[.agg #[.int .i64 o, .int .i64 x]] w fun e w' => e = .returned (.bool (insOk (o, x))) ∧ Below w.heap.size w w' := by
  have hb0 : Below w.heap.size w (w.alloc (.cells #[.int .i64 o, .int .i64 x] 111)) := (Below.refl _ _).alloc (Nat.le_refl _) _
  have k0 : (w.alloc (.cells #[.int .i64 o, .int .i64 x] 111)).cell? ⟨w.heap.size, 0, none⟩ = some (.int .i64 o) := cell_of_row _ _ 0 _ _ _ (heap_alloc_new w _)
  have k1 : (w.alloc (.cells #[.int .i64 o, .int .i64 x] 111)).cell? ⟨w.heap.size, 1, none⟩ = some (.int .i64 x) := cell_of_row _ _ 1 _ _ _ (heap_alloc_new w _)
  have HB := Lib.hid hb0
  have HC := Lib.hid (show ∀ V : World, Calls Try.prog 141 #[.int .i64 o] V fun e w' => e = .returned (.int .i64 (topX o)) ∧ w' = V from impl_topX o)
  have hv := insOk_top o x
  generalize topX o = t at hv HC
  clear hb0 ws
  by_cases h0 : 0 ≤ x
  · have hd : decide (x ≥ 0) = true := decide_eq_true h0
    rw [decide_eq_true h0, Bool.true_and] at hv
    have HV := Lib.hid hv
    clear hv h0
    go_enter Try.func136, Try.ntmps136
    go_wp2_with fail
    generalize w.alloc (.cells #[.int .i64 o, .int .i64 x] 111) = W at k0 k1 HB ⊢
    go_quiet ((go_at_call 141; exact Calls.quiet_of_same (HC.out _)))
    go_wp2_with fail
    go_ret
    exact ⟨by rw [HV.out]; rfl, btr HB.out (below_drewN (Below.refl _ _) _)⟩
  · have hd : decide (x ≥ 0) = false := decide_eq_false (by omega)
    rw [decide_eq_false h0, Bool.false_and] at hv
    have HV := Lib.hid hv
    clear hv h0
    go_enter Try.func136, Try.ntmps136
    go_wp2_with fail
    generalize w.alloc (.cells #[.int .i64 o, .int .i64 x] 111) = W at k0 k1 HB ⊢
    go_quiet ((go_at_call 141; exact Calls.quiet_of_same (HC.out _)))
    go_wp2_with fail
    go_ret
    exact ⟨by rw [HV.out]; rfl, btr HB.out (below_drewN (Below.refl _ _) _)⟩
theorem progOk_len {l : List JT} (h : l.length = 0 ∨ 12 < l.length) : progOk l = false := by
  unfold progOk
  rw [inB_false.2 (by omega), Bool.and_false]
set_option maxHeartbeats 2000000 in
theorem impl_progOk (A : Option Addr) (n c : Nat) (l : List JT) (w : World) (hn : n ≤ 1048576) (hl : l.length = n) (h1 : Lies w 0 w.heap.size A (jcells l)) (wl : wfJL l) :
    Calls Try.prog 127 #[.slice A n c] w fun e w' => e = .returned (.bool (progOk l)) ∧ Below w.heap.size w w' := by
  have H1 := Lib.hid h1
  have HL := Lib.hid hl
  have HW := Lib.hid wl
  clear h1 hl wl
  by_cases h0 : n = 0
  · subst h0
    have HV := Lib.hid (progOk_len (l := l) (.inl HL.out))
    go_enter Try.func127, Try.ntmps127
    go_wp2_with fail
    go_ret
    exact ⟨by rw [HV.out]; rfl, Below.refl _ _⟩
  · by_cases h12 : 12 < n
    · have HV := Lib.hid (progOk_len (l := l) (.inr (by rw [HL.out]; exact h12)))
      have e0 : ((n : Int) == 0) = false := by simpa using h0
      have e12 : decide ((n : Int) > 12) = true := decide_eq_true (by omega)
      go_enter Try.func127, Try.ntmps127
      go_wp2_with fail
      go_ret
      exact ⟨by rw [HV.out]; rfl, Below.refl _ _⟩
    · have e0 : ((n : Int) == 0) = false := by simpa using h0
      have e12 : decide ((n : Int) > 12) = false := decide_eq_false (by omega)
      go_enter Try.func127, Try.ntmps127
      go_wp2_with fail
      go_loopw [14] (fun i wr => ∃ (k : Nat), k ≤ n ∧ i = .int .i64 k ∧ (∀ (j : Nat) (hj : j < l.length), j < k → insOk l[j] = true) ∧ Below w.heap.size w wr) (fun i _ => n - (intOf i).toNat)
      case atStart => exact ⟨0, Nat.zero_le _, rfl, fun j hj h => absurd h (Nat.not_lt_zero _), Below.refl _ _⟩
      case round =>
        obtain ⟨k, hk, rfl, hall, hb⟩ := hrel
        have HA := Lib.hid hall
        have HB := Lib.hid hb
        clear hall
        by_cases hlt : k < n
        · have hkl : k < l.length := by have := HL.out; omega
          obtain ⟨b, off, rfl, _, hbw, c0, c1⟩ := j_at H1.out k hkl
          have d0 := (hb.cell (p := ⟨b, off + k * 2, none⟩) hbw).trans c0
          have d1 := (hb.cell (p := ⟨b, off + k * 2 + 1, none⟩) hbw).trans c1
          have hj0 : (0 : Int) ≤ (k : Int) := Int.natCast_nonneg _
          have hj1 : (k : Int) < (n : Int) := by omega
          have hcall := impl_insOk l[k].1 l[k].2 wr (HW.out _ (List.getElem_mem hkl))
          obtain ⟨v, hv⟩ : ∃ v, insOk l[k] = v := ⟨_, rfl⟩
          rw [show insOk (l[k].1, l[k].2) = v from hv] at hcall
          have HCALL := Lib.hid hcall
          have HV := Lib.hid hv
          clear hcall hv c0 c1 hb
          generalize l[k].1 = o at d0 HCALL
          generalize l[k].2 = x at d1 HCALL
          cases v
          · go_wp2_with fail
            refine HCALL.out.mono ?_
            rintro e w1 ⟨rfl, hb1⟩
            have HB1 := Lib.hid (btr HB.out hb1)
            clear hb1
            go_wp2_with fail
            go_ret
            exact ⟨by rw [progOk_no hkl HV.out]; rfl, HB1.out⟩
          · go_wp2_with fail
            refine HCALL.out.mono ?_
            rintro e w1 ⟨rfl, hb1⟩
            have HB1 := Lib.hid (btr HB.out hb1)
            clear hb1
            go_wp2_with fail
            go_roundw
            case rel =>
              refine ⟨k + 1, by omega, by go_num, fun j hj h => ?_, HB1.out⟩
              rcases Nat.lt_succ_iff_lt_or_eq.1 h with h2 | rfl
              · exact HA.out j hj h2
              · exact HV.out
            case measure => simp [intOf]; omega
        · obtain rfl : k = n := by omega
          have hv := progOk_yes (l := l) (fun j hj => HA.out j hj (by have := HL.out; omega))
          rw [HL.out, inB_iff.2 ⟨by omega, by omega⟩] at hv
          have HV := Lib.hid hv
          clear hv hb
          go_wp2_with fail
          go_ret
          exact ⟨by rw [HV.out]; rfl, HB.out⟩
end Go.Proofs.Ytldgadmpclgfhaa.Inss
namespace Go.Proofs.Ytldgadmpclgfhaa.Guests
set_option maxRecDepth 100000
open Go.ChangeShapes Go.WideShapes Go.ChangeAt Go.RowKit
open Go.Proofs.Ytldgadmpclgfhaa.Base Go.Proofs.Ytldgadmpclgfhaa.Mem Go.Proofs.Ytldgadmpclgfhaa.Data Go.Proofs.Ytldgadmpclgfhaa.Slots Go.Proofs.Ytldgadmpclgfhaa.Ints Go.Proofs.Ytldgadmpclgfhaa.Ctls Go.Proofs.Ytldgadmpclgfhaa.Exits Go.Proofs.Ytldgadmpclgfhaa.Stt Go.Proofs.Ytldgadmpclgfhaa.Irqs Go.Proofs.Ytldgadmpclgfhaa.Inss
set_option linter.unusedVariables false
set_option linter.unusedSimpArgs false
/-- The numbers of a guest are of an int's range. -/
def gnum (g : gT) : Prop := wfGuest g
theorem gnum_pd {g : gT} (h : gnum g) : (Lit.int .i64 g.pd).wf = true := h.2.2.2.2.2.2.1
theorem gnum_t {g : gT} (h : gnum g) : wfC g.t := h.2.2.2.2.2.1
theorem gnum_x {g : gT} (h : gnum g) : wfQ g.x := h.2.2.2.2.2.2.2.1
set_option maxRecDepth 100000 in
set_option maxHeartbeats 4000000 in
theorem impl_regs (g : gT) (cs : List Value) (w : World) (h : rG.rd w 0 w.heap.size g cs) : Calls Try.prog 117 #[.agg cs.toArray] w (fun e w' => e = .returned (.agg #[.int .i64 g.a, .int .i64 g.pc, .int .i64 g.t.1, .int .i64 g.t.2.1, .bool g.t.2.2, .int .i64 g.pd, .int .i64 g.x.1, .int .i64 g.x.2.1, .bool g.x.2.2.1, .int .i64 g.x.2.2.2, .bool g.hl]) ∧ Below w.heap.size w w') := by
  have hr := h
  obtain ⟨P0, P1, P2, P3, rfl, h0, h1, h2, h3⟩ := rG_rd h
  obtain ⟨PA0, Pc0, e0, hP0⟩ := lst_val h0
  subst e0
  obtain ⟨PA1, Pc1, e1, hP1⟩ := lst_val h1
  subst e1
  obtain ⟨PA2, Pc2, e2, hP2⟩ := lst_val h2
  subst e2
  obtain ⟨PA3, Pc3, e3, hP3⟩ := lst_val h3
  subst e3
  refine Sx.enter (args := [.agg #[.slice PA0 g.prog.length Pc0, .int .i64 g.a, .int .i64 g.pc, .slice PA1 g.wr.length Pc1, .slice PA2 g.lv.length Pc2, .int .i64 g.t.1, .int .i64 g.t.2.1, .bool g.t.2.2, .int .i64 g.pd, .int .i64 g.x.1, .int .i64 g.x.2.1, .bool g.x.2.2.1, .int .i64 g.x.2.2.2, .bool g.hl, .slice PA3 g.seen.length Pc3]]) Try.func117 rfl Try.ntmps117 rfl ?_
  refine Sx.C.seq ?_
  refine Sx.C.region ?_
  refine Sx.G.box 51 (.tmp 0) [.slice PA0 g.prog.length Pc0, .int .i64 g.a, .int .i64 g.pc, .slice PA1 g.wr.length Pc1, .slice PA2 g.lv.length Pc2, .int .i64 g.t.1, .int .i64 g.t.2.1, .bool g.t.2.2, .int .i64 g.pd, .int .i64 g.x.1, .int .i64 g.x.2.1, .bool g.x.2.2.1, .int .i64 g.x.2.2.2, .bool g.hl, .slice PA3 g.seen.length Pc3] rfl (by kernel_rfl) (by kernel_rfl) (fun b1 => ?_)
  refine Sx.G.alloc 135 (.agg #[.int .i64 0, .int .i64 0, .int .i64 0, .int .i64 0, .bool false, .int .i64 0, .int .i64 0, .int .i64 0, .bool false, .int .i64 0, .bool false]) [.int .i64 0, .int .i64 0, .int .i64 0, .int .i64 0, .bool false, .int .i64 0, .int .i64 0, .int .i64 0, .bool false, .int .i64 0, .bool false] rfl (by kernel_rfl) (fun w => by kernel_rfl) (by kernel_rfl) (fun b2 => ?_)
  refine Sx.G.nil ?_
  refine Sx.E.next ?_
  refine Sx.C.seq ?_
  refine Sx.C.region ?_
  refine Sx.G.pure (.pointer (some ⟨b1, 1, none⟩)) (by kernel_rfl) (fun w => by kernel_rfl) ?_
  refine Sx.G.ld1 3 (.tmp 3) b1 1 1 [.slice PA0 g.prog.length Pc0, .int .i64 g.a, .int .i64 g.pc, .slice PA1 g.wr.length Pc1, .slice PA2 g.lv.length Pc2, .int .i64 g.t.1, .int .i64 g.t.2.1, .bool g.t.2.2, .int .i64 g.pd, .int .i64 g.x.1, .int .i64 g.x.2.1, .bool g.x.2.2.1, .int .i64 g.x.2.2.2, .bool g.hl, .slice PA3 g.seen.length Pc3] (.int .i64 g.a) rfl (by kernel_rfl) (by kernel_rfl) rfl (by kernel_rfl) (by kernel_rfl) ?_
  refine Sx.G.pure (.pointer (some ⟨b1, 2, none⟩)) (by kernel_rfl) (fun w => by kernel_rfl) ?_
  refine Sx.G.ld1 3 (.tmp 5) b1 2 1 [.slice PA0 g.prog.length Pc0, .int .i64 g.a, .int .i64 g.pc, .slice PA1 g.wr.length Pc1, .slice PA2 g.lv.length Pc2, .int .i64 g.t.1, .int .i64 g.t.2.1, .bool g.t.2.2, .int .i64 g.pd, .int .i64 g.x.1, .int .i64 g.x.2.1, .bool g.x.2.2.1, .int .i64 g.x.2.2.2, .bool g.hl, .slice PA3 g.seen.length Pc3] (.int .i64 g.pc) rfl (by kernel_rfl) (by kernel_rfl) rfl (by kernel_rfl) (by kernel_rfl) ?_
  refine Sx.G.pure (.pointer (some ⟨b1, 5, none⟩)) (by kernel_rfl) (fun w => by kernel_rfl) ?_
  refine Sx.G.ld 47 (.tmp 7) b1 5 1 [.slice PA0 g.prog.length Pc0, .int .i64 g.a, .int .i64 g.pc, .slice PA1 g.wr.length Pc1, .slice PA2 g.lv.length Pc2, .int .i64 g.t.1, .int .i64 g.t.2.1, .bool g.t.2.2, .int .i64 g.pd, .int .i64 g.x.1, .int .i64 g.x.2.1, .bool g.x.2.2.1, .int .i64 g.x.2.2.2, .bool g.hl, .slice PA3 g.seen.length Pc3] [.int .i64 g.t.1, .int .i64 g.t.2.1, .bool g.t.2.2] rfl (by kernel_rfl) (by kernel_rfl) rfl (by kernel_rfl) (by kernel_rfl) (by kernel_rfl) ?_
  refine Sx.G.pure (.pointer (some ⟨b1, 8, none⟩)) (by kernel_rfl) (fun w => by kernel_rfl) ?_
  refine Sx.G.ld1 3 (.tmp 9) b1 8 1 [.slice PA0 g.prog.length Pc0, .int .i64 g.a, .int .i64 g.pc, .slice PA1 g.wr.length Pc1, .slice PA2 g.lv.length Pc2, .int .i64 g.t.1, .int .i64 g.t.2.1, .bool g.t.2.2, .int .i64 g.pd, .int .i64 g.x.1, .int .i64 g.x.2.1, .bool g.x.2.2.1, .int .i64 g.x.2.2.2, .bool g.hl, .slice PA3 g.seen.length Pc3] (.int .i64 g.pd) rfl (by kernel_rfl) (by kernel_rfl) rfl (by kernel_rfl) (by kernel_rfl) ?_
  refine Sx.G.pure (.pointer (some ⟨b1, 9, none⟩)) (by kernel_rfl) (fun w => by kernel_rfl) ?_
  refine Sx.G.ld 49 (.tmp 11) b1 9 1 [.slice PA0 g.prog.length Pc0, .int .i64 g.a, .int .i64 g.pc, .slice PA1 g.wr.length Pc1, .slice PA2 g.lv.length Pc2, .int .i64 g.t.1, .int .i64 g.t.2.1, .bool g.t.2.2, .int .i64 g.pd, .int .i64 g.x.1, .int .i64 g.x.2.1, .bool g.x.2.2.1, .int .i64 g.x.2.2.2, .bool g.hl, .slice PA3 g.seen.length Pc3] [.int .i64 g.x.1, .int .i64 g.x.2.1, .bool g.x.2.2.1, .int .i64 g.x.2.2.2] rfl (by kernel_rfl) (by kernel_rfl) rfl (by kernel_rfl) (by kernel_rfl) (by kernel_rfl) ?_
  refine Sx.G.pure (.pointer (some ⟨b1, 13, none⟩)) (by kernel_rfl) (fun w => by kernel_rfl) ?_
  refine Sx.G.ld1 4 (.tmp 13) b1 13 1 [.slice PA0 g.prog.length Pc0, .int .i64 g.a, .int .i64 g.pc, .slice PA1 g.wr.length Pc1, .slice PA2 g.lv.length Pc2, .int .i64 g.t.1, .int .i64 g.t.2.1, .bool g.t.2.2, .int .i64 g.pd, .int .i64 g.x.1, .int .i64 g.x.2.1, .bool g.x.2.2.1, .int .i64 g.x.2.2.2, .bool g.hl, .slice PA3 g.seen.length Pc3] (.bool g.hl) rfl (by kernel_rfl) (by kernel_rfl) rfl (by kernel_rfl) (by kernel_rfl) ?_
  refine Sx.G.pure (.agg #[.int .i64 g.a, .int .i64 g.pc, .int .i64 g.t.1, .int .i64 g.t.2.1, .bool g.t.2.2, .int .i64 g.pd, .int .i64 g.x.1, .int .i64 g.x.2.1, .bool g.x.2.2.1, .int .i64 g.x.2.2.2, .bool g.hl]) (by kernel_rfl) (fun w => by kernel_rfl) ?_
  refine Sx.G.sto 135 (.tmp 2) (.tmp 15) b2 0 0 [.int .i64 0, .int .i64 0, .int .i64 0, .int .i64 0, .bool false, .int .i64 0, .int .i64 0, .int .i64 0, .bool false, .int .i64 0, .bool false] [.int .i64 g.a, .int .i64 g.pc, .int .i64 g.t.1, .int .i64 g.t.2.1, .bool g.t.2.2, .int .i64 g.pd, .int .i64 g.x.1, .int .i64 g.x.2.1, .bool g.x.2.2.1, .int .i64 g.x.2.2.2, .bool g.hl] [.int .i64 g.a, .int .i64 g.pc, .int .i64 g.t.1, .int .i64 g.t.2.1, .bool g.t.2.2, .int .i64 g.pd, .int .i64 g.x.1, .int .i64 g.x.2.1, .bool g.x.2.2.1, .int .i64 g.x.2.2.2, .bool g.hl] [vr b2 [.int .i64 g.a, .int .i64 g.pc, .int .i64 g.t.1, .int .i64 g.t.2.1, .bool g.t.2.2, .int .i64 g.pd, .int .i64 g.x.1, .int .i64 g.x.2.1, .bool g.x.2.2.1, .int .i64 g.x.2.2.2, .bool g.hl], vr b1 [.slice PA0 g.prog.length Pc0, .int .i64 g.a, .int .i64 g.pc, .slice PA1 g.wr.length Pc1, .slice PA2 g.lv.length Pc2, .int .i64 g.t.1, .int .i64 g.t.2.1, .bool g.t.2.2, .int .i64 g.pd, .int .i64 g.x.1, .int .i64 g.x.2.1, .bool g.x.2.2.1, .int .i64 g.x.2.2.2, .bool g.hl, .slice PA3 g.seen.length Pc3]] rfl (by kernel_rfl) (by kernel_rfl) (by kernel_rfl) rfl (by kernel_rfl) rfl (by kernel_rfl) (by kernel_rfl) (by kernel_rfl) ?_
  refine Sx.G.nil ?_
  refine Sx.E.next ?_
  refine Sx.C.ret ?_
  refine Sx.E.retc b2 0 [.int .i64 g.a, .int .i64 g.pc, .int .i64 g.t.1, .int .i64 g.t.2.1, .bool g.t.2.2, .int .i64 g.pd, .int .i64 g.x.1, .int .i64 g.x.2.1, .bool g.x.2.2.1, .int .i64 g.x.2.2.2, .bool g.hl] rfl (by kernel_rfl) rfl (by kernel_rfl) (by kernel_rfl) (fun w S => ?_)
  exact ⟨rfl, S.below⟩
def regOk (g : gT) : Bool := inB g.a 0 99 && decide (g.pc ≥ 0) && decide (g.pc ≤ 12) && ctlOk g.t && pend g.pd && exitOk g.x
theorem guestOk_reg (g : gT) : guestOk g = (progOk g.prog && regOk g && okTab g.wr 4 8 && okTab g.lv 4 8 && decide ((g.seen.length : Int) ≤ 40)) := by
  unfold guestOk regOk
  rw [show inB g.pc 0 12 = (decide (g.pc ≥ 0) && decide (g.pc ≤ 12)) from rfl]
  generalize progOk g.prog = a1; generalize inB g.a 0 99 = a2; generalize decide (g.pc ≥ 0) = a3; generalize decide (g.pc ≤ 12) = a4; generalize ctlOk g.t = a5; generalize pend g.pd = a6; generalize exitOk g.x = a7; generalize okTab g.wr 4 8 = a8; generalize okTab g.lv 4 8 = a9; generalize decide ((g.seen.length : Int) ≤ 40) = a0
  revert a0 a1 a2 a3 a4 a5 a6 a7 a8 a9; decide
set_option maxRecDepth 100000 in
set_option maxHeartbeats 4000000 in
theorem impl_regOk (g : gT) (w : World) (hn : gnum g) : Calls Try.prog 128 #[.agg #[.int .i64 g.a, .int .i64 g.pc, .int .i64 g.t.1, .int .i64 g.t.2.1, .bool g.t.2.2, .int .i64 g.pd, .int .i64 g.x.1, .int .i64 g.x.2.1, .bool g.x.2.2.1, .int .i64 g.x.2.2.2, .bool g.hl]] w fun e w' => e = .returned (.bool (regOk g)) ∧ Below w.heap.size w w' := by
  have hpd := gnum_pd hn
  have wt := gnum_t hn
  have wx := gnum_x hn
  refine Sx.enter (args := [.agg #[.int .i64 g.a, .int .i64 g.pc, .int .i64 g.t.1, .int .i64 g.t.2.1, .bool g.t.2.2, .int .i64 g.pd, .int .i64 g.x.1, .int .i64 g.x.2.1, .bool g.x.2.2.1, .int .i64 g.x.2.2.2, .bool g.hl]]) Try.func128 rfl Try.ntmps128 rfl ?_
  refine Sx.C.seq ?_
  refine Sx.C.region ?_
  refine Sx.G.box 135 (.tmp 0) [.int .i64 g.a, .int .i64 g.pc, .int .i64 g.t.1, .int .i64 g.t.2.1, .bool g.t.2.2, .int .i64 g.pd, .int .i64 g.x.1, .int .i64 g.x.2.1, .bool g.x.2.2.1, .int .i64 g.x.2.2.2, .bool g.hl] rfl (by kernel_rfl) (by kernel_rfl) (fun b1 => ?_)
  refine Sx.G.pure (.bool false) (by kernel_rfl) (fun w => by kernel_rfl) ?_
  refine Sx.G.nil ?_
  refine Sx.E.next ?_
  refine Sx.C.seq ?_
  refine Sx.C.region ?_
  refine Sx.G.pure (.pointer (some ⟨b1, 0, none⟩)) (by kernel_rfl) (fun w => by kernel_rfl) ?_
  refine Sx.G.ld1 3 (.tmp 3) b1 0 0 [.int .i64 g.a, .int .i64 g.pc, .int .i64 g.t.1, .int .i64 g.t.2.1, .bool g.t.2.2, .int .i64 g.pd, .int .i64 g.x.1, .int .i64 g.x.2.1, .bool g.x.2.2.1, .int .i64 g.x.2.2.2, .bool g.hl] (.int .i64 g.a) rfl (by kernel_rfl) (by kernel_rfl) rfl (by kernel_rfl) (by kernel_rfl) ?_
  refine Sx.G.plain 126 #[.int .i64 g.a] (.bool (inB g.a 0 99)) (by kernel_rfl) (fun w => by kernel_rfl) (fun w S => by exact Exits.impl_cellOkE g.a _) ?_
  refine Sx.G.pure (.bool (inB g.a 0 99)) (by kernel_rfl) (fun w => by kernel_rfl) ?_
  cases hc2 : (inB g.a 0 99)
  · have hb2 := hc2
    refine Sx.G.skip (by kernel_rfl) ?_
    refine Sx.G.skip (by kernel_rfl) ?_
    refine Sx.G.skip (by kernel_rfl) ?_
    refine Sx.G.pure (.bool false) (by kernel_rfl) (fun w => by kernel_rfl) ?_
    refine Sx.G.pure (.bool false) (by kernel_rfl) (fun w => by kernel_rfl) ?_
    refine Sx.G.skip (by kernel_rfl) ?_
    refine Sx.G.skip (by kernel_rfl) ?_
    refine Sx.G.skip (by kernel_rfl) ?_
    refine Sx.G.pure (.bool false) (by kernel_rfl) (fun w => by kernel_rfl) ?_
    refine Sx.G.pure (.bool false) (by kernel_rfl) (fun w => by kernel_rfl) ?_
    refine Sx.G.skip (by kernel_rfl) ?_
    refine Sx.G.skip (by kernel_rfl) ?_
    refine Sx.G.skip (by kernel_rfl) ?_
    refine Sx.G.pure (.bool false) (by kernel_rfl) (fun w => by kernel_rfl) ?_
    refine Sx.G.pure (.bool false) (by kernel_rfl) (fun w => by kernel_rfl) ?_
    refine Sx.G.skip (by kernel_rfl) ?_
    refine Sx.G.skip (by kernel_rfl) ?_
    refine Sx.G.skip (by kernel_rfl) ?_
    refine Sx.G.pure (.bool false) (by kernel_rfl) (fun w => by kernel_rfl) ?_
    refine Sx.G.pure (.bool false) (by kernel_rfl) (fun w => by kernel_rfl) ?_
    refine Sx.G.skip (by kernel_rfl) ?_
    refine Sx.G.skip (by kernel_rfl) ?_
    refine Sx.G.skip (by kernel_rfl) ?_
    refine Sx.G.pure (.bool false) (by kernel_rfl) (fun w => by kernel_rfl) ?_
    refine Sx.G.pure (.bool false) (by kernel_rfl) (fun w => by kernel_rfl) ?_
    refine Sx.G.nil ?_
    refine Sx.E.next ?_
    refine Sx.C.ret ?_
    refine Sx.E.ret1 (.bool false) rfl (by kernel_rfl) (fun w S => ?_)
    exact ⟨congrArg Ending.returned (congrArg Value.bool (by simp only [regOk, hb2, Bool.and_true, Bool.and_false, Bool.false_and, Bool.true_and])), S.below⟩
  · have hb2 := hc2
    refine Sx.G.pure (.pointer (some ⟨b1, 1, none⟩)) (by kernel_rfl) (fun w => by kernel_rfl) ?_
    refine Sx.G.ld1 3 (.tmp 7) b1 1 0 [.int .i64 g.a, .int .i64 g.pc, .int .i64 g.t.1, .int .i64 g.t.2.1, .bool g.t.2.2, .int .i64 g.pd, .int .i64 g.x.1, .int .i64 g.x.2.1, .bool g.x.2.2.1, .int .i64 g.x.2.2.2, .bool g.hl] (.int .i64 g.pc) rfl (by kernel_rfl) (by kernel_rfl) rfl (by kernel_rfl) (by kernel_rfl) ?_
    refine Sx.G.pure (.bool (decide (g.pc ≥ 0))) (by kernel_rfl) (fun w => by kernel_rfl) ?_
    refine Sx.G.pure (.bool (decide (g.pc ≥ 0))) (by kernel_rfl) (fun w => by kernel_rfl) ?_
    refine Sx.G.pure (.bool (decide (g.pc ≥ 0))) (by kernel_rfl) (fun w => by kernel_rfl) ?_
    cases hc3 : (decide (g.pc ≥ 0))
    · have hb3 := hc3
      replace hc3 := of_decide_eq_false hc3
      refine Sx.G.skip (by kernel_rfl) ?_
      refine Sx.G.skip (by kernel_rfl) ?_
      refine Sx.G.skip (by kernel_rfl) ?_
      refine Sx.G.pure (.bool false) (by kernel_rfl) (fun w => by kernel_rfl) ?_
      refine Sx.G.pure (.bool false) (by kernel_rfl) (fun w => by kernel_rfl) ?_
      refine Sx.G.skip (by kernel_rfl) ?_
      refine Sx.G.skip (by kernel_rfl) ?_
      refine Sx.G.skip (by kernel_rfl) ?_
      refine Sx.G.pure (.bool false) (by kernel_rfl) (fun w => by kernel_rfl) ?_
      refine Sx.G.pure (.bool false) (by kernel_rfl) (fun w => by kernel_rfl) ?_
      refine Sx.G.skip (by kernel_rfl) ?_
      refine Sx.G.skip (by kernel_rfl) ?_
      refine Sx.G.skip (by kernel_rfl) ?_
      refine Sx.G.pure (.bool false) (by kernel_rfl) (fun w => by kernel_rfl) ?_
      refine Sx.G.pure (.bool false) (by kernel_rfl) (fun w => by kernel_rfl) ?_
      refine Sx.G.skip (by kernel_rfl) ?_
      refine Sx.G.skip (by kernel_rfl) ?_
      refine Sx.G.skip (by kernel_rfl) ?_
      refine Sx.G.pure (.bool false) (by kernel_rfl) (fun w => by kernel_rfl) ?_
      refine Sx.G.pure (.bool false) (by kernel_rfl) (fun w => by kernel_rfl) ?_
      refine Sx.G.nil ?_
      refine Sx.E.next ?_
      refine Sx.C.ret ?_
      refine Sx.E.ret1 (.bool false) rfl (by kernel_rfl) (fun w S => ?_)
      exact ⟨congrArg Ending.returned (congrArg Value.bool (by simp only [regOk, hb2, hb3, Bool.and_true, Bool.and_false, Bool.false_and, Bool.true_and])), S.below⟩
    · have hb3 := hc3
      replace hc3 := of_decide_eq_true hc3
      refine Sx.G.pure (.pointer (some ⟨b1, 1, none⟩)) (by kernel_rfl) (fun w => by kernel_rfl) ?_
      refine Sx.G.ld1 3 (.tmp 12) b1 1 0 [.int .i64 g.a, .int .i64 g.pc, .int .i64 g.t.1, .int .i64 g.t.2.1, .bool g.t.2.2, .int .i64 g.pd, .int .i64 g.x.1, .int .i64 g.x.2.1, .bool g.x.2.2.1, .int .i64 g.x.2.2.2, .bool g.hl] (.int .i64 g.pc) rfl (by kernel_rfl) (by kernel_rfl) rfl (by kernel_rfl) (by kernel_rfl) ?_
      refine Sx.G.pure (.bool (decide (g.pc ≤ 12))) (by kernel_rfl) (fun w => by kernel_rfl) ?_
      refine Sx.G.pure (.bool (decide (g.pc ≤ 12))) (by kernel_rfl) (fun w => by kernel_rfl) ?_
      refine Sx.G.pure (.bool (decide (g.pc ≤ 12))) (by kernel_rfl) (fun w => by kernel_rfl) ?_
      cases hc4 : (decide (g.pc ≤ 12))
      · have hb4 := hc4
        replace hc4 := of_decide_eq_false hc4
        refine Sx.G.skip (by kernel_rfl) ?_
        refine Sx.G.skip (by kernel_rfl) ?_
        refine Sx.G.skip (by kernel_rfl) ?_
        refine Sx.G.pure (.bool false) (by kernel_rfl) (fun w => by kernel_rfl) ?_
        refine Sx.G.pure (.bool false) (by kernel_rfl) (fun w => by kernel_rfl) ?_
        refine Sx.G.skip (by kernel_rfl) ?_
        refine Sx.G.skip (by kernel_rfl) ?_
        refine Sx.G.skip (by kernel_rfl) ?_
        refine Sx.G.pure (.bool false) (by kernel_rfl) (fun w => by kernel_rfl) ?_
        refine Sx.G.pure (.bool false) (by kernel_rfl) (fun w => by kernel_rfl) ?_
        refine Sx.G.skip (by kernel_rfl) ?_
        refine Sx.G.skip (by kernel_rfl) ?_
        refine Sx.G.skip (by kernel_rfl) ?_
        refine Sx.G.pure (.bool false) (by kernel_rfl) (fun w => by kernel_rfl) ?_
        refine Sx.G.pure (.bool false) (by kernel_rfl) (fun w => by kernel_rfl) ?_
        refine Sx.G.nil ?_
        refine Sx.E.next ?_
        refine Sx.C.ret ?_
        refine Sx.E.ret1 (.bool false) rfl (by kernel_rfl) (fun w S => ?_)
        exact ⟨congrArg Ending.returned (congrArg Value.bool (by simp only [regOk, hb2, hb3, hb4, Bool.and_true, Bool.and_false, Bool.false_and, Bool.true_and])), S.below⟩
      · have hb4 := hc4
        replace hc4 := of_decide_eq_true hc4
        refine Sx.G.pure (.pointer (some ⟨b1, 2, none⟩)) (by kernel_rfl) (fun w => by kernel_rfl) ?_
        refine Sx.G.ld 47 (.tmp 17) b1 2 0 [.int .i64 g.a, .int .i64 g.pc, .int .i64 g.t.1, .int .i64 g.t.2.1, .bool g.t.2.2, .int .i64 g.pd, .int .i64 g.x.1, .int .i64 g.x.2.1, .bool g.x.2.2.1, .int .i64 g.x.2.2.2, .bool g.hl] [.int .i64 g.t.1, .int .i64 g.t.2.1, .bool g.t.2.2] rfl (by kernel_rfl) (by kernel_rfl) rfl (by kernel_rfl) (by kernel_rfl) (by kernel_rfl) ?_
        refine Sx.G.plain 137 #[.agg #[.int .i64 g.t.1, .int .i64 g.t.2.1, .bool g.t.2.2]] (.bool (ctlOk g.t)) (by kernel_rfl) (fun w => by kernel_rfl) (fun w S => by exact Ctls.impl_ctlOk g.t.1 g.t.2.1 g.t.2.2 _ wt) ?_
        refine Sx.G.pure (.bool (ctlOk g.t)) (by kernel_rfl) (fun w => by kernel_rfl) ?_
        refine Sx.G.pure (.bool (ctlOk g.t)) (by kernel_rfl) (fun w => by kernel_rfl) ?_
        cases hc5 : (ctlOk g.t)
        · have hb5 := hc5
          refine Sx.G.skip (by kernel_rfl) ?_
          refine Sx.G.skip (by kernel_rfl) ?_
          refine Sx.G.skip (by kernel_rfl) ?_
          refine Sx.G.pure (.bool false) (by kernel_rfl) (fun w => by kernel_rfl) ?_
          refine Sx.G.pure (.bool false) (by kernel_rfl) (fun w => by kernel_rfl) ?_
          refine Sx.G.skip (by kernel_rfl) ?_
          refine Sx.G.skip (by kernel_rfl) ?_
          refine Sx.G.skip (by kernel_rfl) ?_
          refine Sx.G.pure (.bool false) (by kernel_rfl) (fun w => by kernel_rfl) ?_
          refine Sx.G.pure (.bool false) (by kernel_rfl) (fun w => by kernel_rfl) ?_
          refine Sx.G.nil ?_
          refine Sx.E.next ?_
          refine Sx.C.ret ?_
          refine Sx.E.ret1 (.bool false) rfl (by kernel_rfl) (fun w S => ?_)
          exact ⟨congrArg Ending.returned (congrArg Value.bool (by simp only [regOk, hb2, hb3, hb4, hb5, Bool.and_true, Bool.and_false, Bool.false_and, Bool.true_and])), S.below⟩
        · have hb5 := hc5
          refine Sx.G.pure (.pointer (some ⟨b1, 5, none⟩)) (by kernel_rfl) (fun w => by kernel_rfl) ?_
          refine Sx.G.ld1 3 (.tmp 22) b1 5 0 [.int .i64 g.a, .int .i64 g.pc, .int .i64 g.t.1, .int .i64 g.t.2.1, .bool g.t.2.2, .int .i64 g.pd, .int .i64 g.x.1, .int .i64 g.x.2.1, .bool g.x.2.2.1, .int .i64 g.x.2.2.2, .bool g.hl] (.int .i64 g.pd) rfl (by kernel_rfl) (by kernel_rfl) rfl (by kernel_rfl) (by kernel_rfl) ?_
          refine Sx.G.plain 66 #[.int .i64 g.pd] (.bool (pend g.pd)) (by kernel_rfl) (fun w => by kernel_rfl) (fun w S => by exact Irqs.impl_pend g.pd _ hpd) ?_
          refine Sx.G.pure (.bool (pend g.pd)) (by kernel_rfl) (fun w => by kernel_rfl) ?_
          refine Sx.G.pure (.bool (pend g.pd)) (by kernel_rfl) (fun w => by kernel_rfl) ?_
          cases hc6 : (pend g.pd)
          · have hb6 := hc6
            refine Sx.G.skip (by kernel_rfl) ?_
            refine Sx.G.skip (by kernel_rfl) ?_
            refine Sx.G.skip (by kernel_rfl) ?_
            refine Sx.G.pure (.bool false) (by kernel_rfl) (fun w => by kernel_rfl) ?_
            refine Sx.G.pure (.bool false) (by kernel_rfl) (fun w => by kernel_rfl) ?_
            refine Sx.G.nil ?_
            refine Sx.E.next ?_
            refine Sx.C.ret ?_
            refine Sx.E.ret1 (.bool false) rfl (by kernel_rfl) (fun w S => ?_)
            exact ⟨congrArg Ending.returned (congrArg Value.bool (by simp only [regOk, hb2, hb3, hb4, hb5, hb6, Bool.and_true, Bool.and_false, Bool.false_and, Bool.true_and])), S.below⟩
          · have hb6 := hc6
            refine Sx.G.pure (.pointer (some ⟨b1, 6, none⟩)) (by kernel_rfl) (fun w => by kernel_rfl) ?_
            refine Sx.G.ld 49 (.tmp 27) b1 6 0 [.int .i64 g.a, .int .i64 g.pc, .int .i64 g.t.1, .int .i64 g.t.2.1, .bool g.t.2.2, .int .i64 g.pd, .int .i64 g.x.1, .int .i64 g.x.2.1, .bool g.x.2.2.1, .int .i64 g.x.2.2.2, .bool g.hl] [.int .i64 g.x.1, .int .i64 g.x.2.1, .bool g.x.2.2.1, .int .i64 g.x.2.2.2] rfl (by kernel_rfl) (by kernel_rfl) rfl (by kernel_rfl) (by kernel_rfl) (by kernel_rfl) ?_
            refine Sx.G.plain 138 #[.agg #[.int .i64 g.x.1, .int .i64 g.x.2.1, .bool g.x.2.2.1, .int .i64 g.x.2.2.2]] (.bool (exitOk g.x)) (by kernel_rfl) (fun w => by kernel_rfl) (fun w S => by exact Exits.impl_exitOk g.x.1 g.x.2.1 g.x.2.2.1 g.x.2.2.2 _ wx) ?_
            refine Sx.G.pure (.bool (exitOk g.x)) (by kernel_rfl) (fun w => by kernel_rfl) ?_
            refine Sx.G.pure (.bool (exitOk g.x)) (by kernel_rfl) (fun w => by kernel_rfl) ?_
            refine Sx.G.nil ?_
            refine Sx.E.next ?_
            refine Sx.C.ret ?_
            refine Sx.E.ret1 (.bool (exitOk g.x)) rfl (by kernel_rfl) (fun w S => ?_)
            exact ⟨congrArg Ending.returned (congrArg Value.bool (by simp only [regOk, hb2, hb3, hb4, hb5, hb6, Bool.and_true, Bool.and_false, Bool.false_and, Bool.true_and])), S.below⟩
set_option maxRecDepth 100000 in
set_option maxHeartbeats 4000000 in
theorem impl_gok (g : gT) (cs : List Value) (w : World) (hn : gnum g) (hc : rG.cap g) (h : rG.rd w 0 w.heap.size g cs) : Calls Try.prog 105 #[.agg cs.toArray] w (fun e w' => e = .returned (.bool (guestOk g)) ∧ Below w.heap.size w w') := by
  obtain ⟨q0, q1, q2, q3⟩ := rG_len hc
  have hr := h
  obtain ⟨P0, P1, P2, P3, rfl, h0, h1, h2, h3⟩ := rG_rd h
  obtain ⟨PA0, Pc0, e0, hP0⟩ := lst_val h0
  subst e0
  obtain ⟨PA1, Pc1, e1, hP1⟩ := lst_val h1
  subst e1
  obtain ⟨PA2, Pc2, e2, hP2⟩ := lst_val h2
  subst e2
  obtain ⟨PA3, Pc3, e3, hP3⟩ := lst_val h3
  subst e3
  refine Sx.enter (args := [.agg #[.slice PA0 g.prog.length Pc0, .int .i64 g.a, .int .i64 g.pc, .slice PA1 g.wr.length Pc1, .slice PA2 g.lv.length Pc2, .int .i64 g.t.1, .int .i64 g.t.2.1, .bool g.t.2.2, .int .i64 g.pd, .int .i64 g.x.1, .int .i64 g.x.2.1, .bool g.x.2.2.1, .int .i64 g.x.2.2.2, .bool g.hl, .slice PA3 g.seen.length Pc3]]) Try.func105 rfl Try.ntmps105 rfl ?_
  refine Sx.C.seq ?_
  refine Sx.C.region ?_
  refine Sx.G.box 51 (.tmp 0) [.slice PA0 g.prog.length Pc0, .int .i64 g.a, .int .i64 g.pc, .slice PA1 g.wr.length Pc1, .slice PA2 g.lv.length Pc2, .int .i64 g.t.1, .int .i64 g.t.2.1, .bool g.t.2.2, .int .i64 g.pd, .int .i64 g.x.1, .int .i64 g.x.2.1, .bool g.x.2.2.1, .int .i64 g.x.2.2.2, .bool g.hl, .slice PA3 g.seen.length Pc3] rfl (by kernel_rfl) (by kernel_rfl) (fun b1 => ?_)
  refine Sx.G.pure (.bool false) (by kernel_rfl) (fun w => by kernel_rfl) ?_
  refine Sx.G.nil ?_
  refine Sx.E.next ?_
  refine Sx.C.seq ?_
  refine Sx.C.region ?_
  refine Sx.G.pure (.pointer (some ⟨b1, 0, none⟩)) (by kernel_rfl) (fun w => by kernel_rfl) ?_
  refine Sx.G.ld1 44 (.tmp 3) b1 0 0 [.slice PA0 g.prog.length Pc0, .int .i64 g.a, .int .i64 g.pc, .slice PA1 g.wr.length Pc1, .slice PA2 g.lv.length Pc2, .int .i64 g.t.1, .int .i64 g.t.2.1, .bool g.t.2.2, .int .i64 g.pd, .int .i64 g.x.1, .int .i64 g.x.2.1, .bool g.x.2.2.1, .int .i64 g.x.2.2.2, .bool g.hl, .slice PA3 g.seen.length Pc3] (.slice PA0 g.prog.length Pc0) rfl (by kernel_rfl) (by kernel_rfl) rfl (by kernel_rfl) (by kernel_rfl) ?_
  refine Sx.G.plain 127 #[.slice PA0 g.prog.length Pc0] (.bool (progOk g.prog)) (by kernel_rfl) (fun w => by kernel_rfl) (fun w S => by exact Inss.impl_progOk PA0 g.prog.length Pc0 g.prog _ q0 rfl (by rw [← pcells_j]; exact p2_lies (St.old S h0)) hn.1.2) ?_
  refine Sx.G.pure (.bool (progOk g.prog)) (by kernel_rfl) (fun w => by kernel_rfl) ?_
  cases hc2 : (progOk g.prog)
  · have hb2 := hc2
    refine Sx.G.skip (by kernel_rfl) ?_
    refine Sx.G.skip (by kernel_rfl) ?_
    refine Sx.G.skip (by kernel_rfl) ?_
    refine Sx.G.pure (.bool false) (by kernel_rfl) (fun w => by kernel_rfl) ?_
    refine Sx.G.pure (.bool false) (by kernel_rfl) (fun w => by kernel_rfl) ?_
    refine Sx.G.skip (by kernel_rfl) ?_
    refine Sx.G.skip (by kernel_rfl) ?_
    refine Sx.G.skip (by kernel_rfl) ?_
    refine Sx.G.pure (.bool false) (by kernel_rfl) (fun w => by kernel_rfl) ?_
    refine Sx.G.pure (.bool false) (by kernel_rfl) (fun w => by kernel_rfl) ?_
    refine Sx.G.skip (by kernel_rfl) ?_
    refine Sx.G.skip (by kernel_rfl) ?_
    refine Sx.G.skip (by kernel_rfl) ?_
    refine Sx.G.pure (.bool false) (by kernel_rfl) (fun w => by kernel_rfl) ?_
    refine Sx.G.pure (.bool false) (by kernel_rfl) (fun w => by kernel_rfl) ?_
    refine Sx.G.skip (by kernel_rfl) ?_
    refine Sx.G.skip (by kernel_rfl) ?_
    refine Sx.G.skip (by kernel_rfl) ?_
    refine Sx.G.skip (by kernel_rfl) ?_
    refine Sx.G.pure (.bool false) (by kernel_rfl) (fun w => by kernel_rfl) ?_
    refine Sx.G.pure (.bool false) (by kernel_rfl) (fun w => by kernel_rfl) ?_
    refine Sx.G.nil ?_
    refine Sx.E.next ?_
    refine Sx.C.ret ?_
    refine Sx.E.ret1 (.bool false) rfl (by kernel_rfl) (fun w S => ?_)
    exact ⟨congrArg Ending.returned (congrArg Value.bool (by simp only [guestOk_reg, hb2, Bool.and_true, Bool.and_false, Bool.false_and, Bool.true_and])), S.below⟩
  · have hb2 := hc2
    refine Sx.G.ld 51 (.tmp 1) b1 0 0 [.slice PA0 g.prog.length Pc0, .int .i64 g.a, .int .i64 g.pc, .slice PA1 g.wr.length Pc1, .slice PA2 g.lv.length Pc2, .int .i64 g.t.1, .int .i64 g.t.2.1, .bool g.t.2.2, .int .i64 g.pd, .int .i64 g.x.1, .int .i64 g.x.2.1, .bool g.x.2.2.1, .int .i64 g.x.2.2.2, .bool g.hl, .slice PA3 g.seen.length Pc3] [.slice PA0 g.prog.length Pc0, .int .i64 g.a, .int .i64 g.pc, .slice PA1 g.wr.length Pc1, .slice PA2 g.lv.length Pc2, .int .i64 g.t.1, .int .i64 g.t.2.1, .bool g.t.2.2, .int .i64 g.pd, .int .i64 g.x.1, .int .i64 g.x.2.1, .bool g.x.2.2.1, .int .i64 g.x.2.2.2, .bool g.hl, .slice PA3 g.seen.length Pc3] rfl (by kernel_rfl) (by kernel_rfl) rfl (by kernel_rfl) (by kernel_rfl) (by kernel_rfl) ?_
    refine Sx.G.plain 117 #[.agg #[.slice PA0 g.prog.length Pc0, .int .i64 g.a, .int .i64 g.pc, .slice PA1 g.wr.length Pc1, .slice PA2 g.lv.length Pc2, .int .i64 g.t.1, .int .i64 g.t.2.1, .bool g.t.2.2, .int .i64 g.pd, .int .i64 g.x.1, .int .i64 g.x.2.1, .bool g.x.2.2.1, .int .i64 g.x.2.2.2, .bool g.hl, .slice PA3 g.seen.length Pc3]] (.agg #[.int .i64 g.a, .int .i64 g.pc, .int .i64 g.t.1, .int .i64 g.t.2.1, .bool g.t.2.2, .int .i64 g.pd, .int .i64 g.x.1, .int .i64 g.x.2.1, .bool g.x.2.2.1, .int .i64 g.x.2.2.2, .bool g.hl]) (by kernel_rfl) (fun w => by kernel_rfl) (fun w S => by exact impl_regs g _ _ (St.old S hr)) ?_
    refine Sx.G.plain 128 #[.agg #[.int .i64 g.a, .int .i64 g.pc, .int .i64 g.t.1, .int .i64 g.t.2.1, .bool g.t.2.2, .int .i64 g.pd, .int .i64 g.x.1, .int .i64 g.x.2.1, .bool g.x.2.2.1, .int .i64 g.x.2.2.2, .bool g.hl]] (.bool (regOk g)) (by kernel_rfl) (fun w => by kernel_rfl) (fun w S => by exact impl_regOk g _ hn) ?_
    refine Sx.G.pure (.bool (regOk g)) (by kernel_rfl) (fun w => by kernel_rfl) ?_
    refine Sx.G.pure (.bool (regOk g)) (by kernel_rfl) (fun w => by kernel_rfl) ?_
    cases hc3 : (regOk g)
    · have hb3 := hc3
      refine Sx.G.skip (by kernel_rfl) ?_
      refine Sx.G.skip (by kernel_rfl) ?_
      refine Sx.G.skip (by kernel_rfl) ?_
      refine Sx.G.pure (.bool false) (by kernel_rfl) (fun w => by kernel_rfl) ?_
      refine Sx.G.pure (.bool false) (by kernel_rfl) (fun w => by kernel_rfl) ?_
      refine Sx.G.skip (by kernel_rfl) ?_
      refine Sx.G.skip (by kernel_rfl) ?_
      refine Sx.G.skip (by kernel_rfl) ?_
      refine Sx.G.pure (.bool false) (by kernel_rfl) (fun w => by kernel_rfl) ?_
      refine Sx.G.pure (.bool false) (by kernel_rfl) (fun w => by kernel_rfl) ?_
      refine Sx.G.skip (by kernel_rfl) ?_
      refine Sx.G.skip (by kernel_rfl) ?_
      refine Sx.G.skip (by kernel_rfl) ?_
      refine Sx.G.skip (by kernel_rfl) ?_
      refine Sx.G.pure (.bool false) (by kernel_rfl) (fun w => by kernel_rfl) ?_
      refine Sx.G.pure (.bool false) (by kernel_rfl) (fun w => by kernel_rfl) ?_
      refine Sx.G.nil ?_
      refine Sx.E.next ?_
      refine Sx.C.ret ?_
      refine Sx.E.ret1 (.bool false) rfl (by kernel_rfl) (fun w S => ?_)
      exact ⟨congrArg Ending.returned (congrArg Value.bool (by simp only [guestOk_reg, hb2, hb3, Bool.and_true, Bool.and_false, Bool.false_and, Bool.true_and])), S.below⟩
    · have hb3 := hc3
      refine Sx.G.pure (.pointer (some ⟨b1, 3, none⟩)) (by kernel_rfl) (fun w => by kernel_rfl) ?_
      refine Sx.G.ld1 45 (.tmp 12) b1 3 0 [.slice PA0 g.prog.length Pc0, .int .i64 g.a, .int .i64 g.pc, .slice PA1 g.wr.length Pc1, .slice PA2 g.lv.length Pc2, .int .i64 g.t.1, .int .i64 g.t.2.1, .bool g.t.2.2, .int .i64 g.pd, .int .i64 g.x.1, .int .i64 g.x.2.1, .bool g.x.2.2.1, .int .i64 g.x.2.2.2, .bool g.hl, .slice PA3 g.seen.length Pc3] (.slice PA1 g.wr.length Pc1) rfl (by kernel_rfl) (by kernel_rfl) rfl (by kernel_rfl) (by kernel_rfl) ?_
      refine Sx.G.plain 129 #[.slice PA1 g.wr.length Pc1, .int .i64 4, .int .i64 8] (.bool (okTab g.wr 4 8)) (by kernel_rfl) (fun w => by kernel_rfl) (fun w S => by exact Slots.impl_tabOk PA1 g.wr.length Pc1 0 4 8 g.wr _ q1 rfl hn.2.2.2.1.2 (by rw [← pcells_s]; exact p2_lies (St.old S h1))) ?_
      refine Sx.G.pure (.bool (okTab g.wr 4 8)) (by kernel_rfl) (fun w => by kernel_rfl) ?_
      refine Sx.G.pure (.bool (okTab g.wr 4 8)) (by kernel_rfl) (fun w => by kernel_rfl) ?_
      cases hc4 : (okTab g.wr 4 8)
      · have hb4 := hc4
        refine Sx.G.skip (by kernel_rfl) ?_
        refine Sx.G.skip (by kernel_rfl) ?_
        refine Sx.G.skip (by kernel_rfl) ?_
        refine Sx.G.pure (.bool false) (by kernel_rfl) (fun w => by kernel_rfl) ?_
        refine Sx.G.pure (.bool false) (by kernel_rfl) (fun w => by kernel_rfl) ?_
        refine Sx.G.skip (by kernel_rfl) ?_
        refine Sx.G.skip (by kernel_rfl) ?_
        refine Sx.G.skip (by kernel_rfl) ?_
        refine Sx.G.skip (by kernel_rfl) ?_
        refine Sx.G.pure (.bool false) (by kernel_rfl) (fun w => by kernel_rfl) ?_
        refine Sx.G.pure (.bool false) (by kernel_rfl) (fun w => by kernel_rfl) ?_
        refine Sx.G.nil ?_
        refine Sx.E.next ?_
        refine Sx.C.ret ?_
        refine Sx.E.ret1 (.bool false) rfl (by kernel_rfl) (fun w S => ?_)
        exact ⟨congrArg Ending.returned (congrArg Value.bool (by simp only [guestOk_reg, hb2, hb3, hb4, Bool.and_true, Bool.and_false, Bool.false_and, Bool.true_and])), S.below⟩
      · have hb4 := hc4
        refine Sx.G.pure (.pointer (some ⟨b1, 4, none⟩)) (by kernel_rfl) (fun w => by kernel_rfl) ?_
        refine Sx.G.ld1 45 (.tmp 17) b1 4 0 [.slice PA0 g.prog.length Pc0, .int .i64 g.a, .int .i64 g.pc, .slice PA1 g.wr.length Pc1, .slice PA2 g.lv.length Pc2, .int .i64 g.t.1, .int .i64 g.t.2.1, .bool g.t.2.2, .int .i64 g.pd, .int .i64 g.x.1, .int .i64 g.x.2.1, .bool g.x.2.2.1, .int .i64 g.x.2.2.2, .bool g.hl, .slice PA3 g.seen.length Pc3] (.slice PA2 g.lv.length Pc2) rfl (by kernel_rfl) (by kernel_rfl) rfl (by kernel_rfl) (by kernel_rfl) ?_
        refine Sx.G.plain 129 #[.slice PA2 g.lv.length Pc2, .int .i64 4, .int .i64 8] (.bool (okTab g.lv 4 8)) (by kernel_rfl) (fun w => by kernel_rfl) (fun w S => by exact Slots.impl_tabOk PA2 g.lv.length Pc2 0 4 8 g.lv _ q2 rfl hn.2.2.2.2.1.2 (by rw [← pcells_s]; exact p2_lies (St.old S h2))) ?_
        refine Sx.G.pure (.bool (okTab g.lv 4 8)) (by kernel_rfl) (fun w => by kernel_rfl) ?_
        refine Sx.G.pure (.bool (okTab g.lv 4 8)) (by kernel_rfl) (fun w => by kernel_rfl) ?_
        cases hc5 : (okTab g.lv 4 8)
        · have hb5 := hc5
          refine Sx.G.skip (by kernel_rfl) ?_
          refine Sx.G.skip (by kernel_rfl) ?_
          refine Sx.G.skip (by kernel_rfl) ?_
          refine Sx.G.skip (by kernel_rfl) ?_
          refine Sx.G.pure (.bool false) (by kernel_rfl) (fun w => by kernel_rfl) ?_
          refine Sx.G.pure (.bool false) (by kernel_rfl) (fun w => by kernel_rfl) ?_
          refine Sx.G.nil ?_
          refine Sx.E.next ?_
          refine Sx.C.ret ?_
          refine Sx.E.ret1 (.bool false) rfl (by kernel_rfl) (fun w S => ?_)
          exact ⟨congrArg Ending.returned (congrArg Value.bool (by simp only [guestOk_reg, hb2, hb3, hb4, hb5, Bool.and_true, Bool.and_false, Bool.false_and, Bool.true_and])), S.below⟩
        · have hb5 := hc5
          refine Sx.G.pure (.pointer (some ⟨b1, 14, none⟩)) (by kernel_rfl) (fun w => by kernel_rfl) ?_
          refine Sx.G.ld1 26 (.tmp 22) b1 14 0 [.slice PA0 g.prog.length Pc0, .int .i64 g.a, .int .i64 g.pc, .slice PA1 g.wr.length Pc1, .slice PA2 g.lv.length Pc2, .int .i64 g.t.1, .int .i64 g.t.2.1, .bool g.t.2.2, .int .i64 g.pd, .int .i64 g.x.1, .int .i64 g.x.2.1, .bool g.x.2.2.1, .int .i64 g.x.2.2.2, .bool g.hl, .slice PA3 g.seen.length Pc3] (.slice PA3 g.seen.length Pc3) rfl (by kernel_rfl) (by kernel_rfl) rfl (by kernel_rfl) (by kernel_rfl) ?_
          refine Sx.G.pure (.int .i64 ((g.seen.length : Nat) : Int)) (by kernel_rfl) (fun w => by kernel_rfl) ?_
          refine Sx.G.pure (.bool (decide (((g.seen.length : Nat) : Int) ≤ 40))) (by kernel_rfl) (fun w => by kernel_rfl) ?_
          refine Sx.G.pure (.bool (decide (((g.seen.length : Nat) : Int) ≤ 40))) (by kernel_rfl) (fun w => by kernel_rfl) ?_
          refine Sx.G.pure (.bool (decide (((g.seen.length : Nat) : Int) ≤ 40))) (by kernel_rfl) (fun w => by kernel_rfl) ?_
          refine Sx.G.nil ?_
          refine Sx.E.next ?_
          refine Sx.C.ret ?_
          refine Sx.E.ret1 (.bool (decide (((g.seen.length : Nat) : Int) ≤ 40))) rfl (by kernel_rfl) (fun w S => ?_)
          exact ⟨congrArg Ending.returned (congrArg Value.bool (by simp only [guestOk_reg, hb2, hb3, hb4, hb5, Bool.and_true, Bool.and_false, Bool.false_and, Bool.true_and])), S.below⟩
end Go.Proofs.Ytldgadmpclgfhaa.Guests
namespace Go.Proofs.Ytldgadmpclgfhaa.Sx
set_option maxRecDepth 100000
open Go.ChangeShapes Go.WideShapes Go.ChangeAt Go.RowKit Go.Deep
open Go.Proofs.Ytldgadmpclgfhaa.Base Go.Proofs.Ytldgadmpclgfhaa.Mem Go.Proofs.Ytldgadmpclgfhaa.Data Go.Proofs.Ytldgadmpclgfhaa.Stt Go.Proofs.Ytldgadmpclgfhaa.Draw
set_option linter.unusedVariables false
set_option linter.unusedSimpArgs false
section
variable {α β : Type} {r : Rp α} {P : Program} {n : Nat} {ops : Array Oper} {Q : Exit → Act → World → Prop} {Z : World → Prop} {w0 : World} {T : Tl} {L L' M : List Res} {rest : List Oper} {l : List Oper} {o : Oper} {t : Ord.Ot} {w : World} {x : α} {cs : List Value}
/-- The slots told anew. -/
theorem C.slots {T' : Tl} {c : Code} (h : ∀ a, Ag n T a → Ag n T' a) (k : C P n Q w0 T' L c) : C P n Q w0 T L c := fun a w hA S => k a w (h a hA) S
theorem Fresh.one {w' : World} (q : Res) (hs : q.says w') (h0 : w0.heap.size ≤ w.heap.size) (hl : w.heap.size ≤ q.lo) (hh : q.hi ≤ w'.heap.size) : Fresh w0 w w' [q] :=
  ⟨fun i r h => by
    match i, h with
    | 0, h => cases h; exact hs
    | i + 1, h => simp at h, fun i r h => by
    match i, h with
    | 0, h => cases h; exact Nat.le_trans h0 hl
    | i + 1, h => simp at h, fun i r h => by
    match i, h with
    | 0, h => cases h; exact hh
    | i + 1, h => simp at h, fun i r h k hk => by
    match i, h with
    | 0, h => cases h; exact Nat.le_trans hl (q.inn k hk).1
    | i + 1, h => simp at h, fun i j r s h1 h2 hne => by
    match i, j, h1, h2 with
    | 0, 0, _, _ => exact absurd rfl hne
    | 0, j + 1, _, h2 => simp at h2
    | i + 1, _, h1, _ => simp at h1⟩
theorem Fresh.nil (w0 w w' : World) : Fresh w0 w w' [] := ⟨fun i r h => by simp at h, fun i r h => by simp at h, fun i r h => by simp at h, fun i r h => by simp at h, fun i j r s h => by simp at h⟩
end
end Go.Proofs.Ytldgadmpclgfhaa.Sx
namespace Go.Proofs.Ytldgadmpclgfhaa.Kit
set_option maxRecDepth 100000
open Go.ChangeShapes Go.WideShapes Go.ChangeAt Go.RowKit Go.Deep
open Go.Proofs.Ytldgadmpclgfhaa.Base Go.Proofs.Ytldgadmpclgfhaa.Mem Go.Proofs.Ytldgadmpclgfhaa.Data Go.Proofs.Ytldgadmpclgfhaa.Stt Go.Proofs.Ytldgadmpclgfhaa.Guests Go.Proofs.Ytldgadmpclgfhaa.Ctls Go.Proofs.Ytldgadmpclgfhaa.Exits
set_option linter.unusedVariables false
set_option linter.unusedSimpArgs false
set_option maxRecDepth 100000 in
set_option maxHeartbeats 4000000 in
theorem implx_bI (A : Option Addr) (n c : Nat) (w : World)  : Calls Try.prog 64 #[.slice A n c] w (fun e w' => e = .returned (.agg #[.slice A n c, .int .i64 40]) ∧ Below w.heap.size w w') := by
  refine Sx.enter (args := [.slice A n c]) Try.func64 rfl Try.ntmps64 rfl ?_
  refine Sx.C.seq ?_
  refine Sx.C.region ?_
  refine Sx.G.alloc 92 (.agg #[.slice none 0 0, .int .i64 0]) [.slice none 0 0, .int .i64 0] rfl (by kernel_rfl) (fun w => by kernel_rfl) (by kernel_rfl) (fun b1 => ?_)
  refine Sx.G.nil ?_
  refine Sx.E.next ?_
  refine Sx.C.seq ?_
  refine Sx.C.region ?_
  refine Sx.G.pure (.slice A n c) (by kernel_rfl) (fun w => by kernel_rfl) ?_
  refine Sx.G.pure (.agg #[.slice A n c, .int .i64 40]) (by kernel_rfl) (fun w => by kernel_rfl) ?_
  refine Sx.G.sto 92 (.tmp 2) (.tmp 4) b1 0 0 [.slice none 0 0, .int .i64 0] [.slice A n c, .int .i64 40] [.slice A n c, .int .i64 40] [vr b1 [.slice A n c, .int .i64 40]] rfl (by kernel_rfl) (by kernel_rfl) (by kernel_rfl) rfl (by kernel_rfl) rfl (by kernel_rfl) (by kernel_rfl) (by kernel_rfl) ?_
  refine Sx.G.nil ?_
  refine Sx.E.next ?_
  refine Sx.C.ret ?_
  refine Sx.E.retc b1 0 [.slice A n c, .int .i64 40] rfl (by kernel_rfl) rfl (by kernel_rfl) (by kernel_rfl) (fun w S => ?_)
  exact ⟨rfl, S.below⟩
set_option maxRecDepth 100000 in
set_option maxHeartbeats 4000000 in
theorem implx_okI (A : Option Addr) (n c : Nat) (m : Int) (w : World)  : Calls Try.prog 65 #[.agg #[.slice A n c, .int .i64 m]] w (fun e w' => e = .returned (.bool (decide (((n : Nat) : Int) ≤ m))) ∧ Below w.heap.size w w') := by
  refine Sx.enter (args := [.agg #[.slice A n c, .int .i64 m]]) Try.func65 rfl Try.ntmps65 rfl ?_
  refine Sx.C.seq ?_
  refine Sx.C.region ?_
  refine Sx.G.box 92 (.tmp 0) [.slice A n c, .int .i64 m] rfl (by kernel_rfl) (by kernel_rfl) (fun b1 => ?_)
  refine Sx.G.pure (.bool false) (by kernel_rfl) (fun w => by kernel_rfl) ?_
  refine Sx.G.nil ?_
  refine Sx.E.next ?_
  refine Sx.C.seq ?_
  refine Sx.C.region ?_
  refine Sx.G.pure (.pointer (some ⟨b1, 0, none⟩)) (by kernel_rfl) (fun w => by kernel_rfl) ?_
  refine Sx.G.ld1 26 (.tmp 3) b1 0 0 [.slice A n c, .int .i64 m] (.slice A n c) rfl (by kernel_rfl) (by kernel_rfl) rfl (by kernel_rfl) (by kernel_rfl) ?_
  refine Sx.G.pure (.int .i64 ((n : Nat) : Int)) (by kernel_rfl) (fun w => by kernel_rfl) ?_
  refine Sx.G.pure (.pointer (some ⟨b1, 1, none⟩)) (by kernel_rfl) (fun w => by kernel_rfl) ?_
  refine Sx.G.ld1 3 (.tmp 6) b1 1 0 [.slice A n c, .int .i64 m] (.int .i64 m) rfl (by kernel_rfl) (by kernel_rfl) rfl (by kernel_rfl) (by kernel_rfl) ?_
  refine Sx.G.pure (.bool (decide (((n : Nat) : Int) ≤ m))) (by kernel_rfl) (fun w => by kernel_rfl) ?_
  refine Sx.G.pure (.bool (decide (((n : Nat) : Int) ≤ m))) (by kernel_rfl) (fun w => by kernel_rfl) ?_
  refine Sx.G.nil ?_
  refine Sx.E.next ?_
  refine Sx.C.ret ?_
  refine Sx.E.ret1 (.bool (decide (((n : Nat) : Int) ≤ m))) rfl (by kernel_rfl) (fun w S => ?_)
  exact ⟨rfl, S.below⟩
set_option maxRecDepth 100000 in
set_option maxHeartbeats 4000000 in
theorem implx_bG (A : Option Addr) (n c : Nat) (w : World)  : Calls Try.prog 94 #[.slice A n c] w (fun e w' => e = .returned (.agg #[.slice A n c, .int .i64 2]) ∧ Below w.heap.size w w') := by
  refine Sx.enter (args := [.slice A n c]) Try.func94 rfl Try.ntmps94 rfl ?_
  refine Sx.C.seq ?_
  refine Sx.C.region ?_
  refine Sx.G.alloc 115 (.agg #[.slice none 0 0, .int .i64 0]) [.slice none 0 0, .int .i64 0] rfl (by kernel_rfl) (fun w => by kernel_rfl) (by kernel_rfl) (fun b1 => ?_)
  refine Sx.G.nil ?_
  refine Sx.E.next ?_
  refine Sx.C.seq ?_
  refine Sx.C.region ?_
  refine Sx.G.pure (.slice A n c) (by kernel_rfl) (fun w => by kernel_rfl) ?_
  refine Sx.G.pure (.agg #[.slice A n c, .int .i64 2]) (by kernel_rfl) (fun w => by kernel_rfl) ?_
  refine Sx.G.sto 115 (.tmp 2) (.tmp 4) b1 0 0 [.slice none 0 0, .int .i64 0] [.slice A n c, .int .i64 2] [.slice A n c, .int .i64 2] [vr b1 [.slice A n c, .int .i64 2]] rfl (by kernel_rfl) (by kernel_rfl) (by kernel_rfl) rfl (by kernel_rfl) rfl (by kernel_rfl) (by kernel_rfl) (by kernel_rfl) ?_
  refine Sx.G.nil ?_
  refine Sx.E.next ?_
  refine Sx.C.ret ?_
  refine Sx.E.retc b1 0 [.slice A n c, .int .i64 2] rfl (by kernel_rfl) rfl (by kernel_rfl) (by kernel_rfl) (fun w S => ?_)
  exact ⟨rfl, S.below⟩
set_option maxRecDepth 100000 in
set_option maxHeartbeats 4000000 in
theorem implx_okG (A : Option Addr) (n c : Nat) (m : Int) (w : World)  : Calls Try.prog 104 #[.agg #[.slice A n c, .int .i64 m]] w (fun e w' => e = .returned (.bool (decide (((n : Nat) : Int) ≤ m))) ∧ Below w.heap.size w w') := by
  refine Sx.enter (args := [.agg #[.slice A n c, .int .i64 m]]) Try.func104 rfl Try.ntmps104 rfl ?_
  refine Sx.C.seq ?_
  refine Sx.C.region ?_
  refine Sx.G.box 115 (.tmp 0) [.slice A n c, .int .i64 m] rfl (by kernel_rfl) (by kernel_rfl) (fun b1 => ?_)
  refine Sx.G.pure (.bool false) (by kernel_rfl) (fun w => by kernel_rfl) ?_
  refine Sx.G.nil ?_
  refine Sx.E.next ?_
  refine Sx.C.seq ?_
  refine Sx.C.region ?_
  refine Sx.G.pure (.pointer (some ⟨b1, 0, none⟩)) (by kernel_rfl) (fun w => by kernel_rfl) ?_
  refine Sx.G.ld1 25 (.tmp 3) b1 0 0 [.slice A n c, .int .i64 m] (.slice A n c) rfl (by kernel_rfl) (by kernel_rfl) rfl (by kernel_rfl) (by kernel_rfl) ?_
  refine Sx.G.pure (.int .i64 ((n : Nat) : Int)) (by kernel_rfl) (fun w => by kernel_rfl) ?_
  refine Sx.G.pure (.pointer (some ⟨b1, 1, none⟩)) (by kernel_rfl) (fun w => by kernel_rfl) ?_
  refine Sx.G.ld1 3 (.tmp 6) b1 1 0 [.slice A n c, .int .i64 m] (.int .i64 m) rfl (by kernel_rfl) (by kernel_rfl) rfl (by kernel_rfl) (by kernel_rfl) ?_
  refine Sx.G.pure (.bool (decide (((n : Nat) : Int) ≤ m))) (by kernel_rfl) (fun w => by kernel_rfl) ?_
  refine Sx.G.pure (.bool (decide (((n : Nat) : Int) ≤ m))) (by kernel_rfl) (fun w => by kernel_rfl) ?_
  refine Sx.G.nil ?_
  refine Sx.E.next ?_
  refine Sx.C.ret ?_
  refine Sx.E.ret1 (.bool (decide (((n : Nat) : Int) ≤ m))) rfl (by kernel_rfl) (fun w S => ?_)
  exact ⟨rfl, S.below⟩
def gsOk (xs : List gT) : Bool := inB ((xs.length : Nat) : Int) 1 2 && xs.all guestOk
set_option maxRecDepth 100000 in
set_option maxHeartbeats 4000000 in
theorem implx_gsok (xs : List gT) (A : Option Addr) (c : Nat) (w : World) (hn : (rLsw wG).wf xs) (hc : (rLsw wG).cap xs) (h : rdLst wG w 0 w.heap.size xs [.slice A xs.length c]) : Calls Try.prog 63 #[.slice A xs.length c] w (fun e w' => e = .returned (.bool (gsOk xs)) ∧ Below w.heap.size w w') := by
  obtain ⟨hl, hce⟩ := hc
  have hwe := hn.2
  refine Sx.enter (args := [.slice A xs.length c]) Try.func63 rfl Try.ntmps63 rfl ?_
  refine Sx.C.seq ?_
  refine Sx.C.region ?_
  refine Sx.G.pure (.bool false) (by kernel_rfl) (fun w => by kernel_rfl) ?_
  refine Sx.G.nil ?_
  refine Sx.E.next ?_
  refine Sx.C.seq ?_
  refine Sx.C.seq ?_
  refine Sx.C.region ?_
  refine Sx.G.pure (.slice A xs.length c) (by kernel_rfl) (fun w => by kernel_rfl) ?_
  refine Sx.G.pure (.int .i64 ((xs.length : Nat) : Int)) (by kernel_rfl) (fun w => by kernel_rfl) ?_
  refine Sx.G.pure (.bool (((xs.length : Nat) : Int) == 0)) (by kernel_rfl) (fun w => by kernel_rfl) ?_
  refine Sx.G.pure (.bool (((xs.length : Nat) : Int) == 0)) (by kernel_rfl) (fun w => by kernel_rfl) ?_
  cases hc1 : (((xs.length : Nat) : Int) == 0)
  · have hb1 := hc1
    have hlz := beq_eq_false_iff_ne.1 hc1
    refine Sx.G.pure (.slice A xs.length c) (by kernel_rfl) (fun w => by kernel_rfl) ?_
    refine Sx.G.plain 94 #[.slice A xs.length c] (.agg #[.slice A xs.length c, .int .i64 2]) (by kernel_rfl) (fun w => by kernel_rfl) (fun w S => by exact implx_bG A xs.length c _) ?_
    refine Sx.G.plain 104 #[.agg #[.slice A xs.length c, .int .i64 2]] (.bool (decide (((xs.length : Nat) : Int) ≤ 2))) (by kernel_rfl) (fun w => by kernel_rfl) (fun w S => by exact implx_okG A xs.length c 2 _) ?_
    refine Sx.G.pure (.bool (!(decide (((xs.length : Nat) : Int) ≤ 2)))) (by kernel_rfl) (fun w => by kernel_rfl) ?_
    refine Sx.G.pure (.bool (!(decide (((xs.length : Nat) : Int) ≤ 2)))) (by kernel_rfl) (fun w => by kernel_rfl) ?_
    refine Sx.G.nil ?_
    refine Sx.E.next ?_
    cases hc2 : (decide (((xs.length : Nat) : Int) ≤ 2))
    · have hb2 := hc2
      replace hc2 := of_decide_eq_false hc2
      refine Sx.C.yes (by kernel_rfl) (by kernel_rfl) ?_
      refine Sx.C.seq ?_
      refine Sx.C.region ?_
      refine Sx.G.pure (.bool false) (by kernel_rfl) (fun w => by kernel_rfl) ?_
      refine Sx.G.nil ?_
      refine Sx.E.next ?_
      refine Sx.C.ret ?_
      refine Sx.E.then_ret ?_
      refine Sx.E.ret1 (.bool false) rfl (by kernel_rfl) (fun w S => ?_)
      have hb : inB ((xs.length : Nat) : Int) 1 2 = false := by rw [inB_false]; omega
      exact ⟨by unfold gsOk; rw [hb]; rfl, S.below⟩
    · have hb2 := hc2
      replace hc2 := of_decide_eq_true hc2
      refine Sx.C.no (by kernel_rfl) (by kernel_rfl) ?_
      refine Sx.C.skip ?_
      refine Sx.E.next ?_
      refine Sx.C.seq ?_
      refine Sx.C.seq ?_
      refine Sx.C.region ?_
      refine Sx.G.pure (.slice A xs.length c) (by kernel_rfl) (fun w => by kernel_rfl) ?_
      refine Sx.G.pure (.int .i64 ((xs.length : Nat) : Int)) (by kernel_rfl) (fun w => by kernel_rfl) ?_
      refine Sx.G.pure (.int .i64 0) (by kernel_rfl) (fun w => by kernel_rfl) ?_
      refine Sx.G.nil ?_
      refine Sx.E.next ?_
      refine Sx.C.block ?_
      refine Sx.C.loop (α := Nat) (fun i => i ≤ xs.length ∧ (xs.take i).all guestOk = true) (fun i => [(16, .int .i64 (i : Int)), (2, .bool false), (14, .slice A xs.length c), (15, .int .i64 ((xs.length : Nat) : Int))]) (fun i => []) (fun i => xs.length - i) 0 ⟨Nat.zero_le _, rfl⟩ (fun a hA => (Sx.Ag.and hA (Sx.Ag.and hA (Sx.Ag.and hA (Sx.Ag.and hA (Sx.Ag.none hA) _ _ (by kernel_rfl)) _ _ (by kernel_rfl)) _ _ (by kernel_rfl)) _ _ (by kernel_rfl))) (fun w S => S) (fun i hx => ?_)
      have hxi := hx.1
      refine Sx.C.seq ?_
      refine Sx.C.region ?_
      refine Sx.G.pure (.bool (decide ((i : Int) < ((xs.length : Nat) : Int)))) (by kernel_rfl) (fun w => by kernel_rfl) ?_
      refine Sx.G.nil ?_
      refine Sx.E.next ?_
      refine Sx.C.seq ?_
      cases hc3 : (decide ((i : Int) < ((xs.length : Nat) : Int)))
      · have hb3 := hc3
        replace hc3 := of_decide_eq_false hc3
        refine Sx.C.no (by kernel_rfl) (by kernel_rfl) ?_
        refine Sx.C.exit ?_
        refine Sx.E.then_exit ?_
        refine Sx.E.then_exit ?_
        refine Sx.E.block_hit ?_
        refine Sx.E.next ?_
        refine Sx.C.seq ?_
        refine Sx.C.region ?_
        refine Sx.G.pure (.bool true) (by kernel_rfl) (fun w => by kernel_rfl) ?_
        refine Sx.G.nil ?_
        refine Sx.E.next ?_
        refine Sx.C.ret ?_
        refine Sx.E.ret1 (.bool true) rfl (by kernel_rfl) (fun w S => ?_)
        have hall : xs.all guestOk = true := by have h2 := hx.2; rwa [List.take_of_length_le (by omega)] at h2
        have hb : inB ((xs.length : Nat) : Int) 1 2 = true := by rw [inB_iff]; omega
        exact ⟨by unfold gsOk; rw [hall, hb]; rfl, S.below⟩
      · have hb3 := hc3
        replace hc3 := of_decide_eq_true hc3
        refine Sx.C.yes (by kernel_rfl) (by kernel_rfl) ?_
        refine Sx.C.skip ?_
        refine Sx.E.next ?_
        refine Sx.C.seq ?_
        refine Sx.C.block ?_
        refine Sx.C.seq ?_
        refine Sx.C.region ?_
        obtain ⟨b4, f4, es4, eA4, hr4, hl4, hm4⟩ := Sx.old_elem (by decide) h i (by omega)
        subst eA4
        obtain ⟨x4, hx4⟩ : ∃ z_, z_ = (xs[i]'(by omega)) := ⟨_, rfl⟩
        rw [← hx4] at hr4
        have hR4 := hr4
        obtain ⟨P4_0, P4_1, P4_2, P4_3, rfl, hf4_0, hf4_1, hf4_2, hf4_3⟩ := wG_rd hr4
        obtain ⟨A4_0, c4_0, e4_0, -⟩ := lst_val hf4_0
        subst e4_0
        obtain ⟨A4_1, c4_1, e4_1, -⟩ := lst_val hf4_1
        subst e4_1
        obtain ⟨A4_2, c4_2, e4_2, -⟩ := lst_val hf4_2
        subst e4_2
        obtain ⟨A4_3, c4_3, e4_3, -⟩ := lst_val hf4_3
        subst e4_3
        refine Sx.G.elem 25 51 (.tmp 14) (.tmp 16) 15 184 b4 f4 xs.length c i rfl (by kernel_rfl) (by kernel_rfl) (by kernel_rfl) (by kernel_rfl) (by omega) ?_
        refine Sx.G.ldr 51 (.tmp 18) b4 (f4 + i * 15) [.slice A4_0 x4.prog.length c4_0, .int .i64 x4.a, .int .i64 x4.pc, .slice A4_1 x4.wr.length c4_1, .slice A4_2 x4.lv.length c4_2, .int .i64 x4.t.1, .int .i64 x4.t.2.1, .bool x4.t.2.2, .int .i64 x4.pd, .int .i64 x4.x.1, .int .i64 x4.x.2.1, .bool x4.x.2.2.1, .int .i64 x4.x.2.2.2, .bool x4.hl, .slice A4_3 x4.seen.length c4_3] rfl (by kernel_rfl) (by kernel_rfl) (fun w S => hm4 w _ S) (by kernel_rfl) (by kernel_rfl) ?_
        refine Sx.G.alloc 51 (.agg #[.slice none 0 0, .int .i64 0, .int .i64 0, .slice none 0 0, .slice none 0 0, .int .i64 0, .int .i64 0, .bool false, .int .i64 0, .int .i64 0, .int .i64 0, .bool false, .int .i64 0, .bool false, .slice none 0 0]) [.slice none 0 0, .int .i64 0, .int .i64 0, .slice none 0 0, .slice none 0 0, .int .i64 0, .int .i64 0, .bool false, .int .i64 0, .int .i64 0, .int .i64 0, .bool false, .int .i64 0, .bool false, .slice none 0 0] rfl (by kernel_rfl) (fun w => by kernel_rfl) (by kernel_rfl) (fun b5 => ?_)
        refine Sx.G.sto 51 (.tmp 4) (.tmp 19) b5 0 0 [.slice none 0 0, .int .i64 0, .int .i64 0, .slice none 0 0, .slice none 0 0, .int .i64 0, .int .i64 0, .bool false, .int .i64 0, .int .i64 0, .int .i64 0, .bool false, .int .i64 0, .bool false, .slice none 0 0] [.slice A4_0 x4.prog.length c4_0, .int .i64 x4.a, .int .i64 x4.pc, .slice A4_1 x4.wr.length c4_1, .slice A4_2 x4.lv.length c4_2, .int .i64 x4.t.1, .int .i64 x4.t.2.1, .bool x4.t.2.2, .int .i64 x4.pd, .int .i64 x4.x.1, .int .i64 x4.x.2.1, .bool x4.x.2.2.1, .int .i64 x4.x.2.2.2, .bool x4.hl, .slice A4_3 x4.seen.length c4_3] [.slice A4_0 x4.prog.length c4_0, .int .i64 x4.a, .int .i64 x4.pc, .slice A4_1 x4.wr.length c4_1, .slice A4_2 x4.lv.length c4_2, .int .i64 x4.t.1, .int .i64 x4.t.2.1, .bool x4.t.2.2, .int .i64 x4.pd, .int .i64 x4.x.1, .int .i64 x4.x.2.1, .bool x4.x.2.2.1, .int .i64 x4.x.2.2.2, .bool x4.hl, .slice A4_3 x4.seen.length c4_3] [vr b5 [.slice A4_0 x4.prog.length c4_0, .int .i64 x4.a, .int .i64 x4.pc, .slice A4_1 x4.wr.length c4_1, .slice A4_2 x4.lv.length c4_2, .int .i64 x4.t.1, .int .i64 x4.t.2.1, .bool x4.t.2.2, .int .i64 x4.pd, .int .i64 x4.x.1, .int .i64 x4.x.2.1, .bool x4.x.2.2.1, .int .i64 x4.x.2.2.2, .bool x4.hl, .slice A4_3 x4.seen.length c4_3]] rfl (by kernel_rfl) (by kernel_rfl) (by kernel_rfl) rfl (by kernel_rfl) rfl (by kernel_rfl) (by kernel_rfl) (by kernel_rfl) ?_
        refine Sx.G.nil ?_
        refine Sx.E.next ?_
        refine Sx.C.seq ?_
        refine Sx.C.slots (T' := [(2, .bool false), (4, .pointer (some ⟨b5, 0, none⟩)), (14, .slice (some ⟨b4, f4, none⟩) xs.length c), (15, .int .i64 ((xs.length : Nat) : Int)), (16, .int .i64 (i : Int))]) (fun a hA => (Sx.Ag.and hA (Sx.Ag.and hA (Sx.Ag.and hA (Sx.Ag.and hA (Sx.Ag.and hA (Sx.Ag.none hA) _ _ (by kernel_rfl)) _ _ (by kernel_rfl)) _ _ (by kernel_rfl)) _ _ (by kernel_rfl)) _ _ (by kernel_rfl))) ?_
        refine Sx.C.region ?_
        refine Sx.G.ld 51 (.tmp 4) b5 0 0 [.slice A4_0 x4.prog.length c4_0, .int .i64 x4.a, .int .i64 x4.pc, .slice A4_1 x4.wr.length c4_1, .slice A4_2 x4.lv.length c4_2, .int .i64 x4.t.1, .int .i64 x4.t.2.1, .bool x4.t.2.2, .int .i64 x4.pd, .int .i64 x4.x.1, .int .i64 x4.x.2.1, .bool x4.x.2.2.1, .int .i64 x4.x.2.2.2, .bool x4.hl, .slice A4_3 x4.seen.length c4_3] [.slice A4_0 x4.prog.length c4_0, .int .i64 x4.a, .int .i64 x4.pc, .slice A4_1 x4.wr.length c4_1, .slice A4_2 x4.lv.length c4_2, .int .i64 x4.t.1, .int .i64 x4.t.2.1, .bool x4.t.2.2, .int .i64 x4.pd, .int .i64 x4.x.1, .int .i64 x4.x.2.1, .bool x4.x.2.2.1, .int .i64 x4.x.2.2.2, .bool x4.hl, .slice A4_3 x4.seen.length c4_3] rfl (by kernel_rfl) (by kernel_rfl) rfl (by kernel_rfl) (by kernel_rfl) (by kernel_rfl) ?_
        refine Sx.G.plain 105 #[.agg #[.slice A4_0 x4.prog.length c4_0, .int .i64 x4.a, .int .i64 x4.pc, .slice A4_1 x4.wr.length c4_1, .slice A4_2 x4.lv.length c4_2, .int .i64 x4.t.1, .int .i64 x4.t.2.1, .bool x4.t.2.2, .int .i64 x4.pd, .int .i64 x4.x.1, .int .i64 x4.x.2.1, .bool x4.x.2.2.1, .int .i64 x4.x.2.2.2, .bool x4.hl, .slice A4_3 x4.seen.length c4_3]] (.bool (guestOk x4)) (by kernel_rfl) (fun w => by kernel_rfl) (fun w S => by exact Guests.impl_gok x4 _ _ (hwe _ (hx4 ▸ List.getElem_mem _)) (cap_G (hce _ (hx4 ▸ List.getElem_mem _))) (rd_G (St.old S hR4))) ?_
        refine Sx.G.pure (.bool (!(guestOk x4))) (by kernel_rfl) (fun w => by kernel_rfl) ?_
        refine Sx.G.nil ?_
        refine Sx.E.next ?_
        cases hc6 : (guestOk x4)
        · have hb6 := hc6
          refine Sx.C.yes (by kernel_rfl) (by kernel_rfl) ?_
          refine Sx.C.seq ?_
          refine Sx.C.region ?_
          refine Sx.G.pure (.bool false) (by kernel_rfl) (fun w => by kernel_rfl) ?_
          refine Sx.G.nil ?_
          refine Sx.E.next ?_
          refine Sx.C.ret ?_
          refine Sx.E.block_ret ?_
          refine Sx.E.then_ret ?_
          refine Sx.E.then_ret ?_
          refine Sx.E.block_ret ?_
          refine Sx.E.then_ret ?_
          refine Sx.E.ret1 (.bool false) rfl (by kernel_rfl) (fun w S => ?_)
          have hall : xs.all guestOk = false := by rw [Bool.eq_false_iff]; intro h2; have h3 := List.all_eq_true.1 h2 _ (List.getElem_mem (show i < xs.length by omega)); rw [← hx4, hc6] at h3; cases h3
          exact ⟨by unfold gsOk; rw [hall, Bool.and_false], S.below⟩
        · have hb6 := hc6
          refine Sx.C.no (by kernel_rfl) (by kernel_rfl) ?_
          refine Sx.C.skip ?_
          refine Sx.E.block_normal ?_
          refine Sx.E.next ?_
          refine Sx.C.region ?_
          refine Sx.G.pureq (.int .i64 (IntKind.i64.wrap ((i : Int) + 1))) (.int .i64 ((i + 1 : Nat) : Int)) (by kernel_rfl) (fun w => by kernel_rfl) (congrArg (Value.int .i64) (Sx.wrap_up i (by omega))) ?_
          refine Sx.G.pure (.int .i64 ((i + 1 : Nat) : Int)) (by kernel_rfl) (fun w => by kernel_rfl) ?_
          refine Sx.G.nil ?_
          have hup : (xs.take (i + 1)).all guestOk = true := by rw [Kit.take_step (by omega), List.all_append, hx.2, ← hx4]; simp [hc6]
          exact Sx.E.again (i + 1) ⟨by omega, hup⟩ (by omega) (fun a hA => (Sx.Ag.and hA (Sx.Ag.and hA (Sx.Ag.and hA (Sx.Ag.and hA (Sx.Ag.none hA) _ _ (by kernel_rfl)) _ _ (by kernel_rfl)) _ _ (by kernel_rfl)) _ _ (by kernel_rfl))) (fun w S => St.pick S [] _ rfl (by decide))
  · have hb1 := hc1
    have hlz := beq_iff_eq.1 hc1
    refine Sx.G.skip (by kernel_rfl) ?_
    refine Sx.G.skip (by kernel_rfl) ?_
    refine Sx.G.skip (by kernel_rfl) ?_
    refine Sx.G.skip (by kernel_rfl) ?_
    refine Sx.G.pure (.bool true) (by kernel_rfl) (fun w => by kernel_rfl) ?_
    refine Sx.G.nil ?_
    refine Sx.E.next ?_
    refine Sx.C.yes (by kernel_rfl) (by kernel_rfl) ?_
    refine Sx.C.seq ?_
    refine Sx.C.region ?_
    refine Sx.G.pure (.bool false) (by kernel_rfl) (fun w => by kernel_rfl) ?_
    refine Sx.G.nil ?_
    refine Sx.E.next ?_
    refine Sx.C.ret ?_
    refine Sx.E.then_ret ?_
    refine Sx.E.ret1 (.bool false) rfl (by kernel_rfl) (fun w S => ?_)
    have hb : inB ((xs.length : Nat) : Int) 1 2 = false := by rw [inB_false]; omega
    exact ⟨by unfold gsOk; rw [hb]; rfl, S.below⟩
set_option maxRecDepth 100000 in
set_option maxHeartbeats 4000000 in
theorem implx_memok (xs : List (List Int)) (A : Option Addr) (c : Nat) (p : Int) (w : World) (hc : (rLsw (rLsw rInt)).cap xs) (h : rdLst (rLsw rInt) w 0 w.heap.size xs [.slice A xs.length c]) : Calls Try.prog 62 #[.slice A xs.length c, .int .i64 p] w (fun e w' => e = .returned (.bool (Grid.memB xs p)) ∧ Below w.heap.size w w') := by
  obtain ⟨hl, hce⟩ := hc
  refine Sx.enter (args := [.slice A xs.length c, .int .i64 p]) Try.func62 rfl Try.ntmps62 rfl ?_
  refine Sx.C.seq ?_
  refine Sx.C.region ?_
  refine Sx.G.pure (.bool false) (by kernel_rfl) (fun w => by kernel_rfl) ?_
  refine Sx.G.nil ?_
  refine Sx.E.next ?_
  refine Sx.C.seq ?_
  refine Sx.C.seq ?_
  refine Sx.C.region ?_
  refine Sx.G.pure (.slice A xs.length c) (by kernel_rfl) (fun w => by kernel_rfl) ?_
  refine Sx.G.pure (.int .i64 ((xs.length : Nat) : Int)) (by kernel_rfl) (fun w => by kernel_rfl) ?_
  refine Sx.G.pure (.int .i64 p) (by kernel_rfl) (fun w => by kernel_rfl) ?_
  refine Sx.G.pure (.bool (((xs.length : Nat) : Int) != p)) (by kernel_rfl) (fun w => by kernel_rfl) ?_
  refine Sx.G.nil ?_
  refine Sx.E.next ?_
  cases hc1 : (((xs.length : Nat) : Int) != p)
  · have hb1 := hc1
    refine Sx.C.no (by kernel_rfl) (by kernel_rfl) ?_
    refine Sx.C.skip ?_
    refine Sx.E.next ?_
    refine Sx.C.seq ?_
    refine Sx.C.seq ?_
    refine Sx.C.region ?_
    refine Sx.G.pure (.slice A xs.length c) (by kernel_rfl) (fun w => by kernel_rfl) ?_
    refine Sx.G.pure (.int .i64 ((xs.length : Nat) : Int)) (by kernel_rfl) (fun w => by kernel_rfl) ?_
    refine Sx.G.pure (.int .i64 0) (by kernel_rfl) (fun w => by kernel_rfl) ?_
    refine Sx.G.nil ?_
    refine Sx.E.next ?_
    refine Sx.C.block ?_
    refine Sx.C.loop (α := Nat) (fun i => i ≤ xs.length ∧ (xs.take i).all Grid.pageB = true) (fun i => [(13, .int .i64 (i : Int)), (4, .bool false), (11, .slice A xs.length c), (12, .int .i64 ((xs.length : Nat) : Int))]) (fun i => []) (fun i => xs.length - i) 0 ⟨Nat.zero_le _, rfl⟩ (fun a hA => (Sx.Ag.and hA (Sx.Ag.and hA (Sx.Ag.and hA (Sx.Ag.and hA (Sx.Ag.none hA) _ _ (by kernel_rfl)) _ _ (by kernel_rfl)) _ _ (by kernel_rfl)) _ _ (by kernel_rfl))) (fun w S => S) (fun i hx => ?_)
    have hxi := hx.1
    refine Sx.C.seq ?_
    refine Sx.C.region ?_
    refine Sx.G.pure (.bool (decide ((i : Int) < ((xs.length : Nat) : Int)))) (by kernel_rfl) (fun w => by kernel_rfl) ?_
    refine Sx.G.nil ?_
    refine Sx.E.next ?_
    refine Sx.C.seq ?_
    cases hc2 : (decide ((i : Int) < ((xs.length : Nat) : Int)))
    · have hb2 := hc2
      replace hc2 := of_decide_eq_false hc2
      refine Sx.C.no (by kernel_rfl) (by kernel_rfl) ?_
      refine Sx.C.exit ?_
      refine Sx.E.then_exit ?_
      refine Sx.E.then_exit ?_
      refine Sx.E.block_hit ?_
      refine Sx.E.next ?_
      refine Sx.C.seq ?_
      refine Sx.C.region ?_
      refine Sx.G.pure (.bool true) (by kernel_rfl) (fun w => by kernel_rfl) ?_
      refine Sx.G.nil ?_
      refine Sx.E.next ?_
      refine Sx.C.ret ?_
      refine Sx.E.ret1 (.bool true) rfl (by kernel_rfl) (fun w S => ?_)
      have hlp : (((xs.length : Nat) : Int) == p) = true := beq_iff_eq.2 (bne_eq_false_iff_eq.1 hc1)
      have hall : xs.all Grid.pageB = true := by have h2 := hx.2; rwa [List.take_of_length_le (by omega)] at h2
      exact ⟨by unfold Grid.memB Grid.pagesB; rw [← beq_dec, hlp, hall]; rfl, S.below⟩
    · have hb2 := hc2
      replace hc2 := of_decide_eq_true hc2
      refine Sx.C.yes (by kernel_rfl) (by kernel_rfl) ?_
      refine Sx.C.skip ?_
      refine Sx.E.next ?_
      refine Sx.C.seq ?_
      refine Sx.C.block ?_
      refine Sx.C.seq ?_
      refine Sx.C.region ?_
      obtain ⟨b3, f3, es3, eA3, hr3, hl3, hm3⟩ := Sx.old_elem (by decide) h i (by omega)
      subst eA3
      obtain ⟨x3, hx3⟩ : ∃ z_, z_ = (xs[i]'(by omega)) := ⟨_, rfl⟩
      rw [← hx3] at hr3
      have hle3 : x3.length ≤ 1048576 := (hce _ (hx3 ▸ List.getElem_mem _)).1
      replace hr3 : rdLst rInt w 0 w.heap.size x3 es3 := hr3
      obtain ⟨P3, rfl⟩ := lst_rd hr3
      obtain ⟨A3, c3, e3, -⟩ := lst_val hr3
      subst e3
      refine Sx.G.elem 24 26 (.tmp 11) (.tmp 13) 1 24 b3 f3 xs.length c i rfl (by kernel_rfl) (by kernel_rfl) (by kernel_rfl) (by kernel_rfl) (by omega) ?_
      refine Sx.G.ldr1 26 (.tmp 15) b3 ((f3 + i * 1) + 0) (.slice A3 x3.length c3) rfl (by kernel_rfl) (by kernel_rfl) (fun w S => hm3 w _ S 0 _ rfl) (by kernel_rfl) ?_
      refine Sx.G.pure (.slice A3 x3.length c3) (by kernel_rfl) (fun w => by kernel_rfl) ?_
      refine Sx.G.nil ?_
      refine Sx.E.next ?_
      refine Sx.C.seq ?_
      refine Sx.C.region ?_
      refine Sx.G.pure (.slice A3 x3.length c3) (by kernel_rfl) (fun w => by kernel_rfl) ?_
      refine Sx.G.plain 103 #[.slice A3 x3.length c3] (.bool (Grid.pageB x3)) (by kernel_rfl) (fun w => by kernel_rfl) (fun w S => by exact ((Grid.impl_pageOk A3 x3.length c3 0 _ x3 _ hle3 rfl (i1_lies (St.old (r := (rLsw rInt)) S hr3))).mono fun e w' h => And.intro h.1 (Guests.below_same h.2))) ?_
      refine Sx.G.pure (.bool (!(Grid.pageB x3))) (by kernel_rfl) (fun w => by kernel_rfl) ?_
      refine Sx.G.nil ?_
      refine Sx.E.next ?_
      cases hc4 : (Grid.pageB x3)
      · have hb4 := hc4
        refine Sx.C.yes (by kernel_rfl) (by kernel_rfl) ?_
        refine Sx.C.seq ?_
        refine Sx.C.region ?_
        refine Sx.G.pure (.bool false) (by kernel_rfl) (fun w => by kernel_rfl) ?_
        refine Sx.G.nil ?_
        refine Sx.E.next ?_
        refine Sx.C.ret ?_
        refine Sx.E.block_ret ?_
        refine Sx.E.then_ret ?_
        refine Sx.E.then_ret ?_
        refine Sx.E.block_ret ?_
        refine Sx.E.then_ret ?_
        refine Sx.E.ret1 (.bool false) rfl (by kernel_rfl) (fun w S => ?_)
        have hlp : (((xs.length : Nat) : Int) == p) = true := beq_iff_eq.2 (bne_eq_false_iff_eq.1 hc1)
        have hall : xs.all Grid.pageB = false := by rw [Bool.eq_false_iff]; intro h2; have h3 := List.all_eq_true.1 h2 _ (List.getElem_mem (show i < xs.length by omega)); rw [← hx3, hc4] at h3; cases h3
        exact ⟨by unfold Grid.memB Grid.pagesB; rw [hall]; rfl, S.below⟩
      · have hb4 := hc4
        refine Sx.C.no (by kernel_rfl) (by kernel_rfl) ?_
        refine Sx.C.skip ?_
        refine Sx.E.block_normal ?_
        refine Sx.E.next ?_
        refine Sx.C.region ?_
        refine Sx.G.pureq (.int .i64 (IntKind.i64.wrap ((i : Int) + 1))) (.int .i64 ((i + 1 : Nat) : Int)) (by kernel_rfl) (fun w => by kernel_rfl) (congrArg (Value.int .i64) (Sx.wrap_up i (by omega))) ?_
        refine Sx.G.pure (.int .i64 ((i + 1 : Nat) : Int)) (by kernel_rfl) (fun w => by kernel_rfl) ?_
        refine Sx.G.nil ?_
        have hup : (xs.take (i + 1)).all Grid.pageB = true := by rw [Kit.take_step (by omega), List.all_append, hx.2, ← hx3]; simp [hc4]
        exact Sx.E.again (i + 1) ⟨by omega, hup⟩ (by omega) (fun a hA => (Sx.Ag.and hA (Sx.Ag.and hA (Sx.Ag.and hA (Sx.Ag.and hA (Sx.Ag.none hA) _ _ (by kernel_rfl)) _ _ (by kernel_rfl)) _ _ (by kernel_rfl)) _ _ (by kernel_rfl))) (fun w S => S)
  · have hb1 := hc1
    refine Sx.C.yes (by kernel_rfl) (by kernel_rfl) ?_
    refine Sx.C.seq ?_
    refine Sx.C.region ?_
    refine Sx.G.pure (.bool false) (by kernel_rfl) (fun w => by kernel_rfl) ?_
    refine Sx.G.nil ?_
    refine Sx.E.next ?_
    refine Sx.C.ret ?_
    refine Sx.E.then_ret ?_
    refine Sx.E.ret1 (.bool false) rfl (by kernel_rfl) (fun w S => ?_)
    have hlp : (((xs.length : Nat) : Int) == p) = false := by rw [beq_eq_false_iff_ne]; exact bne_iff_ne.1 hc1
    exact ⟨by unfold Grid.memB Grid.pagesB; rw [← beq_dec, hlp, Bool.and_false], S.below⟩
set_option maxRecDepth 100000 in
set_option maxHeartbeats 4000000 in
theorem impl_bok (x : bT) (cs : List Value) (w : World) (hn : wB.wf x) (hc : wB.cap x) (h : wB.rd w 0 w.heap.size x cs) : Calls Try.prog 21 #[.agg cs.toArray] w (fun e w' => e = .returned (.bool (bareOk x)) ∧ Below w.heap.size w w') := by
  obtain ⟨hcap0, hcap1, hcap2, hcap3⟩ := hc
  have hR := h
  obtain ⟨hP0, hP1, hP2, rfl, hf0, hf1, hf2⟩ := wB_rd h
  obtain ⟨hA0, hK0, he0, -⟩ := lst_val hf0
  subst he0
  obtain ⟨hA1, hK1, he1, -⟩ := lst_val hf1
  subst he1
  obtain ⟨hA2, hK2, he2, -⟩ := lst_val hf2
  subst he2
  refine Sx.enter (args := [.agg #[.slice hA0 x.mem.length hK0, .slice hA1 x.gs.length hK1, .slice hA2 x.outs.length hK2, .int .i64 x.pd]]) Try.func21 rfl Try.ntmps21 rfl ?_
  refine Sx.C.seq ?_
  refine Sx.C.region ?_
  refine Sx.G.box 28 (.tmp 0) [.slice hA0 x.mem.length hK0, .slice hA1 x.gs.length hK1, .slice hA2 x.outs.length hK2, .int .i64 x.pd] rfl (by kernel_rfl) (by kernel_rfl) (fun b1 => ?_)
  refine Sx.G.pure (.bool false) (by kernel_rfl) (fun w => by kernel_rfl) ?_
  refine Sx.G.nil ?_
  refine Sx.E.next ?_
  refine Sx.C.seq ?_
  refine Sx.C.region ?_
  refine Sx.G.pure (.pointer (some ⟨b1, 0, none⟩)) (by kernel_rfl) (fun w => by kernel_rfl) ?_
  refine Sx.G.ld1 24 (.tmp 3) b1 0 0 [.slice hA0 x.mem.length hK0, .slice hA1 x.gs.length hK1, .slice hA2 x.outs.length hK2, .int .i64 x.pd] (.slice hA0 x.mem.length hK0) rfl (by kernel_rfl) (by kernel_rfl) rfl (by kernel_rfl) (by kernel_rfl) ?_
  refine Sx.G.plain 62 #[.slice hA0 x.mem.length hK0, .int .i64 8] (.bool (Grid.memB x.mem 8)) (by kernel_rfl) (fun w => by kernel_rfl) (fun w S => by exact implx_memok x.mem hA0 hK0 8 _ hcap0 (St.old (r := (rLsw (rLsw rInt))) S hf0)) ?_
  refine Sx.G.pure (.bool (Grid.memB x.mem 8)) (by kernel_rfl) (fun w => by kernel_rfl) ?_
  cases hc2 : (Grid.memB x.mem 8)
  · have hb2 := hc2
    refine Sx.G.skip (by kernel_rfl) ?_
    refine Sx.G.skip (by kernel_rfl) ?_
    refine Sx.G.skip (by kernel_rfl) ?_
    refine Sx.G.pure (.bool false) (by kernel_rfl) (fun w => by kernel_rfl) ?_
    refine Sx.G.pure (.bool false) (by kernel_rfl) (fun w => by kernel_rfl) ?_
    refine Sx.G.skip (by kernel_rfl) ?_
    refine Sx.G.skip (by kernel_rfl) ?_
    refine Sx.G.skip (by kernel_rfl) ?_
    refine Sx.G.skip (by kernel_rfl) ?_
    refine Sx.G.pure (.bool false) (by kernel_rfl) (fun w => by kernel_rfl) ?_
    refine Sx.G.pure (.bool false) (by kernel_rfl) (fun w => by kernel_rfl) ?_
    refine Sx.G.skip (by kernel_rfl) ?_
    refine Sx.G.skip (by kernel_rfl) ?_
    refine Sx.G.skip (by kernel_rfl) ?_
    refine Sx.G.pure (.bool false) (by kernel_rfl) (fun w => by kernel_rfl) ?_
    refine Sx.G.pure (.bool false) (by kernel_rfl) (fun w => by kernel_rfl) ?_
    refine Sx.G.nil ?_
    refine Sx.E.next ?_
    refine Sx.C.ret ?_
    refine Sx.E.ret1 (.bool false) rfl (by kernel_rfl) (fun w S => ?_)
    have HBO : bareOk x = (Grid.memB x.mem 8 && gsOk x.gs && decide (((x.outs.length : Nat) : Int) ≤ 40) && Irqs.pend x.pd) := by unfold bareOk gsOk; generalize x.gs.all guestOk = a1; generalize Grid.memB x.mem 8 = a2; generalize inB ((x.gs.length : Nat) : Int) 1 2 = a3; revert a1 a2 a3; generalize decide (((x.outs.length : Nat) : Int) ≤ 40) = a4; generalize Irqs.pend x.pd = a5; revert a4 a5; decide
    exact ⟨congrArg Ending.returned (congrArg Value.bool (by simp only [HBO, hb2, Bool.and_true, Bool.and_false, Bool.false_and, Bool.true_and])), S.below⟩
  · have hb2 := hc2
    refine Sx.G.pure (.pointer (some ⟨b1, 1, none⟩)) (by kernel_rfl) (fun w => by kernel_rfl) ?_
    refine Sx.G.ld1 25 (.tmp 7) b1 1 0 [.slice hA0 x.mem.length hK0, .slice hA1 x.gs.length hK1, .slice hA2 x.outs.length hK2, .int .i64 x.pd] (.slice hA1 x.gs.length hK1) rfl (by kernel_rfl) (by kernel_rfl) rfl (by kernel_rfl) (by kernel_rfl) ?_
    refine Sx.G.plain 63 #[.slice hA1 x.gs.length hK1] (.bool (gsOk x.gs)) (by kernel_rfl) (fun w => by kernel_rfl) (fun w S => by exact implx_gsok x.gs hA1 hK1 _ hn.2.1 hcap1 (St.old (r := (rLsw wG)) S hf1)) ?_
    refine Sx.G.pure (.bool (gsOk x.gs)) (by kernel_rfl) (fun w => by kernel_rfl) ?_
    refine Sx.G.pure (.bool (gsOk x.gs)) (by kernel_rfl) (fun w => by kernel_rfl) ?_
    cases hc3 : (gsOk x.gs)
    · have hb3 := hc3
      refine Sx.G.skip (by kernel_rfl) ?_
      refine Sx.G.skip (by kernel_rfl) ?_
      refine Sx.G.skip (by kernel_rfl) ?_
      refine Sx.G.skip (by kernel_rfl) ?_
      refine Sx.G.pure (.bool false) (by kernel_rfl) (fun w => by kernel_rfl) ?_
      refine Sx.G.pure (.bool false) (by kernel_rfl) (fun w => by kernel_rfl) ?_
      refine Sx.G.skip (by kernel_rfl) ?_
      refine Sx.G.skip (by kernel_rfl) ?_
      refine Sx.G.skip (by kernel_rfl) ?_
      refine Sx.G.pure (.bool false) (by kernel_rfl) (fun w => by kernel_rfl) ?_
      refine Sx.G.pure (.bool false) (by kernel_rfl) (fun w => by kernel_rfl) ?_
      refine Sx.G.nil ?_
      refine Sx.E.next ?_
      refine Sx.C.ret ?_
      refine Sx.E.ret1 (.bool false) rfl (by kernel_rfl) (fun w S => ?_)
      have HBO : bareOk x = (Grid.memB x.mem 8 && gsOk x.gs && decide (((x.outs.length : Nat) : Int) ≤ 40) && Irqs.pend x.pd) := by unfold bareOk gsOk; generalize x.gs.all guestOk = a1; generalize Grid.memB x.mem 8 = a2; generalize inB ((x.gs.length : Nat) : Int) 1 2 = a3; revert a1 a2 a3; generalize decide (((x.outs.length : Nat) : Int) ≤ 40) = a4; generalize Irqs.pend x.pd = a5; revert a4 a5; decide
      exact ⟨congrArg Ending.returned (congrArg Value.bool (by simp only [HBO, hb2, hb3, Bool.and_true, Bool.and_false, Bool.false_and, Bool.true_and])), S.below⟩
    · have hb3 := hc3
      refine Sx.G.pure (.pointer (some ⟨b1, 2, none⟩)) (by kernel_rfl) (fun w => by kernel_rfl) ?_
      refine Sx.G.ld1 26 (.tmp 12) b1 2 0 [.slice hA0 x.mem.length hK0, .slice hA1 x.gs.length hK1, .slice hA2 x.outs.length hK2, .int .i64 x.pd] (.slice hA2 x.outs.length hK2) rfl (by kernel_rfl) (by kernel_rfl) rfl (by kernel_rfl) (by kernel_rfl) ?_
      refine Sx.G.plain 64 #[.slice hA2 x.outs.length hK2] (.agg #[.slice hA2 x.outs.length hK2, .int .i64 40]) (by kernel_rfl) (fun w => by kernel_rfl) (fun w S => by exact implx_bI hA2 x.outs.length hK2 _) ?_
      refine Sx.G.plain 65 #[.agg #[.slice hA2 x.outs.length hK2, .int .i64 40]] (.bool (decide (((x.outs.length : Nat) : Int) ≤ 40))) (by kernel_rfl) (fun w => by kernel_rfl) (fun w S => by exact implx_okI hA2 x.outs.length hK2 40 _) ?_
      refine Sx.G.pure (.bool (decide (((x.outs.length : Nat) : Int) ≤ 40))) (by kernel_rfl) (fun w => by kernel_rfl) ?_
      refine Sx.G.pure (.bool (decide (((x.outs.length : Nat) : Int) ≤ 40))) (by kernel_rfl) (fun w => by kernel_rfl) ?_
      cases hc4 : (decide (((x.outs.length : Nat) : Int) ≤ 40))
      · have hb4 := hc4
        replace hc4 := of_decide_eq_false hc4
        refine Sx.G.skip (by kernel_rfl) ?_
        refine Sx.G.skip (by kernel_rfl) ?_
        refine Sx.G.skip (by kernel_rfl) ?_
        refine Sx.G.pure (.bool false) (by kernel_rfl) (fun w => by kernel_rfl) ?_
        refine Sx.G.pure (.bool false) (by kernel_rfl) (fun w => by kernel_rfl) ?_
        refine Sx.G.nil ?_
        refine Sx.E.next ?_
        refine Sx.C.ret ?_
        refine Sx.E.ret1 (.bool false) rfl (by kernel_rfl) (fun w S => ?_)
        have HBO : bareOk x = (Grid.memB x.mem 8 && gsOk x.gs && decide (((x.outs.length : Nat) : Int) ≤ 40) && Irqs.pend x.pd) := by unfold bareOk gsOk; generalize x.gs.all guestOk = a1; generalize Grid.memB x.mem 8 = a2; generalize inB ((x.gs.length : Nat) : Int) 1 2 = a3; revert a1 a2 a3; generalize decide (((x.outs.length : Nat) : Int) ≤ 40) = a4; generalize Irqs.pend x.pd = a5; revert a4 a5; decide
        exact ⟨congrArg Ending.returned (congrArg Value.bool (by simp only [HBO, hb2, hb3, hb4, Bool.and_true, Bool.and_false, Bool.false_and, Bool.true_and])), S.below⟩
      · have hb4 := hc4
        replace hc4 := of_decide_eq_true hc4
        refine Sx.G.pure (.pointer (some ⟨b1, 3, none⟩)) (by kernel_rfl) (fun w => by kernel_rfl) ?_
        refine Sx.G.ld1 3 (.tmp 18) b1 3 0 [.slice hA0 x.mem.length hK0, .slice hA1 x.gs.length hK1, .slice hA2 x.outs.length hK2, .int .i64 x.pd] (.int .i64 x.pd) rfl (by kernel_rfl) (by kernel_rfl) rfl (by kernel_rfl) (by kernel_rfl) ?_
        refine Sx.G.plain 66 #[.int .i64 x.pd] (.bool (Irqs.pend x.pd)) (by kernel_rfl) (fun w => by kernel_rfl) (fun w S => by exact Irqs.impl_pend x.pd _ hn.2.2.2) ?_
        refine Sx.G.pure (.bool (Irqs.pend x.pd)) (by kernel_rfl) (fun w => by kernel_rfl) ?_
        refine Sx.G.pure (.bool (Irqs.pend x.pd)) (by kernel_rfl) (fun w => by kernel_rfl) ?_
        refine Sx.G.nil ?_
        refine Sx.E.next ?_
        refine Sx.C.ret ?_
        refine Sx.E.ret1 (.bool (Irqs.pend x.pd)) rfl (by kernel_rfl) (fun w S => ?_)
        have HBO : bareOk x = (Grid.memB x.mem 8 && gsOk x.gs && decide (((x.outs.length : Nat) : Int) ≤ 40) && Irqs.pend x.pd) := by unfold bareOk gsOk; generalize x.gs.all guestOk = a1; generalize Grid.memB x.mem 8 = a2; generalize inB ((x.gs.length : Nat) : Int) 1 2 = a3; revert a1 a2 a3; generalize decide (((x.outs.length : Nat) : Int) ≤ 40) = a4; generalize Irqs.pend x.pd = a5; revert a4 a5; decide
        exact ⟨congrArg Ending.returned (congrArg Value.bool (by simp only [HBO, hb2, hb3, hb4, Bool.and_true, Bool.and_false, Bool.false_and, Bool.true_and])), S.below⟩
end Go.Proofs.Ytldgadmpclgfhaa.Kit
namespace Go.Proofs.Ytldgadmpclgfhaa.fnExactBareOk
set_option maxRecDepth 100000
open Go.ChangeShapes Go.WideShapes Go.ChangeAt Go.RowKit
open Go.Proofs.Ytldgadmpclgfhaa.Base Go.Proofs.Ytldgadmpclgfhaa.Mem Go.Proofs.Ytldgadmpclgfhaa.Data Go.Proofs.Ytldgadmpclgfhaa.Stt Go.Proofs.Ytldgadmpclgfhaa.Kit Go.Proofs.Ytldgadmpclgfhaa.Guests Go.Proofs.Ytldgadmpclgfhaa.Ctls Go.Proofs.Ytldgadmpclgfhaa.Exits
set_option linter.unusedVariables false
set_option linter.unusedSimpArgs false
set_option maxRecDepth 100000 in
set_option maxHeartbeats 8000000 in
theorem walk (w : World) (x0 : bT) (cs0 : List Value) (hw0 : wB.wf x0) (h0 : wB.rd w 0 w.heap.size x0 cs0) :
    Calls Try.prog 4 #[.agg cs0.toArray] w fun e w' => e = .returned (.bool true) ∧ Below w.heap.size w w' := by
  have h0R := h0
  obtain ⟨h0P0, h0P1, h0P2, rfl, h0f0, h0f1, h0f2⟩ := wB_rd h0
  obtain ⟨h0A0, h0K0, h0e0, -⟩ := lst_val h0f0
  subst h0e0
  obtain ⟨h0A1, h0K1, h0e1, -⟩ := lst_val h0f1
  subst h0e1
  obtain ⟨h0A2, h0K2, h0e2, -⟩ := lst_val h0f2
  subst h0e2
  refine Sx.enter (args := [.agg #[.slice h0A0 x0.mem.length h0K0, .slice h0A1 x0.gs.length h0K1, .slice h0A2 x0.outs.length h0K2, .int .i64 x0.pd]]) Try.func4 rfl Try.ntmps4 rfl ?_
  refine Sx.C.seq ?_
  refine Sx.C.region ?_
  refine Sx.G.box 39 (.tmp 0) [.slice h0A0 x0.mem.length h0K0, .slice h0A1 x0.gs.length h0K1, .slice h0A2 x0.outs.length h0K2, .int .i64 x0.pd] rfl (by kernel_rfl) (by kernel_rfl) (fun b1 => ?_)
  refine Sx.G.pure (.bool false) (by kernel_rfl) (fun w => by kernel_rfl) ?_
  refine Sx.G.nil ?_
  refine Sx.E.next ?_
  refine Sx.C.seq ?_
  refine Sx.C.region ?_
  refine Sx.G.pure (.int .i64 1048576) (by kernel_rfl) (fun w => by kernel_rfl) ?_
  refine Sx.G.nil ?_
  refine Sx.E.next ?_
  refine Sx.C.seq ?_
  refine Sx.C.region ?_
  refine Sx.G.ld 39 (.tmp 1) b1 0 0 [.slice h0A0 x0.mem.length h0K0, .slice h0A1 x0.gs.length h0K1, .slice h0A2 x0.outs.length h0K2, .int .i64 x0.pd] [.slice h0A0 x0.mem.length h0K0, .slice h0A1 x0.gs.length h0K1, .slice h0A2 x0.outs.length h0K2, .int .i64 x0.pd] rfl (by kernel_rfl) (by kernel_rfl) rfl (by kernel_rfl) (by kernel_rfl) (by kernel_rfl) ?_
  refine Sx.G.pure (.int .i64 1048576) (by kernel_rfl) (fun w => by kernel_rfl) ?_
  refine Sx.G.call 18 #[.agg #[.slice h0A0 x0.mem.length h0K0, .slice h0A1 x0.gs.length h0K1, .slice h0A2 x0.outs.length h0K2, .int .i64 x0.pd], .int .i64 1048576] (by kernel_rfl) (fun w => by kernel_rfl) (fun w2 S => (Kit.ksz_Bare x0 _ 1048576 _ hw0 (by omega) (by omega) (St.old S h0R)).mono fun e w2' hp => ?_)
  obtain ⟨l2, rfl, hs0, hb⟩ := hp
  unfold Kit.Sz at hs0
  refine ⟨_, _, rfl, (S.call hb), ?_⟩
  clear S hb
  refine Sx.G.pure (.int .i64 l2) (by kernel_rfl) (fun w => by kernel_rfl) ?_
  refine Sx.G.nil ?_
  refine Sx.E.next ?_
  refine Sx.C.seq ?_
  refine Sx.C.seq ?_
  refine Sx.C.region ?_
  refine Sx.G.pure (.int .i64 l2) (by kernel_rfl) (fun w => by kernel_rfl) ?_
  refine Sx.G.pure (.bool (decide (l2 < 0))) (by kernel_rfl) (fun w => by kernel_rfl) ?_
  refine Sx.G.nil ?_
  refine Sx.E.next ?_
  cases hc3 : (decide (l2 < 0))
  · have hb3 := hc3
    replace hc3 := of_decide_eq_false hc3
    have hc0 := Kit.capz_Bare x0 (by omega)
    have hz0 := Kit.tcntz_Bare x0
    refine Sx.C.no (by kernel_rfl) (by kernel_rfl) ?_
    refine Sx.C.skip ?_
    refine Sx.E.next ?_
    refine Sx.C.seq ?_
    refine Sx.C.region ?_
    refine Sx.G.ld 39 (.tmp 1) b1 0 0 [.slice h0A0 x0.mem.length h0K0, .slice h0A1 x0.gs.length h0K1, .slice h0A2 x0.outs.length h0K2, .int .i64 x0.pd] [.slice h0A0 x0.mem.length h0K0, .slice h0A1 x0.gs.length h0K1, .slice h0A2 x0.outs.length h0K2, .int .i64 x0.pd] rfl (by kernel_rfl) (by kernel_rfl) rfl (by kernel_rfl) (by kernel_rfl) (by kernel_rfl) ?_
    refine Sx.G.call 20 #[.agg #[.slice h0A0 x0.mem.length h0K0, .slice h0A1 x0.gs.length h0K1, .slice h0A2 x0.outs.length h0K2, .int .i64 x0.pd]] (by kernel_rfl) (fun w => by kernel_rfl) (fun w4 S => (Kit.kto_Bare x0 _ _ hc0 (St.old S h0R)).mono fun e w4' hp => ?_)
    obtain ⟨cs, F, rfl, ho, hF, hb⟩ := hp
    obtain ⟨P4_0, P4_1, P4_2, rfl, f4_0, f4_1, f4_2⟩ := wB_rd (wB.reads ho)
    obtain ⟨A4_0, c4_0, e4_0, -⟩ := lst_val f4_0
    subst e4_0
    obtain ⟨A4_1, c4_1, e4_1, -⟩ := lst_val f4_1
    subst e4_1
    obtain ⟨A4_2, c4_2, e4_2, -⟩ := lst_val f4_2
    subst e4_2
    generalize F = F4 at ho hF
    refine ⟨_, _, rfl, (St.got S hb ho hF), ?_⟩
    clear S hb ho hF f4_0 f4_1 f4_2
    refine Sx.G.plain 19 #[.agg #[.slice A4_0 x0.mem.length c4_0, .slice A4_1 x0.gs.length c4_1, .slice A4_2 x0.outs.length c4_2, .int .i64 x0.pd]] (.bool (bareOk x0)) (by kernel_rfl) (fun w => by kernel_rfl) (fun w S => by exact specx_bok x0 _ _ hc0 (St.reads S 0 rfl)) ?_
    refine Sx.G.pure (.bool (bareOk x0)) (by kernel_rfl) (fun w => by kernel_rfl) ?_
    refine Sx.G.nil ?_
    refine Sx.E.next ?_
    refine Sx.C.seq ?_
    refine Sx.C.region ?_
    refine Sx.G.ld 39 (.tmp 1) b1 0 1 [.slice h0A0 x0.mem.length h0K0, .slice h0A1 x0.gs.length h0K1, .slice h0A2 x0.outs.length h0K2, .int .i64 x0.pd] [.slice h0A0 x0.mem.length h0K0, .slice h0A1 x0.gs.length h0K1, .slice h0A2 x0.outs.length h0K2, .int .i64 x0.pd] rfl (by kernel_rfl) (by kernel_rfl) rfl (by kernel_rfl) (by kernel_rfl) (by kernel_rfl) ?_
    refine Sx.G.call 20 #[.agg #[.slice h0A0 x0.mem.length h0K0, .slice h0A1 x0.gs.length h0K1, .slice h0A2 x0.outs.length h0K2, .int .i64 x0.pd]] (by kernel_rfl) (fun w => by kernel_rfl) (fun w5 S => (Kit.kto_Bare x0 _ _ hc0 (St.old S h0R)).mono fun e w5' hp => ?_)
    obtain ⟨cs, F, rfl, ho, hF, hb⟩ := hp
    obtain ⟨P5_0, P5_1, P5_2, rfl, f5_0, f5_1, f5_2⟩ := wB_rd (wB.reads ho)
    obtain ⟨A5_0, c5_0, e5_0, -⟩ := lst_val f5_0
    subst e5_0
    obtain ⟨A5_1, c5_1, e5_1, -⟩ := lst_val f5_1
    subst e5_1
    obtain ⟨A5_2, c5_2, e5_2, -⟩ := lst_val f5_2
    subst e5_2
    generalize F = F5 at ho hF
    refine ⟨_, _, rfl, (St.got S hb ho hF), ?_⟩
    clear S hb ho hF f5_0 f5_1 f5_2
    refine Sx.G.alloc 28 (.agg #[.slice none 0 0, .slice none 0 0, .slice none 0 0, .int .i64 0]) [.slice none 0 0, .slice none 0 0, .slice none 0 0, .int .i64 0] rfl (by kernel_rfl) (fun w => by kernel_rfl) (by kernel_rfl) (fun b6 => ?_)
    refine Sx.G.sto 28 (.tmp 5) (.tmp 16) b6 0 0 [.slice none 0 0, .slice none 0 0, .slice none 0 0, .int .i64 0] [.slice A5_0 x0.mem.length c5_0, .slice A5_1 x0.gs.length c5_1, .slice A5_2 x0.outs.length c5_2, .int .i64 x0.pd] [.slice A5_0 x0.mem.length c5_0, .slice A5_1 x0.gs.length c5_1, .slice A5_2 x0.outs.length c5_2, .int .i64 x0.pd] [vr b6 [.slice A5_0 x0.mem.length c5_0, .slice A5_1 x0.gs.length c5_1, .slice A5_2 x0.outs.length c5_2, .int .i64 x0.pd], ow wB w5.heap.size w5'.heap.size x0 [.slice A5_0 x0.mem.length c5_0, .slice A5_1 x0.gs.length c5_1, .slice A5_2 x0.outs.length c5_2, .int .i64 x0.pd] F5, ow wB w4.heap.size w4'.heap.size x0 [.slice A4_0 x0.mem.length c4_0, .slice A4_1 x0.gs.length c4_1, .slice A4_2 x0.outs.length c4_2, .int .i64 x0.pd] F4, vr b1 [.slice h0A0 x0.mem.length h0K0, .slice h0A1 x0.gs.length h0K1, .slice h0A2 x0.outs.length h0K2, .int .i64 x0.pd]] rfl (by kernel_rfl) (by kernel_rfl) (by kernel_rfl) rfl (by kernel_rfl) rfl (by kernel_rfl) (by kernel_rfl) (by kernel_rfl) ?_
    refine Sx.G.nil ?_
    refine Sx.E.next ?_
    refine Sx.C.seq ?_
    refine Sx.C.region ?_
    refine Sx.G.ld 28 (.tmp 5) b6 0 0 [.slice A5_0 x0.mem.length c5_0, .slice A5_1 x0.gs.length c5_1, .slice A5_2 x0.outs.length c5_2, .int .i64 x0.pd] [.slice A5_0 x0.mem.length c5_0, .slice A5_1 x0.gs.length c5_1, .slice A5_2 x0.outs.length c5_2, .int .i64 x0.pd] rfl (by kernel_rfl) (by kernel_rfl) rfl (by kernel_rfl) (by kernel_rfl) (by kernel_rfl) ?_
    refine Sx.G.plain 21 #[.agg #[.slice A5_0 x0.mem.length c5_0, .slice A5_1 x0.gs.length c5_1, .slice A5_2 x0.outs.length c5_2, .int .i64 x0.pd]] (.bool (bareOk x0)) (by kernel_rfl) (fun w => by kernel_rfl) (fun w S => by exact impl_bok x0 _ _ hw0 hc0 (St.reads S 1 rfl)) ?_
    refine Sx.G.pure (.bool (bareOk x0)) (by kernel_rfl) (fun w => by kernel_rfl) ?_
    refine Sx.G.nil ?_
    refine Sx.E.next ?_
    refine Sx.C.seq ?_
    refine Sx.C.seq ?_
    refine Sx.C.region ?_
    refine Sx.G.pure (.bool (bareOk x0)) (by kernel_rfl) (fun w => by kernel_rfl) ?_
    refine Sx.G.pure (.bool (bareOk x0)) (by kernel_rfl) (fun w => by kernel_rfl) ?_
    refine Sx.G.pureq (.bool ((bareOk x0) != (bareOk x0))) (.bool false) (by kernel_rfl) (fun w => by kernel_rfl) (congrArg Value.bool (bne_self_eq_false _)) ?_
    refine Sx.G.nil ?_
    refine Sx.E.next ?_
    refine Sx.C.no (by kernel_rfl) (by kernel_rfl) ?_
    refine Sx.C.skip ?_
    refine Sx.E.next ?_
    refine Sx.C.seq ?_
    refine Sx.C.seq ?_
    refine Sx.C.draw (.take 0 (.take 1 (.alone 2 (.alone 3 (.take 4 .nil))))) [vr b6 [.slice A5_0 x0.mem.length c5_0, .slice A5_1 x0.gs.length c5_1, .slice A5_2 x0.outs.length c5_2, .int .i64 x0.pd], vr b1 [.slice h0A0 x0.mem.length h0K0, .slice h0A1 x0.gs.length h0K1, .slice h0A2 x0.outs.length h0K2, .int .i64 x0.pd]] (fun w S => St.pick S [0, 3] _ rfl (by decide)) (by kernel_rfl) (by kernel_rfl) (by kernel_rfl) ?_
    refine Sx.GT.ld 28 (.tmp 5) b6 0 0 [.slice A5_0 x0.mem.length c5_0, .slice A5_1 x0.gs.length c5_1, .slice A5_2 x0.outs.length c5_2, .int .i64 x0.pd] [.slice A5_0 x0.mem.length c5_0, .slice A5_1 x0.gs.length c5_1, .slice A5_2 x0.outs.length c5_2, .int .i64 x0.pd] 0 (by rfl) (by rfl) (by kernel_rfl) (by kernel_rfl) (by rfl) (by kernel_rfl) (by kernel_rfl) (by kernel_rfl) ?_
    refine Sx.GT.ld 39 (.tmp 1) b1 0 1 [.slice h0A0 x0.mem.length h0K0, .slice h0A1 x0.gs.length h0K1, .slice h0A2 x0.outs.length h0K2, .int .i64 x0.pd] [.slice h0A0 x0.mem.length h0K0, .slice h0A1 x0.gs.length h0K1, .slice h0A2 x0.outs.length h0K2, .int .i64 x0.pd] 1 (by rfl) (by rfl) (by kernel_rfl) (by kernel_rfl) (by rfl) (by kernel_rfl) (by kernel_rfl) (by kernel_rfl) ?_
    refine Sx.GT.alone (Sx.Alone.call 20 #[.agg #[.slice h0A0 x0.mem.length h0K0, .slice h0A1 x0.gs.length h0K1, .slice h0A2 x0.outs.length h0K2, .int .i64 x0.pd]] (by rfl) (by kernel_rfl) (fun w => by kernel_rfl) (fun w7 S => (Kit.kto_Bare x0 _ _ hc0 (St.old S h0R)).mono fun e w7' hp => ?_))
    obtain ⟨cs, F, rfl, ho, hF, hb⟩ := hp
    obtain ⟨P7_0, P7_1, P7_2, rfl, f7_0, f7_1, f7_2⟩ := wB_rd (wB.reads ho)
    obtain ⟨A7_0, c7_0, e7_0, -⟩ := lst_val f7_0
    subst e7_0
    obtain ⟨A7_1, c7_1, e7_1, -⟩ := lst_val f7_1
    subst e7_1
    obtain ⟨A7_2, c7_2, e7_2, -⟩ := lst_val f7_2
    subst e7_2
    generalize F = F7 at ho hF
    refine ⟨_, _, rfl, (St.got S hb ho hF), (fun w S => St.pick S [1, 4] _ rfl (by decide)), ?_⟩
    clear S hb ho hF f7_0 f7_1 f7_2
    refine Sx.GT.alone (Sx.Alone.plain 13 #[.agg #[.slice A5_0 x0.mem.length c5_0, .slice A5_1 x0.gs.length c5_1, .slice A5_2 x0.outs.length c5_2, .int .i64 x0.pd], .agg #[.slice A7_0 x0.mem.length c7_0, .slice A7_1 x0.gs.length c7_1, .slice A7_2 x0.outs.length c7_2, .int .i64 x0.pd]] (.bool true) (by rfl) (by kernel_rfl) (fun w => by kernel_rfl) (fun w S => by exact Kit.keq_Bare x0 _ _ _ hc0 (St.reads S 2 rfl) (St.reads S 0 rfl)) (fun w S => St.pick S [1, 4] _ rfl (by decide)) ?_)
    refine Sx.GT.pure (.bool false) 4 (by rfl) (by kernel_rfl) (fun w => by kernel_rfl) ?_
    refine Sx.GT.nil ?_
    refine Sx.E.next ?_
    refine Sx.C.no (by kernel_rfl) (by kernel_rfl) ?_
    refine Sx.C.skip ?_
    refine Sx.E.next ?_
    refine Sx.C.seq ?_
    refine Sx.C.region ?_
    refine Sx.G.pure (.bool true) (by kernel_rfl) (fun w => by kernel_rfl) ?_
    refine Sx.G.nil ?_
    refine Sx.E.next ?_
    refine Sx.C.ret ?_
    refine Sx.E.ret1 (.bool true) rfl (by kernel_rfl) (fun w S => ?_)
    exact ⟨rfl, S.below⟩
  · have hb3 := hc3
    replace hc3 := of_decide_eq_true hc3
    refine Sx.C.yes (by kernel_rfl) (by kernel_rfl) ?_
    refine Sx.C.seq ?_
    refine Sx.C.region ?_
    refine Sx.G.pure (.bool true) (by kernel_rfl) (fun w => by kernel_rfl) ?_
    refine Sx.G.nil ?_
    refine Sx.E.next ?_
    refine Sx.C.ret ?_
    refine Sx.E.then_ret ?_
    refine Sx.E.ret1 (.bool true) rfl (by kernel_rfl) (fun w S => ?_)
    exact ⟨rfl, S.below⟩
set_option maxRecDepth 100000 in
theorem lifted (os : Os) (started : os.Started) (H : Type) (enc : TypeId × Value → H) :
    ReturnsInHanded {} Try.checked os 4 .any (Rows.fnExactBareOkSpec.pre6 enc Try.prog Try.f4 Rows.fnExactBareOkRow.domain false) (Rows.fnExactBareOkSpec.post enc Try.prog Try.f4 false true false false) := by
  refine returnsInHanded_of_change (C := Try.checked) Base.own started (by kernel_rfl) Try.func4
    (ChangeSpec.witness6 (enc := enc) (C := Try.checked) false ⟨#[], #[.agg #[.slice none 0 0, .slice none 0 0, .slice none 0 0, .int .i64 0]], []⟩ 8 (by kernel_rfl) (by kernel_rfl) (by kernel_rfl) (by kernel_rfl)) ?_
  intro W base args ds gs before hval0 hW hcnd _
  have hval : ∀ (j : Nat) t v, Try.f4.params[j]? = some t → args[j]? = some v → Value.okWide Try.prog W .any base t v := hval0
  have hW' := hW
  obtain ⟨p, q, hA0, hV, rfl, hfz, hnd⟩ := hW
  have hA : DataW.TrodAll enc Try.prog W 0 (fun _ => true) true Try.f4.params.toList args.toList ds p := hA0
  have hA1 := hA
  rw [Try.params4] at hA hval
  obtain ⟨v0, vs0, d0, ds0, p0, q0, hargs, rfl, rfl, h0, r0⟩ := trodAll_cons hA
  obtain ⟨rfl, rfl, rfl⟩ := trodAll_nil r0
  obtain rfl : args = #[v0] := by cases args; simp_all
  obtain ⟨rfl, rfl⟩ := trodVars_none hV
  obtain ⟨x0, cs0, rfl, hw0, h0'⟩ := Kit.open_Bare (hval 0 39 v0 rfl rfl) h0
  clear hA0 hval0
  rw [List.append_nil] at hW'
  refine (walk W x0 cs0 hw0 h0').mono fun e W' ⟨he, hg⟩ => ?_
  subst he
  exact ⟨_, rfl, Mem.post_args Kit.laid (by kernel_rfl) rfl rfl rfl hW' hA1 hg (fun _ _ _ => (trodAll_cons_mk (shut_bool Try.underlying4 _) trodAll_mk0)) (ok_one (by kernel_rfl) rfl (okWide_bool_mk Try.underlying4 _))⟩
theorem over : Rows.fnExactBareOkRow.holds Try.pinned (OpenSpec.ofChange Rows.fnExactBareOkSpec) :=
  OpenClaim.holds_of_wide 4 Try.f4 rfl rfl rfl rfl rfl rfl rfl ⟨rfl, rfl, rfl, rfl, rfl⟩ rfl rfl rfl rfl rfl (by kernel_rfl) Try.func4 (by kernel_rfl)
    (of_decide_eq_true (by kernel_rfl)) (by unfold Func.isWrapper; first | (rw [if_pos (by decide +kernel)]; kernel_rfl) | (rw [if_neg (by decide +kernel)]; exact ⟨rfl, rfl⟩))
    (fun os started H enc _ => lifted os started H enc)
/-- The given statement. -/
theorem proved : Rows.FnExactBareOkSaid :=
  over
#print axioms proved
end Go.Proofs.Ytldgadmpclgfhaa.fnExactBareOk
