/-
  At every argument the law FnExactSameBare returns true: the project's SameBare answers as the given model's SameBare, changes no argument, and what it returns is its own. No condition.
-/
import Derived.Test.YtldgadmpclgfhaaKSameBareB1
import Derived.Laws.StructEq
import Derived.BigQuiet
namespace Go.Proofs.Ytldgadmpclgfhaa.Guests
set_option maxRecDepth 100000
open Go.ChangeShapes Go.WideShapes Go.ChangeAt Go.RowKit
open Go.Proofs.Ytldgadmpclgfhaa.Base Go.Proofs.Ytldgadmpclgfhaa.Mem Go.Proofs.Ytldgadmpclgfhaa.Data Go.Proofs.Ytldgadmpclgfhaa.Slots Go.Proofs.Ytldgadmpclgfhaa.Ints Go.Proofs.Ytldgadmpclgfhaa.Ctls Go.Proofs.Ytldgadmpclgfhaa.Exits Go.Proofs.Ytldgadmpclgfhaa.Stt Go.Proofs.Ytldgadmpclgfhaa.Irqs Go.Proofs.Ytldgadmpclgfhaa.Inss
set_option linter.unusedVariables false
set_option linter.unusedSimpArgs false
theorem eqv_Ctl_eql (a0 : Int) (a1 : Int) (a2 : Bool) (b0 : Int) (b1 : Int) (b2 : Bool) (W : World) : (binOp .eql 47 (.agg #[.int .i64 a0, .int .i64 a1, .bool a2]) (.agg #[.int .i64 b0, .int .i64 b1, .bool b2])).run Try.prog W = .ok (.bool (a0 == b0 && a1 == b1 && a2 == b2)) W := by
  have ku3 := Try.underlying3
  have ka3 := Try.isAgg3
  have kz3 := Try.sizeOf3
  have ku4 := Try.underlying4
  have ka4 := Try.isAgg4
  have kz4 := Try.sizeOf4
  have hS : Try.prog.underlying 47 = some (.struct (Try.prog.fieldsOf 47)) := by kernel_rfl
  have hp : Try.prog.stoodInHeld 47 = false := by kernel_rfl
  rw [run_eql_struct, show (10000 : Nat) = 9999 + 1 from rfl, run_equalIn_agg W 9999 47 _ _ hS hp]
  simp only [Program.fieldsOf, Try.underlying47]
  go_simp
  by_cases h0 : a0 = b0 <;> by_cases h1 : a1 = b1 <;> cases a2 <;> cases b2 <;> simp [h0, h1]
theorem eqv_Exit_eql (a0 : Int) (a1 : Int) (a2 : Bool) (a3 : Int) (b0 : Int) (b1 : Int) (b2 : Bool) (b3 : Int) (W : World) : (binOp .eql 49 (.agg #[.int .i64 a0, .int .i64 a1, .bool a2, .int .i64 a3]) (.agg #[.int .i64 b0, .int .i64 b1, .bool b2, .int .i64 b3])).run Try.prog W = .ok (.bool (a0 == b0 && a1 == b1 && a2 == b2 && a3 == b3)) W := by
  have ku3 := Try.underlying3
  have ka3 := Try.isAgg3
  have kz3 := Try.sizeOf3
  have ku4 := Try.underlying4
  have ka4 := Try.isAgg4
  have kz4 := Try.sizeOf4
  have hS : Try.prog.underlying 49 = some (.struct (Try.prog.fieldsOf 49)) := by kernel_rfl
  have hp : Try.prog.stoodInHeld 49 = false := by kernel_rfl
  rw [run_eql_struct, show (10000 : Nat) = 9999 + 1 from rfl, run_equalIn_agg W 9999 49 _ _ hS hp]
  simp only [Program.fieldsOf, Try.underlying49]
  go_simp
  by_cases h0 : a0 = b0 <;> by_cases h1 : a1 = b1 <;> cases a2 <;> cases b2 <;> by_cases h3 : a3 = b3 <;> simp [h0, h1, h3]
theorem drew_below {w w' : World} (h : ∃ q, w' = w.drewN q) : Below w.heap.size w w' := by
  obtain ⟨q, rfl⟩ := h
  exact below_drewN (Below.refl _ _) q
def sameG (g k : gT) : Bool := decide (g.prog = k.prog) && (g.a == k.a) && (g.pc == k.pc) && decide (g.wr = k.wr) && decide (g.lv = k.lv) && ((g.t.1 == k.t.1) && (g.t.2.1 == k.t.2.1) && (g.t.2.2 == k.t.2.2)) && (g.pd == k.pd) && ((g.x.1 == k.x.1) && (g.x.2.1 == k.x.2.1) && (g.x.2.2.1 == k.x.2.2.1) && (g.x.2.2.2 == k.x.2.2.2)) && (g.hl == k.hl) && decide (g.seen = k.seen)
theorem sameG_refl (g : gT) : sameG g g = true := by simp [sameG]
set_option maxRecDepth 100000 in
set_option maxHeartbeats 4000000 in
theorem specx_same (g k : gT) (cs ds : List Value) (w : World) (hc : rG.cap g) (hd : rG.cap k) (h : rG.rd w 0 w.heap.size g cs) (j : rG.rd w 0 w.heap.size k ds) : Calls Try.prog 116 #[.agg cs.toArray, .agg ds.toArray] w (fun e w' => e = .returned (.bool (sameG g k)) ∧ Below w.heap.size w w') := by
  obtain ⟨q0, q1, q2, q3⟩ := rG_len hc
  obtain ⟨p0, p1, p2, p3⟩ := rG_len hd
  have hr := h
  obtain ⟨P0, P1, P2, P3, rfl, h0, h1, h2, h3⟩ := rG_rd h
  obtain ⟨PA0, Pc0, e0, hP0⟩ := lst_val h0
  subst e0
  obtain ⟨PA1, Pc1, e1, hP1⟩ := lst_val h1
  subst e1
  obtain ⟨PA2, Pc2, e2, hP2⟩ := lst_val h2
  subst e2
  obtain ⟨PA3, Pc3, e3, hP3⟩ := lst_val h3
  subst e3
  have jr := j
  obtain ⟨R0, R1, R2, R3, rfl, j0, j1, j2, j3⟩ := rG_rd j
  obtain ⟨RA0, Rc0, e0, hR0⟩ := lst_val j0
  subst e0
  obtain ⟨RA1, Rc1, e1, hR1⟩ := lst_val j1
  subst e1
  obtain ⟨RA2, Rc2, e2, hR2⟩ := lst_val j2
  subst e2
  obtain ⟨RA3, Rc3, e3, hR3⟩ := lst_val j3
  subst e3
  refine Sx.enter (args := [.agg #[.slice PA0 g.prog.length Pc0, .int .i64 g.a, .int .i64 g.pc, .slice PA1 g.wr.length Pc1, .slice PA2 g.lv.length Pc2, .int .i64 g.t.1, .int .i64 g.t.2.1, .bool g.t.2.2, .int .i64 g.pd, .int .i64 g.x.1, .int .i64 g.x.2.1, .bool g.x.2.2.1, .int .i64 g.x.2.2.2, .bool g.hl, .slice PA3 g.seen.length Pc3], .agg #[.slice RA0 k.prog.length Rc0, .int .i64 k.a, .int .i64 k.pc, .slice RA1 k.wr.length Rc1, .slice RA2 k.lv.length Rc2, .int .i64 k.t.1, .int .i64 k.t.2.1, .bool k.t.2.2, .int .i64 k.pd, .int .i64 k.x.1, .int .i64 k.x.2.1, .bool k.x.2.2.1, .int .i64 k.x.2.2.2, .bool k.hl, .slice RA3 k.seen.length Rc3]]) Try.func116 rfl Try.ntmps116 rfl ?_
  refine Sx.C.seq ?_
  refine Sx.C.region ?_
  refine Sx.G.box 51 (.tmp 0) [.slice PA0 g.prog.length Pc0, .int .i64 g.a, .int .i64 g.pc, .slice PA1 g.wr.length Pc1, .slice PA2 g.lv.length Pc2, .int .i64 g.t.1, .int .i64 g.t.2.1, .bool g.t.2.2, .int .i64 g.pd, .int .i64 g.x.1, .int .i64 g.x.2.1, .bool g.x.2.2.1, .int .i64 g.x.2.2.2, .bool g.hl, .slice PA3 g.seen.length Pc3] rfl (by kernel_rfl) (by kernel_rfl) (fun b1 => ?_)
  refine Sx.G.box 51 (.tmp 1) [.slice RA0 k.prog.length Rc0, .int .i64 k.a, .int .i64 k.pc, .slice RA1 k.wr.length Rc1, .slice RA2 k.lv.length Rc2, .int .i64 k.t.1, .int .i64 k.t.2.1, .bool k.t.2.2, .int .i64 k.pd, .int .i64 k.x.1, .int .i64 k.x.2.1, .bool k.x.2.2.1, .int .i64 k.x.2.2.2, .bool k.hl, .slice RA3 k.seen.length Rc3] rfl (by kernel_rfl) (by kernel_rfl) (fun b2 => ?_)
  refine Sx.G.pure (.bool false) (by kernel_rfl) (fun w => by kernel_rfl) ?_
  refine Sx.G.nil ?_
  refine Sx.E.next ?_
  refine Sx.C.seq ?_
  refine Sx.C.region ?_
  refine Sx.G.pure (.pointer (some ⟨b1, 0, none⟩)) (by kernel_rfl) (fun w => by kernel_rfl) ?_
  refine Sx.G.ld1 44 (.tmp 5) b1 0 1 [.slice PA0 g.prog.length Pc0, .int .i64 g.a, .int .i64 g.pc, .slice PA1 g.wr.length Pc1, .slice PA2 g.lv.length Pc2, .int .i64 g.t.1, .int .i64 g.t.2.1, .bool g.t.2.2, .int .i64 g.pd, .int .i64 g.x.1, .int .i64 g.x.2.1, .bool g.x.2.2.1, .int .i64 g.x.2.2.2, .bool g.hl, .slice PA3 g.seen.length Pc3] (.slice PA0 g.prog.length Pc0) rfl (by kernel_rfl) (by kernel_rfl) rfl (by kernel_rfl) (by kernel_rfl) ?_
  refine Sx.G.pure (.pointer (some ⟨b2, 0, none⟩)) (by kernel_rfl) (fun w => by kernel_rfl) ?_
  refine Sx.G.ld1 44 (.tmp 7) b2 0 0 [.slice RA0 k.prog.length Rc0, .int .i64 k.a, .int .i64 k.pc, .slice RA1 k.wr.length Rc1, .slice RA2 k.lv.length Rc2, .int .i64 k.t.1, .int .i64 k.t.2.1, .bool k.t.2.2, .int .i64 k.pd, .int .i64 k.x.1, .int .i64 k.x.2.1, .bool k.x.2.2.1, .int .i64 k.x.2.2.2, .bool k.hl, .slice RA3 k.seen.length Rc3] (.slice RA0 k.prog.length Rc0) rfl (by kernel_rfl) (by kernel_rfl) rfl (by kernel_rfl) (by kernel_rfl) ?_
  refine Sx.G.plain 132 #[.slice PA0 g.prog.length Pc0, .slice RA0 k.prog.length Rc0] (.bool (decide (g.prog = k.prog))) (by kernel_rfl) (fun w => by kernel_rfl) (fun w S => by exact ((Inss.spec_same PA0 RA0 g.prog.length k.prog.length Pc0 Rc0 0 0 _ _ g.prog k.prog _ q0 p0 rfl rfl (by rw [← pcells_j]; exact p2_lies (St.old S h0)) (by rw [← pcells_j]; exact p2_lies (St.old S j0))).mono fun e w' h => And.intro h.1 (drew_below h.2))) ?_
  refine Sx.G.pure (.bool (decide (g.prog = k.prog))) (by kernel_rfl) (fun w => by kernel_rfl) ?_
  cases hc3 : (decide (g.prog = k.prog))
  · have hb3 := hc3
    replace hc3 := of_decide_eq_false hc3
    refine Sx.G.skip (by kernel_rfl) ?_
    refine Sx.G.skip (by kernel_rfl) ?_
    refine Sx.G.skip (by kernel_rfl) ?_
    refine Sx.G.skip (by kernel_rfl) ?_
    refine Sx.G.skip (by kernel_rfl) ?_
    refine Sx.G.pure (.bool false) (by kernel_rfl) (fun w => by kernel_rfl) ?_
    refine Sx.G.pure (.bool false) (by kernel_rfl) (fun w => by kernel_rfl) ?_
    refine Sx.G.skip (by kernel_rfl) ?_
    refine Sx.G.skip (by kernel_rfl) ?_
    refine Sx.G.skip (by kernel_rfl) ?_
    refine Sx.G.skip (by kernel_rfl) ?_
    refine Sx.G.skip (by kernel_rfl) ?_
    refine Sx.G.pure (.bool false) (by kernel_rfl) (fun w => by kernel_rfl) ?_
    refine Sx.G.pure (.bool false) (by kernel_rfl) (fun w => by kernel_rfl) ?_
    refine Sx.G.skip (by kernel_rfl) ?_
    refine Sx.G.skip (by kernel_rfl) ?_
    refine Sx.G.skip (by kernel_rfl) ?_
    refine Sx.G.skip (by kernel_rfl) ?_
    refine Sx.G.skip (by kernel_rfl) ?_
    refine Sx.G.pure (.bool false) (by kernel_rfl) (fun w => by kernel_rfl) ?_
    refine Sx.G.pure (.bool false) (by kernel_rfl) (fun w => by kernel_rfl) ?_
    refine Sx.G.skip (by kernel_rfl) ?_
    refine Sx.G.skip (by kernel_rfl) ?_
    refine Sx.G.skip (by kernel_rfl) ?_
    refine Sx.G.skip (by kernel_rfl) ?_
    refine Sx.G.skip (by kernel_rfl) ?_
    refine Sx.G.pure (.bool false) (by kernel_rfl) (fun w => by kernel_rfl) ?_
    refine Sx.G.pure (.bool false) (by kernel_rfl) (fun w => by kernel_rfl) ?_
    refine Sx.G.skip (by kernel_rfl) ?_
    refine Sx.G.skip (by kernel_rfl) ?_
    refine Sx.G.skip (by kernel_rfl) ?_
    refine Sx.G.skip (by kernel_rfl) ?_
    refine Sx.G.skip (by kernel_rfl) ?_
    refine Sx.G.pure (.bool false) (by kernel_rfl) (fun w => by kernel_rfl) ?_
    refine Sx.G.pure (.bool false) (by kernel_rfl) (fun w => by kernel_rfl) ?_
    refine Sx.G.skip (by kernel_rfl) ?_
    refine Sx.G.skip (by kernel_rfl) ?_
    refine Sx.G.skip (by kernel_rfl) ?_
    refine Sx.G.skip (by kernel_rfl) ?_
    refine Sx.G.skip (by kernel_rfl) ?_
    refine Sx.G.pure (.bool false) (by kernel_rfl) (fun w => by kernel_rfl) ?_
    refine Sx.G.pure (.bool false) (by kernel_rfl) (fun w => by kernel_rfl) ?_
    refine Sx.G.skip (by kernel_rfl) ?_
    refine Sx.G.skip (by kernel_rfl) ?_
    refine Sx.G.skip (by kernel_rfl) ?_
    refine Sx.G.skip (by kernel_rfl) ?_
    refine Sx.G.skip (by kernel_rfl) ?_
    refine Sx.G.pure (.bool false) (by kernel_rfl) (fun w => by kernel_rfl) ?_
    refine Sx.G.pure (.bool false) (by kernel_rfl) (fun w => by kernel_rfl) ?_
    refine Sx.G.skip (by kernel_rfl) ?_
    refine Sx.G.skip (by kernel_rfl) ?_
    refine Sx.G.skip (by kernel_rfl) ?_
    refine Sx.G.skip (by kernel_rfl) ?_
    refine Sx.G.skip (by kernel_rfl) ?_
    refine Sx.G.pure (.bool false) (by kernel_rfl) (fun w => by kernel_rfl) ?_
    refine Sx.G.pure (.bool false) (by kernel_rfl) (fun w => by kernel_rfl) ?_
    refine Sx.G.skip (by kernel_rfl) ?_
    refine Sx.G.skip (by kernel_rfl) ?_
    refine Sx.G.skip (by kernel_rfl) ?_
    refine Sx.G.skip (by kernel_rfl) ?_
    refine Sx.G.skip (by kernel_rfl) ?_
    refine Sx.G.pure (.bool false) (by kernel_rfl) (fun w => by kernel_rfl) ?_
    refine Sx.G.pure (.bool false) (by kernel_rfl) (fun w => by kernel_rfl) ?_
    refine Sx.G.nil ?_
    refine Sx.E.next ?_
    refine Sx.C.ret ?_
    refine Sx.E.ret1 (.bool false) rfl (by kernel_rfl) (fun w S => ?_)
    exact ⟨congrArg Ending.returned (congrArg Value.bool (by simp only [sameG, hb3, Bool.and_true, Bool.and_false, Bool.false_and, Bool.true_and])), S.below⟩
  · have hb3 := hc3
    replace hc3 := of_decide_eq_true hc3
    refine Sx.G.pure (.pointer (some ⟨b1, 1, none⟩)) (by kernel_rfl) (fun w => by kernel_rfl) ?_
    refine Sx.G.ld1 3 (.tmp 11) b1 1 1 [.slice PA0 g.prog.length Pc0, .int .i64 g.a, .int .i64 g.pc, .slice PA1 g.wr.length Pc1, .slice PA2 g.lv.length Pc2, .int .i64 g.t.1, .int .i64 g.t.2.1, .bool g.t.2.2, .int .i64 g.pd, .int .i64 g.x.1, .int .i64 g.x.2.1, .bool g.x.2.2.1, .int .i64 g.x.2.2.2, .bool g.hl, .slice PA3 g.seen.length Pc3] (.int .i64 g.a) rfl (by kernel_rfl) (by kernel_rfl) rfl (by kernel_rfl) (by kernel_rfl) ?_
    refine Sx.G.pure (.pointer (some ⟨b2, 1, none⟩)) (by kernel_rfl) (fun w => by kernel_rfl) ?_
    refine Sx.G.ld1 3 (.tmp 13) b2 1 0 [.slice RA0 k.prog.length Rc0, .int .i64 k.a, .int .i64 k.pc, .slice RA1 k.wr.length Rc1, .slice RA2 k.lv.length Rc2, .int .i64 k.t.1, .int .i64 k.t.2.1, .bool k.t.2.2, .int .i64 k.pd, .int .i64 k.x.1, .int .i64 k.x.2.1, .bool k.x.2.2.1, .int .i64 k.x.2.2.2, .bool k.hl, .slice RA3 k.seen.length Rc3] (.int .i64 k.a) rfl (by kernel_rfl) (by kernel_rfl) rfl (by kernel_rfl) (by kernel_rfl) ?_
    refine Sx.G.pure (.bool (g.a == k.a)) (by kernel_rfl) (fun w => by kernel_rfl) ?_
    refine Sx.G.pure (.bool (g.a == k.a)) (by kernel_rfl) (fun w => by kernel_rfl) ?_
    refine Sx.G.pure (.bool (g.a == k.a)) (by kernel_rfl) (fun w => by kernel_rfl) ?_
    cases hc4 : (g.a == k.a)
    · have hb4 := hc4
      refine Sx.G.skip (by kernel_rfl) ?_
      refine Sx.G.skip (by kernel_rfl) ?_
      refine Sx.G.skip (by kernel_rfl) ?_
      refine Sx.G.skip (by kernel_rfl) ?_
      refine Sx.G.skip (by kernel_rfl) ?_
      refine Sx.G.pure (.bool false) (by kernel_rfl) (fun w => by kernel_rfl) ?_
      refine Sx.G.pure (.bool false) (by kernel_rfl) (fun w => by kernel_rfl) ?_
      refine Sx.G.skip (by kernel_rfl) ?_
      refine Sx.G.skip (by kernel_rfl) ?_
      refine Sx.G.skip (by kernel_rfl) ?_
      refine Sx.G.skip (by kernel_rfl) ?_
      refine Sx.G.skip (by kernel_rfl) ?_
      refine Sx.G.pure (.bool false) (by kernel_rfl) (fun w => by kernel_rfl) ?_
      refine Sx.G.pure (.bool false) (by kernel_rfl) (fun w => by kernel_rfl) ?_
      refine Sx.G.skip (by kernel_rfl) ?_
      refine Sx.G.skip (by kernel_rfl) ?_
      refine Sx.G.skip (by kernel_rfl) ?_
      refine Sx.G.skip (by kernel_rfl) ?_
      refine Sx.G.skip (by kernel_rfl) ?_
      refine Sx.G.pure (.bool false) (by kernel_rfl) (fun w => by kernel_rfl) ?_
      refine Sx.G.pure (.bool false) (by kernel_rfl) (fun w => by kernel_rfl) ?_
      refine Sx.G.skip (by kernel_rfl) ?_
      refine Sx.G.skip (by kernel_rfl) ?_
      refine Sx.G.skip (by kernel_rfl) ?_
      refine Sx.G.skip (by kernel_rfl) ?_
      refine Sx.G.skip (by kernel_rfl) ?_
      refine Sx.G.pure (.bool false) (by kernel_rfl) (fun w => by kernel_rfl) ?_
      refine Sx.G.pure (.bool false) (by kernel_rfl) (fun w => by kernel_rfl) ?_
      refine Sx.G.skip (by kernel_rfl) ?_
      refine Sx.G.skip (by kernel_rfl) ?_
      refine Sx.G.skip (by kernel_rfl) ?_
      refine Sx.G.skip (by kernel_rfl) ?_
      refine Sx.G.skip (by kernel_rfl) ?_
      refine Sx.G.pure (.bool false) (by kernel_rfl) (fun w => by kernel_rfl) ?_
      refine Sx.G.pure (.bool false) (by kernel_rfl) (fun w => by kernel_rfl) ?_
      refine Sx.G.skip (by kernel_rfl) ?_
      refine Sx.G.skip (by kernel_rfl) ?_
      refine Sx.G.skip (by kernel_rfl) ?_
      refine Sx.G.skip (by kernel_rfl) ?_
      refine Sx.G.skip (by kernel_rfl) ?_
      refine Sx.G.pure (.bool false) (by kernel_rfl) (fun w => by kernel_rfl) ?_
      refine Sx.G.pure (.bool false) (by kernel_rfl) (fun w => by kernel_rfl) ?_
      refine Sx.G.skip (by kernel_rfl) ?_
      refine Sx.G.skip (by kernel_rfl) ?_
      refine Sx.G.skip (by kernel_rfl) ?_
      refine Sx.G.skip (by kernel_rfl) ?_
      refine Sx.G.skip (by kernel_rfl) ?_
      refine Sx.G.pure (.bool false) (by kernel_rfl) (fun w => by kernel_rfl) ?_
      refine Sx.G.pure (.bool false) (by kernel_rfl) (fun w => by kernel_rfl) ?_
      refine Sx.G.skip (by kernel_rfl) ?_
      refine Sx.G.skip (by kernel_rfl) ?_
      refine Sx.G.skip (by kernel_rfl) ?_
      refine Sx.G.skip (by kernel_rfl) ?_
      refine Sx.G.skip (by kernel_rfl) ?_
      refine Sx.G.pure (.bool false) (by kernel_rfl) (fun w => by kernel_rfl) ?_
      refine Sx.G.pure (.bool false) (by kernel_rfl) (fun w => by kernel_rfl) ?_
      refine Sx.G.nil ?_
      refine Sx.E.next ?_
      refine Sx.C.ret ?_
      refine Sx.E.ret1 (.bool false) rfl (by kernel_rfl) (fun w S => ?_)
      exact ⟨congrArg Ending.returned (congrArg Value.bool (by simp only [sameG, hb3, hb4, Bool.and_true, Bool.and_false, Bool.false_and, Bool.true_and])), S.below⟩
    · have hb4 := hc4
      refine Sx.G.pure (.pointer (some ⟨b1, 2, none⟩)) (by kernel_rfl) (fun w => by kernel_rfl) ?_
      refine Sx.G.ld1 3 (.tmp 18) b1 2 1 [.slice PA0 g.prog.length Pc0, .int .i64 g.a, .int .i64 g.pc, .slice PA1 g.wr.length Pc1, .slice PA2 g.lv.length Pc2, .int .i64 g.t.1, .int .i64 g.t.2.1, .bool g.t.2.2, .int .i64 g.pd, .int .i64 g.x.1, .int .i64 g.x.2.1, .bool g.x.2.2.1, .int .i64 g.x.2.2.2, .bool g.hl, .slice PA3 g.seen.length Pc3] (.int .i64 g.pc) rfl (by kernel_rfl) (by kernel_rfl) rfl (by kernel_rfl) (by kernel_rfl) ?_
      refine Sx.G.pure (.pointer (some ⟨b2, 2, none⟩)) (by kernel_rfl) (fun w => by kernel_rfl) ?_
      refine Sx.G.ld1 3 (.tmp 20) b2 2 0 [.slice RA0 k.prog.length Rc0, .int .i64 k.a, .int .i64 k.pc, .slice RA1 k.wr.length Rc1, .slice RA2 k.lv.length Rc2, .int .i64 k.t.1, .int .i64 k.t.2.1, .bool k.t.2.2, .int .i64 k.pd, .int .i64 k.x.1, .int .i64 k.x.2.1, .bool k.x.2.2.1, .int .i64 k.x.2.2.2, .bool k.hl, .slice RA3 k.seen.length Rc3] (.int .i64 k.pc) rfl (by kernel_rfl) (by kernel_rfl) rfl (by kernel_rfl) (by kernel_rfl) ?_
      refine Sx.G.pure (.bool (g.pc == k.pc)) (by kernel_rfl) (fun w => by kernel_rfl) ?_
      refine Sx.G.pure (.bool (g.pc == k.pc)) (by kernel_rfl) (fun w => by kernel_rfl) ?_
      refine Sx.G.pure (.bool (g.pc == k.pc)) (by kernel_rfl) (fun w => by kernel_rfl) ?_
      cases hc5 : (g.pc == k.pc)
      · have hb5 := hc5
        refine Sx.G.skip (by kernel_rfl) ?_
        refine Sx.G.skip (by kernel_rfl) ?_
        refine Sx.G.skip (by kernel_rfl) ?_
        refine Sx.G.skip (by kernel_rfl) ?_
        refine Sx.G.skip (by kernel_rfl) ?_
        refine Sx.G.pure (.bool false) (by kernel_rfl) (fun w => by kernel_rfl) ?_
        refine Sx.G.pure (.bool false) (by kernel_rfl) (fun w => by kernel_rfl) ?_
        refine Sx.G.skip (by kernel_rfl) ?_
        refine Sx.G.skip (by kernel_rfl) ?_
        refine Sx.G.skip (by kernel_rfl) ?_
        refine Sx.G.skip (by kernel_rfl) ?_
        refine Sx.G.skip (by kernel_rfl) ?_
        refine Sx.G.pure (.bool false) (by kernel_rfl) (fun w => by kernel_rfl) ?_
        refine Sx.G.pure (.bool false) (by kernel_rfl) (fun w => by kernel_rfl) ?_
        refine Sx.G.skip (by kernel_rfl) ?_
        refine Sx.G.skip (by kernel_rfl) ?_
        refine Sx.G.skip (by kernel_rfl) ?_
        refine Sx.G.skip (by kernel_rfl) ?_
        refine Sx.G.skip (by kernel_rfl) ?_
        refine Sx.G.pure (.bool false) (by kernel_rfl) (fun w => by kernel_rfl) ?_
        refine Sx.G.pure (.bool false) (by kernel_rfl) (fun w => by kernel_rfl) ?_
        refine Sx.G.skip (by kernel_rfl) ?_
        refine Sx.G.skip (by kernel_rfl) ?_
        refine Sx.G.skip (by kernel_rfl) ?_
        refine Sx.G.skip (by kernel_rfl) ?_
        refine Sx.G.skip (by kernel_rfl) ?_
        refine Sx.G.pure (.bool false) (by kernel_rfl) (fun w => by kernel_rfl) ?_
        refine Sx.G.pure (.bool false) (by kernel_rfl) (fun w => by kernel_rfl) ?_
        refine Sx.G.skip (by kernel_rfl) ?_
        refine Sx.G.skip (by kernel_rfl) ?_
        refine Sx.G.skip (by kernel_rfl) ?_
        refine Sx.G.skip (by kernel_rfl) ?_
        refine Sx.G.skip (by kernel_rfl) ?_
        refine Sx.G.pure (.bool false) (by kernel_rfl) (fun w => by kernel_rfl) ?_
        refine Sx.G.pure (.bool false) (by kernel_rfl) (fun w => by kernel_rfl) ?_
        refine Sx.G.skip (by kernel_rfl) ?_
        refine Sx.G.skip (by kernel_rfl) ?_
        refine Sx.G.skip (by kernel_rfl) ?_
        refine Sx.G.skip (by kernel_rfl) ?_
        refine Sx.G.skip (by kernel_rfl) ?_
        refine Sx.G.pure (.bool false) (by kernel_rfl) (fun w => by kernel_rfl) ?_
        refine Sx.G.pure (.bool false) (by kernel_rfl) (fun w => by kernel_rfl) ?_
        refine Sx.G.skip (by kernel_rfl) ?_
        refine Sx.G.skip (by kernel_rfl) ?_
        refine Sx.G.skip (by kernel_rfl) ?_
        refine Sx.G.skip (by kernel_rfl) ?_
        refine Sx.G.skip (by kernel_rfl) ?_
        refine Sx.G.pure (.bool false) (by kernel_rfl) (fun w => by kernel_rfl) ?_
        refine Sx.G.pure (.bool false) (by kernel_rfl) (fun w => by kernel_rfl) ?_
        refine Sx.G.nil ?_
        refine Sx.E.next ?_
        refine Sx.C.ret ?_
        refine Sx.E.ret1 (.bool false) rfl (by kernel_rfl) (fun w S => ?_)
        exact ⟨congrArg Ending.returned (congrArg Value.bool (by simp only [sameG, hb3, hb4, hb5, Bool.and_true, Bool.and_false, Bool.false_and, Bool.true_and])), S.below⟩
      · have hb5 := hc5
        refine Sx.G.pure (.pointer (some ⟨b1, 3, none⟩)) (by kernel_rfl) (fun w => by kernel_rfl) ?_
        refine Sx.G.ld1 45 (.tmp 25) b1 3 1 [.slice PA0 g.prog.length Pc0, .int .i64 g.a, .int .i64 g.pc, .slice PA1 g.wr.length Pc1, .slice PA2 g.lv.length Pc2, .int .i64 g.t.1, .int .i64 g.t.2.1, .bool g.t.2.2, .int .i64 g.pd, .int .i64 g.x.1, .int .i64 g.x.2.1, .bool g.x.2.2.1, .int .i64 g.x.2.2.2, .bool g.hl, .slice PA3 g.seen.length Pc3] (.slice PA1 g.wr.length Pc1) rfl (by kernel_rfl) (by kernel_rfl) rfl (by kernel_rfl) (by kernel_rfl) ?_
        refine Sx.G.pure (.pointer (some ⟨b2, 3, none⟩)) (by kernel_rfl) (fun w => by kernel_rfl) ?_
        refine Sx.G.ld1 45 (.tmp 27) b2 3 0 [.slice RA0 k.prog.length Rc0, .int .i64 k.a, .int .i64 k.pc, .slice RA1 k.wr.length Rc1, .slice RA2 k.lv.length Rc2, .int .i64 k.t.1, .int .i64 k.t.2.1, .bool k.t.2.2, .int .i64 k.pd, .int .i64 k.x.1, .int .i64 k.x.2.1, .bool k.x.2.2.1, .int .i64 k.x.2.2.2, .bool k.hl, .slice RA3 k.seen.length Rc3] (.slice RA1 k.wr.length Rc1) rfl (by kernel_rfl) (by kernel_rfl) rfl (by kernel_rfl) (by kernel_rfl) ?_
        refine Sx.G.plain 133 #[.slice PA1 g.wr.length Pc1, .slice RA1 k.wr.length Rc1] (.bool (decide (g.wr = k.wr))) (by kernel_rfl) (fun w => by kernel_rfl) (fun w S => by exact ((Slots.spec_same PA1 RA1 g.wr.length k.wr.length Pc1 Rc1 0 0 _ _ g.wr k.wr _ q1 p1 rfl rfl (by rw [← pcells_s]; exact p2_lies (St.old S h1)) (by rw [← pcells_s]; exact p2_lies (St.old S j1))).mono fun e w' h => And.intro h.1 (drew_below h.2))) ?_
        refine Sx.G.pure (.bool (decide (g.wr = k.wr))) (by kernel_rfl) (fun w => by kernel_rfl) ?_
        refine Sx.G.pure (.bool (decide (g.wr = k.wr))) (by kernel_rfl) (fun w => by kernel_rfl) ?_
        cases hc6 : (decide (g.wr = k.wr))
        · have hb6 := hc6
          replace hc6 := of_decide_eq_false hc6
          refine Sx.G.skip (by kernel_rfl) ?_
          refine Sx.G.skip (by kernel_rfl) ?_
          refine Sx.G.skip (by kernel_rfl) ?_
          refine Sx.G.skip (by kernel_rfl) ?_
          refine Sx.G.skip (by kernel_rfl) ?_
          refine Sx.G.pure (.bool false) (by kernel_rfl) (fun w => by kernel_rfl) ?_
          refine Sx.G.pure (.bool false) (by kernel_rfl) (fun w => by kernel_rfl) ?_
          refine Sx.G.skip (by kernel_rfl) ?_
          refine Sx.G.skip (by kernel_rfl) ?_
          refine Sx.G.skip (by kernel_rfl) ?_
          refine Sx.G.skip (by kernel_rfl) ?_
          refine Sx.G.skip (by kernel_rfl) ?_
          refine Sx.G.pure (.bool false) (by kernel_rfl) (fun w => by kernel_rfl) ?_
          refine Sx.G.pure (.bool false) (by kernel_rfl) (fun w => by kernel_rfl) ?_
          refine Sx.G.skip (by kernel_rfl) ?_
          refine Sx.G.skip (by kernel_rfl) ?_
          refine Sx.G.skip (by kernel_rfl) ?_
          refine Sx.G.skip (by kernel_rfl) ?_
          refine Sx.G.skip (by kernel_rfl) ?_
          refine Sx.G.pure (.bool false) (by kernel_rfl) (fun w => by kernel_rfl) ?_
          refine Sx.G.pure (.bool false) (by kernel_rfl) (fun w => by kernel_rfl) ?_
          refine Sx.G.skip (by kernel_rfl) ?_
          refine Sx.G.skip (by kernel_rfl) ?_
          refine Sx.G.skip (by kernel_rfl) ?_
          refine Sx.G.skip (by kernel_rfl) ?_
          refine Sx.G.skip (by kernel_rfl) ?_
          refine Sx.G.pure (.bool false) (by kernel_rfl) (fun w => by kernel_rfl) ?_
          refine Sx.G.pure (.bool false) (by kernel_rfl) (fun w => by kernel_rfl) ?_
          refine Sx.G.skip (by kernel_rfl) ?_
          refine Sx.G.skip (by kernel_rfl) ?_
          refine Sx.G.skip (by kernel_rfl) ?_
          refine Sx.G.skip (by kernel_rfl) ?_
          refine Sx.G.skip (by kernel_rfl) ?_
          refine Sx.G.pure (.bool false) (by kernel_rfl) (fun w => by kernel_rfl) ?_
          refine Sx.G.pure (.bool false) (by kernel_rfl) (fun w => by kernel_rfl) ?_
          refine Sx.G.skip (by kernel_rfl) ?_
          refine Sx.G.skip (by kernel_rfl) ?_
          refine Sx.G.skip (by kernel_rfl) ?_
          refine Sx.G.skip (by kernel_rfl) ?_
          refine Sx.G.skip (by kernel_rfl) ?_
          refine Sx.G.pure (.bool false) (by kernel_rfl) (fun w => by kernel_rfl) ?_
          refine Sx.G.pure (.bool false) (by kernel_rfl) (fun w => by kernel_rfl) ?_
          refine Sx.G.nil ?_
          refine Sx.E.next ?_
          refine Sx.C.ret ?_
          refine Sx.E.ret1 (.bool false) rfl (by kernel_rfl) (fun w S => ?_)
          exact ⟨congrArg Ending.returned (congrArg Value.bool (by simp only [sameG, hb3, hb4, hb5, hb6, Bool.and_true, Bool.and_false, Bool.false_and, Bool.true_and])), S.below⟩
        · have hb6 := hc6
          replace hc6 := of_decide_eq_true hc6
          refine Sx.G.pure (.pointer (some ⟨b1, 4, none⟩)) (by kernel_rfl) (fun w => by kernel_rfl) ?_
          refine Sx.G.ld1 45 (.tmp 32) b1 4 1 [.slice PA0 g.prog.length Pc0, .int .i64 g.a, .int .i64 g.pc, .slice PA1 g.wr.length Pc1, .slice PA2 g.lv.length Pc2, .int .i64 g.t.1, .int .i64 g.t.2.1, .bool g.t.2.2, .int .i64 g.pd, .int .i64 g.x.1, .int .i64 g.x.2.1, .bool g.x.2.2.1, .int .i64 g.x.2.2.2, .bool g.hl, .slice PA3 g.seen.length Pc3] (.slice PA2 g.lv.length Pc2) rfl (by kernel_rfl) (by kernel_rfl) rfl (by kernel_rfl) (by kernel_rfl) ?_
          refine Sx.G.pure (.pointer (some ⟨b2, 4, none⟩)) (by kernel_rfl) (fun w => by kernel_rfl) ?_
          refine Sx.G.ld1 45 (.tmp 34) b2 4 0 [.slice RA0 k.prog.length Rc0, .int .i64 k.a, .int .i64 k.pc, .slice RA1 k.wr.length Rc1, .slice RA2 k.lv.length Rc2, .int .i64 k.t.1, .int .i64 k.t.2.1, .bool k.t.2.2, .int .i64 k.pd, .int .i64 k.x.1, .int .i64 k.x.2.1, .bool k.x.2.2.1, .int .i64 k.x.2.2.2, .bool k.hl, .slice RA3 k.seen.length Rc3] (.slice RA2 k.lv.length Rc2) rfl (by kernel_rfl) (by kernel_rfl) rfl (by kernel_rfl) (by kernel_rfl) ?_
          refine Sx.G.plain 133 #[.slice PA2 g.lv.length Pc2, .slice RA2 k.lv.length Rc2] (.bool (decide (g.lv = k.lv))) (by kernel_rfl) (fun w => by kernel_rfl) (fun w S => by exact ((Slots.spec_same PA2 RA2 g.lv.length k.lv.length Pc2 Rc2 0 0 _ _ g.lv k.lv _ q2 p2 rfl rfl (by rw [← pcells_s]; exact p2_lies (St.old S h2)) (by rw [← pcells_s]; exact p2_lies (St.old S j2))).mono fun e w' h => And.intro h.1 (drew_below h.2))) ?_
          refine Sx.G.pure (.bool (decide (g.lv = k.lv))) (by kernel_rfl) (fun w => by kernel_rfl) ?_
          refine Sx.G.pure (.bool (decide (g.lv = k.lv))) (by kernel_rfl) (fun w => by kernel_rfl) ?_
          cases hc7 : (decide (g.lv = k.lv))
          · have hb7 := hc7
            replace hc7 := of_decide_eq_false hc7
            refine Sx.G.skip (by kernel_rfl) ?_
            refine Sx.G.skip (by kernel_rfl) ?_
            refine Sx.G.skip (by kernel_rfl) ?_
            refine Sx.G.skip (by kernel_rfl) ?_
            refine Sx.G.skip (by kernel_rfl) ?_
            refine Sx.G.pure (.bool false) (by kernel_rfl) (fun w => by kernel_rfl) ?_
            refine Sx.G.pure (.bool false) (by kernel_rfl) (fun w => by kernel_rfl) ?_
            refine Sx.G.skip (by kernel_rfl) ?_
            refine Sx.G.skip (by kernel_rfl) ?_
            refine Sx.G.skip (by kernel_rfl) ?_
            refine Sx.G.skip (by kernel_rfl) ?_
            refine Sx.G.skip (by kernel_rfl) ?_
            refine Sx.G.pure (.bool false) (by kernel_rfl) (fun w => by kernel_rfl) ?_
            refine Sx.G.pure (.bool false) (by kernel_rfl) (fun w => by kernel_rfl) ?_
            refine Sx.G.skip (by kernel_rfl) ?_
            refine Sx.G.skip (by kernel_rfl) ?_
            refine Sx.G.skip (by kernel_rfl) ?_
            refine Sx.G.skip (by kernel_rfl) ?_
            refine Sx.G.skip (by kernel_rfl) ?_
            refine Sx.G.pure (.bool false) (by kernel_rfl) (fun w => by kernel_rfl) ?_
            refine Sx.G.pure (.bool false) (by kernel_rfl) (fun w => by kernel_rfl) ?_
            refine Sx.G.skip (by kernel_rfl) ?_
            refine Sx.G.skip (by kernel_rfl) ?_
            refine Sx.G.skip (by kernel_rfl) ?_
            refine Sx.G.skip (by kernel_rfl) ?_
            refine Sx.G.skip (by kernel_rfl) ?_
            refine Sx.G.pure (.bool false) (by kernel_rfl) (fun w => by kernel_rfl) ?_
            refine Sx.G.pure (.bool false) (by kernel_rfl) (fun w => by kernel_rfl) ?_
            refine Sx.G.skip (by kernel_rfl) ?_
            refine Sx.G.skip (by kernel_rfl) ?_
            refine Sx.G.skip (by kernel_rfl) ?_
            refine Sx.G.skip (by kernel_rfl) ?_
            refine Sx.G.skip (by kernel_rfl) ?_
            refine Sx.G.pure (.bool false) (by kernel_rfl) (fun w => by kernel_rfl) ?_
            refine Sx.G.pure (.bool false) (by kernel_rfl) (fun w => by kernel_rfl) ?_
            refine Sx.G.nil ?_
            refine Sx.E.next ?_
            refine Sx.C.ret ?_
            refine Sx.E.ret1 (.bool false) rfl (by kernel_rfl) (fun w S => ?_)
            exact ⟨congrArg Ending.returned (congrArg Value.bool (by simp only [sameG, hb3, hb4, hb5, hb6, hb7, Bool.and_true, Bool.and_false, Bool.false_and, Bool.true_and])), S.below⟩
          · have hb7 := hc7
            replace hc7 := of_decide_eq_true hc7
            refine Sx.G.pure (.pointer (some ⟨b1, 5, none⟩)) (by kernel_rfl) (fun w => by kernel_rfl) ?_
            refine Sx.G.ld 47 (.tmp 39) b1 5 1 [.slice PA0 g.prog.length Pc0, .int .i64 g.a, .int .i64 g.pc, .slice PA1 g.wr.length Pc1, .slice PA2 g.lv.length Pc2, .int .i64 g.t.1, .int .i64 g.t.2.1, .bool g.t.2.2, .int .i64 g.pd, .int .i64 g.x.1, .int .i64 g.x.2.1, .bool g.x.2.2.1, .int .i64 g.x.2.2.2, .bool g.hl, .slice PA3 g.seen.length Pc3] [.int .i64 g.t.1, .int .i64 g.t.2.1, .bool g.t.2.2] rfl (by kernel_rfl) (by kernel_rfl) rfl (by kernel_rfl) (by kernel_rfl) (by kernel_rfl) ?_
            refine Sx.G.pure (.pointer (some ⟨b2, 5, none⟩)) (by kernel_rfl) (fun w => by kernel_rfl) ?_
            refine Sx.G.ld 47 (.tmp 41) b2 5 0 [.slice RA0 k.prog.length Rc0, .int .i64 k.a, .int .i64 k.pc, .slice RA1 k.wr.length Rc1, .slice RA2 k.lv.length Rc2, .int .i64 k.t.1, .int .i64 k.t.2.1, .bool k.t.2.2, .int .i64 k.pd, .int .i64 k.x.1, .int .i64 k.x.2.1, .bool k.x.2.2.1, .int .i64 k.x.2.2.2, .bool k.hl, .slice RA3 k.seen.length Rc3] [.int .i64 k.t.1, .int .i64 k.t.2.1, .bool k.t.2.2] rfl (by kernel_rfl) (by kernel_rfl) rfl (by kernel_rfl) (by kernel_rfl) (by kernel_rfl) ?_
            refine Sx.G.pure (.bool ((g.t.1 == k.t.1 && g.t.2.1 == k.t.2.1 && g.t.2.2 == k.t.2.2))) (by kernel_rfl) (fun w => Sx.run_eqs rfl rfl rfl (by kernel_rfl) (fun w => eqv_Ctl_eql g.t.1 g.t.2.1 g.t.2.2 k.t.1 k.t.2.1 k.t.2.2 w) w) ?_
            refine Sx.G.pure (.bool ((g.t.1 == k.t.1 && g.t.2.1 == k.t.2.1 && g.t.2.2 == k.t.2.2))) (by kernel_rfl) (fun w => by kernel_rfl) ?_
            refine Sx.G.pure (.bool ((g.t.1 == k.t.1 && g.t.2.1 == k.t.2.1 && g.t.2.2 == k.t.2.2))) (by kernel_rfl) (fun w => by kernel_rfl) ?_
            cases hc8 : ((g.t.1 == k.t.1 && g.t.2.1 == k.t.2.1 && g.t.2.2 == k.t.2.2))
            · have hb8 := hc8
              refine Sx.G.skip (by kernel_rfl) ?_
              refine Sx.G.skip (by kernel_rfl) ?_
              refine Sx.G.skip (by kernel_rfl) ?_
              refine Sx.G.skip (by kernel_rfl) ?_
              refine Sx.G.skip (by kernel_rfl) ?_
              refine Sx.G.pure (.bool false) (by kernel_rfl) (fun w => by kernel_rfl) ?_
              refine Sx.G.pure (.bool false) (by kernel_rfl) (fun w => by kernel_rfl) ?_
              refine Sx.G.skip (by kernel_rfl) ?_
              refine Sx.G.skip (by kernel_rfl) ?_
              refine Sx.G.skip (by kernel_rfl) ?_
              refine Sx.G.skip (by kernel_rfl) ?_
              refine Sx.G.skip (by kernel_rfl) ?_
              refine Sx.G.pure (.bool false) (by kernel_rfl) (fun w => by kernel_rfl) ?_
              refine Sx.G.pure (.bool false) (by kernel_rfl) (fun w => by kernel_rfl) ?_
              refine Sx.G.skip (by kernel_rfl) ?_
              refine Sx.G.skip (by kernel_rfl) ?_
              refine Sx.G.skip (by kernel_rfl) ?_
              refine Sx.G.skip (by kernel_rfl) ?_
              refine Sx.G.skip (by kernel_rfl) ?_
              refine Sx.G.pure (.bool false) (by kernel_rfl) (fun w => by kernel_rfl) ?_
              refine Sx.G.pure (.bool false) (by kernel_rfl) (fun w => by kernel_rfl) ?_
              refine Sx.G.skip (by kernel_rfl) ?_
              refine Sx.G.skip (by kernel_rfl) ?_
              refine Sx.G.skip (by kernel_rfl) ?_
              refine Sx.G.skip (by kernel_rfl) ?_
              refine Sx.G.skip (by kernel_rfl) ?_
              refine Sx.G.pure (.bool false) (by kernel_rfl) (fun w => by kernel_rfl) ?_
              refine Sx.G.pure (.bool false) (by kernel_rfl) (fun w => by kernel_rfl) ?_
              refine Sx.G.nil ?_
              refine Sx.E.next ?_
              refine Sx.C.ret ?_
              refine Sx.E.ret1 (.bool false) rfl (by kernel_rfl) (fun w S => ?_)
              exact ⟨congrArg Ending.returned (congrArg Value.bool (by simp only [sameG, hb3, hb4, hb5, hb6, hb7, hb8, Bool.and_true, Bool.and_false, Bool.false_and, Bool.true_and])), S.below⟩
            · have hb8 := hc8
              refine Sx.G.pure (.pointer (some ⟨b1, 8, none⟩)) (by kernel_rfl) (fun w => by kernel_rfl) ?_
              refine Sx.G.ld1 3 (.tmp 46) b1 8 1 [.slice PA0 g.prog.length Pc0, .int .i64 g.a, .int .i64 g.pc, .slice PA1 g.wr.length Pc1, .slice PA2 g.lv.length Pc2, .int .i64 g.t.1, .int .i64 g.t.2.1, .bool g.t.2.2, .int .i64 g.pd, .int .i64 g.x.1, .int .i64 g.x.2.1, .bool g.x.2.2.1, .int .i64 g.x.2.2.2, .bool g.hl, .slice PA3 g.seen.length Pc3] (.int .i64 g.pd) rfl (by kernel_rfl) (by kernel_rfl) rfl (by kernel_rfl) (by kernel_rfl) ?_
              refine Sx.G.pure (.pointer (some ⟨b2, 8, none⟩)) (by kernel_rfl) (fun w => by kernel_rfl) ?_
              refine Sx.G.ld1 3 (.tmp 48) b2 8 0 [.slice RA0 k.prog.length Rc0, .int .i64 k.a, .int .i64 k.pc, .slice RA1 k.wr.length Rc1, .slice RA2 k.lv.length Rc2, .int .i64 k.t.1, .int .i64 k.t.2.1, .bool k.t.2.2, .int .i64 k.pd, .int .i64 k.x.1, .int .i64 k.x.2.1, .bool k.x.2.2.1, .int .i64 k.x.2.2.2, .bool k.hl, .slice RA3 k.seen.length Rc3] (.int .i64 k.pd) rfl (by kernel_rfl) (by kernel_rfl) rfl (by kernel_rfl) (by kernel_rfl) ?_
              refine Sx.G.pure (.bool (g.pd == k.pd)) (by kernel_rfl) (fun w => by kernel_rfl) ?_
              refine Sx.G.pure (.bool (g.pd == k.pd)) (by kernel_rfl) (fun w => by kernel_rfl) ?_
              refine Sx.G.pure (.bool (g.pd == k.pd)) (by kernel_rfl) (fun w => by kernel_rfl) ?_
              cases hc9 : (g.pd == k.pd)
              · have hb9 := hc9
                refine Sx.G.skip (by kernel_rfl) ?_
                refine Sx.G.skip (by kernel_rfl) ?_
                refine Sx.G.skip (by kernel_rfl) ?_
                refine Sx.G.skip (by kernel_rfl) ?_
                refine Sx.G.skip (by kernel_rfl) ?_
                refine Sx.G.pure (.bool false) (by kernel_rfl) (fun w => by kernel_rfl) ?_
                refine Sx.G.pure (.bool false) (by kernel_rfl) (fun w => by kernel_rfl) ?_
                refine Sx.G.skip (by kernel_rfl) ?_
                refine Sx.G.skip (by kernel_rfl) ?_
                refine Sx.G.skip (by kernel_rfl) ?_
                refine Sx.G.skip (by kernel_rfl) ?_
                refine Sx.G.skip (by kernel_rfl) ?_
                refine Sx.G.pure (.bool false) (by kernel_rfl) (fun w => by kernel_rfl) ?_
                refine Sx.G.pure (.bool false) (by kernel_rfl) (fun w => by kernel_rfl) ?_
                refine Sx.G.skip (by kernel_rfl) ?_
                refine Sx.G.skip (by kernel_rfl) ?_
                refine Sx.G.skip (by kernel_rfl) ?_
                refine Sx.G.skip (by kernel_rfl) ?_
                refine Sx.G.skip (by kernel_rfl) ?_
                refine Sx.G.pure (.bool false) (by kernel_rfl) (fun w => by kernel_rfl) ?_
                refine Sx.G.pure (.bool false) (by kernel_rfl) (fun w => by kernel_rfl) ?_
                refine Sx.G.nil ?_
                refine Sx.E.next ?_
                refine Sx.C.ret ?_
                refine Sx.E.ret1 (.bool false) rfl (by kernel_rfl) (fun w S => ?_)
                exact ⟨congrArg Ending.returned (congrArg Value.bool (by simp only [sameG, hb3, hb4, hb5, hb6, hb7, hb8, hb9, Bool.and_true, Bool.and_false, Bool.false_and, Bool.true_and])), S.below⟩
              · have hb9 := hc9
                refine Sx.G.pure (.pointer (some ⟨b1, 9, none⟩)) (by kernel_rfl) (fun w => by kernel_rfl) ?_
                refine Sx.G.ld 49 (.tmp 53) b1 9 1 [.slice PA0 g.prog.length Pc0, .int .i64 g.a, .int .i64 g.pc, .slice PA1 g.wr.length Pc1, .slice PA2 g.lv.length Pc2, .int .i64 g.t.1, .int .i64 g.t.2.1, .bool g.t.2.2, .int .i64 g.pd, .int .i64 g.x.1, .int .i64 g.x.2.1, .bool g.x.2.2.1, .int .i64 g.x.2.2.2, .bool g.hl, .slice PA3 g.seen.length Pc3] [.int .i64 g.x.1, .int .i64 g.x.2.1, .bool g.x.2.2.1, .int .i64 g.x.2.2.2] rfl (by kernel_rfl) (by kernel_rfl) rfl (by kernel_rfl) (by kernel_rfl) (by kernel_rfl) ?_
                refine Sx.G.pure (.pointer (some ⟨b2, 9, none⟩)) (by kernel_rfl) (fun w => by kernel_rfl) ?_
                refine Sx.G.ld 49 (.tmp 55) b2 9 0 [.slice RA0 k.prog.length Rc0, .int .i64 k.a, .int .i64 k.pc, .slice RA1 k.wr.length Rc1, .slice RA2 k.lv.length Rc2, .int .i64 k.t.1, .int .i64 k.t.2.1, .bool k.t.2.2, .int .i64 k.pd, .int .i64 k.x.1, .int .i64 k.x.2.1, .bool k.x.2.2.1, .int .i64 k.x.2.2.2, .bool k.hl, .slice RA3 k.seen.length Rc3] [.int .i64 k.x.1, .int .i64 k.x.2.1, .bool k.x.2.2.1, .int .i64 k.x.2.2.2] rfl (by kernel_rfl) (by kernel_rfl) rfl (by kernel_rfl) (by kernel_rfl) (by kernel_rfl) ?_
                refine Sx.G.pure (.bool ((g.x.1 == k.x.1 && g.x.2.1 == k.x.2.1 && g.x.2.2.1 == k.x.2.2.1 && g.x.2.2.2 == k.x.2.2.2))) (by kernel_rfl) (fun w => Sx.run_eqs rfl rfl rfl (by kernel_rfl) (fun w => eqv_Exit_eql g.x.1 g.x.2.1 g.x.2.2.1 g.x.2.2.2 k.x.1 k.x.2.1 k.x.2.2.1 k.x.2.2.2 w) w) ?_
                refine Sx.G.pure (.bool ((g.x.1 == k.x.1 && g.x.2.1 == k.x.2.1 && g.x.2.2.1 == k.x.2.2.1 && g.x.2.2.2 == k.x.2.2.2))) (by kernel_rfl) (fun w => by kernel_rfl) ?_
                refine Sx.G.pure (.bool ((g.x.1 == k.x.1 && g.x.2.1 == k.x.2.1 && g.x.2.2.1 == k.x.2.2.1 && g.x.2.2.2 == k.x.2.2.2))) (by kernel_rfl) (fun w => by kernel_rfl) ?_
                cases hc10 : ((g.x.1 == k.x.1 && g.x.2.1 == k.x.2.1 && g.x.2.2.1 == k.x.2.2.1 && g.x.2.2.2 == k.x.2.2.2))
                · have hb10 := hc10
                  refine Sx.G.skip (by kernel_rfl) ?_
                  refine Sx.G.skip (by kernel_rfl) ?_
                  refine Sx.G.skip (by kernel_rfl) ?_
                  refine Sx.G.skip (by kernel_rfl) ?_
                  refine Sx.G.skip (by kernel_rfl) ?_
                  refine Sx.G.pure (.bool false) (by kernel_rfl) (fun w => by kernel_rfl) ?_
                  refine Sx.G.pure (.bool false) (by kernel_rfl) (fun w => by kernel_rfl) ?_
                  refine Sx.G.skip (by kernel_rfl) ?_
                  refine Sx.G.skip (by kernel_rfl) ?_
                  refine Sx.G.skip (by kernel_rfl) ?_
                  refine Sx.G.skip (by kernel_rfl) ?_
                  refine Sx.G.skip (by kernel_rfl) ?_
                  refine Sx.G.pure (.bool false) (by kernel_rfl) (fun w => by kernel_rfl) ?_
                  refine Sx.G.pure (.bool false) (by kernel_rfl) (fun w => by kernel_rfl) ?_
                  refine Sx.G.nil ?_
                  refine Sx.E.next ?_
                  refine Sx.C.ret ?_
                  refine Sx.E.ret1 (.bool false) rfl (by kernel_rfl) (fun w S => ?_)
                  exact ⟨congrArg Ending.returned (congrArg Value.bool (by simp only [sameG, hb3, hb4, hb5, hb6, hb7, hb8, hb9, hb10, Bool.and_true, Bool.and_false, Bool.false_and, Bool.true_and])), S.below⟩
                · have hb10 := hc10
                  refine Sx.G.pure (.pointer (some ⟨b1, 13, none⟩)) (by kernel_rfl) (fun w => by kernel_rfl) ?_
                  refine Sx.G.ld1 4 (.tmp 60) b1 13 1 [.slice PA0 g.prog.length Pc0, .int .i64 g.a, .int .i64 g.pc, .slice PA1 g.wr.length Pc1, .slice PA2 g.lv.length Pc2, .int .i64 g.t.1, .int .i64 g.t.2.1, .bool g.t.2.2, .int .i64 g.pd, .int .i64 g.x.1, .int .i64 g.x.2.1, .bool g.x.2.2.1, .int .i64 g.x.2.2.2, .bool g.hl, .slice PA3 g.seen.length Pc3] (.bool g.hl) rfl (by kernel_rfl) (by kernel_rfl) rfl (by kernel_rfl) (by kernel_rfl) ?_
                  refine Sx.G.pure (.pointer (some ⟨b2, 13, none⟩)) (by kernel_rfl) (fun w => by kernel_rfl) ?_
                  refine Sx.G.ld1 4 (.tmp 62) b2 13 0 [.slice RA0 k.prog.length Rc0, .int .i64 k.a, .int .i64 k.pc, .slice RA1 k.wr.length Rc1, .slice RA2 k.lv.length Rc2, .int .i64 k.t.1, .int .i64 k.t.2.1, .bool k.t.2.2, .int .i64 k.pd, .int .i64 k.x.1, .int .i64 k.x.2.1, .bool k.x.2.2.1, .int .i64 k.x.2.2.2, .bool k.hl, .slice RA3 k.seen.length Rc3] (.bool k.hl) rfl (by kernel_rfl) (by kernel_rfl) rfl (by kernel_rfl) (by kernel_rfl) ?_
                  refine Sx.G.pure (.bool (g.hl == k.hl)) (by kernel_rfl) (fun w => by kernel_rfl) ?_
                  refine Sx.G.pure (.bool (g.hl == k.hl)) (by kernel_rfl) (fun w => by kernel_rfl) ?_
                  refine Sx.G.pure (.bool (g.hl == k.hl)) (by kernel_rfl) (fun w => by kernel_rfl) ?_
                  cases hc11 : (g.hl == k.hl)
                  · have hb11 := hc11
                    refine Sx.G.skip (by kernel_rfl) ?_
                    refine Sx.G.skip (by kernel_rfl) ?_
                    refine Sx.G.skip (by kernel_rfl) ?_
                    refine Sx.G.skip (by kernel_rfl) ?_
                    refine Sx.G.skip (by kernel_rfl) ?_
                    refine Sx.G.pure (.bool false) (by kernel_rfl) (fun w => by kernel_rfl) ?_
                    refine Sx.G.pure (.bool false) (by kernel_rfl) (fun w => by kernel_rfl) ?_
                    refine Sx.G.nil ?_
                    refine Sx.E.next ?_
                    refine Sx.C.ret ?_
                    refine Sx.E.ret1 (.bool false) rfl (by kernel_rfl) (fun w S => ?_)
                    exact ⟨congrArg Ending.returned (congrArg Value.bool (by simp only [sameG, hb3, hb4, hb5, hb6, hb7, hb8, hb9, hb10, hb11, Bool.and_true, Bool.and_false, Bool.false_and, Bool.true_and])), S.below⟩
                  · have hb11 := hc11
                    refine Sx.G.pure (.pointer (some ⟨b1, 14, none⟩)) (by kernel_rfl) (fun w => by kernel_rfl) ?_
                    refine Sx.G.ld1 26 (.tmp 67) b1 14 1 [.slice PA0 g.prog.length Pc0, .int .i64 g.a, .int .i64 g.pc, .slice PA1 g.wr.length Pc1, .slice PA2 g.lv.length Pc2, .int .i64 g.t.1, .int .i64 g.t.2.1, .bool g.t.2.2, .int .i64 g.pd, .int .i64 g.x.1, .int .i64 g.x.2.1, .bool g.x.2.2.1, .int .i64 g.x.2.2.2, .bool g.hl, .slice PA3 g.seen.length Pc3] (.slice PA3 g.seen.length Pc3) rfl (by kernel_rfl) (by kernel_rfl) rfl (by kernel_rfl) (by kernel_rfl) ?_
                    refine Sx.G.pure (.pointer (some ⟨b2, 14, none⟩)) (by kernel_rfl) (fun w => by kernel_rfl) ?_
                    refine Sx.G.ld1 26 (.tmp 69) b2 14 0 [.slice RA0 k.prog.length Rc0, .int .i64 k.a, .int .i64 k.pc, .slice RA1 k.wr.length Rc1, .slice RA2 k.lv.length Rc2, .int .i64 k.t.1, .int .i64 k.t.2.1, .bool k.t.2.2, .int .i64 k.pd, .int .i64 k.x.1, .int .i64 k.x.2.1, .bool k.x.2.2.1, .int .i64 k.x.2.2.2, .bool k.hl, .slice RA3 k.seen.length Rc3] (.slice RA3 k.seen.length Rc3) rfl (by kernel_rfl) (by kernel_rfl) rfl (by kernel_rfl) (by kernel_rfl) ?_
                    refine Sx.G.plain 85 #[.slice PA3 g.seen.length Pc3, .slice RA3 k.seen.length Rc3] (.bool (decide (g.seen = k.seen))) (by kernel_rfl) (fun w => by kernel_rfl) (fun w S => by exact ((Grid.spec_ints PA3 RA3 g.seen.length k.seen.length Pc3 Rc3 0 0 _ _ g.seen k.seen _ q3 p3 rfl rfl (i1_lies (St.old S h3)) (i1_lies (St.old S j3))).mono fun e w' h => And.intro h.1 (drew_below h.2))) ?_
                    refine Sx.G.pure (.bool (decide (g.seen = k.seen))) (by kernel_rfl) (fun w => by kernel_rfl) ?_
                    refine Sx.G.pure (.bool (decide (g.seen = k.seen))) (by kernel_rfl) (fun w => by kernel_rfl) ?_
                    refine Sx.G.nil ?_
                    refine Sx.E.next ?_
                    refine Sx.C.ret ?_
                    refine Sx.E.ret1 (.bool (decide (g.seen = k.seen))) rfl (by kernel_rfl) (fun w S => ?_)
                    exact ⟨congrArg Ending.returned (congrArg Value.bool (by simp only [sameG, hb3, hb4, hb5, hb6, hb7, hb8, hb9, hb10, hb11, Bool.and_true, Bool.and_false, Bool.false_and, Bool.true_and])), S.below⟩
end Go.Proofs.Ytldgadmpclgfhaa.Guests
namespace Go.Proofs.Ytldgadmpclgfhaa.Kit
set_option maxRecDepth 100000
open Go.ChangeShapes Go.WideShapes Go.ChangeAt Go.RowKit Go.Deep
open Go.Proofs.Ytldgadmpclgfhaa.Base Go.Proofs.Ytldgadmpclgfhaa.Mem Go.Proofs.Ytldgadmpclgfhaa.Data Go.Proofs.Ytldgadmpclgfhaa.Stt Go.Proofs.Ytldgadmpclgfhaa.Guests Go.Proofs.Ytldgadmpclgfhaa.Ctls Go.Proofs.Ytldgadmpclgfhaa.Exits Go.Proofs.Ytldgadmpclgfhaa.Irqs Go.Proofs.Ytldgadmpclgfhaa.Inss
set_option linter.unusedVariables false
set_option linter.unusedSimpArgs false
/-- Are they the same? -/
noncomputable def eqv {α : Type} (x y : α) : Bool := @decide (x = y) (Classical.propDecidable _)
theorem eqv_true {α : Type} {x y : α} (h : x = y) : eqv x y = true := @decide_eq_true _ (Classical.propDecidable _) h
theorem eqv_false {α : Type} {x y : α} (h : x ≠ y) : eqv x y = false := @decide_eq_false _ (Classical.propDecidable _) h
theorem eqv_iff {α : Type} {x y : α} : eqv x y = true ↔ x = y := ⟨fun h => @of_decide_eq_true _ (Classical.propDecidable _) h, eqv_true⟩
theorem ne_of_eqv {α : Type} {x y : α} (h : eqv x y = false) : x ≠ y := fun e => by rw [eqv_true e] at h; cases h
theorem sameG_eqv (x y : gT) : sameG x y = eqv x y := by
  rw [Bool.eq_iff_iff, eqv_iff]
  constructor
  · intro h
    unfold sameG at h
    simp only [Bool.and_eq_true, decide_eq_true_eq, beq_iff_eq] at h
    obtain ⟨x1, x2, x3, x4, x5, ⟨x61, x62, x63⟩, x7, ⟨x81, x82, x83, x84⟩, x9, x10⟩ := x
    obtain ⟨y1, y2, y3, y4, y5, ⟨y61, y62, y63⟩, y7, ⟨y81, y82, y83, y84⟩, y9, y10⟩ := y
    simp only at h
    simp only [h]
  · rintro rfl
    exact sameG_refl x
theorem take_ne {α : Type} {xs ys : List α} {i : Nat} (hi : i < xs.length) (hj : i < ys.length) (h : xs[i] ≠ ys[i]) : xs ≠ ys := fun e => by subst e; exact h rfl
theorem take_up {α : Type} {xs ys : List α} {i : Nat} (hi : i < xs.length) (hj : i < ys.length) (h : xs.take i = ys.take i) (h2 : xs[i] = ys[i]) : xs.take (i + 1) = ys.take (i + 1) := by rw [Kit.take_step hi, Kit.take_step hj, h, h2]
theorem eqv_B (x y : bT) : eqv x y = (eqv x.mem y.mem && eqv x.gs y.gs && eqv x.outs y.outs && (x.pd == y.pd)) := by
  rw [Bool.eq_iff_iff, eqv_iff]
  simp only [Bool.and_eq_true, eqv_iff, beq_iff_eq]
  obtain ⟨a, b, c, d⟩ := x
  obtain ⟨a', b', c', d'⟩ := y
  simp only [bT.mk.injEq, and_assoc]
set_option maxRecDepth 100000 in
set_option maxHeartbeats 4000000 in
theorem specx_ints (xs ys : (List Int)) (A : Option Addr) (c : Nat) (B : Option Addr) (d : Nat) (w : World) (hc : (rLsw rInt).cap xs) (hd : (rLsw rInt).cap ys) (h : rdLst rInt w 0 w.heap.size xs [.slice A xs.length c]) (j : rdLst rInt w 0 w.heap.size ys [.slice B ys.length d]) : Calls Try.prog 85 #[.slice A xs.length c, .slice B ys.length d] w (fun e w' => e = .returned (.bool (eqv xs ys)) ∧ Below w.heap.size w w') := by
  obtain ⟨hl, hcx⟩ := hc
  obtain ⟨hm, hcy⟩ := hd
  refine Sx.enter (args := [.slice A xs.length c, .slice B ys.length d]) Try.func85 rfl Try.ntmps85 rfl ?_
  refine Sx.C.seq ?_
  refine Sx.C.region ?_
  refine Sx.G.pure (.bool false) (by kernel_rfl) (fun w => by kernel_rfl) ?_
  refine Sx.G.nil ?_
  refine Sx.E.next ?_
  refine Sx.C.seq ?_
  refine Sx.C.seq ?_
  refine Sx.C.region ?_
  refine Sx.G.pure (.slice A xs.length c) (by kernel_rfl) (fun w => by kernel_rfl) ?_
  refine Sx.G.pure (.int .i64 ((xs.length : Nat) : Int)) (by kernel_rfl) (fun w => by kernel_rfl) ?_
  refine Sx.G.pure (.slice B ys.length d) (by kernel_rfl) (fun w => by kernel_rfl) ?_
  refine Sx.G.pure (.int .i64 ((ys.length : Nat) : Int)) (by kernel_rfl) (fun w => by kernel_rfl) ?_
  refine Sx.G.pure (.bool (((xs.length : Nat) : Int) != ((ys.length : Nat) : Int))) (by kernel_rfl) (fun w => by kernel_rfl) ?_
  refine Sx.G.nil ?_
  refine Sx.E.next ?_
  cases hc1 : (((xs.length : Nat) : Int) != ((ys.length : Nat) : Int))
  · have hb1 := hc1
    have hlen : xs.length = ys.length := by have := bne_eq_false_iff_eq.1 hc1; omega
    refine Sx.C.no (by kernel_rfl) (by kernel_rfl) ?_
    refine Sx.C.skip ?_
    refine Sx.E.next ?_
    refine Sx.C.seq ?_
    refine Sx.C.seq ?_
    refine Sx.C.region ?_
    refine Sx.G.pure (.int .i64 0) (by kernel_rfl) (fun w => by kernel_rfl) ?_
    refine Sx.G.nil ?_
    refine Sx.E.next ?_
    refine Sx.C.block ?_
    refine Sx.C.loop (α := Nat) (fun i => i ≤ xs.length ∧ xs.take i = ys.take i) (fun i => [(5, .int .i64 (i : Int)), (0, .slice A xs.length c), (1, .slice B ys.length d), (4, .bool false)]) (fun i => []) (fun i => xs.length - i) 0 ⟨Nat.zero_le _, rfl⟩ (fun a hA => (Sx.Ag.and hA (Sx.Ag.and hA (Sx.Ag.and hA (Sx.Ag.and hA (Sx.Ag.none hA) _ _ (by kernel_rfl)) _ _ (by kernel_rfl)) _ _ (by kernel_rfl)) _ _ (by kernel_rfl))) (fun w S => S) (fun i hx => ?_)
    have hxi := hx.1
    refine Sx.C.seq ?_
    refine Sx.C.seq ?_
    refine Sx.C.region ?_
    refine Sx.G.pure (.int .i64 (i : Int)) (by kernel_rfl) (fun w => by kernel_rfl) ?_
    refine Sx.G.pure (.slice A xs.length c) (by kernel_rfl) (fun w => by kernel_rfl) ?_
    refine Sx.G.pure (.int .i64 ((xs.length : Nat) : Int)) (by kernel_rfl) (fun w => by kernel_rfl) ?_
    refine Sx.G.pure (.bool (decide ((i : Int) < ((xs.length : Nat) : Int)))) (by kernel_rfl) (fun w => by kernel_rfl) ?_
    refine Sx.G.nil ?_
    refine Sx.E.next ?_
    cases hc2 : (decide ((i : Int) < ((xs.length : Nat) : Int)))
    · have hb2 := hc2
      replace hc2 := of_decide_eq_false hc2
      refine Sx.C.no (by kernel_rfl) (by kernel_rfl) ?_
      refine Sx.C.exit ?_
      refine Sx.E.then_exit ?_
      refine Sx.E.then_exit ?_
      refine Sx.E.block_hit ?_
      refine Sx.E.next ?_
      refine Sx.C.seq ?_
      refine Sx.C.region ?_
      refine Sx.G.pure (.bool true) (by kernel_rfl) (fun w => by kernel_rfl) ?_
      refine Sx.G.nil ?_
      refine Sx.E.next ?_
      refine Sx.C.ret ?_
      refine Sx.E.ret1 (.bool true) rfl (by kernel_rfl) (fun w S => ?_)
      have he : xs = ys := by have h2 := hx.2; rwa [List.take_of_length_le (by omega), List.take_of_length_le (by omega)] at h2
      exact ⟨by rw [eqv_true he], S.below⟩
    · have hb2 := hc2
      replace hc2 := of_decide_eq_true hc2
      refine Sx.C.yes (by kernel_rfl) (by kernel_rfl) ?_
      refine Sx.C.skip ?_
      refine Sx.E.next ?_
      refine Sx.C.seq ?_
      refine Sx.C.block ?_
      refine Sx.C.seq ?_
      refine Sx.C.draw (.take 0 (.take 1 (.take 2 (.take 3 (.take 4 (.take 5 (.take 6 (.take 7 (.take 8 .nil))))))))) [] (fun w S => St.pick S [] _ rfl (by decide)) (by kernel_rfl) (by kernel_rfl) (by kernel_rfl) ?_
      refine Sx.GT.pure (.slice A xs.length c) 0 (by rfl) (by kernel_rfl) (fun w => by kernel_rfl) ?_
      refine Sx.GT.pure (.int .i64 (i : Int)) 1 (by rfl) (by kernel_rfl) (fun w => by kernel_rfl) ?_
      obtain ⟨b3, f3, es3, eA3, hr3, hl3, hm3⟩ := Sx.old_elem (by decide) h i (by omega)
      subst eA3
      obtain ⟨x3, hx3⟩ : ∃ z_, z_ = (xs[i]'(by omega)) := ⟨_, rfl⟩
      rw [← hx3] at hr3
      obtain rfl := Kit.rd_Int hr3
      refine Sx.GT.elem 26 3 (.tmp 17) (.tmp 18) 1 8 b3 f3 xs.length c i 2 (by rfl) (by rfl) (by kernel_rfl) (by kernel_rfl) (by kernel_rfl) (by kernel_rfl) (by omega) ?_
      refine Sx.GT.ldr1 3 (.tmp 19) b3 ((f3 + i * 1) + 0) (.int .i64 x3) 3 (by rfl) (by rfl) (by kernel_rfl) (by kernel_rfl) (fun w S => hm3 w _ S 0 _ rfl) (by kernel_rfl) ?_
      refine Sx.GT.pure (.slice B ys.length d) 4 (by rfl) (by kernel_rfl) (fun w => by kernel_rfl) ?_
      refine Sx.GT.pure (.int .i64 (i : Int)) 5 (by rfl) (by kernel_rfl) (fun w => by kernel_rfl) ?_
      obtain ⟨b4, f4, es4, eA4, hr4, hl4, hm4⟩ := Sx.old_elem (by decide) j i (by omega)
      subst eA4
      obtain ⟨x4, hx4⟩ : ∃ z_, z_ = (ys[i]'(by omega)) := ⟨_, rfl⟩
      rw [← hx4] at hr4
      obtain rfl := Kit.rd_Int hr4
      refine Sx.GT.elem 26 3 (.tmp 21) (.tmp 22) 1 8 b4 f4 ys.length d i 6 (by rfl) (by rfl) (by kernel_rfl) (by kernel_rfl) (by kernel_rfl) (by kernel_rfl) (by omega) ?_
      refine Sx.GT.ldr1 3 (.tmp 23) b4 ((f4 + i * 1) + 0) (.int .i64 x4) 7 (by rfl) (by rfl) (by kernel_rfl) (by kernel_rfl) (fun w S => hm4 w _ S 0 _ rfl) (by kernel_rfl) ?_
      refine Sx.GT.pure (.bool (x3 != x4)) 8 (by rfl) (by kernel_rfl) (fun w => by kernel_rfl) ?_
      refine Sx.GT.nil ?_
      refine Sx.E.next ?_
      cases hc5 : (x3 != x4)
      · have hb5 := hc5
        refine Sx.C.no (by kernel_rfl) (by kernel_rfl) ?_
        refine Sx.C.skip ?_
        refine Sx.E.block_normal ?_
        refine Sx.E.next ?_
        refine Sx.C.region ?_
        refine Sx.G.pure (.int .i64 (i : Int)) (by kernel_rfl) (fun w => by kernel_rfl) ?_
        refine Sx.G.pureq (.int .i64 (IntKind.i64.wrap ((i : Int) + 1))) (.int .i64 ((i + 1 : Nat) : Int)) (by kernel_rfl) (fun w => by kernel_rfl) (congrArg (Value.int .i64) (Sx.wrap_up i (by omega))) ?_
        refine Sx.G.pure (.int .i64 ((i + 1 : Nat) : Int)) (by kernel_rfl) (fun w => by kernel_rfl) ?_
        refine Sx.G.nil ?_
        have hup : xs.take (i + 1) = ys.take (i + 1) := take_up (by omega) (by omega) hx.2 (by rw [← hx3, ← hx4]; exact bne_eq_false_iff_eq.1 hc5)
        exact Sx.E.again (i + 1) ⟨by omega, hup⟩ (by omega) (fun a hA => (Sx.Ag.and hA (Sx.Ag.and hA (Sx.Ag.and hA (Sx.Ag.and hA (Sx.Ag.none hA) _ _ (by kernel_rfl)) _ _ (by kernel_rfl)) _ _ (by kernel_rfl)) _ _ (by kernel_rfl))) (fun w S => S)
      · have hb5 := hc5
        refine Sx.C.yes (by kernel_rfl) (by kernel_rfl) ?_
        refine Sx.C.seq ?_
        refine Sx.C.region ?_
        refine Sx.G.pure (.bool false) (by kernel_rfl) (fun w => by kernel_rfl) ?_
        refine Sx.G.nil ?_
        refine Sx.E.next ?_
        refine Sx.C.ret ?_
        refine Sx.E.block_ret ?_
        refine Sx.E.then_ret ?_
        refine Sx.E.then_ret ?_
        refine Sx.E.block_ret ?_
        refine Sx.E.then_ret ?_
        refine Sx.E.ret1 (.bool false) rfl (by kernel_rfl) (fun w S => ?_)
        have hne : xs ≠ ys := take_ne (xs := xs) (ys := ys) (i := i) (by omega) (by omega) (by rw [← hx3, ← hx4]; exact bne_iff_ne.1 hc5)
        exact ⟨by rw [eqv_false hne], S.below⟩
  · have hb1 := hc1
    refine Sx.C.yes (by kernel_rfl) (by kernel_rfl) ?_
    refine Sx.C.seq ?_
    refine Sx.C.region ?_
    refine Sx.G.pure (.bool false) (by kernel_rfl) (fun w => by kernel_rfl) ?_
    refine Sx.G.nil ?_
    refine Sx.E.next ?_
    refine Sx.C.ret ?_
    refine Sx.E.then_ret ?_
    refine Sx.E.ret1 (.bool false) rfl (by kernel_rfl) (fun w S => ?_)
    have hne : xs ≠ ys := fun e => by subst e; simp at *
    exact ⟨by rw [eqv_false hne], S.below⟩
set_option maxRecDepth 100000 in
set_option maxHeartbeats 4000000 in
theorem specx_samemem (xs ys : (List (List Int))) (A : Option Addr) (c : Nat) (B : Option Addr) (d : Nat) (w : World) (hc : (rLsw (rLsw rInt)).cap xs) (hd : (rLsw (rLsw rInt)).cap ys) (h : rdLst (rLsw rInt) w 0 w.heap.size xs [.slice A xs.length c]) (j : rdLst (rLsw rInt) w 0 w.heap.size ys [.slice B ys.length d]) : Calls Try.prog 83 #[.slice A xs.length c, .slice B ys.length d] w (fun e w' => e = .returned (.bool (eqv xs ys)) ∧ Below w.heap.size w w') := by
  obtain ⟨hl, hcx⟩ := hc
  obtain ⟨hm, hcy⟩ := hd
  refine Sx.enter (args := [.slice A xs.length c, .slice B ys.length d]) Try.func83 rfl Try.ntmps83 rfl ?_
  refine Sx.C.seq ?_
  refine Sx.C.region ?_
  refine Sx.G.pure (.bool false) (by kernel_rfl) (fun w => by kernel_rfl) ?_
  refine Sx.G.nil ?_
  refine Sx.E.next ?_
  refine Sx.C.seq ?_
  refine Sx.C.seq ?_
  refine Sx.C.region ?_
  refine Sx.G.pure (.slice A xs.length c) (by kernel_rfl) (fun w => by kernel_rfl) ?_
  refine Sx.G.pure (.int .i64 ((xs.length : Nat) : Int)) (by kernel_rfl) (fun w => by kernel_rfl) ?_
  refine Sx.G.pure (.slice B ys.length d) (by kernel_rfl) (fun w => by kernel_rfl) ?_
  refine Sx.G.pure (.int .i64 ((ys.length : Nat) : Int)) (by kernel_rfl) (fun w => by kernel_rfl) ?_
  refine Sx.G.pure (.bool (((xs.length : Nat) : Int) != ((ys.length : Nat) : Int))) (by kernel_rfl) (fun w => by kernel_rfl) ?_
  refine Sx.G.nil ?_
  refine Sx.E.next ?_
  cases hc1 : (((xs.length : Nat) : Int) != ((ys.length : Nat) : Int))
  · have hb1 := hc1
    have hlen : xs.length = ys.length := by have := bne_eq_false_iff_eq.1 hc1; omega
    refine Sx.C.no (by kernel_rfl) (by kernel_rfl) ?_
    refine Sx.C.skip ?_
    refine Sx.E.next ?_
    refine Sx.C.seq ?_
    refine Sx.C.seq ?_
    refine Sx.C.region ?_
    refine Sx.G.pure (.int .i64 0) (by kernel_rfl) (fun w => by kernel_rfl) ?_
    refine Sx.G.nil ?_
    refine Sx.E.next ?_
    refine Sx.C.block ?_
    refine Sx.C.loop (α := Nat) (fun i => i ≤ xs.length ∧ xs.take i = ys.take i) (fun i => [(5, .int .i64 (i : Int)), (0, .slice A xs.length c), (1, .slice B ys.length d), (4, .bool false)]) (fun i => []) (fun i => xs.length - i) 0 ⟨Nat.zero_le _, rfl⟩ (fun a hA => (Sx.Ag.and hA (Sx.Ag.and hA (Sx.Ag.and hA (Sx.Ag.and hA (Sx.Ag.none hA) _ _ (by kernel_rfl)) _ _ (by kernel_rfl)) _ _ (by kernel_rfl)) _ _ (by kernel_rfl))) (fun w S => S) (fun i hx => ?_)
    have hxi := hx.1
    refine Sx.C.seq ?_
    refine Sx.C.seq ?_
    refine Sx.C.region ?_
    refine Sx.G.pure (.int .i64 (i : Int)) (by kernel_rfl) (fun w => by kernel_rfl) ?_
    refine Sx.G.pure (.slice A xs.length c) (by kernel_rfl) (fun w => by kernel_rfl) ?_
    refine Sx.G.pure (.int .i64 ((xs.length : Nat) : Int)) (by kernel_rfl) (fun w => by kernel_rfl) ?_
    refine Sx.G.pure (.bool (decide ((i : Int) < ((xs.length : Nat) : Int)))) (by kernel_rfl) (fun w => by kernel_rfl) ?_
    refine Sx.G.nil ?_
    refine Sx.E.next ?_
    cases hc2 : (decide ((i : Int) < ((xs.length : Nat) : Int)))
    · have hb2 := hc2
      replace hc2 := of_decide_eq_false hc2
      refine Sx.C.no (by kernel_rfl) (by kernel_rfl) ?_
      refine Sx.C.exit ?_
      refine Sx.E.then_exit ?_
      refine Sx.E.then_exit ?_
      refine Sx.E.block_hit ?_
      refine Sx.E.next ?_
      refine Sx.C.seq ?_
      refine Sx.C.region ?_
      refine Sx.G.pure (.bool true) (by kernel_rfl) (fun w => by kernel_rfl) ?_
      refine Sx.G.nil ?_
      refine Sx.E.next ?_
      refine Sx.C.ret ?_
      refine Sx.E.ret1 (.bool true) rfl (by kernel_rfl) (fun w S => ?_)
      have he : xs = ys := by have h2 := hx.2; rwa [List.take_of_length_le (by omega), List.take_of_length_le (by omega)] at h2
      exact ⟨by rw [eqv_true he], S.below⟩
    · have hb2 := hc2
      replace hc2 := of_decide_eq_true hc2
      refine Sx.C.yes (by kernel_rfl) (by kernel_rfl) ?_
      refine Sx.C.skip ?_
      refine Sx.E.next ?_
      refine Sx.C.seq ?_
      refine Sx.C.block ?_
      refine Sx.C.seq ?_
      refine Sx.C.draw (.take 0 (.take 1 (.take 2 (.take 3 (.take 4 (.take 5 (.take 6 (.take 7 (.alone 8 (.take 9 .nil)))))))))) [] (fun w S => St.pick S [] _ rfl (by decide)) (by kernel_rfl) (by kernel_rfl) (by kernel_rfl) ?_
      refine Sx.GT.pure (.slice A xs.length c) 0 (by rfl) (by kernel_rfl) (fun w => by kernel_rfl) ?_
      refine Sx.GT.pure (.int .i64 (i : Int)) 1 (by rfl) (by kernel_rfl) (fun w => by kernel_rfl) ?_
      obtain ⟨b3, f3, es3, eA3, hr3, hl3, hm3⟩ := Sx.old_elem (by decide) h i (by omega)
      subst eA3
      obtain ⟨x3, hx3⟩ : ∃ z_, z_ = (xs[i]'(by omega)) := ⟨_, rfl⟩
      rw [← hx3] at hr3
      replace hr3 : rdLst rInt w 0 w.heap.size x3 es3 := hr3
      obtain ⟨P3, rfl⟩ := lst_rd hr3
      obtain ⟨A3, c3, e3, -⟩ := lst_val hr3
      subst e3
      refine Sx.GT.elem 24 26 (.tmp 17) (.tmp 18) 1 24 b3 f3 xs.length c i 2 (by rfl) (by rfl) (by kernel_rfl) (by kernel_rfl) (by kernel_rfl) (by kernel_rfl) (by omega) ?_
      refine Sx.GT.ldr1 26 (.tmp 19) b3 ((f3 + i * 1) + 0) (.slice A3 x3.length c3) 3 (by rfl) (by rfl) (by kernel_rfl) (by kernel_rfl) (fun w S => hm3 w _ S 0 _ rfl) (by kernel_rfl) ?_
      refine Sx.GT.pure (.slice B ys.length d) 4 (by rfl) (by kernel_rfl) (fun w => by kernel_rfl) ?_
      refine Sx.GT.pure (.int .i64 (i : Int)) 5 (by rfl) (by kernel_rfl) (fun w => by kernel_rfl) ?_
      obtain ⟨b4, f4, es4, eA4, hr4, hl4, hm4⟩ := Sx.old_elem (by decide) j i (by omega)
      subst eA4
      obtain ⟨x4, hx4⟩ : ∃ z_, z_ = (ys[i]'(by omega)) := ⟨_, rfl⟩
      rw [← hx4] at hr4
      replace hr4 : rdLst rInt w 0 w.heap.size x4 es4 := hr4
      obtain ⟨P4, rfl⟩ := lst_rd hr4
      obtain ⟨A4, c4, e4, -⟩ := lst_val hr4
      subst e4
      refine Sx.GT.elem 24 26 (.tmp 21) (.tmp 22) 1 24 b4 f4 ys.length d i 6 (by rfl) (by rfl) (by kernel_rfl) (by kernel_rfl) (by kernel_rfl) (by kernel_rfl) (by omega) ?_
      refine Sx.GT.ldr1 26 (.tmp 23) b4 ((f4 + i * 1) + 0) (.slice A4 x4.length c4) 7 (by rfl) (by rfl) (by kernel_rfl) (by kernel_rfl) (fun w S => hm4 w _ S 0 _ rfl) (by kernel_rfl) ?_
      refine Sx.GT.alone (Sx.Alone.plain 85 #[.slice A3 x3.length c3, .slice A4 x4.length c4] (.bool (eqv x3 x4)) (by rfl) (by kernel_rfl) (fun w => by kernel_rfl) (fun w S => by exact specx_ints x3 x4 A3 c3 A4 c4 _ (hcx _ (hx3 ▸ List.getElem_mem _)) (hcy _ (hx4 ▸ List.getElem_mem _)) (St.old (r := (rLsw rInt)) S hr3) (St.old (r := (rLsw rInt)) S hr4)) (fun w S => St.pick S [] _ rfl (by decide)) ?_)
      refine Sx.GT.pure (.bool (!(eqv x3 x4))) 9 (by rfl) (by kernel_rfl) (fun w => by kernel_rfl) ?_
      refine Sx.GT.nil ?_
      refine Sx.E.next ?_
      cases hc5 : (eqv x3 x4)
      · have hb5 := hc5
        refine Sx.C.yes (by kernel_rfl) (by kernel_rfl) ?_
        refine Sx.C.seq ?_
        refine Sx.C.region ?_
        refine Sx.G.pure (.bool false) (by kernel_rfl) (fun w => by kernel_rfl) ?_
        refine Sx.G.nil ?_
        refine Sx.E.next ?_
        refine Sx.C.ret ?_
        refine Sx.E.block_ret ?_
        refine Sx.E.then_ret ?_
        refine Sx.E.then_ret ?_
        refine Sx.E.block_ret ?_
        refine Sx.E.then_ret ?_
        refine Sx.E.ret1 (.bool false) rfl (by kernel_rfl) (fun w S => ?_)
        have hne : xs ≠ ys := take_ne (xs := xs) (ys := ys) (i := i) (by omega) (by omega) (by rw [← hx3, ← hx4]; exact ne_of_eqv hc5)
        exact ⟨by rw [eqv_false hne], S.below⟩
      · have hb5 := hc5
        refine Sx.C.no (by kernel_rfl) (by kernel_rfl) ?_
        refine Sx.C.skip ?_
        refine Sx.E.block_normal ?_
        refine Sx.E.next ?_
        refine Sx.C.region ?_
        refine Sx.G.pure (.int .i64 (i : Int)) (by kernel_rfl) (fun w => by kernel_rfl) ?_
        refine Sx.G.pureq (.int .i64 (IntKind.i64.wrap ((i : Int) + 1))) (.int .i64 ((i + 1 : Nat) : Int)) (by kernel_rfl) (fun w => by kernel_rfl) (congrArg (Value.int .i64) (Sx.wrap_up i (by omega))) ?_
        refine Sx.G.pure (.int .i64 ((i + 1 : Nat) : Int)) (by kernel_rfl) (fun w => by kernel_rfl) ?_
        refine Sx.G.nil ?_
        have hup : xs.take (i + 1) = ys.take (i + 1) := take_up (by omega) (by omega) hx.2 (by rw [← hx3, ← hx4]; exact eqv_iff.1 hc5)
        exact Sx.E.again (i + 1) ⟨by omega, hup⟩ (by omega) (fun a hA => (Sx.Ag.and hA (Sx.Ag.and hA (Sx.Ag.and hA (Sx.Ag.and hA (Sx.Ag.none hA) _ _ (by kernel_rfl)) _ _ (by kernel_rfl)) _ _ (by kernel_rfl)) _ _ (by kernel_rfl))) (fun w S => S)
  · have hb1 := hc1
    refine Sx.C.yes (by kernel_rfl) (by kernel_rfl) ?_
    refine Sx.C.seq ?_
    refine Sx.C.region ?_
    refine Sx.G.pure (.bool false) (by kernel_rfl) (fun w => by kernel_rfl) ?_
    refine Sx.G.nil ?_
    refine Sx.E.next ?_
    refine Sx.C.ret ?_
    refine Sx.E.then_ret ?_
    refine Sx.E.ret1 (.bool false) rfl (by kernel_rfl) (fun w S => ?_)
    have hne : xs ≠ ys := fun e => by subst e; simp at *
    exact ⟨by rw [eqv_false hne], S.below⟩
set_option maxRecDepth 100000 in
set_option maxHeartbeats 4000000 in
theorem specx_samegs (xs ys : (List gT)) (A : Option Addr) (c : Nat) (B : Option Addr) (d : Nat) (w : World) (hc : (rLsw wG).cap xs) (hd : (rLsw wG).cap ys) (h : rdLst wG w 0 w.heap.size xs [.slice A xs.length c]) (j : rdLst wG w 0 w.heap.size ys [.slice B ys.length d]) : Calls Try.prog 84 #[.slice A xs.length c, .slice B ys.length d] w (fun e w' => e = .returned (.bool (eqv xs ys)) ∧ Below w.heap.size w w') := by
  obtain ⟨hl, hcx⟩ := hc
  obtain ⟨hm, hcy⟩ := hd
  refine Sx.enter (args := [.slice A xs.length c, .slice B ys.length d]) Try.func84 rfl Try.ntmps84 rfl ?_
  refine Sx.C.seq ?_
  refine Sx.C.region ?_
  refine Sx.G.pure (.bool false) (by kernel_rfl) (fun w => by kernel_rfl) ?_
  refine Sx.G.nil ?_
  refine Sx.E.next ?_
  refine Sx.C.seq ?_
  refine Sx.C.seq ?_
  refine Sx.C.region ?_
  refine Sx.G.pure (.slice A xs.length c) (by kernel_rfl) (fun w => by kernel_rfl) ?_
  refine Sx.G.pure (.int .i64 ((xs.length : Nat) : Int)) (by kernel_rfl) (fun w => by kernel_rfl) ?_
  refine Sx.G.pure (.slice B ys.length d) (by kernel_rfl) (fun w => by kernel_rfl) ?_
  refine Sx.G.pure (.int .i64 ((ys.length : Nat) : Int)) (by kernel_rfl) (fun w => by kernel_rfl) ?_
  refine Sx.G.pure (.bool (((xs.length : Nat) : Int) != ((ys.length : Nat) : Int))) (by kernel_rfl) (fun w => by kernel_rfl) ?_
  refine Sx.G.nil ?_
  refine Sx.E.next ?_
  cases hc1 : (((xs.length : Nat) : Int) != ((ys.length : Nat) : Int))
  · have hb1 := hc1
    have hlen : xs.length = ys.length := by have := bne_eq_false_iff_eq.1 hc1; omega
    refine Sx.C.no (by kernel_rfl) (by kernel_rfl) ?_
    refine Sx.C.skip ?_
    refine Sx.E.next ?_
    refine Sx.C.seq ?_
    refine Sx.C.seq ?_
    refine Sx.C.region ?_
    refine Sx.G.pure (.int .i64 0) (by kernel_rfl) (fun w => by kernel_rfl) ?_
    refine Sx.G.nil ?_
    refine Sx.E.next ?_
    refine Sx.C.block ?_
    refine Sx.C.loop (α := Nat) (fun i => i ≤ xs.length ∧ xs.take i = ys.take i) (fun i => [(5, .int .i64 (i : Int)), (0, .slice A xs.length c), (1, .slice B ys.length d), (4, .bool false)]) (fun i => []) (fun i => xs.length - i) 0 ⟨Nat.zero_le _, rfl⟩ (fun a hA => (Sx.Ag.and hA (Sx.Ag.and hA (Sx.Ag.and hA (Sx.Ag.and hA (Sx.Ag.none hA) _ _ (by kernel_rfl)) _ _ (by kernel_rfl)) _ _ (by kernel_rfl)) _ _ (by kernel_rfl))) (fun w S => S) (fun i hx => ?_)
    have hxi := hx.1
    refine Sx.C.seq ?_
    refine Sx.C.seq ?_
    refine Sx.C.region ?_
    refine Sx.G.pure (.int .i64 (i : Int)) (by kernel_rfl) (fun w => by kernel_rfl) ?_
    refine Sx.G.pure (.slice A xs.length c) (by kernel_rfl) (fun w => by kernel_rfl) ?_
    refine Sx.G.pure (.int .i64 ((xs.length : Nat) : Int)) (by kernel_rfl) (fun w => by kernel_rfl) ?_
    refine Sx.G.pure (.bool (decide ((i : Int) < ((xs.length : Nat) : Int)))) (by kernel_rfl) (fun w => by kernel_rfl) ?_
    refine Sx.G.nil ?_
    refine Sx.E.next ?_
    cases hc2 : (decide ((i : Int) < ((xs.length : Nat) : Int)))
    · have hb2 := hc2
      replace hc2 := of_decide_eq_false hc2
      refine Sx.C.no (by kernel_rfl) (by kernel_rfl) ?_
      refine Sx.C.exit ?_
      refine Sx.E.then_exit ?_
      refine Sx.E.then_exit ?_
      refine Sx.E.block_hit ?_
      refine Sx.E.next ?_
      refine Sx.C.seq ?_
      refine Sx.C.region ?_
      refine Sx.G.pure (.bool true) (by kernel_rfl) (fun w => by kernel_rfl) ?_
      refine Sx.G.nil ?_
      refine Sx.E.next ?_
      refine Sx.C.ret ?_
      refine Sx.E.ret1 (.bool true) rfl (by kernel_rfl) (fun w S => ?_)
      have he : xs = ys := by have h2 := hx.2; rwa [List.take_of_length_le (by omega), List.take_of_length_le (by omega)] at h2
      exact ⟨by rw [eqv_true he], S.below⟩
    · have hb2 := hc2
      replace hc2 := of_decide_eq_true hc2
      refine Sx.C.yes (by kernel_rfl) (by kernel_rfl) ?_
      refine Sx.C.skip ?_
      refine Sx.E.next ?_
      refine Sx.C.seq ?_
      refine Sx.C.block ?_
      refine Sx.C.seq ?_
      refine Sx.C.draw (.take 0 (.take 1 (.take 2 (.take 3 (.take 4 (.take 5 (.take 6 (.take 7 (.alone 8 (.take 9 .nil)))))))))) [] (fun w S => St.pick S [] _ rfl (by decide)) (by kernel_rfl) (by kernel_rfl) (by kernel_rfl) ?_
      refine Sx.GT.pure (.slice A xs.length c) 0 (by rfl) (by kernel_rfl) (fun w => by kernel_rfl) ?_
      refine Sx.GT.pure (.int .i64 (i : Int)) 1 (by rfl) (by kernel_rfl) (fun w => by kernel_rfl) ?_
      obtain ⟨b3, f3, es3, eA3, hr3, hl3, hm3⟩ := Sx.old_elem (by decide) h i (by omega)
      subst eA3
      obtain ⟨x3, hx3⟩ : ∃ z_, z_ = (xs[i]'(by omega)) := ⟨_, rfl⟩
      rw [← hx3] at hr3
      have hR3 := hr3
      obtain ⟨P3_0, P3_1, P3_2, P3_3, rfl, hf3_0, hf3_1, hf3_2, hf3_3⟩ := wG_rd hr3
      obtain ⟨A3_0, c3_0, e3_0, -⟩ := lst_val hf3_0
      subst e3_0
      obtain ⟨A3_1, c3_1, e3_1, -⟩ := lst_val hf3_1
      subst e3_1
      obtain ⟨A3_2, c3_2, e3_2, -⟩ := lst_val hf3_2
      subst e3_2
      obtain ⟨A3_3, c3_3, e3_3, -⟩ := lst_val hf3_3
      subst e3_3
      refine Sx.GT.elem 25 51 (.tmp 17) (.tmp 18) 15 184 b3 f3 xs.length c i 2 (by rfl) (by rfl) (by kernel_rfl) (by kernel_rfl) (by kernel_rfl) (by kernel_rfl) (by omega) ?_
      refine Sx.GT.ldr 51 (.tmp 19) b3 (f3 + i * 15) [.slice A3_0 x3.prog.length c3_0, .int .i64 x3.a, .int .i64 x3.pc, .slice A3_1 x3.wr.length c3_1, .slice A3_2 x3.lv.length c3_2, .int .i64 x3.t.1, .int .i64 x3.t.2.1, .bool x3.t.2.2, .int .i64 x3.pd, .int .i64 x3.x.1, .int .i64 x3.x.2.1, .bool x3.x.2.2.1, .int .i64 x3.x.2.2.2, .bool x3.hl, .slice A3_3 x3.seen.length c3_3] 3 (by rfl) (by rfl) (by kernel_rfl) (by kernel_rfl) (fun w S => hm3 w _ S) (by kernel_rfl) (by kernel_rfl) ?_
      refine Sx.GT.pure (.slice B ys.length d) 4 (by rfl) (by kernel_rfl) (fun w => by kernel_rfl) ?_
      refine Sx.GT.pure (.int .i64 (i : Int)) 5 (by rfl) (by kernel_rfl) (fun w => by kernel_rfl) ?_
      obtain ⟨b4, f4, es4, eA4, hr4, hl4, hm4⟩ := Sx.old_elem (by decide) j i (by omega)
      subst eA4
      obtain ⟨x4, hx4⟩ : ∃ z_, z_ = (ys[i]'(by omega)) := ⟨_, rfl⟩
      rw [← hx4] at hr4
      have hR4 := hr4
      obtain ⟨P4_0, P4_1, P4_2, P4_3, rfl, hf4_0, hf4_1, hf4_2, hf4_3⟩ := wG_rd hr4
      obtain ⟨A4_0, c4_0, e4_0, -⟩ := lst_val hf4_0
      subst e4_0
      obtain ⟨A4_1, c4_1, e4_1, -⟩ := lst_val hf4_1
      subst e4_1
      obtain ⟨A4_2, c4_2, e4_2, -⟩ := lst_val hf4_2
      subst e4_2
      obtain ⟨A4_3, c4_3, e4_3, -⟩ := lst_val hf4_3
      subst e4_3
      refine Sx.GT.elem 25 51 (.tmp 21) (.tmp 22) 15 184 b4 f4 ys.length d i 6 (by rfl) (by rfl) (by kernel_rfl) (by kernel_rfl) (by kernel_rfl) (by kernel_rfl) (by omega) ?_
      refine Sx.GT.ldr 51 (.tmp 23) b4 (f4 + i * 15) [.slice A4_0 x4.prog.length c4_0, .int .i64 x4.a, .int .i64 x4.pc, .slice A4_1 x4.wr.length c4_1, .slice A4_2 x4.lv.length c4_2, .int .i64 x4.t.1, .int .i64 x4.t.2.1, .bool x4.t.2.2, .int .i64 x4.pd, .int .i64 x4.x.1, .int .i64 x4.x.2.1, .bool x4.x.2.2.1, .int .i64 x4.x.2.2.2, .bool x4.hl, .slice A4_3 x4.seen.length c4_3] 7 (by rfl) (by rfl) (by kernel_rfl) (by kernel_rfl) (fun w S => hm4 w _ S) (by kernel_rfl) (by kernel_rfl) ?_
      refine Sx.GT.alone (Sx.Alone.plain 116 #[.agg #[.slice A3_0 x3.prog.length c3_0, .int .i64 x3.a, .int .i64 x3.pc, .slice A3_1 x3.wr.length c3_1, .slice A3_2 x3.lv.length c3_2, .int .i64 x3.t.1, .int .i64 x3.t.2.1, .bool x3.t.2.2, .int .i64 x3.pd, .int .i64 x3.x.1, .int .i64 x3.x.2.1, .bool x3.x.2.2.1, .int .i64 x3.x.2.2.2, .bool x3.hl, .slice A3_3 x3.seen.length c3_3], .agg #[.slice A4_0 x4.prog.length c4_0, .int .i64 x4.a, .int .i64 x4.pc, .slice A4_1 x4.wr.length c4_1, .slice A4_2 x4.lv.length c4_2, .int .i64 x4.t.1, .int .i64 x4.t.2.1, .bool x4.t.2.2, .int .i64 x4.pd, .int .i64 x4.x.1, .int .i64 x4.x.2.1, .bool x4.x.2.2.1, .int .i64 x4.x.2.2.2, .bool x4.hl, .slice A4_3 x4.seen.length c4_3]] (.bool (eqv x3 x4)) (by rfl) (by kernel_rfl) (fun w => by kernel_rfl) (fun w S => by exact ((Guests.specx_same x3 x4 _ _ _ (cap_G (hcx _ (hx3 ▸ List.getElem_mem _))) (cap_G (hcy _ (hx4 ▸ List.getElem_mem _))) (rd_G (St.old S hR3)) (rd_G (St.old S hR4))).mono fun e w' h => And.intro (h.1.trans (by rw [sameG_eqv])) h.2)) (fun w S => St.pick S [] _ rfl (by decide)) ?_)
      refine Sx.GT.pure (.bool (!(eqv x3 x4))) 9 (by rfl) (by kernel_rfl) (fun w => by kernel_rfl) ?_
      refine Sx.GT.nil ?_
      refine Sx.E.next ?_
      cases hc5 : (eqv x3 x4)
      · have hb5 := hc5
        refine Sx.C.yes (by kernel_rfl) (by kernel_rfl) ?_
        refine Sx.C.seq ?_
        refine Sx.C.region ?_
        refine Sx.G.pure (.bool false) (by kernel_rfl) (fun w => by kernel_rfl) ?_
        refine Sx.G.nil ?_
        refine Sx.E.next ?_
        refine Sx.C.ret ?_
        refine Sx.E.block_ret ?_
        refine Sx.E.then_ret ?_
        refine Sx.E.then_ret ?_
        refine Sx.E.block_ret ?_
        refine Sx.E.then_ret ?_
        refine Sx.E.ret1 (.bool false) rfl (by kernel_rfl) (fun w S => ?_)
        have hne : xs ≠ ys := take_ne (xs := xs) (ys := ys) (i := i) (by omega) (by omega) (by rw [← hx3, ← hx4]; exact ne_of_eqv hc5)
        exact ⟨by rw [eqv_false hne], S.below⟩
      · have hb5 := hc5
        refine Sx.C.no (by kernel_rfl) (by kernel_rfl) ?_
        refine Sx.C.skip ?_
        refine Sx.E.block_normal ?_
        refine Sx.E.next ?_
        refine Sx.C.region ?_
        refine Sx.G.pure (.int .i64 (i : Int)) (by kernel_rfl) (fun w => by kernel_rfl) ?_
        refine Sx.G.pureq (.int .i64 (IntKind.i64.wrap ((i : Int) + 1))) (.int .i64 ((i + 1 : Nat) : Int)) (by kernel_rfl) (fun w => by kernel_rfl) (congrArg (Value.int .i64) (Sx.wrap_up i (by omega))) ?_
        refine Sx.G.pure (.int .i64 ((i + 1 : Nat) : Int)) (by kernel_rfl) (fun w => by kernel_rfl) ?_
        refine Sx.G.nil ?_
        have hup : xs.take (i + 1) = ys.take (i + 1) := take_up (by omega) (by omega) hx.2 (by rw [← hx3, ← hx4]; exact eqv_iff.1 hc5)
        exact Sx.E.again (i + 1) ⟨by omega, hup⟩ (by omega) (fun a hA => (Sx.Ag.and hA (Sx.Ag.and hA (Sx.Ag.and hA (Sx.Ag.and hA (Sx.Ag.none hA) _ _ (by kernel_rfl)) _ _ (by kernel_rfl)) _ _ (by kernel_rfl)) _ _ (by kernel_rfl))) (fun w S => S)
  · have hb1 := hc1
    refine Sx.C.yes (by kernel_rfl) (by kernel_rfl) ?_
    refine Sx.C.seq ?_
    refine Sx.C.region ?_
    refine Sx.G.pure (.bool false) (by kernel_rfl) (fun w => by kernel_rfl) ?_
    refine Sx.G.nil ?_
    refine Sx.E.next ?_
    refine Sx.C.ret ?_
    refine Sx.E.then_ret ?_
    refine Sx.E.ret1 (.bool false) rfl (by kernel_rfl) (fun w S => ?_)
    have hne : xs ≠ ys := fun e => by subst e; simp at *
    exact ⟨by rw [eqv_false hne], S.below⟩
set_option maxRecDepth 100000 in
set_option maxHeartbeats 4000000 in
theorem specx_bsame (x y : bT) (cs ds : List Value) (w : World) (hc : wB.cap x) (hd : wB.cap y) (h : wB.rd w 0 w.heap.size x cs) (j : wB.rd w 0 w.heap.size y ds) : Calls Try.prog 33 #[.agg cs.toArray, .agg ds.toArray] w (fun e w' => e = .returned (.bool (eqv x y)) ∧ Below w.heap.size w w') := by
  obtain ⟨hcap0, hcap1, hcap2, hcap3⟩ := hc
  obtain ⟨hdap0, hdap1, hdap2, hdap3⟩ := hd
  have hR := h
  obtain ⟨hP0, hP1, hP2, rfl, hf0, hf1, hf2⟩ := wB_rd h
  obtain ⟨hA0, hK0, he0, -⟩ := lst_val hf0
  subst he0
  obtain ⟨hA1, hK1, he1, -⟩ := lst_val hf1
  subst he1
  obtain ⟨hA2, hK2, he2, -⟩ := lst_val hf2
  subst he2
  have jR := j
  obtain ⟨jP0, jP1, jP2, rfl, jf0, jf1, jf2⟩ := wB_rd j
  obtain ⟨jA0, jK0, je0, -⟩ := lst_val jf0
  subst je0
  obtain ⟨jA1, jK1, je1, -⟩ := lst_val jf1
  subst je1
  obtain ⟨jA2, jK2, je2, -⟩ := lst_val jf2
  subst je2
  refine Sx.enter (args := [.agg #[.slice hA0 x.mem.length hK0, .slice hA1 x.gs.length hK1, .slice hA2 x.outs.length hK2, .int .i64 x.pd], .agg #[.slice jA0 y.mem.length jK0, .slice jA1 y.gs.length jK1, .slice jA2 y.outs.length jK2, .int .i64 y.pd]]) Try.func33 rfl Try.ntmps33 rfl ?_
  refine Sx.C.seq ?_
  refine Sx.C.region ?_
  refine Sx.G.box 28 (.tmp 0) [.slice hA0 x.mem.length hK0, .slice hA1 x.gs.length hK1, .slice hA2 x.outs.length hK2, .int .i64 x.pd] rfl (by kernel_rfl) (by kernel_rfl) (fun b1 => ?_)
  refine Sx.G.box 28 (.tmp 1) [.slice jA0 y.mem.length jK0, .slice jA1 y.gs.length jK1, .slice jA2 y.outs.length jK2, .int .i64 y.pd] rfl (by kernel_rfl) (by kernel_rfl) (fun b2 => ?_)
  refine Sx.G.pure (.bool false) (by kernel_rfl) (fun w => by kernel_rfl) ?_
  refine Sx.G.nil ?_
  refine Sx.E.next ?_
  refine Sx.C.seq ?_
  refine Sx.C.region ?_
  refine Sx.G.pure (.pointer (some ⟨b1, 0, none⟩)) (by kernel_rfl) (fun w => by kernel_rfl) ?_
  refine Sx.G.ld1 24 (.tmp 5) b1 0 1 [.slice hA0 x.mem.length hK0, .slice hA1 x.gs.length hK1, .slice hA2 x.outs.length hK2, .int .i64 x.pd] (.slice hA0 x.mem.length hK0) rfl (by kernel_rfl) (by kernel_rfl) rfl (by kernel_rfl) (by kernel_rfl) ?_
  refine Sx.G.pure (.pointer (some ⟨b2, 0, none⟩)) (by kernel_rfl) (fun w => by kernel_rfl) ?_
  refine Sx.G.ld1 24 (.tmp 7) b2 0 0 [.slice jA0 y.mem.length jK0, .slice jA1 y.gs.length jK1, .slice jA2 y.outs.length jK2, .int .i64 y.pd] (.slice jA0 y.mem.length jK0) rfl (by kernel_rfl) (by kernel_rfl) rfl (by kernel_rfl) (by kernel_rfl) ?_
  refine Sx.G.plain 83 #[.slice hA0 x.mem.length hK0, .slice jA0 y.mem.length jK0] (.bool (eqv x.mem y.mem)) (by kernel_rfl) (fun w => by kernel_rfl) (fun w S => by exact specx_samemem x.mem y.mem hA0 hK0 jA0 jK0 _ hcap0 hdap0 (St.old (r := (rLsw (rLsw rInt))) S hf0) (St.old (r := (rLsw (rLsw rInt))) S jf0)) ?_
  refine Sx.G.pure (.bool (eqv x.mem y.mem)) (by kernel_rfl) (fun w => by kernel_rfl) ?_
  cases hc3 : (eqv x.mem y.mem)
  · have hb3 := hc3
    refine Sx.G.skip (by kernel_rfl) ?_
    refine Sx.G.skip (by kernel_rfl) ?_
    refine Sx.G.skip (by kernel_rfl) ?_
    refine Sx.G.skip (by kernel_rfl) ?_
    refine Sx.G.skip (by kernel_rfl) ?_
    refine Sx.G.pure (.bool false) (by kernel_rfl) (fun w => by kernel_rfl) ?_
    refine Sx.G.pure (.bool false) (by kernel_rfl) (fun w => by kernel_rfl) ?_
    refine Sx.G.skip (by kernel_rfl) ?_
    refine Sx.G.skip (by kernel_rfl) ?_
    refine Sx.G.skip (by kernel_rfl) ?_
    refine Sx.G.skip (by kernel_rfl) ?_
    refine Sx.G.skip (by kernel_rfl) ?_
    refine Sx.G.pure (.bool false) (by kernel_rfl) (fun w => by kernel_rfl) ?_
    refine Sx.G.pure (.bool false) (by kernel_rfl) (fun w => by kernel_rfl) ?_
    refine Sx.G.skip (by kernel_rfl) ?_
    refine Sx.G.skip (by kernel_rfl) ?_
    refine Sx.G.skip (by kernel_rfl) ?_
    refine Sx.G.skip (by kernel_rfl) ?_
    refine Sx.G.skip (by kernel_rfl) ?_
    refine Sx.G.pure (.bool false) (by kernel_rfl) (fun w => by kernel_rfl) ?_
    refine Sx.G.pure (.bool false) (by kernel_rfl) (fun w => by kernel_rfl) ?_
    refine Sx.G.nil ?_
    refine Sx.E.next ?_
    refine Sx.C.ret ?_
    refine Sx.E.ret1 (.bool false) rfl (by kernel_rfl) (fun w S => ?_)
    exact ⟨congrArg Ending.returned (congrArg Value.bool (by simp only [eqv_B, hb3, Bool.and_true, Bool.and_false, Bool.false_and, Bool.true_and])), S.below⟩
  · have hb3 := hc3
    refine Sx.G.pure (.pointer (some ⟨b1, 1, none⟩)) (by kernel_rfl) (fun w => by kernel_rfl) ?_
    refine Sx.G.ld1 25 (.tmp 11) b1 1 1 [.slice hA0 x.mem.length hK0, .slice hA1 x.gs.length hK1, .slice hA2 x.outs.length hK2, .int .i64 x.pd] (.slice hA1 x.gs.length hK1) rfl (by kernel_rfl) (by kernel_rfl) rfl (by kernel_rfl) (by kernel_rfl) ?_
    refine Sx.G.pure (.pointer (some ⟨b2, 1, none⟩)) (by kernel_rfl) (fun w => by kernel_rfl) ?_
    refine Sx.G.ld1 25 (.tmp 13) b2 1 0 [.slice jA0 y.mem.length jK0, .slice jA1 y.gs.length jK1, .slice jA2 y.outs.length jK2, .int .i64 y.pd] (.slice jA1 y.gs.length jK1) rfl (by kernel_rfl) (by kernel_rfl) rfl (by kernel_rfl) (by kernel_rfl) ?_
    refine Sx.G.plain 84 #[.slice hA1 x.gs.length hK1, .slice jA1 y.gs.length jK1] (.bool (eqv x.gs y.gs)) (by kernel_rfl) (fun w => by kernel_rfl) (fun w S => by exact specx_samegs x.gs y.gs hA1 hK1 jA1 jK1 _ hcap1 hdap1 (St.old (r := (rLsw wG)) S hf1) (St.old (r := (rLsw wG)) S jf1)) ?_
    refine Sx.G.pure (.bool (eqv x.gs y.gs)) (by kernel_rfl) (fun w => by kernel_rfl) ?_
    refine Sx.G.pure (.bool (eqv x.gs y.gs)) (by kernel_rfl) (fun w => by kernel_rfl) ?_
    cases hc4 : (eqv x.gs y.gs)
    · have hb4 := hc4
      refine Sx.G.skip (by kernel_rfl) ?_
      refine Sx.G.skip (by kernel_rfl) ?_
      refine Sx.G.skip (by kernel_rfl) ?_
      refine Sx.G.skip (by kernel_rfl) ?_
      refine Sx.G.skip (by kernel_rfl) ?_
      refine Sx.G.pure (.bool false) (by kernel_rfl) (fun w => by kernel_rfl) ?_
      refine Sx.G.pure (.bool false) (by kernel_rfl) (fun w => by kernel_rfl) ?_
      refine Sx.G.skip (by kernel_rfl) ?_
      refine Sx.G.skip (by kernel_rfl) ?_
      refine Sx.G.skip (by kernel_rfl) ?_
      refine Sx.G.skip (by kernel_rfl) ?_
      refine Sx.G.skip (by kernel_rfl) ?_
      refine Sx.G.pure (.bool false) (by kernel_rfl) (fun w => by kernel_rfl) ?_
      refine Sx.G.pure (.bool false) (by kernel_rfl) (fun w => by kernel_rfl) ?_
      refine Sx.G.nil ?_
      refine Sx.E.next ?_
      refine Sx.C.ret ?_
      refine Sx.E.ret1 (.bool false) rfl (by kernel_rfl) (fun w S => ?_)
      exact ⟨congrArg Ending.returned (congrArg Value.bool (by simp only [eqv_B, hb3, hb4, Bool.and_true, Bool.and_false, Bool.false_and, Bool.true_and])), S.below⟩
    · have hb4 := hc4
      refine Sx.G.pure (.pointer (some ⟨b1, 2, none⟩)) (by kernel_rfl) (fun w => by kernel_rfl) ?_
      refine Sx.G.ld1 26 (.tmp 18) b1 2 1 [.slice hA0 x.mem.length hK0, .slice hA1 x.gs.length hK1, .slice hA2 x.outs.length hK2, .int .i64 x.pd] (.slice hA2 x.outs.length hK2) rfl (by kernel_rfl) (by kernel_rfl) rfl (by kernel_rfl) (by kernel_rfl) ?_
      refine Sx.G.pure (.pointer (some ⟨b2, 2, none⟩)) (by kernel_rfl) (fun w => by kernel_rfl) ?_
      refine Sx.G.ld1 26 (.tmp 20) b2 2 0 [.slice jA0 y.mem.length jK0, .slice jA1 y.gs.length jK1, .slice jA2 y.outs.length jK2, .int .i64 y.pd] (.slice jA2 y.outs.length jK2) rfl (by kernel_rfl) (by kernel_rfl) rfl (by kernel_rfl) (by kernel_rfl) ?_
      refine Sx.G.plain 85 #[.slice hA2 x.outs.length hK2, .slice jA2 y.outs.length jK2] (.bool (eqv x.outs y.outs)) (by kernel_rfl) (fun w => by kernel_rfl) (fun w S => by exact specx_ints x.outs y.outs hA2 hK2 jA2 jK2 _ hcap2 hdap2 (St.old (r := (rLsw rInt)) S hf2) (St.old (r := (rLsw rInt)) S jf2)) ?_
      refine Sx.G.pure (.bool (eqv x.outs y.outs)) (by kernel_rfl) (fun w => by kernel_rfl) ?_
      refine Sx.G.pure (.bool (eqv x.outs y.outs)) (by kernel_rfl) (fun w => by kernel_rfl) ?_
      cases hc5 : (eqv x.outs y.outs)
      · have hb5 := hc5
        refine Sx.G.skip (by kernel_rfl) ?_
        refine Sx.G.skip (by kernel_rfl) ?_
        refine Sx.G.skip (by kernel_rfl) ?_
        refine Sx.G.skip (by kernel_rfl) ?_
        refine Sx.G.skip (by kernel_rfl) ?_
        refine Sx.G.pure (.bool false) (by kernel_rfl) (fun w => by kernel_rfl) ?_
        refine Sx.G.pure (.bool false) (by kernel_rfl) (fun w => by kernel_rfl) ?_
        refine Sx.G.nil ?_
        refine Sx.E.next ?_
        refine Sx.C.ret ?_
        refine Sx.E.ret1 (.bool false) rfl (by kernel_rfl) (fun w S => ?_)
        exact ⟨congrArg Ending.returned (congrArg Value.bool (by simp only [eqv_B, hb3, hb4, hb5, Bool.and_true, Bool.and_false, Bool.false_and, Bool.true_and])), S.below⟩
      · have hb5 := hc5
        refine Sx.G.pure (.pointer (some ⟨b1, 3, none⟩)) (by kernel_rfl) (fun w => by kernel_rfl) ?_
        refine Sx.G.ld1 3 (.tmp 25) b1 3 1 [.slice hA0 x.mem.length hK0, .slice hA1 x.gs.length hK1, .slice hA2 x.outs.length hK2, .int .i64 x.pd] (.int .i64 x.pd) rfl (by kernel_rfl) (by kernel_rfl) rfl (by kernel_rfl) (by kernel_rfl) ?_
        refine Sx.G.pure (.pointer (some ⟨b2, 3, none⟩)) (by kernel_rfl) (fun w => by kernel_rfl) ?_
        refine Sx.G.ld1 3 (.tmp 27) b2 3 0 [.slice jA0 y.mem.length jK0, .slice jA1 y.gs.length jK1, .slice jA2 y.outs.length jK2, .int .i64 y.pd] (.int .i64 y.pd) rfl (by kernel_rfl) (by kernel_rfl) rfl (by kernel_rfl) (by kernel_rfl) ?_
        refine Sx.G.pure (.bool (x.pd == y.pd)) (by kernel_rfl) (fun w => by kernel_rfl) ?_
        refine Sx.G.pure (.bool (x.pd == y.pd)) (by kernel_rfl) (fun w => by kernel_rfl) ?_
        refine Sx.G.pure (.bool (x.pd == y.pd)) (by kernel_rfl) (fun w => by kernel_rfl) ?_
        refine Sx.G.nil ?_
        refine Sx.E.next ?_
        refine Sx.C.ret ?_
        refine Sx.E.ret1 (.bool (x.pd == y.pd)) rfl (by kernel_rfl) (fun w S => ?_)
        exact ⟨congrArg Ending.returned (congrArg Value.bool (by simp only [eqv_B, hb3, hb4, hb5, Bool.and_true, Bool.and_false, Bool.false_and, Bool.true_and])), S.below⟩
end Go.Proofs.Ytldgadmpclgfhaa.Kit
namespace Go.Proofs.Ytldgadmpclgfhaa.Ctls
set_option maxRecDepth 100000
open Go.ChangeShapes Go.WideShapes Go.ChangeAt Go.RowKit
open Go.Proofs.Ytldgadmpclgfhaa.Base Go.Proofs.Ytldgadmpclgfhaa.Mem Go.Proofs.Ytldgadmpclgfhaa.Data Go.Proofs.Ytldgadmpclgfhaa.Ints Go.Proofs.Ytldgadmpclgfhaa.Slots
set_option linter.unusedVariables false
set_option linter.unusedSimpArgs false
def p1 (s : CT) : Bool := !inB s.1 0 3
def p2 (s : CT) : Bool := !inB s.2.1 0 255
def p3 (s : CT) : Bool := (s.2.1 != 0) && !s.2.2
end Go.Proofs.Ytldgadmpclgfhaa.Ctls
namespace Go.Proofs.Ytldgadmpclgfhaa.Inss
set_option maxRecDepth 100000
open Go.ChangeShapes Go.WideShapes Go.ChangeAt Go.RowKit
open Go.Proofs.Ytldgadmpclgfhaa.Base Go.Proofs.Ytldgadmpclgfhaa.Mem Go.Proofs.Ytldgadmpclgfhaa.Data Go.Proofs.Ytldgadmpclgfhaa.Addrs Go.Proofs.Ytldgadmpclgfhaa.Rights
set_option linter.unusedVariables false
set_option linter.unusedSimpArgs false
theorem neq_pair (x y u v : Int) (W : World) : (binOp .neq 111 (.agg #[.int .i64 x, .int .i64 y]) (.agg #[.int .i64 u, .int .i64 v])).run Try.prog W = .ok (.bool (!(x == u && y == v))) W := by
  have u3 := Try.underlying3
  have a3 := Try.isAgg3
  have z3 := Try.sizeOf3
  have hS : Try.prog.underlying 111 = some (.struct (Try.prog.fieldsOf 111)) := by kernel_rfl
  have hp : Try.prog.stoodInHeld 111 = false := by kernel_rfl
  rw [run_neq_struct, show (10000 : Nat) = 9999 + 1 from rfl, run_equalIn_agg W 9999 111 _ _ hS hp]
  simp only [Program.fieldsOf, Try.underlying111]
  go_simp
  by_cases hx : x = u <;> by_cases hy : y = v <;> simp [hx, hy]
set_option maxHeartbeats 2000000 in
theorem impl_sameD (A B : Option Addr) (n n' c d : Nat) (l m : List JT) (w : World) (hn : n ≤ 1048576) (hn' : n' ≤ 1048576) (hl : l.length = n) (hm : m.length = n')
    (h1 : Lies w 0 w.heap.size A (jcells l)) (h2 : Lies w 0 w.heap.size B (jcells m)) :
    Calls Try.prog 118 #[.slice A n c, .slice B n' d] w (SamePost w l m) := by
  have H1 := Lib.hid h1
  have H2 := Lib.hid h2
  have HL := Lib.hid hl
  have HM := Lib.hid hm
  clear h1 h2 hl hm
  by_cases hnn : n = n'
  · subst hnn
    go_enter Try.func118, Try.ntmps118
    go_wp2
    go_loopw [13] (fun i wr => ∃ (k q : Nat), k ≤ n ∧ i = .int .i64 k ∧ l.take k = m.take k ∧ wr = w.drewN q) (fun i _ => n - (intOf i).toNat)
    case atStart => exact ⟨0, 0, Nat.zero_le _, rfl, rfl, rfl⟩
    case round =>
      obtain ⟨k, q, hk, rfl, ht, rfl⟩ := hrel
      have HT := Lib.hid ht
      clear ht
      by_cases hlt : k < n
      · have hkl : k < l.length := by have := HL.out; omega
        have hkm : k < m.length := by have := HM.out; omega
        obtain ⟨b, off, rfl, _, hbw, c1, c2⟩ := j_at H1.out k hkl
        obtain ⟨b', off', rfl, _, hbw', c1', c2'⟩ := j_at H2.out k hkm
        have hi0 : (0 : Int) ≤ (k : Int) := Int.natCast_nonneg _
        have hi1 : (k : Int) < (n : Int) := by omega
        have hstep := same_step hkl hkm HT.out
        have hne := neq_pair l[k].1 l[k].2 m[k].1 m[k].2
        have HP := Lib.hid hstep
        clear hstep
        generalize l[k].1 = x at c1 HP hne
        generalize l[k].2 = y at c2 HP hne
        generalize m[k].1 = x' at c1' HP hne
        generalize m[k].2 = y' at c2' HP hne
        by_cases hx : x = x' ∧ y = y'
        · obtain ⟨rfl, rfl⟩ := hx
          rw [show (!(x == x && y == y)) = false by simp] at hne
          go_wp2
          go_quiet (fail)
          go_wp2
          go_roundw
          case rel => exact ⟨k + 1, _, by omega, by go_num, HP.out.1 (by simp), rfl⟩
          case measure => simp [intOf]; omega
        · have hno := HP.out.2 hx
          have HX := Lib.hid hno
          rw [show (!(x == x' && y == y')) = true by
            rw [Bool.not_eq_true', Bool.and_eq_false_iff, beq_eq_false_iff_ne, beq_eq_false_iff_ne]
            by_cases h : x = x'
            · exact .inr (fun h2 => hx ⟨h, h2⟩)
            · exact .inl h] at hne
          clear hno hx HP
          go_wp2
          go_quiet (fail)
          go_wp2
          go_ret
          exact same_no2 _ _ HX.out
      · have hkn : k = n := by omega
        subst hkn
        go_wp2
        go_ret
        exact same_yes _ HT.out HL.out HM.out
  · have hd : (n == n') = false := by simpa using hnn
    have hd' : ((n : Int) == (n' : Int)) = false := by simp; omega
    have hd2 : ((n : Int) != (n' : Int)) = true := by simp; omega
    go_enter Try.func118, Try.ntmps118
    go_wp2
    go_ret
    exact same_no 0 (fun e => hnn (by rw [← HL.out, ← HM.out, e]))
theorem impl_same (A B : Option Addr) (n n' c d : Nat) (l m : List JT) (w : World) (hn : n ≤ 1048576) (hn' : n' ≤ 1048576) (hl : l.length = n) (hm : m.length = n')
    (h1 : Lies w 0 w.heap.size A (jcells l)) (h2 : Lies w 0 w.heap.size B (jcells m)) (wl : wfJL l) (wm : wfJL m) :
    Calls Try.prog 118 #[.slice A n c, .slice B n' d] w fun e w' => e = .returned (.bool (decide (l = m))) ∧ Below w.heap.size w w' :=
  (impl_sameD A B n n' c d l m w hn hn' hl hm h1 h2).mono fun e w' ⟨h, q, hq⟩ => ⟨h, hq ▸ below_drewN (Below.refl _ _) _⟩
end Go.Proofs.Ytldgadmpclgfhaa.Inss
namespace Go.Proofs.Ytldgadmpclgfhaa.Guests
set_option maxRecDepth 100000
open Go.ChangeShapes Go.WideShapes Go.ChangeAt Go.RowKit
open Go.Proofs.Ytldgadmpclgfhaa.Base Go.Proofs.Ytldgadmpclgfhaa.Mem Go.Proofs.Ytldgadmpclgfhaa.Data Go.Proofs.Ytldgadmpclgfhaa.Slots Go.Proofs.Ytldgadmpclgfhaa.Ints Go.Proofs.Ytldgadmpclgfhaa.Ctls Go.Proofs.Ytldgadmpclgfhaa.Exits Go.Proofs.Ytldgadmpclgfhaa.Stt Go.Proofs.Ytldgadmpclgfhaa.Irqs Go.Proofs.Ytldgadmpclgfhaa.Inss
set_option linter.unusedVariables false
set_option linter.unusedSimpArgs false
/-- The numbers of a guest are of an int's range. -/
def gnum (g : gT) : Prop := wfGuest g
set_option maxRecDepth 100000 in
set_option maxHeartbeats 4000000 in
theorem impl_regs (g : gT) (cs : List Value) (w : World) (h : rG.rd w 0 w.heap.size g cs) : Calls Try.prog 117 #[.agg cs.toArray] w (fun e w' => e = .returned (.agg #[.int .i64 g.a, .int .i64 g.pc, .int .i64 g.t.1, .int .i64 g.t.2.1, .bool g.t.2.2, .int .i64 g.pd, .int .i64 g.x.1, .int .i64 g.x.2.1, .bool g.x.2.2.1, .int .i64 g.x.2.2.2, .bool g.hl]) ∧ Below w.heap.size w w') := by
  have hr := h
  obtain ⟨P0, P1, P2, P3, rfl, h0, h1, h2, h3⟩ := rG_rd h
  obtain ⟨PA0, Pc0, e0, hP0⟩ := lst_val h0
  subst e0
  obtain ⟨PA1, Pc1, e1, hP1⟩ := lst_val h1
  subst e1
  obtain ⟨PA2, Pc2, e2, hP2⟩ := lst_val h2
  subst e2
  obtain ⟨PA3, Pc3, e3, hP3⟩ := lst_val h3
  subst e3
  refine Sx.enter (args := [.agg #[.slice PA0 g.prog.length Pc0, .int .i64 g.a, .int .i64 g.pc, .slice PA1 g.wr.length Pc1, .slice PA2 g.lv.length Pc2, .int .i64 g.t.1, .int .i64 g.t.2.1, .bool g.t.2.2, .int .i64 g.pd, .int .i64 g.x.1, .int .i64 g.x.2.1, .bool g.x.2.2.1, .int .i64 g.x.2.2.2, .bool g.hl, .slice PA3 g.seen.length Pc3]]) Try.func117 rfl Try.ntmps117 rfl ?_
  refine Sx.C.seq ?_
  refine Sx.C.region ?_
  refine Sx.G.box 51 (.tmp 0) [.slice PA0 g.prog.length Pc0, .int .i64 g.a, .int .i64 g.pc, .slice PA1 g.wr.length Pc1, .slice PA2 g.lv.length Pc2, .int .i64 g.t.1, .int .i64 g.t.2.1, .bool g.t.2.2, .int .i64 g.pd, .int .i64 g.x.1, .int .i64 g.x.2.1, .bool g.x.2.2.1, .int .i64 g.x.2.2.2, .bool g.hl, .slice PA3 g.seen.length Pc3] rfl (by kernel_rfl) (by kernel_rfl) (fun b1 => ?_)
  refine Sx.G.alloc 135 (.agg #[.int .i64 0, .int .i64 0, .int .i64 0, .int .i64 0, .bool false, .int .i64 0, .int .i64 0, .int .i64 0, .bool false, .int .i64 0, .bool false]) [.int .i64 0, .int .i64 0, .int .i64 0, .int .i64 0, .bool false, .int .i64 0, .int .i64 0, .int .i64 0, .bool false, .int .i64 0, .bool false] rfl (by kernel_rfl) (fun w => by kernel_rfl) (by kernel_rfl) (fun b2 => ?_)
  refine Sx.G.nil ?_
  refine Sx.E.next ?_
  refine Sx.C.seq ?_
  refine Sx.C.region ?_
  refine Sx.G.pure (.pointer (some ⟨b1, 1, none⟩)) (by kernel_rfl) (fun w => by kernel_rfl) ?_
  refine Sx.G.ld1 3 (.tmp 3) b1 1 1 [.slice PA0 g.prog.length Pc0, .int .i64 g.a, .int .i64 g.pc, .slice PA1 g.wr.length Pc1, .slice PA2 g.lv.length Pc2, .int .i64 g.t.1, .int .i64 g.t.2.1, .bool g.t.2.2, .int .i64 g.pd, .int .i64 g.x.1, .int .i64 g.x.2.1, .bool g.x.2.2.1, .int .i64 g.x.2.2.2, .bool g.hl, .slice PA3 g.seen.length Pc3] (.int .i64 g.a) rfl (by kernel_rfl) (by kernel_rfl) rfl (by kernel_rfl) (by kernel_rfl) ?_
  refine Sx.G.pure (.pointer (some ⟨b1, 2, none⟩)) (by kernel_rfl) (fun w => by kernel_rfl) ?_
  refine Sx.G.ld1 3 (.tmp 5) b1 2 1 [.slice PA0 g.prog.length Pc0, .int .i64 g.a, .int .i64 g.pc, .slice PA1 g.wr.length Pc1, .slice PA2 g.lv.length Pc2, .int .i64 g.t.1, .int .i64 g.t.2.1, .bool g.t.2.2, .int .i64 g.pd, .int .i64 g.x.1, .int .i64 g.x.2.1, .bool g.x.2.2.1, .int .i64 g.x.2.2.2, .bool g.hl, .slice PA3 g.seen.length Pc3] (.int .i64 g.pc) rfl (by kernel_rfl) (by kernel_rfl) rfl (by kernel_rfl) (by kernel_rfl) ?_
  refine Sx.G.pure (.pointer (some ⟨b1, 5, none⟩)) (by kernel_rfl) (fun w => by kernel_rfl) ?_
  refine Sx.G.ld 47 (.tmp 7) b1 5 1 [.slice PA0 g.prog.length Pc0, .int .i64 g.a, .int .i64 g.pc, .slice PA1 g.wr.length Pc1, .slice PA2 g.lv.length Pc2, .int .i64 g.t.1, .int .i64 g.t.2.1, .bool g.t.2.2, .int .i64 g.pd, .int .i64 g.x.1, .int .i64 g.x.2.1, .bool g.x.2.2.1, .int .i64 g.x.2.2.2, .bool g.hl, .slice PA3 g.seen.length Pc3] [.int .i64 g.t.1, .int .i64 g.t.2.1, .bool g.t.2.2] rfl (by kernel_rfl) (by kernel_rfl) rfl (by kernel_rfl) (by kernel_rfl) (by kernel_rfl) ?_
  refine Sx.G.pure (.pointer (some ⟨b1, 8, none⟩)) (by kernel_rfl) (fun w => by kernel_rfl) ?_
  refine Sx.G.ld1 3 (.tmp 9) b1 8 1 [.slice PA0 g.prog.length Pc0, .int .i64 g.a, .int .i64 g.pc, .slice PA1 g.wr.length Pc1, .slice PA2 g.lv.length Pc2, .int .i64 g.t.1, .int .i64 g.t.2.1, .bool g.t.2.2, .int .i64 g.pd, .int .i64 g.x.1, .int .i64 g.x.2.1, .bool g.x.2.2.1, .int .i64 g.x.2.2.2, .bool g.hl, .slice PA3 g.seen.length Pc3] (.int .i64 g.pd) rfl (by kernel_rfl) (by kernel_rfl) rfl (by kernel_rfl) (by kernel_rfl) ?_
  refine Sx.G.pure (.pointer (some ⟨b1, 9, none⟩)) (by kernel_rfl) (fun w => by kernel_rfl) ?_
  refine Sx.G.ld 49 (.tmp 11) b1 9 1 [.slice PA0 g.prog.length Pc0, .int .i64 g.a, .int .i64 g.pc, .slice PA1 g.wr.length Pc1, .slice PA2 g.lv.length Pc2, .int .i64 g.t.1, .int .i64 g.t.2.1, .bool g.t.2.2, .int .i64 g.pd, .int .i64 g.x.1, .int .i64 g.x.2.1, .bool g.x.2.2.1, .int .i64 g.x.2.2.2, .bool g.hl, .slice PA3 g.seen.length Pc3] [.int .i64 g.x.1, .int .i64 g.x.2.1, .bool g.x.2.2.1, .int .i64 g.x.2.2.2] rfl (by kernel_rfl) (by kernel_rfl) rfl (by kernel_rfl) (by kernel_rfl) (by kernel_rfl) ?_
  refine Sx.G.pure (.pointer (some ⟨b1, 13, none⟩)) (by kernel_rfl) (fun w => by kernel_rfl) ?_
  refine Sx.G.ld1 4 (.tmp 13) b1 13 1 [.slice PA0 g.prog.length Pc0, .int .i64 g.a, .int .i64 g.pc, .slice PA1 g.wr.length Pc1, .slice PA2 g.lv.length Pc2, .int .i64 g.t.1, .int .i64 g.t.2.1, .bool g.t.2.2, .int .i64 g.pd, .int .i64 g.x.1, .int .i64 g.x.2.1, .bool g.x.2.2.1, .int .i64 g.x.2.2.2, .bool g.hl, .slice PA3 g.seen.length Pc3] (.bool g.hl) rfl (by kernel_rfl) (by kernel_rfl) rfl (by kernel_rfl) (by kernel_rfl) ?_
  refine Sx.G.pure (.agg #[.int .i64 g.a, .int .i64 g.pc, .int .i64 g.t.1, .int .i64 g.t.2.1, .bool g.t.2.2, .int .i64 g.pd, .int .i64 g.x.1, .int .i64 g.x.2.1, .bool g.x.2.2.1, .int .i64 g.x.2.2.2, .bool g.hl]) (by kernel_rfl) (fun w => by kernel_rfl) ?_
  refine Sx.G.sto 135 (.tmp 2) (.tmp 15) b2 0 0 [.int .i64 0, .int .i64 0, .int .i64 0, .int .i64 0, .bool false, .int .i64 0, .int .i64 0, .int .i64 0, .bool false, .int .i64 0, .bool false] [.int .i64 g.a, .int .i64 g.pc, .int .i64 g.t.1, .int .i64 g.t.2.1, .bool g.t.2.2, .int .i64 g.pd, .int .i64 g.x.1, .int .i64 g.x.2.1, .bool g.x.2.2.1, .int .i64 g.x.2.2.2, .bool g.hl] [.int .i64 g.a, .int .i64 g.pc, .int .i64 g.t.1, .int .i64 g.t.2.1, .bool g.t.2.2, .int .i64 g.pd, .int .i64 g.x.1, .int .i64 g.x.2.1, .bool g.x.2.2.1, .int .i64 g.x.2.2.2, .bool g.hl] [vr b2 [.int .i64 g.a, .int .i64 g.pc, .int .i64 g.t.1, .int .i64 g.t.2.1, .bool g.t.2.2, .int .i64 g.pd, .int .i64 g.x.1, .int .i64 g.x.2.1, .bool g.x.2.2.1, .int .i64 g.x.2.2.2, .bool g.hl], vr b1 [.slice PA0 g.prog.length Pc0, .int .i64 g.a, .int .i64 g.pc, .slice PA1 g.wr.length Pc1, .slice PA2 g.lv.length Pc2, .int .i64 g.t.1, .int .i64 g.t.2.1, .bool g.t.2.2, .int .i64 g.pd, .int .i64 g.x.1, .int .i64 g.x.2.1, .bool g.x.2.2.1, .int .i64 g.x.2.2.2, .bool g.hl, .slice PA3 g.seen.length Pc3]] rfl (by kernel_rfl) (by kernel_rfl) (by kernel_rfl) rfl (by kernel_rfl) rfl (by kernel_rfl) (by kernel_rfl) (by kernel_rfl) ?_
  refine Sx.G.nil ?_
  refine Sx.E.next ?_
  refine Sx.C.ret ?_
  refine Sx.E.retc b2 0 [.int .i64 g.a, .int .i64 g.pc, .int .i64 g.t.1, .int .i64 g.t.2.1, .bool g.t.2.2, .int .i64 g.pd, .int .i64 g.x.1, .int .i64 g.x.2.1, .bool g.x.2.2.1, .int .i64 g.x.2.2.2, .bool g.hl] rfl (by kernel_rfl) rfl (by kernel_rfl) (by kernel_rfl) (fun w S => ?_)
  exact ⟨rfl, S.below⟩
theorem eqv_reg_eql (a0 : Int) (a1 : Int) (a2 : Int) (a3 : Int) (a4 : Bool) (a5 : Int) (a6 : Int) (a7 : Int) (a8 : Bool) (a9 : Int) (a10 : Bool) (b0 : Int) (b1 : Int) (b2 : Int) (b3 : Int) (b4 : Bool) (b5 : Int) (b6 : Int) (b7 : Int) (b8 : Bool) (b9 : Int) (b10 : Bool) (W : World) : (binOp .eql 135 (.agg #[.int .i64 a0, .int .i64 a1, .int .i64 a2, .int .i64 a3, .bool a4, .int .i64 a5, .int .i64 a6, .int .i64 a7, .bool a8, .int .i64 a9, .bool a10]) (.agg #[.int .i64 b0, .int .i64 b1, .int .i64 b2, .int .i64 b3, .bool b4, .int .i64 b5, .int .i64 b6, .int .i64 b7, .bool b8, .int .i64 b9, .bool b10])).run Try.prog W = .ok (.bool (a0 == b0 && a1 == b1 && a2 == b2 && a3 == b3 && a4 == b4 && a5 == b5 && a6 == b6 && a7 == b7 && a8 == b8 && a9 == b9 && a10 == b10)) W := by
  have ku0 := Try.underlying3
  have ka0 := Try.isAgg3
  have kz0 := Try.sizeOf3
  have ku1 := Try.underlying4
  have ka1 := Try.isAgg4
  have kz1 := Try.sizeOf4
  have ku2 := Try.underlying47
  have ka2 := Try.isAgg47
  have kz2 := Try.sizeOf47
  have ku3 := Try.underlying49
  have ka3 := Try.isAgg49
  have kz3 := Try.sizeOf49
  have hS : Try.prog.underlying 135 = some (.struct (Try.prog.fieldsOf 135)) := by kernel_rfl
  have hp : Try.prog.stoodInHeld 135 = false := by kernel_rfl
  rw [run_eql_struct, show (10000 : Nat) = 9999 + 1 from rfl, run_equalIn_agg W 9999 135 _ _ hS hp]
  simp only [Program.fieldsOf, Try.underlying135]
  go_simp
  clear ku0 ka0 kz0 ku1 ka1 kz1 ku2 ka2 kz2 ku3 ka3 kz3 hS hp
  (repeat' split) <;> simp_all
theorem sameG_reg (g k : gT) : sameG g k = ((g.a == k.a && g.pc == k.pc && g.t.1 == k.t.1 && g.t.2.1 == k.t.2.1 && g.t.2.2 == k.t.2.2 && g.pd == k.pd && g.x.1 == k.x.1 && g.x.2.1 == k.x.2.1 && g.x.2.2.1 == k.x.2.2.1 && g.x.2.2.2 == k.x.2.2.2 && g.hl == k.hl) && decide (g.prog = k.prog) && decide (g.wr = k.wr) && decide (g.lv = k.lv) && decide (g.seen = k.seen)) := by
  unfold sameG
  ac_rfl
set_option maxRecDepth 100000 in
set_option maxHeartbeats 4000000 in
theorem impl_gsame (g k : gT) (cs ds : List Value) (w : World) (hn : gnum g) (hm : gnum k) (hc : rG.cap g) (hd : rG.cap k) (h : rG.rd w 0 w.heap.size g cs) (j : rG.rd w 0 w.heap.size k ds) : Calls Try.prog 88 #[.agg cs.toArray, .agg ds.toArray] w (fun e w' => e = .returned (.bool (sameG g k)) ∧ Below w.heap.size w w') := by
  obtain ⟨q0, q1, q2, q3⟩ := rG_len hc
  obtain ⟨p0, p1, p2, p3⟩ := rG_len hd
  have hr := h
  obtain ⟨P0, P1, P2, P3, rfl, h0, h1, h2, h3⟩ := rG_rd h
  obtain ⟨PA0, Pc0, e0, hP0⟩ := lst_val h0
  subst e0
  obtain ⟨PA1, Pc1, e1, hP1⟩ := lst_val h1
  subst e1
  obtain ⟨PA2, Pc2, e2, hP2⟩ := lst_val h2
  subst e2
  obtain ⟨PA3, Pc3, e3, hP3⟩ := lst_val h3
  subst e3
  have jr := j
  obtain ⟨R0, R1, R2, R3, rfl, j0, j1, j2, j3⟩ := rG_rd j
  obtain ⟨RA0, Rc0, e0, hR0⟩ := lst_val j0
  subst e0
  obtain ⟨RA1, Rc1, e1, hR1⟩ := lst_val j1
  subst e1
  obtain ⟨RA2, Rc2, e2, hR2⟩ := lst_val j2
  subst e2
  obtain ⟨RA3, Rc3, e3, hR3⟩ := lst_val j3
  subst e3
  refine Sx.enter (args := [.agg #[.slice PA0 g.prog.length Pc0, .int .i64 g.a, .int .i64 g.pc, .slice PA1 g.wr.length Pc1, .slice PA2 g.lv.length Pc2, .int .i64 g.t.1, .int .i64 g.t.2.1, .bool g.t.2.2, .int .i64 g.pd, .int .i64 g.x.1, .int .i64 g.x.2.1, .bool g.x.2.2.1, .int .i64 g.x.2.2.2, .bool g.hl, .slice PA3 g.seen.length Pc3], .agg #[.slice RA0 k.prog.length Rc0, .int .i64 k.a, .int .i64 k.pc, .slice RA1 k.wr.length Rc1, .slice RA2 k.lv.length Rc2, .int .i64 k.t.1, .int .i64 k.t.2.1, .bool k.t.2.2, .int .i64 k.pd, .int .i64 k.x.1, .int .i64 k.x.2.1, .bool k.x.2.2.1, .int .i64 k.x.2.2.2, .bool k.hl, .slice RA3 k.seen.length Rc3]]) Try.func88 rfl Try.ntmps88 rfl ?_
  refine Sx.C.seq ?_
  refine Sx.C.region ?_
  refine Sx.G.box 51 (.tmp 0) [.slice PA0 g.prog.length Pc0, .int .i64 g.a, .int .i64 g.pc, .slice PA1 g.wr.length Pc1, .slice PA2 g.lv.length Pc2, .int .i64 g.t.1, .int .i64 g.t.2.1, .bool g.t.2.2, .int .i64 g.pd, .int .i64 g.x.1, .int .i64 g.x.2.1, .bool g.x.2.2.1, .int .i64 g.x.2.2.2, .bool g.hl, .slice PA3 g.seen.length Pc3] rfl (by kernel_rfl) (by kernel_rfl) (fun b1 => ?_)
  refine Sx.G.box 51 (.tmp 1) [.slice RA0 k.prog.length Rc0, .int .i64 k.a, .int .i64 k.pc, .slice RA1 k.wr.length Rc1, .slice RA2 k.lv.length Rc2, .int .i64 k.t.1, .int .i64 k.t.2.1, .bool k.t.2.2, .int .i64 k.pd, .int .i64 k.x.1, .int .i64 k.x.2.1, .bool k.x.2.2.1, .int .i64 k.x.2.2.2, .bool k.hl, .slice RA3 k.seen.length Rc3] rfl (by kernel_rfl) (by kernel_rfl) (fun b2 => ?_)
  refine Sx.G.pure (.bool false) (by kernel_rfl) (fun w => by kernel_rfl) ?_
  refine Sx.G.nil ?_
  refine Sx.E.next ?_
  refine Sx.C.seq ?_
  refine Sx.C.draw (.take 0 (.take 2 (.alone 1 (.alone 3 (.take 4 (.take 5 (.take 6 (.take 7 (.take 8 (.take 9 (.alone 10 (.take 11 (.take 12 (.take 13 (.take 14 (.take 15 (.take 16 (.alone 17 (.take 18 (.take 19 (.take 20 (.take 21 (.take 22 (.take 23 (.alone 24 (.take 25 (.take 26 (.take 27 (.take 28 (.take 29 (.take 30 (.alone 31 (.take 32 (.take 33 .nil)))))))))))))))))))))))))))))))))) [vr b2 [.slice RA0 k.prog.length Rc0, .int .i64 k.a, .int .i64 k.pc, .slice RA1 k.wr.length Rc1, .slice RA2 k.lv.length Rc2, .int .i64 k.t.1, .int .i64 k.t.2.1, .bool k.t.2.2, .int .i64 k.pd, .int .i64 k.x.1, .int .i64 k.x.2.1, .bool k.x.2.2.1, .int .i64 k.x.2.2.2, .bool k.hl, .slice RA3 k.seen.length Rc3], vr b1 [.slice PA0 g.prog.length Pc0, .int .i64 g.a, .int .i64 g.pc, .slice PA1 g.wr.length Pc1, .slice PA2 g.lv.length Pc2, .int .i64 g.t.1, .int .i64 g.t.2.1, .bool g.t.2.2, .int .i64 g.pd, .int .i64 g.x.1, .int .i64 g.x.2.1, .bool g.x.2.2.1, .int .i64 g.x.2.2.2, .bool g.hl, .slice PA3 g.seen.length Pc3]] (fun w S => St.pick S [0, 1] _ rfl (by decide)) (by kernel_rfl) (by kernel_rfl) (by kernel_rfl) ?_
  refine Sx.GT.ld 51 (.tmp 2) b1 0 1 [.slice PA0 g.prog.length Pc0, .int .i64 g.a, .int .i64 g.pc, .slice PA1 g.wr.length Pc1, .slice PA2 g.lv.length Pc2, .int .i64 g.t.1, .int .i64 g.t.2.1, .bool g.t.2.2, .int .i64 g.pd, .int .i64 g.x.1, .int .i64 g.x.2.1, .bool g.x.2.2.1, .int .i64 g.x.2.2.2, .bool g.hl, .slice PA3 g.seen.length Pc3] [.slice PA0 g.prog.length Pc0, .int .i64 g.a, .int .i64 g.pc, .slice PA1 g.wr.length Pc1, .slice PA2 g.lv.length Pc2, .int .i64 g.t.1, .int .i64 g.t.2.1, .bool g.t.2.2, .int .i64 g.pd, .int .i64 g.x.1, .int .i64 g.x.2.1, .bool g.x.2.2.1, .int .i64 g.x.2.2.2, .bool g.hl, .slice PA3 g.seen.length Pc3] 0 (by rfl) (by rfl) (by kernel_rfl) (by kernel_rfl) (by rfl) (by kernel_rfl) (by kernel_rfl) (by kernel_rfl) ?_
  refine Sx.GT.ld 51 (.tmp 3) b2 0 0 [.slice RA0 k.prog.length Rc0, .int .i64 k.a, .int .i64 k.pc, .slice RA1 k.wr.length Rc1, .slice RA2 k.lv.length Rc2, .int .i64 k.t.1, .int .i64 k.t.2.1, .bool k.t.2.2, .int .i64 k.pd, .int .i64 k.x.1, .int .i64 k.x.2.1, .bool k.x.2.2.1, .int .i64 k.x.2.2.2, .bool k.hl, .slice RA3 k.seen.length Rc3] [.slice RA0 k.prog.length Rc0, .int .i64 k.a, .int .i64 k.pc, .slice RA1 k.wr.length Rc1, .slice RA2 k.lv.length Rc2, .int .i64 k.t.1, .int .i64 k.t.2.1, .bool k.t.2.2, .int .i64 k.pd, .int .i64 k.x.1, .int .i64 k.x.2.1, .bool k.x.2.2.1, .int .i64 k.x.2.2.2, .bool k.hl, .slice RA3 k.seen.length Rc3] 2 (by rfl) (by rfl) (by kernel_rfl) (by kernel_rfl) (by rfl) (by kernel_rfl) (by kernel_rfl) (by kernel_rfl) ?_
  refine Sx.GT.alone (Sx.Alone.plain 117 #[.agg #[.slice PA0 g.prog.length Pc0, .int .i64 g.a, .int .i64 g.pc, .slice PA1 g.wr.length Pc1, .slice PA2 g.lv.length Pc2, .int .i64 g.t.1, .int .i64 g.t.2.1, .bool g.t.2.2, .int .i64 g.pd, .int .i64 g.x.1, .int .i64 g.x.2.1, .bool g.x.2.2.1, .int .i64 g.x.2.2.2, .bool g.hl, .slice PA3 g.seen.length Pc3]] (.agg #[.int .i64 g.a, .int .i64 g.pc, .int .i64 g.t.1, .int .i64 g.t.2.1, .bool g.t.2.2, .int .i64 g.pd, .int .i64 g.x.1, .int .i64 g.x.2.1, .bool g.x.2.2.1, .int .i64 g.x.2.2.2, .bool g.hl]) (by rfl) (by kernel_rfl) (fun w => by kernel_rfl) (fun w S => by exact impl_regs g _ _ (St.old S hr)) (fun w S => St.pick S [0, 1] _ rfl (by decide)) ?_)
  refine Sx.GT.alone (Sx.Alone.plain 117 #[.agg #[.slice RA0 k.prog.length Rc0, .int .i64 k.a, .int .i64 k.pc, .slice RA1 k.wr.length Rc1, .slice RA2 k.lv.length Rc2, .int .i64 k.t.1, .int .i64 k.t.2.1, .bool k.t.2.2, .int .i64 k.pd, .int .i64 k.x.1, .int .i64 k.x.2.1, .bool k.x.2.2.1, .int .i64 k.x.2.2.2, .bool k.hl, .slice RA3 k.seen.length Rc3]] (.agg #[.int .i64 k.a, .int .i64 k.pc, .int .i64 k.t.1, .int .i64 k.t.2.1, .bool k.t.2.2, .int .i64 k.pd, .int .i64 k.x.1, .int .i64 k.x.2.1, .bool k.x.2.2.1, .int .i64 k.x.2.2.2, .bool k.hl]) (by rfl) (by kernel_rfl) (fun w => by kernel_rfl) (fun w S => by exact impl_regs k _ _ (St.old S jr)) (fun w S => St.pick S [0, 1] _ rfl (by decide)) ?_)
  refine Sx.GT.pure (.bool ((g.a == k.a && g.pc == k.pc && g.t.1 == k.t.1 && g.t.2.1 == k.t.2.1 && g.t.2.2 == k.t.2.2 && g.pd == k.pd && g.x.1 == k.x.1 && g.x.2.1 == k.x.2.1 && g.x.2.2.1 == k.x.2.2.1 && g.x.2.2.2 == k.x.2.2.2 && g.hl == k.hl))) 4 (by rfl) (by kernel_rfl) (fun w => Sx.run_eqs rfl rfl rfl (by kernel_rfl) (fun w => eqv_reg_eql g.a g.pc g.t.1 g.t.2.1 g.t.2.2 g.pd g.x.1 g.x.2.1 g.x.2.2.1 g.x.2.2.2 g.hl k.a k.pc k.t.1 k.t.2.1 k.t.2.2 k.pd k.x.1 k.x.2.1 k.x.2.2.1 k.x.2.2.2 k.hl w) w) ?_
  refine Sx.GT.pure (.bool ((g.a == k.a && g.pc == k.pc && g.t.1 == k.t.1 && g.t.2.1 == k.t.2.1 && g.t.2.2 == k.t.2.2 && g.pd == k.pd && g.x.1 == k.x.1 && g.x.2.1 == k.x.2.1 && g.x.2.2.1 == k.x.2.2.1 && g.x.2.2.2 == k.x.2.2.2 && g.hl == k.hl))) 5 (by rfl) (by kernel_rfl) (fun w => by kernel_rfl) ?_
  cases hc3 : ((g.a == k.a && g.pc == k.pc && g.t.1 == k.t.1 && g.t.2.1 == k.t.2.1 && g.t.2.2 == k.t.2.2 && g.pd == k.pd && g.x.1 == k.x.1 && g.x.2.1 == k.x.2.1 && g.x.2.2.1 == k.x.2.2.1 && g.x.2.2.2 == k.x.2.2.2 && g.hl == k.hl))
  · have hb3 := hc3
    refine Sx.GT.skip 6 (by rfl) (by kernel_rfl) ?_
    refine Sx.GT.skip 7 (by rfl) (by kernel_rfl) ?_
    refine Sx.GT.skip 8 (by rfl) (by kernel_rfl) ?_
    refine Sx.GT.skip 9 (by rfl) (by kernel_rfl) ?_
    refine Sx.GT.alone (Sx.Alone.skip (by rfl) (by kernel_rfl) (fun w S => St.pick S [0, 1] _ rfl (by decide)) ?_)
    refine Sx.GT.pure (.bool false) 11 (by rfl) (by kernel_rfl) (fun w => by kernel_rfl) ?_
    refine Sx.GT.pure (.bool false) 12 (by rfl) (by kernel_rfl) (fun w => by kernel_rfl) ?_
    refine Sx.GT.skip 13 (by rfl) (by kernel_rfl) ?_
    refine Sx.GT.skip 14 (by rfl) (by kernel_rfl) ?_
    refine Sx.GT.skip 15 (by rfl) (by kernel_rfl) ?_
    refine Sx.GT.skip 16 (by rfl) (by kernel_rfl) ?_
    refine Sx.GT.alone (Sx.Alone.skip (by rfl) (by kernel_rfl) (fun w S => St.pick S [0, 1] _ rfl (by decide)) ?_)
    refine Sx.GT.pure (.bool false) 18 (by rfl) (by kernel_rfl) (fun w => by kernel_rfl) ?_
    refine Sx.GT.pure (.bool false) 19 (by rfl) (by kernel_rfl) (fun w => by kernel_rfl) ?_
    refine Sx.GT.skip 20 (by rfl) (by kernel_rfl) ?_
    refine Sx.GT.skip 21 (by rfl) (by kernel_rfl) ?_
    refine Sx.GT.skip 22 (by rfl) (by kernel_rfl) ?_
    refine Sx.GT.skip 23 (by rfl) (by kernel_rfl) ?_
    refine Sx.GT.alone (Sx.Alone.skip (by rfl) (by kernel_rfl) (fun w S => St.pick S [0, 1] _ rfl (by decide)) ?_)
    refine Sx.GT.pure (.bool false) 25 (by rfl) (by kernel_rfl) (fun w => by kernel_rfl) ?_
    refine Sx.GT.pure (.bool false) 26 (by rfl) (by kernel_rfl) (fun w => by kernel_rfl) ?_
    refine Sx.GT.skip 27 (by rfl) (by kernel_rfl) ?_
    refine Sx.GT.skip 28 (by rfl) (by kernel_rfl) ?_
    refine Sx.GT.skip 29 (by rfl) (by kernel_rfl) ?_
    refine Sx.GT.skip 30 (by rfl) (by kernel_rfl) ?_
    refine Sx.GT.alone (Sx.Alone.skip (by rfl) (by kernel_rfl) (fun w S => St.pick S [0, 1] _ rfl (by decide)) ?_)
    refine Sx.GT.pure (.bool false) 32 (by rfl) (by kernel_rfl) (fun w => by kernel_rfl) ?_
    refine Sx.GT.pure (.bool false) 33 (by rfl) (by kernel_rfl) (fun w => by kernel_rfl) ?_
    refine Sx.GT.nil ?_
    refine Sx.E.next ?_
    refine Sx.C.ret ?_
    refine Sx.E.ret1 (.bool false) rfl (by kernel_rfl) (fun w S => ?_)
    exact ⟨congrArg Ending.returned (congrArg Value.bool (by simp only [sameG_reg, hb3, Bool.and_true, Bool.and_false, Bool.false_and, Bool.true_and])), S.below⟩
  · have hb3 := hc3
    refine Sx.GT.pure (.pointer (some ⟨b1, 0, none⟩)) 6 (by rfl) (by kernel_rfl) (fun w => by kernel_rfl) ?_
    refine Sx.GT.ld1 44 (.tmp 11) b1 0 1 [.slice PA0 g.prog.length Pc0, .int .i64 g.a, .int .i64 g.pc, .slice PA1 g.wr.length Pc1, .slice PA2 g.lv.length Pc2, .int .i64 g.t.1, .int .i64 g.t.2.1, .bool g.t.2.2, .int .i64 g.pd, .int .i64 g.x.1, .int .i64 g.x.2.1, .bool g.x.2.2.1, .int .i64 g.x.2.2.2, .bool g.hl, .slice PA3 g.seen.length Pc3] (.slice PA0 g.prog.length Pc0) 7 (by rfl) (by rfl) (by kernel_rfl) (by kernel_rfl) (by rfl) (by kernel_rfl) (by kernel_rfl) ?_
    refine Sx.GT.pure (.pointer (some ⟨b2, 0, none⟩)) 8 (by rfl) (by kernel_rfl) (fun w => by kernel_rfl) ?_
    refine Sx.GT.ld1 44 (.tmp 13) b2 0 0 [.slice RA0 k.prog.length Rc0, .int .i64 k.a, .int .i64 k.pc, .slice RA1 k.wr.length Rc1, .slice RA2 k.lv.length Rc2, .int .i64 k.t.1, .int .i64 k.t.2.1, .bool k.t.2.2, .int .i64 k.pd, .int .i64 k.x.1, .int .i64 k.x.2.1, .bool k.x.2.2.1, .int .i64 k.x.2.2.2, .bool k.hl, .slice RA3 k.seen.length Rc3] (.slice RA0 k.prog.length Rc0) 9 (by rfl) (by rfl) (by kernel_rfl) (by kernel_rfl) (by rfl) (by kernel_rfl) (by kernel_rfl) ?_
    refine Sx.GT.alone (Sx.Alone.plain 118 #[.slice PA0 g.prog.length Pc0, .slice RA0 k.prog.length Rc0] (.bool (decide (g.prog = k.prog))) (by rfl) (by kernel_rfl) (fun w => by kernel_rfl) (fun w S => by exact ((Inss.impl_sameD PA0 RA0 g.prog.length k.prog.length Pc0 Rc0 g.prog k.prog _ q0 p0 rfl rfl (by rw [← pcells_j]; exact p2_lies (St.old S h0)) (by rw [← pcells_j]; exact p2_lies (St.old S j0))).mono fun e w' h => And.intro h.1 (drew_below h.2))) (fun w S => St.pick S [0, 1] _ rfl (by decide)) ?_)
    refine Sx.GT.pure (.bool (decide (g.prog = k.prog))) 11 (by rfl) (by kernel_rfl) (fun w => by kernel_rfl) ?_
    refine Sx.GT.pure (.bool (decide (g.prog = k.prog))) 12 (by rfl) (by kernel_rfl) (fun w => by kernel_rfl) ?_
    cases hc4 : (decide (g.prog = k.prog))
    · have hb4 := hc4
      replace hc4 := of_decide_eq_false hc4
      refine Sx.GT.skip 13 (by rfl) (by kernel_rfl) ?_
      refine Sx.GT.skip 14 (by rfl) (by kernel_rfl) ?_
      refine Sx.GT.skip 15 (by rfl) (by kernel_rfl) ?_
      refine Sx.GT.skip 16 (by rfl) (by kernel_rfl) ?_
      refine Sx.GT.alone (Sx.Alone.skip (by rfl) (by kernel_rfl) (fun w S => St.pick S [0, 1] _ rfl (by decide)) ?_)
      refine Sx.GT.pure (.bool false) 18 (by rfl) (by kernel_rfl) (fun w => by kernel_rfl) ?_
      refine Sx.GT.pure (.bool false) 19 (by rfl) (by kernel_rfl) (fun w => by kernel_rfl) ?_
      refine Sx.GT.skip 20 (by rfl) (by kernel_rfl) ?_
      refine Sx.GT.skip 21 (by rfl) (by kernel_rfl) ?_
      refine Sx.GT.skip 22 (by rfl) (by kernel_rfl) ?_
      refine Sx.GT.skip 23 (by rfl) (by kernel_rfl) ?_
      refine Sx.GT.alone (Sx.Alone.skip (by rfl) (by kernel_rfl) (fun w S => St.pick S [0, 1] _ rfl (by decide)) ?_)
      refine Sx.GT.pure (.bool false) 25 (by rfl) (by kernel_rfl) (fun w => by kernel_rfl) ?_
      refine Sx.GT.pure (.bool false) 26 (by rfl) (by kernel_rfl) (fun w => by kernel_rfl) ?_
      refine Sx.GT.skip 27 (by rfl) (by kernel_rfl) ?_
      refine Sx.GT.skip 28 (by rfl) (by kernel_rfl) ?_
      refine Sx.GT.skip 29 (by rfl) (by kernel_rfl) ?_
      refine Sx.GT.skip 30 (by rfl) (by kernel_rfl) ?_
      refine Sx.GT.alone (Sx.Alone.skip (by rfl) (by kernel_rfl) (fun w S => St.pick S [0, 1] _ rfl (by decide)) ?_)
      refine Sx.GT.pure (.bool false) 32 (by rfl) (by kernel_rfl) (fun w => by kernel_rfl) ?_
      refine Sx.GT.pure (.bool false) 33 (by rfl) (by kernel_rfl) (fun w => by kernel_rfl) ?_
      refine Sx.GT.nil ?_
      refine Sx.E.next ?_
      refine Sx.C.ret ?_
      refine Sx.E.ret1 (.bool false) rfl (by kernel_rfl) (fun w S => ?_)
      exact ⟨congrArg Ending.returned (congrArg Value.bool (by simp only [sameG_reg, hb3, hb4, Bool.and_true, Bool.and_false, Bool.false_and, Bool.true_and])), S.below⟩
    · have hb4 := hc4
      replace hc4 := of_decide_eq_true hc4
      refine Sx.GT.pure (.pointer (some ⟨b1, 3, none⟩)) 13 (by rfl) (by kernel_rfl) (fun w => by kernel_rfl) ?_
      refine Sx.GT.ld1 45 (.tmp 18) b1 3 1 [.slice PA0 g.prog.length Pc0, .int .i64 g.a, .int .i64 g.pc, .slice PA1 g.wr.length Pc1, .slice PA2 g.lv.length Pc2, .int .i64 g.t.1, .int .i64 g.t.2.1, .bool g.t.2.2, .int .i64 g.pd, .int .i64 g.x.1, .int .i64 g.x.2.1, .bool g.x.2.2.1, .int .i64 g.x.2.2.2, .bool g.hl, .slice PA3 g.seen.length Pc3] (.slice PA1 g.wr.length Pc1) 14 (by rfl) (by rfl) (by kernel_rfl) (by kernel_rfl) (by rfl) (by kernel_rfl) (by kernel_rfl) ?_
      refine Sx.GT.pure (.pointer (some ⟨b2, 3, none⟩)) 15 (by rfl) (by kernel_rfl) (fun w => by kernel_rfl) ?_
      refine Sx.GT.ld1 45 (.tmp 20) b2 3 0 [.slice RA0 k.prog.length Rc0, .int .i64 k.a, .int .i64 k.pc, .slice RA1 k.wr.length Rc1, .slice RA2 k.lv.length Rc2, .int .i64 k.t.1, .int .i64 k.t.2.1, .bool k.t.2.2, .int .i64 k.pd, .int .i64 k.x.1, .int .i64 k.x.2.1, .bool k.x.2.2.1, .int .i64 k.x.2.2.2, .bool k.hl, .slice RA3 k.seen.length Rc3] (.slice RA1 k.wr.length Rc1) 16 (by rfl) (by rfl) (by kernel_rfl) (by kernel_rfl) (by rfl) (by kernel_rfl) (by kernel_rfl) ?_
      refine Sx.GT.alone (Sx.Alone.plain 119 #[.slice PA1 g.wr.length Pc1, .slice RA1 k.wr.length Rc1] (.bool (decide (g.wr = k.wr))) (by rfl) (by kernel_rfl) (fun w => by kernel_rfl) (fun w S => by exact ((Slots.impl_same PA1 RA1 g.wr.length k.wr.length Pc1 Rc1 0 0 _ _ g.wr k.wr _ q1 p1 rfl rfl (by rw [← pcells_s]; exact p2_lies (St.old S h1)) (by rw [← pcells_s]; exact p2_lies (St.old S j1))).mono fun e w' h => And.intro h.1 (drew_below h.2))) (fun w S => St.pick S [0, 1] _ rfl (by decide)) ?_)
      refine Sx.GT.pure (.bool (decide (g.wr = k.wr))) 18 (by rfl) (by kernel_rfl) (fun w => by kernel_rfl) ?_
      refine Sx.GT.pure (.bool (decide (g.wr = k.wr))) 19 (by rfl) (by kernel_rfl) (fun w => by kernel_rfl) ?_
      cases hc5 : (decide (g.wr = k.wr))
      · have hb5 := hc5
        replace hc5 := of_decide_eq_false hc5
        refine Sx.GT.skip 20 (by rfl) (by kernel_rfl) ?_
        refine Sx.GT.skip 21 (by rfl) (by kernel_rfl) ?_
        refine Sx.GT.skip 22 (by rfl) (by kernel_rfl) ?_
        refine Sx.GT.skip 23 (by rfl) (by kernel_rfl) ?_
        refine Sx.GT.alone (Sx.Alone.skip (by rfl) (by kernel_rfl) (fun w S => St.pick S [0, 1] _ rfl (by decide)) ?_)
        refine Sx.GT.pure (.bool false) 25 (by rfl) (by kernel_rfl) (fun w => by kernel_rfl) ?_
        refine Sx.GT.pure (.bool false) 26 (by rfl) (by kernel_rfl) (fun w => by kernel_rfl) ?_
        refine Sx.GT.skip 27 (by rfl) (by kernel_rfl) ?_
        refine Sx.GT.skip 28 (by rfl) (by kernel_rfl) ?_
        refine Sx.GT.skip 29 (by rfl) (by kernel_rfl) ?_
        refine Sx.GT.skip 30 (by rfl) (by kernel_rfl) ?_
        refine Sx.GT.alone (Sx.Alone.skip (by rfl) (by kernel_rfl) (fun w S => St.pick S [0, 1] _ rfl (by decide)) ?_)
        refine Sx.GT.pure (.bool false) 32 (by rfl) (by kernel_rfl) (fun w => by kernel_rfl) ?_
        refine Sx.GT.pure (.bool false) 33 (by rfl) (by kernel_rfl) (fun w => by kernel_rfl) ?_
        refine Sx.GT.nil ?_
        refine Sx.E.next ?_
        refine Sx.C.ret ?_
        refine Sx.E.ret1 (.bool false) rfl (by kernel_rfl) (fun w S => ?_)
        exact ⟨congrArg Ending.returned (congrArg Value.bool (by simp only [sameG_reg, hb3, hb4, hb5, Bool.and_true, Bool.and_false, Bool.false_and, Bool.true_and])), S.below⟩
      · have hb5 := hc5
        replace hc5 := of_decide_eq_true hc5
        refine Sx.GT.pure (.pointer (some ⟨b1, 4, none⟩)) 20 (by rfl) (by kernel_rfl) (fun w => by kernel_rfl) ?_
        refine Sx.GT.ld1 45 (.tmp 25) b1 4 1 [.slice PA0 g.prog.length Pc0, .int .i64 g.a, .int .i64 g.pc, .slice PA1 g.wr.length Pc1, .slice PA2 g.lv.length Pc2, .int .i64 g.t.1, .int .i64 g.t.2.1, .bool g.t.2.2, .int .i64 g.pd, .int .i64 g.x.1, .int .i64 g.x.2.1, .bool g.x.2.2.1, .int .i64 g.x.2.2.2, .bool g.hl, .slice PA3 g.seen.length Pc3] (.slice PA2 g.lv.length Pc2) 21 (by rfl) (by rfl) (by kernel_rfl) (by kernel_rfl) (by rfl) (by kernel_rfl) (by kernel_rfl) ?_
        refine Sx.GT.pure (.pointer (some ⟨b2, 4, none⟩)) 22 (by rfl) (by kernel_rfl) (fun w => by kernel_rfl) ?_
        refine Sx.GT.ld1 45 (.tmp 27) b2 4 0 [.slice RA0 k.prog.length Rc0, .int .i64 k.a, .int .i64 k.pc, .slice RA1 k.wr.length Rc1, .slice RA2 k.lv.length Rc2, .int .i64 k.t.1, .int .i64 k.t.2.1, .bool k.t.2.2, .int .i64 k.pd, .int .i64 k.x.1, .int .i64 k.x.2.1, .bool k.x.2.2.1, .int .i64 k.x.2.2.2, .bool k.hl, .slice RA3 k.seen.length Rc3] (.slice RA2 k.lv.length Rc2) 23 (by rfl) (by rfl) (by kernel_rfl) (by kernel_rfl) (by rfl) (by kernel_rfl) (by kernel_rfl) ?_
        refine Sx.GT.alone (Sx.Alone.plain 119 #[.slice PA2 g.lv.length Pc2, .slice RA2 k.lv.length Rc2] (.bool (decide (g.lv = k.lv))) (by rfl) (by kernel_rfl) (fun w => by kernel_rfl) (fun w S => by exact ((Slots.impl_same PA2 RA2 g.lv.length k.lv.length Pc2 Rc2 0 0 _ _ g.lv k.lv _ q2 p2 rfl rfl (by rw [← pcells_s]; exact p2_lies (St.old S h2)) (by rw [← pcells_s]; exact p2_lies (St.old S j2))).mono fun e w' h => And.intro h.1 (drew_below h.2))) (fun w S => St.pick S [0, 1] _ rfl (by decide)) ?_)
        refine Sx.GT.pure (.bool (decide (g.lv = k.lv))) 25 (by rfl) (by kernel_rfl) (fun w => by kernel_rfl) ?_
        refine Sx.GT.pure (.bool (decide (g.lv = k.lv))) 26 (by rfl) (by kernel_rfl) (fun w => by kernel_rfl) ?_
        cases hc6 : (decide (g.lv = k.lv))
        · have hb6 := hc6
          replace hc6 := of_decide_eq_false hc6
          refine Sx.GT.skip 27 (by rfl) (by kernel_rfl) ?_
          refine Sx.GT.skip 28 (by rfl) (by kernel_rfl) ?_
          refine Sx.GT.skip 29 (by rfl) (by kernel_rfl) ?_
          refine Sx.GT.skip 30 (by rfl) (by kernel_rfl) ?_
          refine Sx.GT.alone (Sx.Alone.skip (by rfl) (by kernel_rfl) (fun w S => St.pick S [0, 1] _ rfl (by decide)) ?_)
          refine Sx.GT.pure (.bool false) 32 (by rfl) (by kernel_rfl) (fun w => by kernel_rfl) ?_
          refine Sx.GT.pure (.bool false) 33 (by rfl) (by kernel_rfl) (fun w => by kernel_rfl) ?_
          refine Sx.GT.nil ?_
          refine Sx.E.next ?_
          refine Sx.C.ret ?_
          refine Sx.E.ret1 (.bool false) rfl (by kernel_rfl) (fun w S => ?_)
          exact ⟨congrArg Ending.returned (congrArg Value.bool (by simp only [sameG_reg, hb3, hb4, hb5, hb6, Bool.and_true, Bool.and_false, Bool.false_and, Bool.true_and])), S.below⟩
        · have hb6 := hc6
          replace hc6 := of_decide_eq_true hc6
          refine Sx.GT.pure (.pointer (some ⟨b1, 14, none⟩)) 27 (by rfl) (by kernel_rfl) (fun w => by kernel_rfl) ?_
          refine Sx.GT.ld1 26 (.tmp 32) b1 14 1 [.slice PA0 g.prog.length Pc0, .int .i64 g.a, .int .i64 g.pc, .slice PA1 g.wr.length Pc1, .slice PA2 g.lv.length Pc2, .int .i64 g.t.1, .int .i64 g.t.2.1, .bool g.t.2.2, .int .i64 g.pd, .int .i64 g.x.1, .int .i64 g.x.2.1, .bool g.x.2.2.1, .int .i64 g.x.2.2.2, .bool g.hl, .slice PA3 g.seen.length Pc3] (.slice PA3 g.seen.length Pc3) 28 (by rfl) (by rfl) (by kernel_rfl) (by kernel_rfl) (by rfl) (by kernel_rfl) (by kernel_rfl) ?_
          refine Sx.GT.pure (.pointer (some ⟨b2, 14, none⟩)) 29 (by rfl) (by kernel_rfl) (fun w => by kernel_rfl) ?_
          refine Sx.GT.ld1 26 (.tmp 34) b2 14 0 [.slice RA0 k.prog.length Rc0, .int .i64 k.a, .int .i64 k.pc, .slice RA1 k.wr.length Rc1, .slice RA2 k.lv.length Rc2, .int .i64 k.t.1, .int .i64 k.t.2.1, .bool k.t.2.2, .int .i64 k.pd, .int .i64 k.x.1, .int .i64 k.x.2.1, .bool k.x.2.2.1, .int .i64 k.x.2.2.2, .bool k.hl, .slice RA3 k.seen.length Rc3] (.slice RA3 k.seen.length Rc3) 30 (by rfl) (by rfl) (by kernel_rfl) (by kernel_rfl) (by rfl) (by kernel_rfl) (by kernel_rfl) ?_
          refine Sx.GT.alone (Sx.Alone.plain 89 #[.slice PA3 g.seen.length Pc3, .slice RA3 k.seen.length Rc3] (.bool (decide (g.seen = k.seen))) (by rfl) (by kernel_rfl) (fun w => by kernel_rfl) (fun w S => by exact ((Grid.lib_equal PA3 RA3 g.seen.length k.seen.length Pc3 Rc3 0 0 _ _ g.seen k.seen _ q3 p3 rfl rfl (i1_lies (St.old S h3)) (i1_lies (St.old S j3))).mono fun e w' h => And.intro h.1 (drew_below h.2))) (fun w S => St.pick S [0, 1] _ rfl (by decide)) ?_)
          refine Sx.GT.pure (.bool (decide (g.seen = k.seen))) 32 (by rfl) (by kernel_rfl) (fun w => by kernel_rfl) ?_
          refine Sx.GT.pure (.bool (decide (g.seen = k.seen))) 33 (by rfl) (by kernel_rfl) (fun w => by kernel_rfl) ?_
          refine Sx.GT.nil ?_
          refine Sx.E.next ?_
          refine Sx.C.ret ?_
          refine Sx.E.ret1 (.bool (decide (g.seen = k.seen))) rfl (by kernel_rfl) (fun w S => ?_)
          exact ⟨congrArg Ending.returned (congrArg Value.bool (by simp only [sameG_reg, hb3, hb4, hb5, hb6, Bool.and_true, Bool.and_false, Bool.false_and, Bool.true_and])), S.below⟩
end Go.Proofs.Ytldgadmpclgfhaa.Guests
namespace Go.Proofs.Ytldgadmpclgfhaa.Sx
set_option maxRecDepth 100000
open Go.ChangeShapes Go.WideShapes Go.ChangeAt Go.RowKit Go.Deep
open Go.Proofs.Ytldgadmpclgfhaa.Base Go.Proofs.Ytldgadmpclgfhaa.Mem Go.Proofs.Ytldgadmpclgfhaa.Data Go.Proofs.Ytldgadmpclgfhaa.Stt Go.Proofs.Ytldgadmpclgfhaa.Draw
set_option linter.unusedVariables false
set_option linter.unusedSimpArgs false
section
variable {α β : Type} {r : Rp α} {P : Program} {n : Nat} {ops : Array Oper} {Q : Exit → Act → World → Prop} {Z : World → Prop} {w0 : World} {T : Tl} {L L' M : List Res} {rest : List Oper} {l : List Oper} {o : Oper} {t : Ord.Ot} {w : World} {x : α} {cs : List Value}
/-- The slots told anew. -/
theorem C.slots {T' : Tl} {c : Code} (h : ∀ a, Ag n T a → Ag n T' a) (k : C P n Q w0 T' L c) : C P n Q w0 T L c := fun a w hA S => k a w (h a hA) S
theorem Fresh.one {w' : World} (q : Res) (hs : q.says w') (h0 : w0.heap.size ≤ w.heap.size) (hl : w.heap.size ≤ q.lo) (hh : q.hi ≤ w'.heap.size) : Fresh w0 w w' [q] :=
  ⟨fun i r h => by
    match i, h with
    | 0, h => cases h; exact hs
    | i + 1, h => simp at h, fun i r h => by
    match i, h with
    | 0, h => cases h; exact Nat.le_trans h0 hl
    | i + 1, h => simp at h, fun i r h => by
    match i, h with
    | 0, h => cases h; exact hh
    | i + 1, h => simp at h, fun i r h k hk => by
    match i, h with
    | 0, h => cases h; exact Nat.le_trans hl (q.inn k hk).1
    | i + 1, h => simp at h, fun i j r s h1 h2 hne => by
    match i, j, h1, h2 with
    | 0, 0, _, _ => exact absurd rfl hne
    | 0, j + 1, _, h2 => simp at h2
    | i + 1, _, h1, _ => simp at h1⟩
theorem Fresh.nil (w0 w w' : World) : Fresh w0 w w' [] := ⟨fun i r h => by simp at h, fun i r h => by simp at h, fun i r h => by simp at h, fun i r h => by simp at h, fun i j r s h => by simp at h⟩
end
end Go.Proofs.Ytldgadmpclgfhaa.Sx
namespace Go.Proofs.Ytldgadmpclgfhaa.Kit
set_option maxRecDepth 100000
open Go.ChangeShapes Go.WideShapes Go.ChangeAt Go.RowKit Go.Deep
open Go.Proofs.Ytldgadmpclgfhaa.Base Go.Proofs.Ytldgadmpclgfhaa.Mem Go.Proofs.Ytldgadmpclgfhaa.Data Go.Proofs.Ytldgadmpclgfhaa.Stt Go.Proofs.Ytldgadmpclgfhaa.Guests Go.Proofs.Ytldgadmpclgfhaa.Ctls Go.Proofs.Ytldgadmpclgfhaa.Exits
set_option linter.unusedVariables false
set_option linter.unusedSimpArgs false
theorem decide_eqv {α : Type} [DecidableEq α] (x y : α) : decide (x = y) = eqv x y := by
  rcases Decidable.em (x = y) with h | h
  · rw [decide_eq_true h, eqv_true h]
  · rw [decide_eq_false h, eqv_false h]
set_option maxRecDepth 100000 in
set_option maxHeartbeats 4000000 in
theorem implx_samemem (xs ys : (List (List Int))) (A : Option Addr) (c : Nat) (B : Option Addr) (d : Nat) (w : World) (hc : (rLsw (rLsw rInt)).cap xs) (hd : (rLsw (rLsw rInt)).cap ys) (h : rdLst (rLsw rInt) w 0 w.heap.size xs [.slice A xs.length c]) (j : rdLst (rLsw rInt) w 0 w.heap.size ys [.slice B ys.length d]) : Calls Try.prog 86 #[.slice A xs.length c, .slice B ys.length d] w (fun e w' => e = .returned (.bool (eqv xs ys)) ∧ Below w.heap.size w w') := by
  obtain ⟨hl, hcx⟩ := hc
  obtain ⟨hm, hcy⟩ := hd
  refine Sx.enter (args := [.slice A xs.length c, .slice B ys.length d]) Try.func86 rfl Try.ntmps86 rfl ?_
  refine Sx.C.seq ?_
  refine Sx.C.region ?_
  refine Sx.G.pure (.bool false) (by kernel_rfl) (fun w => by kernel_rfl) ?_
  refine Sx.G.nil ?_
  refine Sx.E.next ?_
  refine Sx.C.seq ?_
  refine Sx.C.seq ?_
  refine Sx.C.region ?_
  refine Sx.G.pure (.slice A xs.length c) (by kernel_rfl) (fun w => by kernel_rfl) ?_
  refine Sx.G.pure (.int .i64 ((xs.length : Nat) : Int)) (by kernel_rfl) (fun w => by kernel_rfl) ?_
  refine Sx.G.pure (.slice B ys.length d) (by kernel_rfl) (fun w => by kernel_rfl) ?_
  refine Sx.G.pure (.int .i64 ((ys.length : Nat) : Int)) (by kernel_rfl) (fun w => by kernel_rfl) ?_
  refine Sx.G.pure (.bool (((xs.length : Nat) : Int) != ((ys.length : Nat) : Int))) (by kernel_rfl) (fun w => by kernel_rfl) ?_
  refine Sx.G.nil ?_
  refine Sx.E.next ?_
  cases hc1 : (((xs.length : Nat) : Int) != ((ys.length : Nat) : Int))
  · have hb1 := hc1
    have hlen : xs.length = ys.length := by have := bne_eq_false_iff_eq.1 hc1; omega
    refine Sx.C.no (by kernel_rfl) (by kernel_rfl) ?_
    refine Sx.C.skip ?_
    refine Sx.E.next ?_
    refine Sx.C.seq ?_
    refine Sx.C.seq ?_
    refine Sx.C.region ?_
    refine Sx.G.pure (.slice A xs.length c) (by kernel_rfl) (fun w => by kernel_rfl) ?_
    refine Sx.G.pure (.int .i64 ((xs.length : Nat) : Int)) (by kernel_rfl) (fun w => by kernel_rfl) ?_
    refine Sx.G.pure (.int .i64 0) (by kernel_rfl) (fun w => by kernel_rfl) ?_
    refine Sx.G.nil ?_
    refine Sx.E.next ?_
    refine Sx.C.block ?_
    refine Sx.C.loop (α := Nat) (fun i => i ≤ xs.length ∧ xs.take i = ys.take i) (fun i => [(13, .int .i64 (i : Int)), (0, .slice A xs.length c), (1, .slice B ys.length d), (4, .bool false), (12, .int .i64 ((xs.length : Nat) : Int))]) (fun i => []) (fun i => xs.length - i) 0 ⟨Nat.zero_le _, rfl⟩ (fun a hA => (Sx.Ag.and hA (Sx.Ag.and hA (Sx.Ag.and hA (Sx.Ag.and hA (Sx.Ag.and hA (Sx.Ag.none hA) _ _ (by kernel_rfl)) _ _ (by kernel_rfl)) _ _ (by kernel_rfl)) _ _ (by kernel_rfl)) _ _ (by kernel_rfl))) (fun w S => S) (fun i hx => ?_)
    have hxi := hx.1
    refine Sx.C.seq ?_
    refine Sx.C.region ?_
    refine Sx.G.pure (.bool (decide ((i : Int) < ((xs.length : Nat) : Int)))) (by kernel_rfl) (fun w => by kernel_rfl) ?_
    refine Sx.G.nil ?_
    refine Sx.E.next ?_
    refine Sx.C.seq ?_
    cases hc2 : (decide ((i : Int) < ((xs.length : Nat) : Int)))
    · have hb2 := hc2
      replace hc2 := of_decide_eq_false hc2
      refine Sx.C.no (by kernel_rfl) (by kernel_rfl) ?_
      refine Sx.C.exit ?_
      refine Sx.E.then_exit ?_
      refine Sx.E.then_exit ?_
      refine Sx.E.block_hit ?_
      refine Sx.E.next ?_
      refine Sx.C.seq ?_
      refine Sx.C.region ?_
      refine Sx.G.pure (.bool true) (by kernel_rfl) (fun w => by kernel_rfl) ?_
      refine Sx.G.nil ?_
      refine Sx.E.next ?_
      refine Sx.C.ret ?_
      refine Sx.E.ret1 (.bool true) rfl (by kernel_rfl) (fun w S => ?_)
      have he : xs = ys := by have h2 := hx.2; rwa [List.take_of_length_le (by omega), List.take_of_length_le (by omega)] at h2
      exact ⟨by rw [eqv_true he], S.below⟩
    · have hb2 := hc2
      replace hc2 := of_decide_eq_true hc2
      refine Sx.C.yes (by kernel_rfl) (by kernel_rfl) ?_
      refine Sx.C.skip ?_
      refine Sx.E.next ?_
      refine Sx.C.seq ?_
      refine Sx.C.block ?_
      refine Sx.C.seq ?_
      refine Sx.C.region ?_
      refine Sx.G.pure (.int .i64 (i : Int)) (by kernel_rfl) (fun w => by kernel_rfl) ?_
      refine Sx.G.pure (.int .i64 (i : Int)) (by kernel_rfl) (fun w => by kernel_rfl) ?_
      refine Sx.G.nil ?_
      refine Sx.E.next ?_
      refine Sx.C.seq ?_
      refine Sx.C.draw (.take 0 (.take 1 (.take 2 (.take 3 (.take 4 (.take 5 (.take 6 (.take 7 (.alone 8 (.take 9 .nil)))))))))) [] (fun w S => St.pick S [] _ rfl (by decide)) (by kernel_rfl) (by kernel_rfl) (by kernel_rfl) ?_
      refine Sx.GT.pure (.slice A xs.length c) 0 (by rfl) (by kernel_rfl) (fun w => by kernel_rfl) ?_
      refine Sx.GT.pure (.int .i64 (i : Int)) 1 (by rfl) (by kernel_rfl) (fun w => by kernel_rfl) ?_
      obtain ⟨b3, f3, es3, eA3, hr3, hl3, hm3⟩ := Sx.old_elem (by decide) h i (by omega)
      subst eA3
      obtain ⟨x3, hx3⟩ : ∃ z_, z_ = (xs[i]'(by omega)) := ⟨_, rfl⟩
      rw [← hx3] at hr3
      replace hr3 : rdLst rInt w 0 w.heap.size x3 es3 := hr3
      obtain ⟨P3, rfl⟩ := lst_rd hr3
      obtain ⟨A3, c3, e3, -⟩ := lst_val hr3
      subst e3
      refine Sx.GT.elem 24 26 (.tmp 16) (.tmp 17) 1 24 b3 f3 xs.length c i 2 (by rfl) (by rfl) (by kernel_rfl) (by kernel_rfl) (by kernel_rfl) (by kernel_rfl) (by omega) ?_
      refine Sx.GT.ldr1 26 (.tmp 18) b3 ((f3 + i * 1) + 0) (.slice A3 x3.length c3) 3 (by rfl) (by rfl) (by kernel_rfl) (by kernel_rfl) (fun w S => hm3 w _ S 0 _ rfl) (by kernel_rfl) ?_
      refine Sx.GT.pure (.slice B ys.length d) 4 (by rfl) (by kernel_rfl) (fun w => by kernel_rfl) ?_
      refine Sx.GT.pure (.int .i64 (i : Int)) 5 (by rfl) (by kernel_rfl) (fun w => by kernel_rfl) ?_
      obtain ⟨b4, f4, es4, eA4, hr4, hl4, hm4⟩ := Sx.old_elem (by decide) j i (by omega)
      subst eA4
      obtain ⟨x4, hx4⟩ : ∃ z_, z_ = (ys[i]'(by omega)) := ⟨_, rfl⟩
      rw [← hx4] at hr4
      replace hr4 : rdLst rInt w 0 w.heap.size x4 es4 := hr4
      obtain ⟨P4, rfl⟩ := lst_rd hr4
      obtain ⟨A4, c4, e4, -⟩ := lst_val hr4
      subst e4
      refine Sx.GT.elem 24 26 (.tmp 20) (.tmp 21) 1 24 b4 f4 ys.length d i 6 (by rfl) (by rfl) (by kernel_rfl) (by kernel_rfl) (by kernel_rfl) (by kernel_rfl) (by omega) ?_
      refine Sx.GT.ldr1 26 (.tmp 22) b4 ((f4 + i * 1) + 0) (.slice A4 x4.length c4) 7 (by rfl) (by rfl) (by kernel_rfl) (by kernel_rfl) (fun w S => hm4 w _ S 0 _ rfl) (by kernel_rfl) ?_
      refine Sx.GT.alone (Sx.Alone.plain 89 #[.slice A3 x3.length c3, .slice A4 x4.length c4] (.bool (eqv x3 x4)) (by rfl) (by kernel_rfl) (fun w => by kernel_rfl) (fun w S => by exact ((Grid.lib_equal A3 A4 x3.length x4.length c3 c4 0 0 _ _ x3 x4 _ (hcx _ (hx3 ▸ List.getElem_mem _)).1 (hcy _ (hx4 ▸ List.getElem_mem _)).1 rfl rfl (i1_lies (St.old (r := (rLsw rInt)) S hr3)) (i1_lies (St.old (r := (rLsw rInt)) S hr4))).mono fun e w' h => And.intro (h.1.trans (by rw [decide_eqv])) (Guests.drew_below h.2))) (fun w S => St.pick S [] _ rfl (by decide)) ?_)
      refine Sx.GT.pure (.bool (!(eqv x3 x4))) 9 (by rfl) (by kernel_rfl) (fun w => by kernel_rfl) ?_
      refine Sx.GT.nil ?_
      refine Sx.E.next ?_
      cases hc5 : (eqv x3 x4)
      · have hb5 := hc5
        refine Sx.C.yes (by kernel_rfl) (by kernel_rfl) ?_
        refine Sx.C.seq ?_
        refine Sx.C.region ?_
        refine Sx.G.pure (.bool false) (by kernel_rfl) (fun w => by kernel_rfl) ?_
        refine Sx.G.nil ?_
        refine Sx.E.next ?_
        refine Sx.C.ret ?_
        refine Sx.E.block_ret ?_
        refine Sx.E.then_ret ?_
        refine Sx.E.then_ret ?_
        refine Sx.E.block_ret ?_
        refine Sx.E.then_ret ?_
        refine Sx.E.ret1 (.bool false) rfl (by kernel_rfl) (fun w S => ?_)
        have hne : xs ≠ ys := take_ne (xs := xs) (ys := ys) (i := i) (by omega) (by omega) (by rw [← hx3, ← hx4]; exact ne_of_eqv hc5)
        exact ⟨by rw [eqv_false hne], S.below⟩
      · have hb5 := hc5
        refine Sx.C.no (by kernel_rfl) (by kernel_rfl) ?_
        refine Sx.C.skip ?_
        refine Sx.E.block_normal ?_
        refine Sx.E.next ?_
        refine Sx.C.region ?_
        refine Sx.G.pureq (.int .i64 (IntKind.i64.wrap ((i : Int) + 1))) (.int .i64 ((i + 1 : Nat) : Int)) (by kernel_rfl) (fun w => by kernel_rfl) (congrArg (Value.int .i64) (Sx.wrap_up i (by omega))) ?_
        refine Sx.G.pure (.int .i64 ((i + 1 : Nat) : Int)) (by kernel_rfl) (fun w => by kernel_rfl) ?_
        refine Sx.G.nil ?_
        have hup : xs.take (i + 1) = ys.take (i + 1) := take_up (by omega) (by omega) hx.2 (by rw [← hx3, ← hx4]; exact eqv_iff.1 hc5)
        exact Sx.E.again (i + 1) ⟨by omega, hup⟩ (by omega) (fun a hA => (Sx.Ag.and hA (Sx.Ag.and hA (Sx.Ag.and hA (Sx.Ag.and hA (Sx.Ag.and hA (Sx.Ag.none hA) _ _ (by kernel_rfl)) _ _ (by kernel_rfl)) _ _ (by kernel_rfl)) _ _ (by kernel_rfl)) _ _ (by kernel_rfl))) (fun w S => S)
  · have hb1 := hc1
    refine Sx.C.yes (by kernel_rfl) (by kernel_rfl) ?_
    refine Sx.C.seq ?_
    refine Sx.C.region ?_
    refine Sx.G.pure (.bool false) (by kernel_rfl) (fun w => by kernel_rfl) ?_
    refine Sx.G.nil ?_
    refine Sx.E.next ?_
    refine Sx.C.ret ?_
    refine Sx.E.then_ret ?_
    refine Sx.E.ret1 (.bool false) rfl (by kernel_rfl) (fun w S => ?_)
    have hne : xs ≠ ys := fun e => by subst e; simp at *
    exact ⟨by rw [eqv_false hne], S.below⟩
set_option maxRecDepth 100000 in
set_option maxHeartbeats 4000000 in
theorem implx_eqgs (xs ys : (List gT)) (A : Option Addr) (c : Nat) (B : Option Addr) (d : Nat) (w : World) (hwx : ∀ x ∈ xs, wG.wf x) (hwy : ∀ y ∈ ys, wG.wf y) (hc : (rLsw wG).cap xs) (hd : (rLsw wG).cap ys) (h : rdLst wG w 0 w.heap.size xs [.slice A xs.length c]) (j : rdLst wG w 0 w.heap.size ys [.slice B ys.length d]) : Calls Try.prog 87 #[.slice A xs.length c, .slice B ys.length d, .func (.func 88) #[] #[]] w (fun e w' => e = .returned (.bool (eqv xs ys)) ∧ Below w.heap.size w w') := by
  obtain ⟨hl, hcx⟩ := hc
  obtain ⟨hm, hcy⟩ := hd
  refine Sx.enter (args := [.slice A xs.length c, .slice B ys.length d, .func (.func 88) #[] #[]]) Try.func87 rfl Try.ntmps87 rfl ?_
  refine Sx.C.seq ?_
  refine Sx.C.region ?_
  refine Sx.G.pure (.bool false) (by kernel_rfl) (fun w => by kernel_rfl) ?_
  refine Sx.G.nil ?_
  refine Sx.E.next ?_
  refine Sx.C.seq ?_
  refine Sx.C.seq ?_
  refine Sx.C.region ?_
  refine Sx.G.pure (.slice A xs.length c) (by kernel_rfl) (fun w => by kernel_rfl) ?_
  refine Sx.G.pure (.int .i64 ((xs.length : Nat) : Int)) (by kernel_rfl) (fun w => by kernel_rfl) ?_
  refine Sx.G.pure (.slice B ys.length d) (by kernel_rfl) (fun w => by kernel_rfl) ?_
  refine Sx.G.pure (.int .i64 ((ys.length : Nat) : Int)) (by kernel_rfl) (fun w => by kernel_rfl) ?_
  refine Sx.G.pure (.bool (((xs.length : Nat) : Int) != ((ys.length : Nat) : Int))) (by kernel_rfl) (fun w => by kernel_rfl) ?_
  refine Sx.G.nil ?_
  refine Sx.E.next ?_
  cases hc1 : (((xs.length : Nat) : Int) != ((ys.length : Nat) : Int))
  · have hb1 := hc1
    have hlen : xs.length = ys.length := by have := bne_eq_false_iff_eq.1 hc1; omega
    refine Sx.C.no (by kernel_rfl) (by kernel_rfl) ?_
    refine Sx.C.skip ?_
    refine Sx.E.next ?_
    refine Sx.C.seq ?_
    refine Sx.C.seq ?_
    refine Sx.C.region ?_
    refine Sx.G.pure (.slice A xs.length c) (by kernel_rfl) (fun w => by kernel_rfl) ?_
    refine Sx.G.pure (.int .i64 ((xs.length : Nat) : Int)) (by kernel_rfl) (fun w => by kernel_rfl) ?_
    refine Sx.G.pure (.int .i64 0) (by kernel_rfl) (fun w => by kernel_rfl) ?_
    refine Sx.G.nil ?_
    refine Sx.E.next ?_
    refine Sx.C.block ?_
    refine Sx.C.loop (α := Nat) (fun i => i ≤ xs.length ∧ xs.take i = ys.take i) (fun i => [(17, .int .i64 (i : Int)), (1, .slice B ys.length d), (2, .func (.func 88) #[] #[]), (6, .bool false), (15, .slice A xs.length c), (16, .int .i64 ((xs.length : Nat) : Int))]) (fun i => []) (fun i => xs.length - i) 0 ⟨Nat.zero_le _, rfl⟩ (fun a hA => (Sx.Ag.and hA (Sx.Ag.and hA (Sx.Ag.and hA (Sx.Ag.and hA (Sx.Ag.and hA (Sx.Ag.and hA (Sx.Ag.none hA) _ _ (by kernel_rfl)) _ _ (by kernel_rfl)) _ _ (by kernel_rfl)) _ _ (by kernel_rfl)) _ _ (by kernel_rfl)) _ _ (by kernel_rfl))) (fun w S => S) (fun i hx => ?_)
    have hxi := hx.1
    refine Sx.C.seq ?_
    refine Sx.C.region ?_
    refine Sx.G.pure (.bool (decide ((i : Int) < ((xs.length : Nat) : Int)))) (by kernel_rfl) (fun w => by kernel_rfl) ?_
    refine Sx.G.nil ?_
    refine Sx.E.next ?_
    refine Sx.C.seq ?_
    cases hc2 : (decide ((i : Int) < ((xs.length : Nat) : Int)))
    · have hb2 := hc2
      replace hc2 := of_decide_eq_false hc2
      refine Sx.C.no (by kernel_rfl) (by kernel_rfl) ?_
      refine Sx.C.exit ?_
      refine Sx.E.then_exit ?_
      refine Sx.E.then_exit ?_
      refine Sx.E.block_hit ?_
      refine Sx.E.next ?_
      refine Sx.C.seq ?_
      refine Sx.C.region ?_
      refine Sx.G.pure (.bool true) (by kernel_rfl) (fun w => by kernel_rfl) ?_
      refine Sx.G.nil ?_
      refine Sx.E.next ?_
      refine Sx.C.ret ?_
      refine Sx.E.ret1 (.bool true) rfl (by kernel_rfl) (fun w S => ?_)
      have he : xs = ys := by have h2 := hx.2; rwa [List.take_of_length_le (by omega), List.take_of_length_le (by omega)] at h2
      exact ⟨by rw [eqv_true he], S.below⟩
    · have hb2 := hc2
      replace hc2 := of_decide_eq_true hc2
      refine Sx.C.yes (by kernel_rfl) (by kernel_rfl) ?_
      refine Sx.C.skip ?_
      refine Sx.E.next ?_
      refine Sx.C.seq ?_
      refine Sx.C.block ?_
      refine Sx.C.seq ?_
      refine Sx.C.region ?_
      refine Sx.G.pure (.int .i64 (i : Int)) (by kernel_rfl) (fun w => by kernel_rfl) ?_
      obtain ⟨b3, f3, es3, eA3, hr3, hl3, hm3⟩ := Sx.old_elem (by decide) h i (by omega)
      subst eA3
      obtain ⟨x3, hx3⟩ : ∃ z_, z_ = (xs[i]'(by omega)) := ⟨_, rfl⟩
      rw [← hx3] at hr3
      have hR3 := hr3
      obtain ⟨P3_0, P3_1, P3_2, P3_3, rfl, hf3_0, hf3_1, hf3_2, hf3_3⟩ := wG_rd hr3
      obtain ⟨A3_0, c3_0, e3_0, -⟩ := lst_val hf3_0
      subst e3_0
      obtain ⟨A3_1, c3_1, e3_1, -⟩ := lst_val hf3_1
      subst e3_1
      obtain ⟨A3_2, c3_2, e3_2, -⟩ := lst_val hf3_2
      subst e3_2
      obtain ⟨A3_3, c3_3, e3_3, -⟩ := lst_val hf3_3
      subst e3_3
      refine Sx.G.elem 25 51 (.tmp 15) (.tmp 17) 15 184 b3 f3 xs.length c i rfl (by kernel_rfl) (by kernel_rfl) (by kernel_rfl) (by kernel_rfl) (by omega) ?_
      refine Sx.G.ldr 51 (.tmp 20) b3 (f3 + i * 15) [.slice A3_0 x3.prog.length c3_0, .int .i64 x3.a, .int .i64 x3.pc, .slice A3_1 x3.wr.length c3_1, .slice A3_2 x3.lv.length c3_2, .int .i64 x3.t.1, .int .i64 x3.t.2.1, .bool x3.t.2.2, .int .i64 x3.pd, .int .i64 x3.x.1, .int .i64 x3.x.2.1, .bool x3.x.2.2.1, .int .i64 x3.x.2.2.2, .bool x3.hl, .slice A3_3 x3.seen.length c3_3] rfl (by kernel_rfl) (by kernel_rfl) (fun w S => hm3 w _ S) (by kernel_rfl) (by kernel_rfl) ?_
      refine Sx.G.alloc 51 (.agg #[.slice none 0 0, .int .i64 0, .int .i64 0, .slice none 0 0, .slice none 0 0, .int .i64 0, .int .i64 0, .bool false, .int .i64 0, .int .i64 0, .int .i64 0, .bool false, .int .i64 0, .bool false, .slice none 0 0]) [.slice none 0 0, .int .i64 0, .int .i64 0, .slice none 0 0, .slice none 0 0, .int .i64 0, .int .i64 0, .bool false, .int .i64 0, .int .i64 0, .int .i64 0, .bool false, .int .i64 0, .bool false, .slice none 0 0] rfl (by kernel_rfl) (fun w => by kernel_rfl) (by kernel_rfl) (fun b4 => ?_)
      refine Sx.G.pure (.int .i64 (i : Int)) (by kernel_rfl) (fun w => by kernel_rfl) ?_
      refine Sx.G.sto 51 (.tmp 8) (.tmp 21) b4 0 0 [.slice none 0 0, .int .i64 0, .int .i64 0, .slice none 0 0, .slice none 0 0, .int .i64 0, .int .i64 0, .bool false, .int .i64 0, .int .i64 0, .int .i64 0, .bool false, .int .i64 0, .bool false, .slice none 0 0] [.slice A3_0 x3.prog.length c3_0, .int .i64 x3.a, .int .i64 x3.pc, .slice A3_1 x3.wr.length c3_1, .slice A3_2 x3.lv.length c3_2, .int .i64 x3.t.1, .int .i64 x3.t.2.1, .bool x3.t.2.2, .int .i64 x3.pd, .int .i64 x3.x.1, .int .i64 x3.x.2.1, .bool x3.x.2.2.1, .int .i64 x3.x.2.2.2, .bool x3.hl, .slice A3_3 x3.seen.length c3_3] [.slice A3_0 x3.prog.length c3_0, .int .i64 x3.a, .int .i64 x3.pc, .slice A3_1 x3.wr.length c3_1, .slice A3_2 x3.lv.length c3_2, .int .i64 x3.t.1, .int .i64 x3.t.2.1, .bool x3.t.2.2, .int .i64 x3.pd, .int .i64 x3.x.1, .int .i64 x3.x.2.1, .bool x3.x.2.2.1, .int .i64 x3.x.2.2.2, .bool x3.hl, .slice A3_3 x3.seen.length c3_3] [vr b4 [.slice A3_0 x3.prog.length c3_0, .int .i64 x3.a, .int .i64 x3.pc, .slice A3_1 x3.wr.length c3_1, .slice A3_2 x3.lv.length c3_2, .int .i64 x3.t.1, .int .i64 x3.t.2.1, .bool x3.t.2.2, .int .i64 x3.pd, .int .i64 x3.x.1, .int .i64 x3.x.2.1, .bool x3.x.2.2.1, .int .i64 x3.x.2.2.2, .bool x3.hl, .slice A3_3 x3.seen.length c3_3]] rfl (by kernel_rfl) (by kernel_rfl) (by kernel_rfl) rfl (by kernel_rfl) rfl (by kernel_rfl) (by kernel_rfl) (by kernel_rfl) ?_
      refine Sx.G.nil ?_
      refine Sx.E.next ?_
      refine Sx.C.seq ?_
      refine Sx.C.region ?_
      refine Sx.G.pure (.slice B ys.length d) (by kernel_rfl) (fun w => by kernel_rfl) ?_
      refine Sx.G.pure (.int .i64 (i : Int)) (by kernel_rfl) (fun w => by kernel_rfl) ?_
      obtain ⟨b5, f5, es5, eA5, hr5, hl5, hm5⟩ := Sx.old_elem (by decide) j i (by omega)
      subst eA5
      obtain ⟨x5, hx5⟩ : ∃ z_, z_ = (ys[i]'(by omega)) := ⟨_, rfl⟩
      rw [← hx5] at hr5
      have hR5 := hr5
      obtain ⟨P5_0, P5_1, P5_2, P5_3, rfl, hf5_0, hf5_1, hf5_2, hf5_3⟩ := wG_rd hr5
      obtain ⟨A5_0, c5_0, e5_0, -⟩ := lst_val hf5_0
      subst e5_0
      obtain ⟨A5_1, c5_1, e5_1, -⟩ := lst_val hf5_1
      subst e5_1
      obtain ⟨A5_2, c5_2, e5_2, -⟩ := lst_val hf5_2
      subst e5_2
      obtain ⟨A5_3, c5_3, e5_3, -⟩ := lst_val hf5_3
      subst e5_3
      refine Sx.G.elem 25 51 (.tmp 22) (.tmp 23) 15 184 b5 f5 ys.length d i rfl (by kernel_rfl) (by kernel_rfl) (by kernel_rfl) (by kernel_rfl) (by omega) ?_
      refine Sx.G.ldr 51 (.tmp 24) b5 (f5 + i * 15) [.slice A5_0 x5.prog.length c5_0, .int .i64 x5.a, .int .i64 x5.pc, .slice A5_1 x5.wr.length c5_1, .slice A5_2 x5.lv.length c5_2, .int .i64 x5.t.1, .int .i64 x5.t.2.1, .bool x5.t.2.2, .int .i64 x5.pd, .int .i64 x5.x.1, .int .i64 x5.x.2.1, .bool x5.x.2.2.1, .int .i64 x5.x.2.2.2, .bool x5.hl, .slice A5_3 x5.seen.length c5_3] rfl (by kernel_rfl) (by kernel_rfl) (fun w S => hm5 w _ S) (by kernel_rfl) (by kernel_rfl) ?_
      refine Sx.G.alloc 51 (.agg #[.slice none 0 0, .int .i64 0, .int .i64 0, .slice none 0 0, .slice none 0 0, .int .i64 0, .int .i64 0, .bool false, .int .i64 0, .int .i64 0, .int .i64 0, .bool false, .int .i64 0, .bool false, .slice none 0 0]) [.slice none 0 0, .int .i64 0, .int .i64 0, .slice none 0 0, .slice none 0 0, .int .i64 0, .int .i64 0, .bool false, .int .i64 0, .int .i64 0, .int .i64 0, .bool false, .int .i64 0, .bool false, .slice none 0 0] rfl (by kernel_rfl) (fun w => by kernel_rfl) (by kernel_rfl) (fun b6 => ?_)
      refine Sx.G.sto 51 (.tmp 9) (.tmp 25) b6 0 0 [.slice none 0 0, .int .i64 0, .int .i64 0, .slice none 0 0, .slice none 0 0, .int .i64 0, .int .i64 0, .bool false, .int .i64 0, .int .i64 0, .int .i64 0, .bool false, .int .i64 0, .bool false, .slice none 0 0] [.slice A5_0 x5.prog.length c5_0, .int .i64 x5.a, .int .i64 x5.pc, .slice A5_1 x5.wr.length c5_1, .slice A5_2 x5.lv.length c5_2, .int .i64 x5.t.1, .int .i64 x5.t.2.1, .bool x5.t.2.2, .int .i64 x5.pd, .int .i64 x5.x.1, .int .i64 x5.x.2.1, .bool x5.x.2.2.1, .int .i64 x5.x.2.2.2, .bool x5.hl, .slice A5_3 x5.seen.length c5_3] [.slice A5_0 x5.prog.length c5_0, .int .i64 x5.a, .int .i64 x5.pc, .slice A5_1 x5.wr.length c5_1, .slice A5_2 x5.lv.length c5_2, .int .i64 x5.t.1, .int .i64 x5.t.2.1, .bool x5.t.2.2, .int .i64 x5.pd, .int .i64 x5.x.1, .int .i64 x5.x.2.1, .bool x5.x.2.2.1, .int .i64 x5.x.2.2.2, .bool x5.hl, .slice A5_3 x5.seen.length c5_3] [vr b6 [.slice A5_0 x5.prog.length c5_0, .int .i64 x5.a, .int .i64 x5.pc, .slice A5_1 x5.wr.length c5_1, .slice A5_2 x5.lv.length c5_2, .int .i64 x5.t.1, .int .i64 x5.t.2.1, .bool x5.t.2.2, .int .i64 x5.pd, .int .i64 x5.x.1, .int .i64 x5.x.2.1, .bool x5.x.2.2.1, .int .i64 x5.x.2.2.2, .bool x5.hl, .slice A5_3 x5.seen.length c5_3], vr b4 [.slice A3_0 x3.prog.length c3_0, .int .i64 x3.a, .int .i64 x3.pc, .slice A3_1 x3.wr.length c3_1, .slice A3_2 x3.lv.length c3_2, .int .i64 x3.t.1, .int .i64 x3.t.2.1, .bool x3.t.2.2, .int .i64 x3.pd, .int .i64 x3.x.1, .int .i64 x3.x.2.1, .bool x3.x.2.2.1, .int .i64 x3.x.2.2.2, .bool x3.hl, .slice A3_3 x3.seen.length c3_3]] rfl (by kernel_rfl) (by kernel_rfl) (by kernel_rfl) rfl (by kernel_rfl) rfl (by kernel_rfl) (by kernel_rfl) (by kernel_rfl) ?_
      refine Sx.G.nil ?_
      refine Sx.E.next ?_
      refine Sx.C.seq ?_
      refine Sx.C.region ?_
      refine Sx.G.pure (.func (.func 88) #[] #[]) (by kernel_rfl) (fun w => by kernel_rfl) ?_
      refine Sx.G.ld 51 (.tmp 8) b4 0 1 [.slice A3_0 x3.prog.length c3_0, .int .i64 x3.a, .int .i64 x3.pc, .slice A3_1 x3.wr.length c3_1, .slice A3_2 x3.lv.length c3_2, .int .i64 x3.t.1, .int .i64 x3.t.2.1, .bool x3.t.2.2, .int .i64 x3.pd, .int .i64 x3.x.1, .int .i64 x3.x.2.1, .bool x3.x.2.2.1, .int .i64 x3.x.2.2.2, .bool x3.hl, .slice A3_3 x3.seen.length c3_3] [.slice A3_0 x3.prog.length c3_0, .int .i64 x3.a, .int .i64 x3.pc, .slice A3_1 x3.wr.length c3_1, .slice A3_2 x3.lv.length c3_2, .int .i64 x3.t.1, .int .i64 x3.t.2.1, .bool x3.t.2.2, .int .i64 x3.pd, .int .i64 x3.x.1, .int .i64 x3.x.2.1, .bool x3.x.2.2.1, .int .i64 x3.x.2.2.2, .bool x3.hl, .slice A3_3 x3.seen.length c3_3] rfl (by kernel_rfl) (by kernel_rfl) rfl (by kernel_rfl) (by kernel_rfl) (by kernel_rfl) ?_
      refine Sx.G.ld 51 (.tmp 9) b6 0 0 [.slice A5_0 x5.prog.length c5_0, .int .i64 x5.a, .int .i64 x5.pc, .slice A5_1 x5.wr.length c5_1, .slice A5_2 x5.lv.length c5_2, .int .i64 x5.t.1, .int .i64 x5.t.2.1, .bool x5.t.2.2, .int .i64 x5.pd, .int .i64 x5.x.1, .int .i64 x5.x.2.1, .bool x5.x.2.2.1, .int .i64 x5.x.2.2.2, .bool x5.hl, .slice A5_3 x5.seen.length c5_3] [.slice A5_0 x5.prog.length c5_0, .int .i64 x5.a, .int .i64 x5.pc, .slice A5_1 x5.wr.length c5_1, .slice A5_2 x5.lv.length c5_2, .int .i64 x5.t.1, .int .i64 x5.t.2.1, .bool x5.t.2.2, .int .i64 x5.pd, .int .i64 x5.x.1, .int .i64 x5.x.2.1, .bool x5.x.2.2.1, .int .i64 x5.x.2.2.2, .bool x5.hl, .slice A5_3 x5.seen.length c5_3] rfl (by kernel_rfl) (by kernel_rfl) rfl (by kernel_rfl) (by kernel_rfl) (by kernel_rfl) ?_
      refine Sx.G.plain 88 #[.agg #[.slice A3_0 x3.prog.length c3_0, .int .i64 x3.a, .int .i64 x3.pc, .slice A3_1 x3.wr.length c3_1, .slice A3_2 x3.lv.length c3_2, .int .i64 x3.t.1, .int .i64 x3.t.2.1, .bool x3.t.2.2, .int .i64 x3.pd, .int .i64 x3.x.1, .int .i64 x3.x.2.1, .bool x3.x.2.2.1, .int .i64 x3.x.2.2.2, .bool x3.hl, .slice A3_3 x3.seen.length c3_3], .agg #[.slice A5_0 x5.prog.length c5_0, .int .i64 x5.a, .int .i64 x5.pc, .slice A5_1 x5.wr.length c5_1, .slice A5_2 x5.lv.length c5_2, .int .i64 x5.t.1, .int .i64 x5.t.2.1, .bool x5.t.2.2, .int .i64 x5.pd, .int .i64 x5.x.1, .int .i64 x5.x.2.1, .bool x5.x.2.2.1, .int .i64 x5.x.2.2.2, .bool x5.hl, .slice A5_3 x5.seen.length c5_3]] (.bool (eqv x3 x5)) (by kernel_rfl) (fun w => by kernel_rfl) (fun w S => by exact ((Guests.impl_gsame x3 x5 _ _ _ (hwx _ (hx3 ▸ List.getElem_mem _)) (hwy _ (hx5 ▸ List.getElem_mem _)) (cap_G (hcx _ (hx3 ▸ List.getElem_mem _))) (cap_G (hcy _ (hx5 ▸ List.getElem_mem _))) (rd_G (St.old S hR3)) (rd_G (St.old S hR5))).mono fun e w' h => And.intro (h.1.trans (by rw [sameG_eqv])) h.2)) ?_
      refine Sx.G.pure (.bool (!(eqv x3 x5))) (by kernel_rfl) (fun w => by kernel_rfl) ?_
      refine Sx.G.nil ?_
      refine Sx.E.next ?_
      cases hc7 : (eqv x3 x5)
      · have hb7 := hc7
        refine Sx.C.yes (by kernel_rfl) (by kernel_rfl) ?_
        refine Sx.C.seq ?_
        refine Sx.C.region ?_
        refine Sx.G.pure (.bool false) (by kernel_rfl) (fun w => by kernel_rfl) ?_
        refine Sx.G.nil ?_
        refine Sx.E.next ?_
        refine Sx.C.ret ?_
        refine Sx.E.block_ret ?_
        refine Sx.E.then_ret ?_
        refine Sx.E.then_ret ?_
        refine Sx.E.block_ret ?_
        refine Sx.E.then_ret ?_
        refine Sx.E.ret1 (.bool false) rfl (by kernel_rfl) (fun w S => ?_)
        have hne : xs ≠ ys := take_ne (xs := xs) (ys := ys) (i := i) (by omega) (by omega) (by rw [← hx3, ← hx5]; exact ne_of_eqv hc7)
        exact ⟨by rw [eqv_false hne], S.below⟩
      · have hb7 := hc7
        refine Sx.C.no (by kernel_rfl) (by kernel_rfl) ?_
        refine Sx.C.skip ?_
        refine Sx.E.block_normal ?_
        refine Sx.E.next ?_
        refine Sx.C.region ?_
        refine Sx.G.pureq (.int .i64 (IntKind.i64.wrap ((i : Int) + 1))) (.int .i64 ((i + 1 : Nat) : Int)) (by kernel_rfl) (fun w => by kernel_rfl) (congrArg (Value.int .i64) (Sx.wrap_up i (by omega))) ?_
        refine Sx.G.pure (.int .i64 ((i + 1 : Nat) : Int)) (by kernel_rfl) (fun w => by kernel_rfl) ?_
        refine Sx.G.nil ?_
        have hup : xs.take (i + 1) = ys.take (i + 1) := take_up (by omega) (by omega) hx.2 (by rw [← hx3, ← hx5]; exact eqv_iff.1 hc7)
        exact Sx.E.again (i + 1) ⟨by omega, hup⟩ (by omega) (fun a hA => (Sx.Ag.and hA (Sx.Ag.and hA (Sx.Ag.and hA (Sx.Ag.and hA (Sx.Ag.and hA (Sx.Ag.and hA (Sx.Ag.none hA) _ _ (by kernel_rfl)) _ _ (by kernel_rfl)) _ _ (by kernel_rfl)) _ _ (by kernel_rfl)) _ _ (by kernel_rfl)) _ _ (by kernel_rfl))) (fun w S => St.pick S [] _ rfl (by decide))
  · have hb1 := hc1
    refine Sx.C.yes (by kernel_rfl) (by kernel_rfl) ?_
    refine Sx.C.seq ?_
    refine Sx.C.region ?_
    refine Sx.G.pure (.bool false) (by kernel_rfl) (fun w => by kernel_rfl) ?_
    refine Sx.G.nil ?_
    refine Sx.E.next ?_
    refine Sx.C.ret ?_
    refine Sx.E.then_ret ?_
    refine Sx.E.ret1 (.bool false) rfl (by kernel_rfl) (fun w S => ?_)
    have hne : xs ≠ ys := fun e => by subst e; simp at *
    exact ⟨by rw [eqv_false hne], S.below⟩
set_option maxRecDepth 100000 in
set_option maxHeartbeats 4000000 in
theorem impl_bsame (x y : bT) (cs ds : List Value) (w : World) (hn : wB.wf x) (hm : wB.wf y) (hc : wB.cap x) (hd : wB.cap y) (h : wB.rd w 0 w.heap.size x cs) (k : wB.rd w 0 w.heap.size y ds) : Calls Try.prog 34 #[.agg cs.toArray, .agg ds.toArray] w (fun e w' => e = .returned (.bool (eqv x y)) ∧ Below w.heap.size w w') := by
  obtain ⟨hcap0, hcap1, hcap2, hcap3⟩ := hc
  obtain ⟨hdap0, hdap1, hdap2, hdap3⟩ := hd
  have hR := h
  obtain ⟨hP0, hP1, hP2, rfl, hf0, hf1, hf2⟩ := wB_rd h
  obtain ⟨hA0, hK0, he0, -⟩ := lst_val hf0
  subst he0
  obtain ⟨hA1, hK1, he1, -⟩ := lst_val hf1
  subst he1
  obtain ⟨hA2, hK2, he2, -⟩ := lst_val hf2
  subst he2
  have kR := k
  obtain ⟨kP0, kP1, kP2, rfl, kf0, kf1, kf2⟩ := wB_rd k
  obtain ⟨kA0, kK0, ke0, -⟩ := lst_val kf0
  subst ke0
  obtain ⟨kA1, kK1, ke1, -⟩ := lst_val kf1
  subst ke1
  obtain ⟨kA2, kK2, ke2, -⟩ := lst_val kf2
  subst ke2
  refine Sx.enter (args := [.agg #[.slice hA0 x.mem.length hK0, .slice hA1 x.gs.length hK1, .slice hA2 x.outs.length hK2, .int .i64 x.pd], .agg #[.slice kA0 y.mem.length kK0, .slice kA1 y.gs.length kK1, .slice kA2 y.outs.length kK2, .int .i64 y.pd]]) Try.func34 rfl Try.ntmps34 rfl ?_
  refine Sx.C.seq ?_
  refine Sx.C.region ?_
  refine Sx.G.box 28 (.tmp 0) [.slice hA0 x.mem.length hK0, .slice hA1 x.gs.length hK1, .slice hA2 x.outs.length hK2, .int .i64 x.pd] rfl (by kernel_rfl) (by kernel_rfl) (fun b1 => ?_)
  refine Sx.G.box 28 (.tmp 1) [.slice kA0 y.mem.length kK0, .slice kA1 y.gs.length kK1, .slice kA2 y.outs.length kK2, .int .i64 y.pd] rfl (by kernel_rfl) (by kernel_rfl) (fun b2 => ?_)
  refine Sx.G.pure (.bool false) (by kernel_rfl) (fun w => by kernel_rfl) ?_
  refine Sx.G.nil ?_
  refine Sx.E.next ?_
  refine Sx.C.seq ?_
  refine Sx.C.region ?_
  refine Sx.G.pure (.pointer (some ⟨b1, 0, none⟩)) (by kernel_rfl) (fun w => by kernel_rfl) ?_
  refine Sx.G.ld1 24 (.tmp 5) b1 0 1 [.slice hA0 x.mem.length hK0, .slice hA1 x.gs.length hK1, .slice hA2 x.outs.length hK2, .int .i64 x.pd] (.slice hA0 x.mem.length hK0) rfl (by kernel_rfl) (by kernel_rfl) rfl (by kernel_rfl) (by kernel_rfl) ?_
  refine Sx.G.pure (.pointer (some ⟨b2, 0, none⟩)) (by kernel_rfl) (fun w => by kernel_rfl) ?_
  refine Sx.G.ld1 24 (.tmp 7) b2 0 0 [.slice kA0 y.mem.length kK0, .slice kA1 y.gs.length kK1, .slice kA2 y.outs.length kK2, .int .i64 y.pd] (.slice kA0 y.mem.length kK0) rfl (by kernel_rfl) (by kernel_rfl) rfl (by kernel_rfl) (by kernel_rfl) ?_
  refine Sx.G.plain 86 #[.slice hA0 x.mem.length hK0, .slice kA0 y.mem.length kK0] (.bool (eqv x.mem y.mem)) (by kernel_rfl) (fun w => by kernel_rfl) (fun w S => by exact implx_samemem x.mem y.mem hA0 hK0 kA0 kK0 _ hcap0 hdap0 (St.old (r := (rLsw (rLsw rInt))) S hf0) (St.old (r := (rLsw (rLsw rInt))) S kf0)) ?_
  refine Sx.G.pure (.bool (eqv x.mem y.mem)) (by kernel_rfl) (fun w => by kernel_rfl) ?_
  cases hc3 : (eqv x.mem y.mem)
  · have hb3 := hc3
    refine Sx.G.skip (by kernel_rfl) ?_
    refine Sx.G.skip (by kernel_rfl) ?_
    refine Sx.G.skip (by kernel_rfl) ?_
    refine Sx.G.skip (by kernel_rfl) ?_
    refine Sx.G.skip (by kernel_rfl) ?_
    refine Sx.G.pure (.bool false) (by kernel_rfl) (fun w => by kernel_rfl) ?_
    refine Sx.G.pure (.bool false) (by kernel_rfl) (fun w => by kernel_rfl) ?_
    refine Sx.G.skip (by kernel_rfl) ?_
    refine Sx.G.skip (by kernel_rfl) ?_
    refine Sx.G.skip (by kernel_rfl) ?_
    refine Sx.G.skip (by kernel_rfl) ?_
    refine Sx.G.skip (by kernel_rfl) ?_
    refine Sx.G.pure (.bool false) (by kernel_rfl) (fun w => by kernel_rfl) ?_
    refine Sx.G.pure (.bool false) (by kernel_rfl) (fun w => by kernel_rfl) ?_
    refine Sx.G.skip (by kernel_rfl) ?_
    refine Sx.G.skip (by kernel_rfl) ?_
    refine Sx.G.skip (by kernel_rfl) ?_
    refine Sx.G.skip (by kernel_rfl) ?_
    refine Sx.G.skip (by kernel_rfl) ?_
    refine Sx.G.pure (.bool false) (by kernel_rfl) (fun w => by kernel_rfl) ?_
    refine Sx.G.pure (.bool false) (by kernel_rfl) (fun w => by kernel_rfl) ?_
    refine Sx.G.nil ?_
    refine Sx.E.next ?_
    refine Sx.C.ret ?_
    refine Sx.E.ret1 (.bool false) rfl (by kernel_rfl) (fun w S => ?_)
    exact ⟨congrArg Ending.returned (congrArg Value.bool (by simp only [eqv_B, hb3, Bool.and_true, Bool.and_false, Bool.false_and, Bool.true_and])), S.below⟩
  · have hb3 := hc3
    refine Sx.G.pure (.pointer (some ⟨b1, 1, none⟩)) (by kernel_rfl) (fun w => by kernel_rfl) ?_
    refine Sx.G.ld1 25 (.tmp 11) b1 1 1 [.slice hA0 x.mem.length hK0, .slice hA1 x.gs.length hK1, .slice hA2 x.outs.length hK2, .int .i64 x.pd] (.slice hA1 x.gs.length hK1) rfl (by kernel_rfl) (by kernel_rfl) rfl (by kernel_rfl) (by kernel_rfl) ?_
    refine Sx.G.pure (.pointer (some ⟨b2, 1, none⟩)) (by kernel_rfl) (fun w => by kernel_rfl) ?_
    refine Sx.G.ld1 25 (.tmp 13) b2 1 0 [.slice kA0 y.mem.length kK0, .slice kA1 y.gs.length kK1, .slice kA2 y.outs.length kK2, .int .i64 y.pd] (.slice kA1 y.gs.length kK1) rfl (by kernel_rfl) (by kernel_rfl) rfl (by kernel_rfl) (by kernel_rfl) ?_
    refine Sx.G.plain 87 #[.slice hA1 x.gs.length hK1, .slice kA1 y.gs.length kK1, .func (.func 88) #[] #[]] (.bool (eqv x.gs y.gs)) (by kernel_rfl) (fun w => by kernel_rfl) (fun w S => by exact implx_eqgs x.gs y.gs hA1 hK1 kA1 kK1 _ hn.2.1.2 hm.2.1.2 hcap1 hdap1 (St.old (r := (rLsw wG)) S hf1) (St.old (r := (rLsw wG)) S kf1)) ?_
    refine Sx.G.pure (.bool (eqv x.gs y.gs)) (by kernel_rfl) (fun w => by kernel_rfl) ?_
    refine Sx.G.pure (.bool (eqv x.gs y.gs)) (by kernel_rfl) (fun w => by kernel_rfl) ?_
    cases hc4 : (eqv x.gs y.gs)
    · have hb4 := hc4
      refine Sx.G.skip (by kernel_rfl) ?_
      refine Sx.G.skip (by kernel_rfl) ?_
      refine Sx.G.skip (by kernel_rfl) ?_
      refine Sx.G.skip (by kernel_rfl) ?_
      refine Sx.G.skip (by kernel_rfl) ?_
      refine Sx.G.pure (.bool false) (by kernel_rfl) (fun w => by kernel_rfl) ?_
      refine Sx.G.pure (.bool false) (by kernel_rfl) (fun w => by kernel_rfl) ?_
      refine Sx.G.skip (by kernel_rfl) ?_
      refine Sx.G.skip (by kernel_rfl) ?_
      refine Sx.G.skip (by kernel_rfl) ?_
      refine Sx.G.skip (by kernel_rfl) ?_
      refine Sx.G.skip (by kernel_rfl) ?_
      refine Sx.G.pure (.bool false) (by kernel_rfl) (fun w => by kernel_rfl) ?_
      refine Sx.G.pure (.bool false) (by kernel_rfl) (fun w => by kernel_rfl) ?_
      refine Sx.G.nil ?_
      refine Sx.E.next ?_
      refine Sx.C.ret ?_
      refine Sx.E.ret1 (.bool false) rfl (by kernel_rfl) (fun w S => ?_)
      exact ⟨congrArg Ending.returned (congrArg Value.bool (by simp only [eqv_B, hb3, hb4, Bool.and_true, Bool.and_false, Bool.false_and, Bool.true_and])), S.below⟩
    · have hb4 := hc4
      refine Sx.G.pure (.pointer (some ⟨b1, 2, none⟩)) (by kernel_rfl) (fun w => by kernel_rfl) ?_
      refine Sx.G.ld1 26 (.tmp 18) b1 2 1 [.slice hA0 x.mem.length hK0, .slice hA1 x.gs.length hK1, .slice hA2 x.outs.length hK2, .int .i64 x.pd] (.slice hA2 x.outs.length hK2) rfl (by kernel_rfl) (by kernel_rfl) rfl (by kernel_rfl) (by kernel_rfl) ?_
      refine Sx.G.pure (.pointer (some ⟨b2, 2, none⟩)) (by kernel_rfl) (fun w => by kernel_rfl) ?_
      refine Sx.G.ld1 26 (.tmp 20) b2 2 0 [.slice kA0 y.mem.length kK0, .slice kA1 y.gs.length kK1, .slice kA2 y.outs.length kK2, .int .i64 y.pd] (.slice kA2 y.outs.length kK2) rfl (by kernel_rfl) (by kernel_rfl) rfl (by kernel_rfl) (by kernel_rfl) ?_
      refine Sx.G.plain 89 #[.slice hA2 x.outs.length hK2, .slice kA2 y.outs.length kK2] (.bool (eqv x.outs y.outs)) (by kernel_rfl) (fun w => by kernel_rfl) (fun w S => by exact ((Grid.lib_equal hA2 kA2 x.outs.length y.outs.length hK2 kK2 0 0 _ _ x.outs y.outs _ hcap2.1 hdap2.1 rfl rfl (i1_lies (St.old (r := (rLsw rInt)) S hf2)) (i1_lies (St.old (r := (rLsw rInt)) S kf2))).mono fun e w' h => And.intro (h.1.trans (by rw [decide_eqv])) (Guests.drew_below h.2))) ?_
      refine Sx.G.pure (.bool (eqv x.outs y.outs)) (by kernel_rfl) (fun w => by kernel_rfl) ?_
      refine Sx.G.pure (.bool (eqv x.outs y.outs)) (by kernel_rfl) (fun w => by kernel_rfl) ?_
      cases hc5 : (eqv x.outs y.outs)
      · have hb5 := hc5
        refine Sx.G.skip (by kernel_rfl) ?_
        refine Sx.G.skip (by kernel_rfl) ?_
        refine Sx.G.skip (by kernel_rfl) ?_
        refine Sx.G.skip (by kernel_rfl) ?_
        refine Sx.G.skip (by kernel_rfl) ?_
        refine Sx.G.pure (.bool false) (by kernel_rfl) (fun w => by kernel_rfl) ?_
        refine Sx.G.pure (.bool false) (by kernel_rfl) (fun w => by kernel_rfl) ?_
        refine Sx.G.nil ?_
        refine Sx.E.next ?_
        refine Sx.C.ret ?_
        refine Sx.E.ret1 (.bool false) rfl (by kernel_rfl) (fun w S => ?_)
        exact ⟨congrArg Ending.returned (congrArg Value.bool (by simp only [eqv_B, hb3, hb4, hb5, Bool.and_true, Bool.and_false, Bool.false_and, Bool.true_and])), S.below⟩
      · have hb5 := hc5
        refine Sx.G.pure (.pointer (some ⟨b1, 3, none⟩)) (by kernel_rfl) (fun w => by kernel_rfl) ?_
        refine Sx.G.ld1 3 (.tmp 25) b1 3 1 [.slice hA0 x.mem.length hK0, .slice hA1 x.gs.length hK1, .slice hA2 x.outs.length hK2, .int .i64 x.pd] (.int .i64 x.pd) rfl (by kernel_rfl) (by kernel_rfl) rfl (by kernel_rfl) (by kernel_rfl) ?_
        refine Sx.G.pure (.pointer (some ⟨b2, 3, none⟩)) (by kernel_rfl) (fun w => by kernel_rfl) ?_
        refine Sx.G.ld1 3 (.tmp 27) b2 3 0 [.slice kA0 y.mem.length kK0, .slice kA1 y.gs.length kK1, .slice kA2 y.outs.length kK2, .int .i64 y.pd] (.int .i64 y.pd) rfl (by kernel_rfl) (by kernel_rfl) rfl (by kernel_rfl) (by kernel_rfl) ?_
        refine Sx.G.pure (.bool (x.pd == y.pd)) (by kernel_rfl) (fun w => by kernel_rfl) ?_
        refine Sx.G.pure (.bool (x.pd == y.pd)) (by kernel_rfl) (fun w => by kernel_rfl) ?_
        refine Sx.G.pure (.bool (x.pd == y.pd)) (by kernel_rfl) (fun w => by kernel_rfl) ?_
        refine Sx.G.nil ?_
        refine Sx.E.next ?_
        refine Sx.C.ret ?_
        refine Sx.E.ret1 (.bool (x.pd == y.pd)) rfl (by kernel_rfl) (fun w S => ?_)
        exact ⟨congrArg Ending.returned (congrArg Value.bool (by simp only [eqv_B, hb3, hb4, hb5, Bool.and_true, Bool.and_false, Bool.false_and, Bool.true_and])), S.below⟩
end Go.Proofs.Ytldgadmpclgfhaa.Kit
namespace Go.Proofs.Ytldgadmpclgfhaa.fnExactSameBare
set_option maxRecDepth 100000
open Go.ChangeShapes Go.WideShapes Go.ChangeAt Go.RowKit
open Go.Proofs.Ytldgadmpclgfhaa.Base Go.Proofs.Ytldgadmpclgfhaa.Mem Go.Proofs.Ytldgadmpclgfhaa.Data Go.Proofs.Ytldgadmpclgfhaa.Stt Go.Proofs.Ytldgadmpclgfhaa.Kit Go.Proofs.Ytldgadmpclgfhaa.Guests Go.Proofs.Ytldgadmpclgfhaa.Ctls Go.Proofs.Ytldgadmpclgfhaa.Exits
set_option linter.unusedVariables false
set_option linter.unusedSimpArgs false
set_option maxRecDepth 100000 in
set_option maxHeartbeats 8000000 in
theorem walk (w : World) (x0 : bT) (cs0 : List Value) (x1 : bT) (cs1 : List Value) (hw0 : wB.wf x0) (h0 : wB.rd w 0 w.heap.size x0 cs0) (hw1 : wB.wf x1) (h1 : wB.rd w 0 w.heap.size x1 cs1) :
    Calls Try.prog 8 #[.agg cs0.toArray, .agg cs1.toArray] w fun e w' => e = .returned (.bool true) ∧ Below w.heap.size w w' := by
  have h0R := h0
  obtain ⟨h0P0, h0P1, h0P2, rfl, h0f0, h0f1, h0f2⟩ := wB_rd h0
  obtain ⟨h0A0, h0K0, h0e0, -⟩ := lst_val h0f0
  subst h0e0
  obtain ⟨h0A1, h0K1, h0e1, -⟩ := lst_val h0f1
  subst h0e1
  obtain ⟨h0A2, h0K2, h0e2, -⟩ := lst_val h0f2
  subst h0e2
  have h1R := h1
  obtain ⟨h1P0, h1P1, h1P2, rfl, h1f0, h1f1, h1f2⟩ := wB_rd h1
  obtain ⟨h1A0, h1K0, h1e0, -⟩ := lst_val h1f0
  subst h1e0
  obtain ⟨h1A1, h1K1, h1e1, -⟩ := lst_val h1f1
  subst h1e1
  obtain ⟨h1A2, h1K2, h1e2, -⟩ := lst_val h1f2
  subst h1e2
  refine Sx.enter (args := [.agg #[.slice h0A0 x0.mem.length h0K0, .slice h0A1 x0.gs.length h0K1, .slice h0A2 x0.outs.length h0K2, .int .i64 x0.pd], .agg #[.slice h1A0 x1.mem.length h1K0, .slice h1A1 x1.gs.length h1K1, .slice h1A2 x1.outs.length h1K2, .int .i64 x1.pd]]) Try.func8 rfl Try.ntmps8 rfl ?_
  refine Sx.C.seq ?_
  refine Sx.C.region ?_
  refine Sx.G.box 39 (.tmp 0) [.slice h0A0 x0.mem.length h0K0, .slice h0A1 x0.gs.length h0K1, .slice h0A2 x0.outs.length h0K2, .int .i64 x0.pd] rfl (by kernel_rfl) (by kernel_rfl) (fun b1 => ?_)
  refine Sx.G.box 39 (.tmp 1) [.slice h1A0 x1.mem.length h1K0, .slice h1A1 x1.gs.length h1K1, .slice h1A2 x1.outs.length h1K2, .int .i64 x1.pd] rfl (by kernel_rfl) (by kernel_rfl) (fun b2 => ?_)
  refine Sx.G.pure (.bool false) (by kernel_rfl) (fun w => by kernel_rfl) ?_
  refine Sx.G.nil ?_
  refine Sx.E.next ?_
  refine Sx.C.seq ?_
  refine Sx.C.region ?_
  refine Sx.G.pure (.int .i64 1048576) (by kernel_rfl) (fun w => by kernel_rfl) ?_
  refine Sx.G.nil ?_
  refine Sx.E.next ?_
  refine Sx.C.seq ?_
  refine Sx.C.region ?_
  refine Sx.G.ld 39 (.tmp 2) b1 0 1 [.slice h0A0 x0.mem.length h0K0, .slice h0A1 x0.gs.length h0K1, .slice h0A2 x0.outs.length h0K2, .int .i64 x0.pd] [.slice h0A0 x0.mem.length h0K0, .slice h0A1 x0.gs.length h0K1, .slice h0A2 x0.outs.length h0K2, .int .i64 x0.pd] rfl (by kernel_rfl) (by kernel_rfl) rfl (by kernel_rfl) (by kernel_rfl) (by kernel_rfl) ?_
  refine Sx.G.pure (.int .i64 1048576) (by kernel_rfl) (fun w => by kernel_rfl) ?_
  refine Sx.G.call 18 #[.agg #[.slice h0A0 x0.mem.length h0K0, .slice h0A1 x0.gs.length h0K1, .slice h0A2 x0.outs.length h0K2, .int .i64 x0.pd], .int .i64 1048576] (by kernel_rfl) (fun w => by kernel_rfl) (fun w3 S => (Kit.ksz_Bare x0 _ 1048576 _ hw0 (by omega) (by omega) (St.old S h0R)).mono fun e w3' hp => ?_)
  obtain ⟨l3, rfl, hs0, hb⟩ := hp
  unfold Kit.Sz at hs0
  refine ⟨_, _, rfl, (S.call hb), ?_⟩
  clear S hb
  refine Sx.G.pure (.int .i64 l3) (by kernel_rfl) (fun w => by kernel_rfl) ?_
  refine Sx.G.nil ?_
  refine Sx.E.next ?_
  refine Sx.C.seq ?_
  refine Sx.C.seq ?_
  refine Sx.C.region ?_
  refine Sx.G.pure (.int .i64 l3) (by kernel_rfl) (fun w => by kernel_rfl) ?_
  refine Sx.G.pure (.bool (decide (l3 < 0))) (by kernel_rfl) (fun w => by kernel_rfl) ?_
  refine Sx.G.nil ?_
  refine Sx.E.next ?_
  cases hc4 : (decide (l3 < 0))
  · have hb4 := hc4
    replace hc4 := of_decide_eq_false hc4
    refine Sx.C.no (by kernel_rfl) (by kernel_rfl) ?_
    refine Sx.C.skip ?_
    refine Sx.E.next ?_
    refine Sx.C.seq ?_
    refine Sx.C.region ?_
    refine Sx.G.ld 39 (.tmp 3) b2 0 0 [.slice h1A0 x1.mem.length h1K0, .slice h1A1 x1.gs.length h1K1, .slice h1A2 x1.outs.length h1K2, .int .i64 x1.pd] [.slice h1A0 x1.mem.length h1K0, .slice h1A1 x1.gs.length h1K1, .slice h1A2 x1.outs.length h1K2, .int .i64 x1.pd] rfl (by kernel_rfl) (by kernel_rfl) rfl (by kernel_rfl) (by kernel_rfl) (by kernel_rfl) ?_
    refine Sx.G.pure (.int .i64 l3) (by kernel_rfl) (fun w => by kernel_rfl) ?_
    refine Sx.G.call 18 #[.agg #[.slice h1A0 x1.mem.length h1K0, .slice h1A1 x1.gs.length h1K1, .slice h1A2 x1.outs.length h1K2, .int .i64 x1.pd], .int .i64 l3] (by kernel_rfl) (fun w => by kernel_rfl) (fun w5 S => (Kit.ksz_Bare x1 _ l3 _ hw1 (by omega) (by omega) (St.old S h1R)).mono fun e w5' hp => ?_)
    obtain ⟨l5, rfl, hs1, hb⟩ := hp
    unfold Kit.Sz at hs1
    refine ⟨_, _, rfl, (S.call hb), ?_⟩
    clear S hb
    refine Sx.G.pure (.int .i64 l5) (by kernel_rfl) (fun w => by kernel_rfl) ?_
    refine Sx.G.nil ?_
    refine Sx.E.next ?_
    refine Sx.C.seq ?_
    refine Sx.C.seq ?_
    refine Sx.C.region ?_
    refine Sx.G.pure (.int .i64 l5) (by kernel_rfl) (fun w => by kernel_rfl) ?_
    refine Sx.G.pure (.bool (decide (l5 < 0))) (by kernel_rfl) (fun w => by kernel_rfl) ?_
    refine Sx.G.nil ?_
    refine Sx.E.next ?_
    cases hc6 : (decide (l5 < 0))
    · have hb6 := hc6
      replace hc6 := of_decide_eq_false hc6
      have hc0 := Kit.capz_Bare x0 (by omega)
      have hz0 := Kit.tcntz_Bare x0
      have hc1 := Kit.capz_Bare x1 (by omega)
      have hz1 := Kit.tcntz_Bare x1
      refine Sx.C.no (by kernel_rfl) (by kernel_rfl) ?_
      refine Sx.C.skip ?_
      refine Sx.E.next ?_
      refine Sx.C.seq ?_
      refine Sx.C.draw (.take 0 (.take 2 (.alone 1 (.alone 3 (.alone 4 (.take 5 .nil)))))) [vr b2 [.slice h1A0 x1.mem.length h1K0, .slice h1A1 x1.gs.length h1K1, .slice h1A2 x1.outs.length h1K2, .int .i64 x1.pd], vr b1 [.slice h0A0 x0.mem.length h0K0, .slice h0A1 x0.gs.length h0K1, .slice h0A2 x0.outs.length h0K2, .int .i64 x0.pd]] (fun w S => St.pick S [0, 1] _ rfl (by decide)) (by kernel_rfl) (by kernel_rfl) (by kernel_rfl) ?_
      refine Sx.GT.ld 39 (.tmp 2) b1 0 1 [.slice h0A0 x0.mem.length h0K0, .slice h0A1 x0.gs.length h0K1, .slice h0A2 x0.outs.length h0K2, .int .i64 x0.pd] [.slice h0A0 x0.mem.length h0K0, .slice h0A1 x0.gs.length h0K1, .slice h0A2 x0.outs.length h0K2, .int .i64 x0.pd] 0 (by rfl) (by rfl) (by kernel_rfl) (by kernel_rfl) (by rfl) (by kernel_rfl) (by kernel_rfl) (by kernel_rfl) ?_
      refine Sx.GT.ld 39 (.tmp 3) b2 0 0 [.slice h1A0 x1.mem.length h1K0, .slice h1A1 x1.gs.length h1K1, .slice h1A2 x1.outs.length h1K2, .int .i64 x1.pd] [.slice h1A0 x1.mem.length h1K0, .slice h1A1 x1.gs.length h1K1, .slice h1A2 x1.outs.length h1K2, .int .i64 x1.pd] 2 (by rfl) (by rfl) (by kernel_rfl) (by kernel_rfl) (by rfl) (by kernel_rfl) (by kernel_rfl) (by kernel_rfl) ?_
      refine Sx.GT.alone (Sx.Alone.call 20 #[.agg #[.slice h0A0 x0.mem.length h0K0, .slice h0A1 x0.gs.length h0K1, .slice h0A2 x0.outs.length h0K2, .int .i64 x0.pd]] (by rfl) (by kernel_rfl) (fun w => by kernel_rfl) (fun w7 S => (Kit.kto_Bare x0 _ _ hc0 (St.old S h0R)).mono fun e w7' hp => ?_))
      obtain ⟨cs, F, rfl, ho, hF, hb⟩ := hp
      obtain ⟨P7_0, P7_1, P7_2, rfl, f7_0, f7_1, f7_2⟩ := wB_rd (wB.reads ho)
      obtain ⟨A7_0, c7_0, e7_0, -⟩ := lst_val f7_0
      subst e7_0
      obtain ⟨A7_1, c7_1, e7_1, -⟩ := lst_val f7_1
      subst e7_1
      obtain ⟨A7_2, c7_2, e7_2, -⟩ := lst_val f7_2
      subst e7_2
      generalize F = F7 at ho hF
      refine ⟨_, _, rfl, (St.got S hb ho hF), (fun w S => St.pick S [1, 2] _ rfl (by decide)), ?_⟩
      clear S hb ho hF f7_0 f7_1 f7_2
      refine Sx.GT.alone (Sx.Alone.call 20 #[.agg #[.slice h1A0 x1.mem.length h1K0, .slice h1A1 x1.gs.length h1K1, .slice h1A2 x1.outs.length h1K2, .int .i64 x1.pd]] (by rfl) (by kernel_rfl) (fun w => by kernel_rfl) (fun w8 S => (Kit.kto_Bare x1 _ _ hc1 (St.old S h1R)).mono fun e w8' hp => ?_))
      obtain ⟨cs, F, rfl, ho, hF, hb⟩ := hp
      obtain ⟨P8_0, P8_1, P8_2, rfl, f8_0, f8_1, f8_2⟩ := wB_rd (wB.reads ho)
      obtain ⟨A8_0, c8_0, e8_0, -⟩ := lst_val f8_0
      subst e8_0
      obtain ⟨A8_1, c8_1, e8_1, -⟩ := lst_val f8_1
      subst e8_1
      obtain ⟨A8_2, c8_2, e8_2, -⟩ := lst_val f8_2
      subst e8_2
      generalize F = F8 at ho hF
      refine ⟨_, _, rfl, (St.got S hb ho hF), (fun w S => St.pick S [2, 3] _ rfl (by decide)), ?_⟩
      clear S hb ho hF f8_0 f8_1 f8_2
      refine Sx.GT.alone (Sx.Alone.plain 33 #[.agg #[.slice A7_0 x0.mem.length c7_0, .slice A7_1 x0.gs.length c7_1, .slice A7_2 x0.outs.length c7_2, .int .i64 x0.pd], .agg #[.slice A8_0 x1.mem.length c8_0, .slice A8_1 x1.gs.length c8_1, .slice A8_2 x1.outs.length c8_2, .int .i64 x1.pd]] (.bool (eqv x0 x1)) (by rfl) (by kernel_rfl) (fun w => by kernel_rfl) (fun w S => by exact specx_bsame x0 x1 _ _ _ hc0 hc1 (St.reads S 1 rfl) (St.reads S 0 rfl)) (fun w S => St.pick S [2, 3] _ rfl (by decide)) ?_)
      refine Sx.GT.pure (.bool (eqv x0 x1)) 5 (by rfl) (by kernel_rfl) (fun w => by kernel_rfl) ?_
      refine Sx.GT.nil ?_
      refine Sx.E.next ?_
      refine Sx.C.seq ?_
      refine Sx.C.region ?_
      refine Sx.G.ld 39 (.tmp 2) b1 0 3 [.slice h0A0 x0.mem.length h0K0, .slice h0A1 x0.gs.length h0K1, .slice h0A2 x0.outs.length h0K2, .int .i64 x0.pd] [.slice h0A0 x0.mem.length h0K0, .slice h0A1 x0.gs.length h0K1, .slice h0A2 x0.outs.length h0K2, .int .i64 x0.pd] rfl (by kernel_rfl) (by kernel_rfl) rfl (by kernel_rfl) (by kernel_rfl) (by kernel_rfl) ?_
      refine Sx.G.call 20 #[.agg #[.slice h0A0 x0.mem.length h0K0, .slice h0A1 x0.gs.length h0K1, .slice h0A2 x0.outs.length h0K2, .int .i64 x0.pd]] (by kernel_rfl) (fun w => by kernel_rfl) (fun w9 S => (Kit.kto_Bare x0 _ _ hc0 (St.old S h0R)).mono fun e w9' hp => ?_)
      obtain ⟨cs, F, rfl, ho, hF, hb⟩ := hp
      obtain ⟨P9_0, P9_1, P9_2, rfl, f9_0, f9_1, f9_2⟩ := wB_rd (wB.reads ho)
      obtain ⟨A9_0, c9_0, e9_0, -⟩ := lst_val f9_0
      subst e9_0
      obtain ⟨A9_1, c9_1, e9_1, -⟩ := lst_val f9_1
      subst e9_1
      obtain ⟨A9_2, c9_2, e9_2, -⟩ := lst_val f9_2
      subst e9_2
      generalize F = F9 at ho hF
      refine ⟨_, _, rfl, (St.got S hb ho hF), ?_⟩
      clear S hb ho hF f9_0 f9_1 f9_2
      refine Sx.G.alloc 28 (.agg #[.slice none 0 0, .slice none 0 0, .slice none 0 0, .int .i64 0]) [.slice none 0 0, .slice none 0 0, .slice none 0 0, .int .i64 0] rfl (by kernel_rfl) (fun w => by kernel_rfl) (by kernel_rfl) (fun b10 => ?_)
      refine Sx.G.sto 28 (.tmp 7) (.tmp 26) b10 0 0 [.slice none 0 0, .slice none 0 0, .slice none 0 0, .int .i64 0] [.slice A9_0 x0.mem.length c9_0, .slice A9_1 x0.gs.length c9_1, .slice A9_2 x0.outs.length c9_2, .int .i64 x0.pd] [.slice A9_0 x0.mem.length c9_0, .slice A9_1 x0.gs.length c9_1, .slice A9_2 x0.outs.length c9_2, .int .i64 x0.pd] [vr b10 [.slice A9_0 x0.mem.length c9_0, .slice A9_1 x0.gs.length c9_1, .slice A9_2 x0.outs.length c9_2, .int .i64 x0.pd], ow wB w9.heap.size w9'.heap.size x0 [.slice A9_0 x0.mem.length c9_0, .slice A9_1 x0.gs.length c9_1, .slice A9_2 x0.outs.length c9_2, .int .i64 x0.pd] F9, ow wB w8.heap.size w8'.heap.size x1 [.slice A8_0 x1.mem.length c8_0, .slice A8_1 x1.gs.length c8_1, .slice A8_2 x1.outs.length c8_2, .int .i64 x1.pd] F8, ow wB w7.heap.size w7'.heap.size x0 [.slice A7_0 x0.mem.length c7_0, .slice A7_1 x0.gs.length c7_1, .slice A7_2 x0.outs.length c7_2, .int .i64 x0.pd] F7, vr b2 [.slice h1A0 x1.mem.length h1K0, .slice h1A1 x1.gs.length h1K1, .slice h1A2 x1.outs.length h1K2, .int .i64 x1.pd], vr b1 [.slice h0A0 x0.mem.length h0K0, .slice h0A1 x0.gs.length h0K1, .slice h0A2 x0.outs.length h0K2, .int .i64 x0.pd]] rfl (by kernel_rfl) (by kernel_rfl) (by kernel_rfl) rfl (by kernel_rfl) rfl (by kernel_rfl) (by kernel_rfl) (by kernel_rfl) ?_
      refine Sx.G.nil ?_
      refine Sx.E.next ?_
      refine Sx.C.seq ?_
      refine Sx.C.region ?_
      refine Sx.G.ld 39 (.tmp 3) b2 0 4 [.slice h1A0 x1.mem.length h1K0, .slice h1A1 x1.gs.length h1K1, .slice h1A2 x1.outs.length h1K2, .int .i64 x1.pd] [.slice h1A0 x1.mem.length h1K0, .slice h1A1 x1.gs.length h1K1, .slice h1A2 x1.outs.length h1K2, .int .i64 x1.pd] rfl (by kernel_rfl) (by kernel_rfl) rfl (by kernel_rfl) (by kernel_rfl) (by kernel_rfl) ?_
      refine Sx.G.call 20 #[.agg #[.slice h1A0 x1.mem.length h1K0, .slice h1A1 x1.gs.length h1K1, .slice h1A2 x1.outs.length h1K2, .int .i64 x1.pd]] (by kernel_rfl) (fun w => by kernel_rfl) (fun w11 S => (Kit.kto_Bare x1 _ _ hc1 (St.old S h1R)).mono fun e w11' hp => ?_)
      obtain ⟨cs, F, rfl, ho, hF, hb⟩ := hp
      obtain ⟨P11_0, P11_1, P11_2, rfl, f11_0, f11_1, f11_2⟩ := wB_rd (wB.reads ho)
      obtain ⟨A11_0, c11_0, e11_0, -⟩ := lst_val f11_0
      subst e11_0
      obtain ⟨A11_1, c11_1, e11_1, -⟩ := lst_val f11_1
      subst e11_1
      obtain ⟨A11_2, c11_2, e11_2, -⟩ := lst_val f11_2
      subst e11_2
      generalize F = F11 at ho hF
      refine ⟨_, _, rfl, (St.got S hb ho hF), ?_⟩
      clear S hb ho hF f11_0 f11_1 f11_2
      refine Sx.G.alloc 28 (.agg #[.slice none 0 0, .slice none 0 0, .slice none 0 0, .int .i64 0]) [.slice none 0 0, .slice none 0 0, .slice none 0 0, .int .i64 0] rfl (by kernel_rfl) (fun w => by kernel_rfl) (by kernel_rfl) (fun b12 => ?_)
      refine Sx.G.sto 28 (.tmp 8) (.tmp 28) b12 0 0 [.slice none 0 0, .slice none 0 0, .slice none 0 0, .int .i64 0] [.slice A11_0 x1.mem.length c11_0, .slice A11_1 x1.gs.length c11_1, .slice A11_2 x1.outs.length c11_2, .int .i64 x1.pd] [.slice A11_0 x1.mem.length c11_0, .slice A11_1 x1.gs.length c11_1, .slice A11_2 x1.outs.length c11_2, .int .i64 x1.pd] [vr b12 [.slice A11_0 x1.mem.length c11_0, .slice A11_1 x1.gs.length c11_1, .slice A11_2 x1.outs.length c11_2, .int .i64 x1.pd], ow wB w11.heap.size w11'.heap.size x1 [.slice A11_0 x1.mem.length c11_0, .slice A11_1 x1.gs.length c11_1, .slice A11_2 x1.outs.length c11_2, .int .i64 x1.pd] F11, vr b10 [.slice A9_0 x0.mem.length c9_0, .slice A9_1 x0.gs.length c9_1, .slice A9_2 x0.outs.length c9_2, .int .i64 x0.pd], ow wB w9.heap.size w9'.heap.size x0 [.slice A9_0 x0.mem.length c9_0, .slice A9_1 x0.gs.length c9_1, .slice A9_2 x0.outs.length c9_2, .int .i64 x0.pd] F9, ow wB w8.heap.size w8'.heap.size x1 [.slice A8_0 x1.mem.length c8_0, .slice A8_1 x1.gs.length c8_1, .slice A8_2 x1.outs.length c8_2, .int .i64 x1.pd] F8, ow wB w7.heap.size w7'.heap.size x0 [.slice A7_0 x0.mem.length c7_0, .slice A7_1 x0.gs.length c7_1, .slice A7_2 x0.outs.length c7_2, .int .i64 x0.pd] F7, vr b2 [.slice h1A0 x1.mem.length h1K0, .slice h1A1 x1.gs.length h1K1, .slice h1A2 x1.outs.length h1K2, .int .i64 x1.pd], vr b1 [.slice h0A0 x0.mem.length h0K0, .slice h0A1 x0.gs.length h0K1, .slice h0A2 x0.outs.length h0K2, .int .i64 x0.pd]] rfl (by kernel_rfl) (by kernel_rfl) (by kernel_rfl) rfl (by kernel_rfl) rfl (by kernel_rfl) (by kernel_rfl) (by kernel_rfl) ?_
      refine Sx.G.nil ?_
      refine Sx.E.next ?_
      refine Sx.C.seq ?_
      refine Sx.C.region ?_
      refine Sx.G.ld 28 (.tmp 7) b10 0 2 [.slice A9_0 x0.mem.length c9_0, .slice A9_1 x0.gs.length c9_1, .slice A9_2 x0.outs.length c9_2, .int .i64 x0.pd] [.slice A9_0 x0.mem.length c9_0, .slice A9_1 x0.gs.length c9_1, .slice A9_2 x0.outs.length c9_2, .int .i64 x0.pd] rfl (by kernel_rfl) (by kernel_rfl) rfl (by kernel_rfl) (by kernel_rfl) (by kernel_rfl) ?_
      refine Sx.G.ld 28 (.tmp 8) b12 0 0 [.slice A11_0 x1.mem.length c11_0, .slice A11_1 x1.gs.length c11_1, .slice A11_2 x1.outs.length c11_2, .int .i64 x1.pd] [.slice A11_0 x1.mem.length c11_0, .slice A11_1 x1.gs.length c11_1, .slice A11_2 x1.outs.length c11_2, .int .i64 x1.pd] rfl (by kernel_rfl) (by kernel_rfl) rfl (by kernel_rfl) (by kernel_rfl) (by kernel_rfl) ?_
      refine Sx.G.plain 34 #[.agg #[.slice A9_0 x0.mem.length c9_0, .slice A9_1 x0.gs.length c9_1, .slice A9_2 x0.outs.length c9_2, .int .i64 x0.pd], .agg #[.slice A11_0 x1.mem.length c11_0, .slice A11_1 x1.gs.length c11_1, .slice A11_2 x1.outs.length c11_2, .int .i64 x1.pd]] (.bool (eqv x0 x1)) (by kernel_rfl) (fun w => by kernel_rfl) (fun w S => by exact impl_bsame x0 x1 _ _ _ hw0 hw1 hc0 hc1 (St.reads S 3 rfl) (St.reads S 1 rfl)) ?_
      refine Sx.G.pure (.bool (eqv x0 x1)) (by kernel_rfl) (fun w => by kernel_rfl) ?_
      refine Sx.G.nil ?_
      refine Sx.E.next ?_
      refine Sx.C.seq ?_
      refine Sx.C.seq ?_
      refine Sx.C.region ?_
      refine Sx.G.pure (.bool (eqv x0 x1)) (by kernel_rfl) (fun w => by kernel_rfl) ?_
      refine Sx.G.pure (.bool (eqv x0 x1)) (by kernel_rfl) (fun w => by kernel_rfl) ?_
      refine Sx.G.pureq (.bool ((eqv x0 x1) != (eqv x0 x1))) (.bool false) (by kernel_rfl) (fun w => by kernel_rfl) (congrArg Value.bool (bne_self_eq_false _)) ?_
      refine Sx.G.nil ?_
      refine Sx.E.next ?_
      refine Sx.C.no (by kernel_rfl) (by kernel_rfl) ?_
      refine Sx.C.skip ?_
      refine Sx.E.next ?_
      refine Sx.C.seq ?_
      refine Sx.C.seq ?_
      refine Sx.C.draw (.take 0 (.take 1 (.alone 2 (.alone 3 (.take 4 .nil))))) [vr b10 [.slice A9_0 x0.mem.length c9_0, .slice A9_1 x0.gs.length c9_1, .slice A9_2 x0.outs.length c9_2, .int .i64 x0.pd], vr b1 [.slice h0A0 x0.mem.length h0K0, .slice h0A1 x0.gs.length h0K1, .slice h0A2 x0.outs.length h0K2, .int .i64 x0.pd]] (fun w S => St.pick S [2, 7] _ rfl (by decide)) (by kernel_rfl) (by kernel_rfl) (by kernel_rfl) ?_
      refine Sx.GT.ld 28 (.tmp 7) b10 0 0 [.slice A9_0 x0.mem.length c9_0, .slice A9_1 x0.gs.length c9_1, .slice A9_2 x0.outs.length c9_2, .int .i64 x0.pd] [.slice A9_0 x0.mem.length c9_0, .slice A9_1 x0.gs.length c9_1, .slice A9_2 x0.outs.length c9_2, .int .i64 x0.pd] 0 (by rfl) (by rfl) (by kernel_rfl) (by kernel_rfl) (by rfl) (by kernel_rfl) (by kernel_rfl) (by kernel_rfl) ?_
      refine Sx.GT.ld 39 (.tmp 2) b1 0 1 [.slice h0A0 x0.mem.length h0K0, .slice h0A1 x0.gs.length h0K1, .slice h0A2 x0.outs.length h0K2, .int .i64 x0.pd] [.slice h0A0 x0.mem.length h0K0, .slice h0A1 x0.gs.length h0K1, .slice h0A2 x0.outs.length h0K2, .int .i64 x0.pd] 1 (by rfl) (by rfl) (by kernel_rfl) (by kernel_rfl) (by rfl) (by kernel_rfl) (by kernel_rfl) (by kernel_rfl) ?_
      refine Sx.GT.alone (Sx.Alone.call 20 #[.agg #[.slice h0A0 x0.mem.length h0K0, .slice h0A1 x0.gs.length h0K1, .slice h0A2 x0.outs.length h0K2, .int .i64 x0.pd]] (by rfl) (by kernel_rfl) (fun w => by kernel_rfl) (fun w13 S => (Kit.kto_Bare x0 _ _ hc0 (St.old S h0R)).mono fun e w13' hp => ?_))
      obtain ⟨cs, F, rfl, ho, hF, hb⟩ := hp
      obtain ⟨P13_0, P13_1, P13_2, rfl, f13_0, f13_1, f13_2⟩ := wB_rd (wB.reads ho)
      obtain ⟨A13_0, c13_0, e13_0, -⟩ := lst_val f13_0
      subst e13_0
      obtain ⟨A13_1, c13_1, e13_1, -⟩ := lst_val f13_1
      subst e13_1
      obtain ⟨A13_2, c13_2, e13_2, -⟩ := lst_val f13_2
      subst e13_2
      generalize F = F13 at ho hF
      refine ⟨_, _, rfl, (St.got S hb ho hF), (fun w S => St.pick S [3, 8] _ rfl (by decide)), ?_⟩
      clear S hb ho hF f13_0 f13_1 f13_2
      refine Sx.GT.alone (Sx.Alone.plain 13 #[.agg #[.slice A9_0 x0.mem.length c9_0, .slice A9_1 x0.gs.length c9_1, .slice A9_2 x0.outs.length c9_2, .int .i64 x0.pd], .agg #[.slice A13_0 x0.mem.length c13_0, .slice A13_1 x0.gs.length c13_1, .slice A13_2 x0.outs.length c13_2, .int .i64 x0.pd]] (.bool true) (by rfl) (by kernel_rfl) (fun w => by kernel_rfl) (fun w S => by exact Kit.keq_Bare x0 _ _ _ hc0 (St.reads S 4 rfl) (St.reads S 0 rfl)) (fun w S => St.pick S [3, 8] _ rfl (by decide)) ?_)
      refine Sx.GT.pure (.bool false) 4 (by rfl) (by kernel_rfl) (fun w => by kernel_rfl) ?_
      refine Sx.GT.nil ?_
      refine Sx.E.next ?_
      refine Sx.C.no (by kernel_rfl) (by kernel_rfl) ?_
      refine Sx.C.skip ?_
      refine Sx.E.next ?_
      refine Sx.C.seq ?_
      refine Sx.C.seq ?_
      refine Sx.C.draw (.take 0 (.take 1 (.alone 2 (.alone 3 (.take 4 .nil))))) [vr b12 [.slice A11_0 x1.mem.length c11_0, .slice A11_1 x1.gs.length c11_1, .slice A11_2 x1.outs.length c11_2, .int .i64 x1.pd], vr b2 [.slice h1A0 x1.mem.length h1K0, .slice h1A1 x1.gs.length h1K1, .slice h1A2 x1.outs.length h1K2, .int .i64 x1.pd]] (fun w S => St.pick S [1, 7] _ rfl (by decide)) (by kernel_rfl) (by kernel_rfl) (by kernel_rfl) ?_
      refine Sx.GT.ld 28 (.tmp 8) b12 0 0 [.slice A11_0 x1.mem.length c11_0, .slice A11_1 x1.gs.length c11_1, .slice A11_2 x1.outs.length c11_2, .int .i64 x1.pd] [.slice A11_0 x1.mem.length c11_0, .slice A11_1 x1.gs.length c11_1, .slice A11_2 x1.outs.length c11_2, .int .i64 x1.pd] 0 (by rfl) (by rfl) (by kernel_rfl) (by kernel_rfl) (by rfl) (by kernel_rfl) (by kernel_rfl) (by kernel_rfl) ?_
      refine Sx.GT.ld 39 (.tmp 3) b2 0 1 [.slice h1A0 x1.mem.length h1K0, .slice h1A1 x1.gs.length h1K1, .slice h1A2 x1.outs.length h1K2, .int .i64 x1.pd] [.slice h1A0 x1.mem.length h1K0, .slice h1A1 x1.gs.length h1K1, .slice h1A2 x1.outs.length h1K2, .int .i64 x1.pd] 1 (by rfl) (by rfl) (by kernel_rfl) (by kernel_rfl) (by rfl) (by kernel_rfl) (by kernel_rfl) (by kernel_rfl) ?_
      refine Sx.GT.alone (Sx.Alone.call 20 #[.agg #[.slice h1A0 x1.mem.length h1K0, .slice h1A1 x1.gs.length h1K1, .slice h1A2 x1.outs.length h1K2, .int .i64 x1.pd]] (by rfl) (by kernel_rfl) (fun w => by kernel_rfl) (fun w14 S => (Kit.kto_Bare x1 _ _ hc1 (St.old S h1R)).mono fun e w14' hp => ?_))
      obtain ⟨cs, F, rfl, ho, hF, hb⟩ := hp
      obtain ⟨P14_0, P14_1, P14_2, rfl, f14_0, f14_1, f14_2⟩ := wB_rd (wB.reads ho)
      obtain ⟨A14_0, c14_0, e14_0, -⟩ := lst_val f14_0
      subst e14_0
      obtain ⟨A14_1, c14_1, e14_1, -⟩ := lst_val f14_1
      subst e14_1
      obtain ⟨A14_2, c14_2, e14_2, -⟩ := lst_val f14_2
      subst e14_2
      generalize F = F14 at ho hF
      refine ⟨_, _, rfl, (St.got S hb ho hF), (fun w S => St.pick S [2, 8] _ rfl (by decide)), ?_⟩
      clear S hb ho hF f14_0 f14_1 f14_2
      refine Sx.GT.alone (Sx.Alone.plain 13 #[.agg #[.slice A11_0 x1.mem.length c11_0, .slice A11_1 x1.gs.length c11_1, .slice A11_2 x1.outs.length c11_2, .int .i64 x1.pd], .agg #[.slice A14_0 x1.mem.length c14_0, .slice A14_1 x1.gs.length c14_1, .slice A14_2 x1.outs.length c14_2, .int .i64 x1.pd]] (.bool true) (by rfl) (by kernel_rfl) (fun w => by kernel_rfl) (fun w S => by exact Kit.keq_Bare x1 _ _ _ hc1 (St.reads S 3 rfl) (St.reads S 0 rfl)) (fun w S => St.pick S [2, 8] _ rfl (by decide)) ?_)
      refine Sx.GT.pure (.bool false) 4 (by rfl) (by kernel_rfl) (fun w => by kernel_rfl) ?_
      refine Sx.GT.nil ?_
      refine Sx.E.next ?_
      refine Sx.C.no (by kernel_rfl) (by kernel_rfl) ?_
      refine Sx.C.skip ?_
      refine Sx.E.next ?_
      refine Sx.C.seq ?_
      refine Sx.C.region ?_
      refine Sx.G.pure (.bool true) (by kernel_rfl) (fun w => by kernel_rfl) ?_
      refine Sx.G.nil ?_
      refine Sx.E.next ?_
      refine Sx.C.ret ?_
      refine Sx.E.ret1 (.bool true) rfl (by kernel_rfl) (fun w S => ?_)
      exact ⟨rfl, S.below⟩
    · have hb6 := hc6
      replace hc6 := of_decide_eq_true hc6
      refine Sx.C.yes (by kernel_rfl) (by kernel_rfl) ?_
      refine Sx.C.seq ?_
      refine Sx.C.region ?_
      refine Sx.G.pure (.bool true) (by kernel_rfl) (fun w => by kernel_rfl) ?_
      refine Sx.G.nil ?_
      refine Sx.E.next ?_
      refine Sx.C.ret ?_
      refine Sx.E.then_ret ?_
      refine Sx.E.ret1 (.bool true) rfl (by kernel_rfl) (fun w S => ?_)
      exact ⟨rfl, S.below⟩
  · have hb4 := hc4
    replace hc4 := of_decide_eq_true hc4
    refine Sx.C.yes (by kernel_rfl) (by kernel_rfl) ?_
    refine Sx.C.seq ?_
    refine Sx.C.region ?_
    refine Sx.G.pure (.bool true) (by kernel_rfl) (fun w => by kernel_rfl) ?_
    refine Sx.G.nil ?_
    refine Sx.E.next ?_
    refine Sx.C.ret ?_
    refine Sx.E.then_ret ?_
    refine Sx.E.ret1 (.bool true) rfl (by kernel_rfl) (fun w S => ?_)
    exact ⟨rfl, S.below⟩
set_option maxRecDepth 100000 in
theorem lifted (os : Os) (started : os.Started) (H : Type) (enc : TypeId × Value → H) :
    ReturnsInHanded {} Try.checked os 8 .any (Rows.fnExactSameBareSpec.pre6 enc Try.prog Try.f8 Rows.fnExactSameBareRow.domain false) (Rows.fnExactSameBareSpec.post enc Try.prog Try.f8 false true false false) := by
  refine returnsInHanded_of_change (C := Try.checked) Base.own started (by kernel_rfl) Try.func8
    (ChangeSpec.witness6 (enc := enc) (C := Try.checked) false ⟨#[], #[.agg #[.slice none 0 0, .slice none 0 0, .slice none 0 0, .int .i64 0], .agg #[.slice none 0 0, .slice none 0 0, .slice none 0 0, .int .i64 0]], []⟩ 8 (by kernel_rfl) (by kernel_rfl) (by kernel_rfl) (by kernel_rfl)) ?_
  intro W base args ds gs before hval0 hW hcnd _
  have hval : ∀ (j : Nat) t v, Try.f8.params[j]? = some t → args[j]? = some v → Value.okWide Try.prog W .any base t v := hval0
  have hW' := hW
  obtain ⟨p, q, hA0, hV, rfl, hfz, hnd⟩ := hW
  have hA : DataW.TrodAll enc Try.prog W 0 (fun _ => true) true Try.f8.params.toList args.toList ds p := hA0
  have hA1 := hA
  rw [Try.params8] at hA hval
  obtain ⟨v0, vs0, d0, ds0, p0, q0, hargs, rfl, rfl, h0, r0⟩ := trodAll_cons hA
  obtain ⟨v1, vs1, d1, ds1, p1, q1, rfl, rfl, rfl, h1, r1⟩ := trodAll_cons r0
  obtain ⟨rfl, rfl, rfl⟩ := trodAll_nil r1
  obtain rfl : args = #[v0, v1] := by cases args; simp_all
  obtain ⟨rfl, rfl⟩ := trodVars_none hV
  obtain ⟨x0, cs0, rfl, hw0, h0'⟩ := Kit.open_Bare (hval 0 39 v0 rfl rfl) h0
  obtain ⟨x1, cs1, rfl, hw1, h1'⟩ := Kit.open_Bare (hval 1 39 v1 rfl rfl) h1
  clear hA0 hval0
  rw [List.append_nil] at hW'
  refine (walk W x0 cs0 x1 cs1 hw0 h0' hw1 h1').mono fun e W' ⟨he, hg⟩ => ?_
  subst he
  exact ⟨_, rfl, Mem.post_args Kit.laid (by kernel_rfl) rfl rfl rfl hW' hA1 hg (fun _ _ _ => (trodAll_cons_mk (shut_bool Try.underlying4 _) trodAll_mk0)) (ok_one (by kernel_rfl) rfl (okWide_bool_mk Try.underlying4 _))⟩
theorem over : Rows.fnExactSameBareRow.holds Try.pinned (OpenSpec.ofChange Rows.fnExactSameBareSpec) :=
  OpenClaim.holds_of_wide 8 Try.f8 rfl rfl rfl rfl rfl rfl rfl ⟨rfl, rfl, rfl, rfl, rfl⟩ rfl rfl rfl rfl rfl (by kernel_rfl) Try.func8 (by kernel_rfl)
    (of_decide_eq_true (by kernel_rfl)) (by unfold Func.isWrapper; first | (rw [if_pos (by decide +kernel)]; kernel_rfl) | (rw [if_neg (by decide +kernel)]; exact ⟨rfl, rfl⟩))
    (fun os started H enc _ => lifted os started H enc)
/-- The given statement. -/
theorem proved : Rows.FnExactSameBareSaid :=
  over
#print axioms proved
end Go.Proofs.Ytldgadmpclgfhaa.fnExactSameBare
