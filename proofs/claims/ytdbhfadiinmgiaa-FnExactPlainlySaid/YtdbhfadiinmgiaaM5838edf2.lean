/-
  Texts that a law wants, merged: WantX GuestB SxRes SxCur SxM. No condition.
-/
import Derived.Test.YtdbhfadiinmgiaaMd97948b0
import Derived.Test.YtdbhfadiinmgiaaIns
import Derived.Test.YtdbhfadiinmgiaaDraw
namespace Go.Proofs.Ytdbhfadiinmgiaa.Guests
set_option maxRecDepth 100000
open Go.ChangeShapes Go.WideShapes Go.ChangeAt Go.RowKit
open Go.Proofs.Ytdbhfadiinmgiaa.Base Go.Proofs.Ytdbhfadiinmgiaa.Mem Go.Proofs.Ytdbhfadiinmgiaa.Data Go.Proofs.Ytdbhfadiinmgiaa.Slots Go.Proofs.Ytdbhfadiinmgiaa.Ints Go.Proofs.Ytdbhfadiinmgiaa.Ctls Go.Proofs.Ytdbhfadiinmgiaa.Exits Go.Proofs.Ytdbhfadiinmgiaa.Stt Go.Proofs.Ytdbhfadiinmgiaa.Irqs Go.Proofs.Ytdbhfadiinmgiaa.Inss
set_option linter.unusedVariables false
set_option linter.unusedSimpArgs false
/-- What chapter 16 computes. -/
def opWant (o : Int) : Int := if (o == 3) = true then 3 else if (o == 4) = true then 4 else if (o == 5) = true then 5 else if (o == 6) = true then 6 else if (o == 7) = true then 7 else 2
def wantG (g : gT) : Int := if canRun g = true then (if takesI g = true then 1 else opWant (insAt g.prog g.pc).1) else 0
def movedG (g : gT) : gT := { g with pc := if decide (g.pc ≥ 12) = true then 12 else IntKind.i64.wrap (g.pc + 1) }
def plainG (g : gT) : gT :=
  if (wantG g != 2) = true then g
  else if (inB g.a 0 99 && inB (insAt g.prog g.pc).2 0 99 && ((insAt g.prog g.pc).1 == 1)) = true then movedG { g with a := (insAt g.prog g.pc).2 }
  else if (inB g.a 0 99 && inB (insAt g.prog g.pc).2 0 99 && ((insAt g.prog g.pc).1 == 2)) = true then movedG { g with a := (IntKind.i64.wrap (g.a + (insAt g.prog g.pc).2)).tmod 100 }
  else if (inB g.a 0 99 && inB (insAt g.prog g.pc).2 0 99 && ((insAt g.prog g.pc).1 == 8) && (g.a == 0)) = true then { g with pc := (insAt g.prog g.pc).2 }
  else movedG g
def loadedG (g : gT) (v : Int) : gT := movedG (sawG { g with a := v } v)
def heldG (g : gT) : gT := movedG { g with hl := true }
def addrG (g : gT) : Int := if ((wantG g != 3) && (wantG g != 4)) = true then -1 else (insAt g.prog g.pc).2

set_option maxRecDepth 100000 in
set_option maxHeartbeats 4000000 in
theorem specx_want (g : gT) (cs : List Value) (w : World) (hc : rG.cap g) (h : rG.rd w 0 w.heap.size g cs) : Calls Try.prog 28 #[.agg cs.toArray] w (fun e w' => e = .returned (.int .i64 (wantG g)) ∧ Below w.heap.size w w') := by
  obtain ⟨q0, q1, q2, q3⟩ := rG_len hc
  have hr := h
  obtain ⟨P0, P1, P2, P3, rfl, h0, h1, h2, h3⟩ := rG_rd h
  obtain ⟨PA0, Pc0, e0, hP0⟩ := lst_val h0
  subst e0
  obtain ⟨PA1, Pc1, e1, hP1⟩ := lst_val h1
  subst e1
  obtain ⟨PA2, Pc2, e2, hP2⟩ := lst_val h2
  subst e2
  obtain ⟨PA3, Pc3, e3, hP3⟩ := lst_val h3
  subst e3
  refine Sx.enter (args := [.agg #[.slice PA0 g.prog.length Pc0, .int .i64 g.a, .int .i64 g.pc, .slice PA1 g.wr.length Pc1, .slice PA2 g.lv.length Pc2, .int .i64 g.t.1, .int .i64 g.t.2.1, .bool g.t.2.2, .int .i64 g.pd, .int .i64 g.x.1, .int .i64 g.x.2.1, .bool g.x.2.2.1, .int .i64 g.x.2.2.2, .bool g.hl, .slice PA3 g.seen.length Pc3]]) Try.func28 rfl Try.ntmps28 rfl ?_
  refine Sx.C.seq ?_
  refine Sx.C.region ?_
  refine Sx.G.box 32 (.tmp 0) [.slice PA0 g.prog.length Pc0, .int .i64 g.a, .int .i64 g.pc, .slice PA1 g.wr.length Pc1, .slice PA2 g.lv.length Pc2, .int .i64 g.t.1, .int .i64 g.t.2.1, .bool g.t.2.2, .int .i64 g.pd, .int .i64 g.x.1, .int .i64 g.x.2.1, .bool g.x.2.2.1, .int .i64 g.x.2.2.2, .bool g.hl, .slice PA3 g.seen.length Pc3] rfl (by kernel_rfl) (by kernel_rfl) (fun b1 => ?_)
  refine Sx.G.pure (.int .i64 0) (by kernel_rfl) (fun w => by kernel_rfl) ?_
  refine Sx.G.nil ?_
  refine Sx.E.next ?_
  refine Sx.C.seq ?_
  refine Sx.C.seq ?_
  refine Sx.C.region ?_
  refine Sx.G.ld 32 (.tmp 1) b1 0 0 [.slice PA0 g.prog.length Pc0, .int .i64 g.a, .int .i64 g.pc, .slice PA1 g.wr.length Pc1, .slice PA2 g.lv.length Pc2, .int .i64 g.t.1, .int .i64 g.t.2.1, .bool g.t.2.2, .int .i64 g.pd, .int .i64 g.x.1, .int .i64 g.x.2.1, .bool g.x.2.2.1, .int .i64 g.x.2.2.2, .bool g.hl, .slice PA3 g.seen.length Pc3] [.slice PA0 g.prog.length Pc0, .int .i64 g.a, .int .i64 g.pc, .slice PA1 g.wr.length Pc1, .slice PA2 g.lv.length Pc2, .int .i64 g.t.1, .int .i64 g.t.2.1, .bool g.t.2.2, .int .i64 g.pd, .int .i64 g.x.1, .int .i64 g.x.2.1, .bool g.x.2.2.1, .int .i64 g.x.2.2.2, .bool g.hl, .slice PA3 g.seen.length Pc3] rfl (by kernel_rfl) (by kernel_rfl) rfl (by kernel_rfl) (by kernel_rfl) (by kernel_rfl) ?_
  refine Sx.G.plain 32 #[.agg #[.slice PA0 g.prog.length Pc0, .int .i64 g.a, .int .i64 g.pc, .slice PA1 g.wr.length Pc1, .slice PA2 g.lv.length Pc2, .int .i64 g.t.1, .int .i64 g.t.2.1, .bool g.t.2.2, .int .i64 g.pd, .int .i64 g.x.1, .int .i64 g.x.2.1, .bool g.x.2.2.1, .int .i64 g.x.2.2.2, .bool g.hl, .slice PA3 g.seen.length Pc3]] (.bool (canRun g)) (by kernel_rfl) (fun w => by kernel_rfl) (fun w S => by exact spec_canRun g (.slice PA0 g.prog.length Pc0) (.slice PA1 g.wr.length Pc1) (.slice PA2 g.lv.length Pc2) (.slice PA3 g.seen.length Pc3) _) ?_
  refine Sx.G.pure (.bool (!(canRun g))) (by kernel_rfl) (fun w => by kernel_rfl) ?_
  refine Sx.G.nil ?_
  refine Sx.E.next ?_
  cases hc2 : (canRun g)
  · have hb2 := hc2
    refine Sx.C.yes (by kernel_rfl) (by kernel_rfl) ?_
    refine Sx.C.seq ?_
    refine Sx.C.region ?_
    refine Sx.G.pure (.int .i64 0) (by kernel_rfl) (fun w => by kernel_rfl) ?_
    refine Sx.G.nil ?_
    refine Sx.E.next ?_
    refine Sx.C.ret ?_
    refine Sx.E.then_ret ?_
    refine Sx.E.ret1 (.int .i64 0) rfl (by kernel_rfl) (fun w S => ?_)
    exact ⟨congrArg Ending.returned (congrArg (Value.int .i64) (by simp [wantG, opWant, hb2])), S.below⟩
  · have hb2 := hc2
    refine Sx.C.no (by kernel_rfl) (by kernel_rfl) ?_
    refine Sx.C.skip ?_
    refine Sx.E.next ?_
    refine Sx.C.seq ?_
    refine Sx.C.seq ?_
    refine Sx.C.region ?_
    refine Sx.G.ld 32 (.tmp 1) b1 0 0 [.slice PA0 g.prog.length Pc0, .int .i64 g.a, .int .i64 g.pc, .slice PA1 g.wr.length Pc1, .slice PA2 g.lv.length Pc2, .int .i64 g.t.1, .int .i64 g.t.2.1, .bool g.t.2.2, .int .i64 g.pd, .int .i64 g.x.1, .int .i64 g.x.2.1, .bool g.x.2.2.1, .int .i64 g.x.2.2.2, .bool g.hl, .slice PA3 g.seen.length Pc3] [.slice PA0 g.prog.length Pc0, .int .i64 g.a, .int .i64 g.pc, .slice PA1 g.wr.length Pc1, .slice PA2 g.lv.length Pc2, .int .i64 g.t.1, .int .i64 g.t.2.1, .bool g.t.2.2, .int .i64 g.pd, .int .i64 g.x.1, .int .i64 g.x.2.1, .bool g.x.2.2.1, .int .i64 g.x.2.2.2, .bool g.hl, .slice PA3 g.seen.length Pc3] rfl (by kernel_rfl) (by kernel_rfl) rfl (by kernel_rfl) (by kernel_rfl) (by kernel_rfl) ?_
    refine Sx.G.plain 60 #[.agg #[.slice PA0 g.prog.length Pc0, .int .i64 g.a, .int .i64 g.pc, .slice PA1 g.wr.length Pc1, .slice PA2 g.lv.length Pc2, .int .i64 g.t.1, .int .i64 g.t.2.1, .bool g.t.2.2, .int .i64 g.pd, .int .i64 g.x.1, .int .i64 g.x.2.1, .bool g.x.2.2.1, .int .i64 g.x.2.2.2, .bool g.hl, .slice PA3 g.seen.length Pc3]] (.bool (takesI g)) (by kernel_rfl) (fun w => by kernel_rfl) (fun w S => by exact spec_takes g (.slice PA0 g.prog.length Pc0) (.slice PA1 g.wr.length Pc1) (.slice PA2 g.lv.length Pc2) (.slice PA3 g.seen.length Pc3) _) ?_
    refine Sx.G.nil ?_
    refine Sx.E.next ?_
    cases hc3 : (takesI g)
    · have hb3 := hc3
      refine Sx.C.no (by kernel_rfl) (by kernel_rfl) ?_
      refine Sx.C.skip ?_
      refine Sx.E.next ?_
      refine Sx.C.seq ?_
      refine Sx.C.seq ?_
      refine Sx.C.region ?_
      refine Sx.G.pure (.pointer (some ⟨b1, 0, none⟩)) (by kernel_rfl) (fun w => by kernel_rfl) ?_
      refine Sx.G.ld1 24 (.tmp 8) b1 0 0 [.slice PA0 g.prog.length Pc0, .int .i64 g.a, .int .i64 g.pc, .slice PA1 g.wr.length Pc1, .slice PA2 g.lv.length Pc2, .int .i64 g.t.1, .int .i64 g.t.2.1, .bool g.t.2.2, .int .i64 g.pd, .int .i64 g.x.1, .int .i64 g.x.2.1, .bool g.x.2.2.1, .int .i64 g.x.2.2.2, .bool g.hl, .slice PA3 g.seen.length Pc3] (.slice PA0 g.prog.length Pc0) rfl (by kernel_rfl) (by kernel_rfl) rfl (by kernel_rfl) (by kernel_rfl) ?_
      refine Sx.G.pure (.pointer (some ⟨b1, 2, none⟩)) (by kernel_rfl) (fun w => by kernel_rfl) ?_
      refine Sx.G.ld1 3 (.tmp 10) b1 2 0 [.slice PA0 g.prog.length Pc0, .int .i64 g.a, .int .i64 g.pc, .slice PA1 g.wr.length Pc1, .slice PA2 g.lv.length Pc2, .int .i64 g.t.1, .int .i64 g.t.2.1, .bool g.t.2.2, .int .i64 g.pd, .int .i64 g.x.1, .int .i64 g.x.2.1, .bool g.x.2.2.1, .int .i64 g.x.2.2.2, .bool g.hl, .slice PA3 g.seen.length Pc3] (.int .i64 g.pc) rfl (by kernel_rfl) (by kernel_rfl) rfl (by kernel_rfl) (by kernel_rfl) ?_
      refine Sx.G.plain 52 #[.slice PA0 g.prog.length Pc0, .int .i64 g.pc] (.agg #[.int .i64 (insAt g.prog g.pc).1, .int .i64 (insAt g.prog g.pc).2]) (by kernel_rfl) (fun w => by kernel_rfl) (fun w S => by exact spec_insAt PA0 g.prog.length Pc0 0 g.pc g.prog _ q0 rfl (by rw [← pcells_j]; exact p2_lies (St.old S h0))) ?_
      refine Sx.G.pure (.int .i64 (insAt g.prog g.pc).1) (by kernel_rfl) (fun w => by kernel_rfl) ?_
      refine Sx.G.nil ?_
      refine Sx.E.next ?_
      refine Sx.C.block ?_
      refine Sx.C.seq ?_
      refine Sx.C.region ?_
      refine Sx.G.pure (.bool ((insAt g.prog g.pc).1 == 3)) (by kernel_rfl) (fun w => by kernel_rfl) ?_
      refine Sx.G.pure (.bool ((insAt g.prog g.pc).1 == 3)) (by kernel_rfl) (fun w => by kernel_rfl) ?_
      refine Sx.G.nil ?_
      refine Sx.E.next ?_
      cases hc4 : ((insAt g.prog g.pc).1 == 3)
      · have hb4 := hc4
        refine Sx.C.no (by kernel_rfl) (by kernel_rfl) ?_
        refine Sx.C.seq ?_
        refine Sx.C.region ?_
        refine Sx.G.pure (.bool ((insAt g.prog g.pc).1 == 4)) (by kernel_rfl) (fun w => by kernel_rfl) ?_
        refine Sx.G.pure (.bool ((insAt g.prog g.pc).1 == 4)) (by kernel_rfl) (fun w => by kernel_rfl) ?_
        refine Sx.G.nil ?_
        refine Sx.E.next ?_
        cases hc5 : ((insAt g.prog g.pc).1 == 4)
        · have hb5 := hc5
          refine Sx.C.no (by kernel_rfl) (by kernel_rfl) ?_
          refine Sx.C.seq ?_
          refine Sx.C.region ?_
          refine Sx.G.pure (.bool ((insAt g.prog g.pc).1 == 5)) (by kernel_rfl) (fun w => by kernel_rfl) ?_
          refine Sx.G.pure (.bool ((insAt g.prog g.pc).1 == 5)) (by kernel_rfl) (fun w => by kernel_rfl) ?_
          refine Sx.G.nil ?_
          refine Sx.E.next ?_
          cases hc6 : ((insAt g.prog g.pc).1 == 5)
          · have hb6 := hc6
            refine Sx.C.no (by kernel_rfl) (by kernel_rfl) ?_
            refine Sx.C.seq ?_
            refine Sx.C.region ?_
            refine Sx.G.pure (.bool ((insAt g.prog g.pc).1 == 6)) (by kernel_rfl) (fun w => by kernel_rfl) ?_
            refine Sx.G.pure (.bool ((insAt g.prog g.pc).1 == 6)) (by kernel_rfl) (fun w => by kernel_rfl) ?_
            refine Sx.G.nil ?_
            refine Sx.E.next ?_
            cases hc7 : ((insAt g.prog g.pc).1 == 6)
            · have hb7 := hc7
              refine Sx.C.no (by kernel_rfl) (by kernel_rfl) ?_
              refine Sx.C.seq ?_
              refine Sx.C.region ?_
              refine Sx.G.pure (.bool ((insAt g.prog g.pc).1 == 7)) (by kernel_rfl) (fun w => by kernel_rfl) ?_
              refine Sx.G.pure (.bool ((insAt g.prog g.pc).1 == 7)) (by kernel_rfl) (fun w => by kernel_rfl) ?_
              refine Sx.G.nil ?_
              refine Sx.E.next ?_
              cases hc8 : ((insAt g.prog g.pc).1 == 7)
              · have hb8 := hc8
                refine Sx.C.no (by kernel_rfl) (by kernel_rfl) ?_
                refine Sx.C.skip ?_
                refine Sx.E.block_normal ?_
                refine Sx.E.next ?_
                refine Sx.C.seq ?_
                refine Sx.C.region ?_
                refine Sx.G.pure (.int .i64 2) (by kernel_rfl) (fun w => by kernel_rfl) ?_
                refine Sx.G.nil ?_
                refine Sx.E.next ?_
                refine Sx.C.ret ?_
                refine Sx.E.ret1 (.int .i64 2) rfl (by kernel_rfl) (fun w S => ?_)
                exact ⟨congrArg Ending.returned (congrArg (Value.int .i64) (by simp [wantG, opWant, hb2, hb3, hb4, hb5, hb6, hb7, hb8])), S.below⟩
              · have hb8 := hc8
                refine Sx.C.yes (by kernel_rfl) (by kernel_rfl) ?_
                refine Sx.C.seq ?_
                refine Sx.C.region ?_
                refine Sx.G.pure (.int .i64 7) (by kernel_rfl) (fun w => by kernel_rfl) ?_
                refine Sx.G.nil ?_
                refine Sx.E.next ?_
                refine Sx.C.ret ?_
                refine Sx.E.block_ret ?_
                refine Sx.E.then_ret ?_
                refine Sx.E.ret1 (.int .i64 7) rfl (by kernel_rfl) (fun w S => ?_)
                exact ⟨congrArg Ending.returned (congrArg (Value.int .i64) (by simp [wantG, opWant, hb2, hb3, hb4, hb5, hb6, hb7, hb8])), S.below⟩
            · have hb7 := hc7
              refine Sx.C.yes (by kernel_rfl) (by kernel_rfl) ?_
              refine Sx.C.seq ?_
              refine Sx.C.region ?_
              refine Sx.G.pure (.int .i64 6) (by kernel_rfl) (fun w => by kernel_rfl) ?_
              refine Sx.G.nil ?_
              refine Sx.E.next ?_
              refine Sx.C.ret ?_
              refine Sx.E.block_ret ?_
              refine Sx.E.then_ret ?_
              refine Sx.E.ret1 (.int .i64 6) rfl (by kernel_rfl) (fun w S => ?_)
              exact ⟨congrArg Ending.returned (congrArg (Value.int .i64) (by simp [wantG, opWant, hb2, hb3, hb4, hb5, hb6, hb7])), S.below⟩
          · have hb6 := hc6
            refine Sx.C.yes (by kernel_rfl) (by kernel_rfl) ?_
            refine Sx.C.seq ?_
            refine Sx.C.region ?_
            refine Sx.G.pure (.int .i64 5) (by kernel_rfl) (fun w => by kernel_rfl) ?_
            refine Sx.G.nil ?_
            refine Sx.E.next ?_
            refine Sx.C.ret ?_
            refine Sx.E.block_ret ?_
            refine Sx.E.then_ret ?_
            refine Sx.E.ret1 (.int .i64 5) rfl (by kernel_rfl) (fun w S => ?_)
            exact ⟨congrArg Ending.returned (congrArg (Value.int .i64) (by simp [wantG, opWant, hb2, hb3, hb4, hb5, hb6])), S.below⟩
        · have hb5 := hc5
          refine Sx.C.yes (by kernel_rfl) (by kernel_rfl) ?_
          refine Sx.C.seq ?_
          refine Sx.C.region ?_
          refine Sx.G.pure (.int .i64 4) (by kernel_rfl) (fun w => by kernel_rfl) ?_
          refine Sx.G.nil ?_
          refine Sx.E.next ?_
          refine Sx.C.ret ?_
          refine Sx.E.block_ret ?_
          refine Sx.E.then_ret ?_
          refine Sx.E.ret1 (.int .i64 4) rfl (by kernel_rfl) (fun w S => ?_)
          exact ⟨congrArg Ending.returned (congrArg (Value.int .i64) (by simp [wantG, opWant, hb2, hb3, hb4, hb5])), S.below⟩
      · have hb4 := hc4
        refine Sx.C.yes (by kernel_rfl) (by kernel_rfl) ?_
        refine Sx.C.seq ?_
        refine Sx.C.region ?_
        refine Sx.G.pure (.int .i64 3) (by kernel_rfl) (fun w => by kernel_rfl) ?_
        refine Sx.G.nil ?_
        refine Sx.E.next ?_
        refine Sx.C.ret ?_
        refine Sx.E.block_ret ?_
        refine Sx.E.then_ret ?_
        refine Sx.E.ret1 (.int .i64 3) rfl (by kernel_rfl) (fun w S => ?_)
        exact ⟨congrArg Ending.returned (congrArg (Value.int .i64) (by simp [wantG, opWant, hb2, hb3, hb4])), S.below⟩
    · have hb3 := hc3
      refine Sx.C.yes (by kernel_rfl) (by kernel_rfl) ?_
      refine Sx.C.seq ?_
      refine Sx.C.region ?_
      refine Sx.G.pure (.int .i64 1) (by kernel_rfl) (fun w => by kernel_rfl) ?_
      refine Sx.G.nil ?_
      refine Sx.E.next ?_
      refine Sx.C.ret ?_
      refine Sx.E.then_ret ?_
      refine Sx.E.ret1 (.int .i64 1) rfl (by kernel_rfl) (fun w S => ?_)
      exact ⟨congrArg Ending.returned (congrArg (Value.int .i64) (by simp [wantG, opWant, hb2, hb3])), S.below⟩

set_option maxRecDepth 100000 in
set_option maxHeartbeats 4000000 in
theorem specx_moved (g : gT) (cs : List Value) (w : World) (hc : rG.cap g) (h : rG.rd w 0 w.heap.size g cs) : Calls Try.prog 22 #[.agg cs.toArray] w (Gives rG w (movedG g)) := by
  obtain ⟨q0, q1, q2, q3⟩ := rG_len hc
  have hr := h
  obtain ⟨P0, P1, P2, P3, rfl, h0, h1, h2, h3⟩ := rG_rd h
  obtain ⟨PA0, Pc0, e0, hP0⟩ := lst_val h0
  subst e0
  obtain ⟨PA1, Pc1, e1, hP1⟩ := lst_val h1
  subst e1
  obtain ⟨PA2, Pc2, e2, hP2⟩ := lst_val h2
  subst e2
  obtain ⟨PA3, Pc3, e3, hP3⟩ := lst_val h3
  subst e3
  refine Sx.enter (args := [.agg #[.slice PA0 g.prog.length Pc0, .int .i64 g.a, .int .i64 g.pc, .slice PA1 g.wr.length Pc1, .slice PA2 g.lv.length Pc2, .int .i64 g.t.1, .int .i64 g.t.2.1, .bool g.t.2.2, .int .i64 g.pd, .int .i64 g.x.1, .int .i64 g.x.2.1, .bool g.x.2.2.1, .int .i64 g.x.2.2.2, .bool g.hl, .slice PA3 g.seen.length Pc3]]) Try.func22 rfl Try.ntmps22 rfl ?_
  refine Sx.C.seq ?_
  refine Sx.C.region ?_
  refine Sx.G.box 32 (.tmp 0) [.slice PA0 g.prog.length Pc0, .int .i64 g.a, .int .i64 g.pc, .slice PA1 g.wr.length Pc1, .slice PA2 g.lv.length Pc2, .int .i64 g.t.1, .int .i64 g.t.2.1, .bool g.t.2.2, .int .i64 g.pd, .int .i64 g.x.1, .int .i64 g.x.2.1, .bool g.x.2.2.1, .int .i64 g.x.2.2.2, .bool g.hl, .slice PA3 g.seen.length Pc3] rfl (by kernel_rfl) (by kernel_rfl) (fun b1 => ?_)
  refine Sx.G.alloc 32 (.agg #[.slice none 0 0, .int .i64 0, .int .i64 0, .slice none 0 0, .slice none 0 0, .int .i64 0, .int .i64 0, .bool false, .int .i64 0, .int .i64 0, .int .i64 0, .bool false, .int .i64 0, .bool false, .slice none 0 0]) [.slice none 0 0, .int .i64 0, .int .i64 0, .slice none 0 0, .slice none 0 0, .int .i64 0, .int .i64 0, .bool false, .int .i64 0, .int .i64 0, .int .i64 0, .bool false, .int .i64 0, .bool false, .slice none 0 0] rfl (by kernel_rfl) (fun w => by kernel_rfl) (by kernel_rfl) (fun b2 => ?_)
  refine Sx.G.nil ?_
  refine Sx.E.next ?_
  refine Sx.C.seq ?_
  refine Sx.C.region ?_
  refine Sx.G.ld 32 (.tmp 1) b1 0 1 [.slice PA0 g.prog.length Pc0, .int .i64 g.a, .int .i64 g.pc, .slice PA1 g.wr.length Pc1, .slice PA2 g.lv.length Pc2, .int .i64 g.t.1, .int .i64 g.t.2.1, .bool g.t.2.2, .int .i64 g.pd, .int .i64 g.x.1, .int .i64 g.x.2.1, .bool g.x.2.2.1, .int .i64 g.x.2.2.2, .bool g.hl, .slice PA3 g.seen.length Pc3] [.slice PA0 g.prog.length Pc0, .int .i64 g.a, .int .i64 g.pc, .slice PA1 g.wr.length Pc1, .slice PA2 g.lv.length Pc2, .int .i64 g.t.1, .int .i64 g.t.2.1, .bool g.t.2.2, .int .i64 g.pd, .int .i64 g.x.1, .int .i64 g.x.2.1, .bool g.x.2.2.1, .int .i64 g.x.2.2.2, .bool g.hl, .slice PA3 g.seen.length Pc3] rfl (by kernel_rfl) (by kernel_rfl) rfl (by kernel_rfl) (by kernel_rfl) (by kernel_rfl) ?_
  refine Sx.G.call 51 #[.agg #[.slice PA0 g.prog.length Pc0, .int .i64 g.a, .int .i64 g.pc, .slice PA1 g.wr.length Pc1, .slice PA2 g.lv.length Pc2, .int .i64 g.t.1, .int .i64 g.t.2.1, .bool g.t.2.2, .int .i64 g.pd, .int .i64 g.x.1, .int .i64 g.x.2.1, .bool g.x.2.2.1, .int .i64 g.x.2.2.2, .bool g.hl, .slice PA3 g.seen.length Pc3]] (by kernel_rfl) (fun w => by kernel_rfl) (fun w3 S => (specx_copy g _ _ (by exact hc) (St.old S hr)).mono fun e w3' hp => ?_)
  obtain ⟨cs, F, rfl, ho, hF, hb⟩ := hp
  obtain ⟨q3_0, q3_1, q3_2, q3_3, G3_0, G3_1, G3_2, G3_3, rfl, S'⟩ := rG_open (S.got hb ho hF)
  obtain ⟨q3A0, q3c0, e0, -⟩ := lst_val (S'.reads 0 rfl)
  subst e0
  obtain ⟨q3A1, q3c1, e1, -⟩ := lst_val (S'.reads 1 rfl)
  subst e1
  obtain ⟨q3A2, q3c2, e2, -⟩ := lst_val (S'.reads 2 rfl)
  subst e2
  obtain ⟨q3A3, q3c3, e3, -⟩ := lst_val (S'.reads 3 rfl)
  subst e3
  refine ⟨_, _, rfl, S', ?_⟩
  clear S S' ho hF hb
  refine Sx.G.sto 32 (.tmp 1) (.tmp 4) b1 0 5 [.slice PA0 g.prog.length Pc0, .int .i64 g.a, .int .i64 g.pc, .slice PA1 g.wr.length Pc1, .slice PA2 g.lv.length Pc2, .int .i64 g.t.1, .int .i64 g.t.2.1, .bool g.t.2.2, .int .i64 g.pd, .int .i64 g.x.1, .int .i64 g.x.2.1, .bool g.x.2.2.1, .int .i64 g.x.2.2.2, .bool g.hl, .slice PA3 g.seen.length Pc3] [.slice q3A0 g.prog.length q3c0, .int .i64 g.a, .int .i64 g.pc, .slice q3A1 g.wr.length q3c1, .slice q3A2 g.lv.length q3c2, .int .i64 g.t.1, .int .i64 g.t.2.1, .bool g.t.2.2, .int .i64 g.pd, .int .i64 g.x.1, .int .i64 g.x.2.1, .bool g.x.2.2.1, .int .i64 g.x.2.2.2, .bool g.hl, .slice q3A3 g.seen.length q3c3] [.slice q3A0 g.prog.length q3c0, .int .i64 g.a, .int .i64 g.pc, .slice q3A1 g.wr.length q3c1, .slice q3A2 g.lv.length q3c2, .int .i64 g.t.1, .int .i64 g.t.2.1, .bool g.t.2.2, .int .i64 g.pd, .int .i64 g.x.1, .int .i64 g.x.2.1, .bool g.x.2.2.1, .int .i64 g.x.2.2.2, .bool g.hl, .slice q3A3 g.seen.length q3c3] [ow (rLst 42 (rPair rInt rInt)) w3.heap.size (w3'.heap.size) g.prog [.slice q3A0 g.prog.length q3c0] G3_0, ow (rLsw (rPair rInt rInt)) w3.heap.size w3'.heap.size g.wr [.slice q3A1 g.wr.length q3c1] G3_1, ow (rLsw (rPair rInt rInt)) w3.heap.size w3'.heap.size g.lv [.slice q3A2 g.lv.length q3c2] G3_2, ow (rLst 3 rInt) w3.heap.size (w3'.heap.size) g.seen [.slice q3A3 g.seen.length q3c3] G3_3, vr b2 [.slice none 0 0, .int .i64 0, .int .i64 0, .slice none 0 0, .slice none 0 0, .int .i64 0, .int .i64 0, .bool false, .int .i64 0, .int .i64 0, .int .i64 0, .bool false, .int .i64 0, .bool false, .slice none 0 0], vr b1 [.slice q3A0 g.prog.length q3c0, .int .i64 g.a, .int .i64 g.pc, .slice q3A1 g.wr.length q3c1, .slice q3A2 g.lv.length q3c2, .int .i64 g.t.1, .int .i64 g.t.2.1, .bool g.t.2.2, .int .i64 g.pd, .int .i64 g.x.1, .int .i64 g.x.2.1, .bool g.x.2.2.1, .int .i64 g.x.2.2.2, .bool g.hl, .slice q3A3 g.seen.length q3c3]] rfl (by kernel_rfl) (by kernel_rfl) (by kernel_rfl) rfl (by kernel_rfl) rfl (by kernel_rfl) (by kernel_rfl) (by kernel_rfl) ?_
  refine Sx.G.nil ?_
  refine Sx.E.next ?_
  refine Sx.C.seq ?_
  refine Sx.C.seq ?_
  refine Sx.C.region ?_
  refine Sx.G.pure (.pointer (some ⟨b1, 2, none⟩)) (by kernel_rfl) (fun w => by kernel_rfl) ?_
  refine Sx.G.ld1 3 (.tmp 5) b1 2 5 [.slice q3A0 g.prog.length q3c0, .int .i64 g.a, .int .i64 g.pc, .slice q3A1 g.wr.length q3c1, .slice q3A2 g.lv.length q3c2, .int .i64 g.t.1, .int .i64 g.t.2.1, .bool g.t.2.2, .int .i64 g.pd, .int .i64 g.x.1, .int .i64 g.x.2.1, .bool g.x.2.2.1, .int .i64 g.x.2.2.2, .bool g.hl, .slice q3A3 g.seen.length q3c3] (.int .i64 g.pc) rfl (by kernel_rfl) (by kernel_rfl) rfl (by kernel_rfl) (by kernel_rfl) ?_
  refine Sx.G.pure (.bool (decide (g.pc ≥ 12))) (by kernel_rfl) (fun w => by kernel_rfl) ?_
  refine Sx.G.nil ?_
  refine Sx.E.next ?_
  cases hc4 : (decide (g.pc ≥ 12))
  · have hb4 := hc4
    replace hc4 := of_decide_eq_false hc4
    refine Sx.C.no (by kernel_rfl) (by kernel_rfl) ?_
    refine Sx.C.region ?_
    refine Sx.G.pure (.pointer (some ⟨b1, 2, none⟩)) (by kernel_rfl) (fun w => by kernel_rfl) ?_
    refine Sx.G.ld1 3 (.tmp 9) b1 2 5 [.slice q3A0 g.prog.length q3c0, .int .i64 g.a, .int .i64 g.pc, .slice q3A1 g.wr.length q3c1, .slice q3A2 g.lv.length q3c2, .int .i64 g.t.1, .int .i64 g.t.2.1, .bool g.t.2.2, .int .i64 g.pd, .int .i64 g.x.1, .int .i64 g.x.2.1, .bool g.x.2.2.1, .int .i64 g.x.2.2.2, .bool g.hl, .slice q3A3 g.seen.length q3c3] (.int .i64 g.pc) rfl (by kernel_rfl) (by kernel_rfl) rfl (by kernel_rfl) (by kernel_rfl) ?_
    refine Sx.G.pure (.int .i64 (IntKind.i64.wrap (g.pc + 1))) (by kernel_rfl) (fun w => by kernel_rfl) ?_
    refine Sx.G.pure (.pointer (some ⟨b1, 2, none⟩)) (by kernel_rfl) (fun w => by kernel_rfl) ?_
    refine Sx.G.sto 3 (.tmp 12) (.tmp 11) b1 2 5 [.slice q3A0 g.prog.length q3c0, .int .i64 g.a, .int .i64 g.pc, .slice q3A1 g.wr.length q3c1, .slice q3A2 g.lv.length q3c2, .int .i64 g.t.1, .int .i64 g.t.2.1, .bool g.t.2.2, .int .i64 g.pd, .int .i64 g.x.1, .int .i64 g.x.2.1, .bool g.x.2.2.1, .int .i64 g.x.2.2.2, .bool g.hl, .slice q3A3 g.seen.length q3c3] [.int .i64 (IntKind.i64.wrap (g.pc + 1))] [.slice q3A0 g.prog.length q3c0, .int .i64 g.a, .int .i64 (IntKind.i64.wrap (g.pc + 1)), .slice q3A1 g.wr.length q3c1, .slice q3A2 g.lv.length q3c2, .int .i64 g.t.1, .int .i64 g.t.2.1, .bool g.t.2.2, .int .i64 g.pd, .int .i64 g.x.1, .int .i64 g.x.2.1, .bool g.x.2.2.1, .int .i64 g.x.2.2.2, .bool g.hl, .slice q3A3 g.seen.length q3c3] [ow (rLst 42 (rPair rInt rInt)) w3.heap.size (w3'.heap.size) g.prog [.slice q3A0 g.prog.length q3c0] G3_0, ow (rLsw (rPair rInt rInt)) w3.heap.size w3'.heap.size g.wr [.slice q3A1 g.wr.length q3c1] G3_1, ow (rLsw (rPair rInt rInt)) w3.heap.size w3'.heap.size g.lv [.slice q3A2 g.lv.length q3c2] G3_2, ow (rLst 3 rInt) w3.heap.size (w3'.heap.size) g.seen [.slice q3A3 g.seen.length q3c3] G3_3, vr b2 [.slice none 0 0, .int .i64 0, .int .i64 0, .slice none 0 0, .slice none 0 0, .int .i64 0, .int .i64 0, .bool false, .int .i64 0, .int .i64 0, .int .i64 0, .bool false, .int .i64 0, .bool false, .slice none 0 0], vr b1 [.slice q3A0 g.prog.length q3c0, .int .i64 g.a, .int .i64 (IntKind.i64.wrap (g.pc + 1)), .slice q3A1 g.wr.length q3c1, .slice q3A2 g.lv.length q3c2, .int .i64 g.t.1, .int .i64 g.t.2.1, .bool g.t.2.2, .int .i64 g.pd, .int .i64 g.x.1, .int .i64 g.x.2.1, .bool g.x.2.2.1, .int .i64 g.x.2.2.2, .bool g.hl, .slice q3A3 g.seen.length q3c3]] rfl (by kernel_rfl) (by kernel_rfl) (by kernel_rfl) rfl (by kernel_rfl) rfl (by kernel_rfl) (by kernel_rfl) (by kernel_rfl) ?_
    refine Sx.G.nil ?_
    refine Sx.E.next ?_
    refine Sx.C.seq ?_
    refine Sx.C.region ?_
    refine Sx.G.ld 32 (.tmp 1) b1 0 5 [.slice q3A0 g.prog.length q3c0, .int .i64 g.a, .int .i64 (IntKind.i64.wrap (g.pc + 1)), .slice q3A1 g.wr.length q3c1, .slice q3A2 g.lv.length q3c2, .int .i64 g.t.1, .int .i64 g.t.2.1, .bool g.t.2.2, .int .i64 g.pd, .int .i64 g.x.1, .int .i64 g.x.2.1, .bool g.x.2.2.1, .int .i64 g.x.2.2.2, .bool g.hl, .slice q3A3 g.seen.length q3c3] [.slice q3A0 g.prog.length q3c0, .int .i64 g.a, .int .i64 (IntKind.i64.wrap (g.pc + 1)), .slice q3A1 g.wr.length q3c1, .slice q3A2 g.lv.length q3c2, .int .i64 g.t.1, .int .i64 g.t.2.1, .bool g.t.2.2, .int .i64 g.pd, .int .i64 g.x.1, .int .i64 g.x.2.1, .bool g.x.2.2.1, .int .i64 g.x.2.2.2, .bool g.hl, .slice q3A3 g.seen.length q3c3] rfl (by kernel_rfl) (by kernel_rfl) rfl (by kernel_rfl) (by kernel_rfl) (by kernel_rfl) ?_
    refine Sx.G.sto 32 (.tmp 2) (.tmp 13) b2 0 4 [.slice none 0 0, .int .i64 0, .int .i64 0, .slice none 0 0, .slice none 0 0, .int .i64 0, .int .i64 0, .bool false, .int .i64 0, .int .i64 0, .int .i64 0, .bool false, .int .i64 0, .bool false, .slice none 0 0] [.slice q3A0 g.prog.length q3c0, .int .i64 g.a, .int .i64 (IntKind.i64.wrap (g.pc + 1)), .slice q3A1 g.wr.length q3c1, .slice q3A2 g.lv.length q3c2, .int .i64 g.t.1, .int .i64 g.t.2.1, .bool g.t.2.2, .int .i64 g.pd, .int .i64 g.x.1, .int .i64 g.x.2.1, .bool g.x.2.2.1, .int .i64 g.x.2.2.2, .bool g.hl, .slice q3A3 g.seen.length q3c3] [.slice q3A0 g.prog.length q3c0, .int .i64 g.a, .int .i64 (IntKind.i64.wrap (g.pc + 1)), .slice q3A1 g.wr.length q3c1, .slice q3A2 g.lv.length q3c2, .int .i64 g.t.1, .int .i64 g.t.2.1, .bool g.t.2.2, .int .i64 g.pd, .int .i64 g.x.1, .int .i64 g.x.2.1, .bool g.x.2.2.1, .int .i64 g.x.2.2.2, .bool g.hl, .slice q3A3 g.seen.length q3c3] [ow (rLst 42 (rPair rInt rInt)) w3.heap.size (w3'.heap.size) g.prog [.slice q3A0 g.prog.length q3c0] G3_0, ow (rLsw (rPair rInt rInt)) w3.heap.size w3'.heap.size g.wr [.slice q3A1 g.wr.length q3c1] G3_1, ow (rLsw (rPair rInt rInt)) w3.heap.size w3'.heap.size g.lv [.slice q3A2 g.lv.length q3c2] G3_2, ow (rLst 3 rInt) w3.heap.size (w3'.heap.size) g.seen [.slice q3A3 g.seen.length q3c3] G3_3, vr b2 [.slice q3A0 g.prog.length q3c0, .int .i64 g.a, .int .i64 (IntKind.i64.wrap (g.pc + 1)), .slice q3A1 g.wr.length q3c1, .slice q3A2 g.lv.length q3c2, .int .i64 g.t.1, .int .i64 g.t.2.1, .bool g.t.2.2, .int .i64 g.pd, .int .i64 g.x.1, .int .i64 g.x.2.1, .bool g.x.2.2.1, .int .i64 g.x.2.2.2, .bool g.hl, .slice q3A3 g.seen.length q3c3], vr b1 [.slice q3A0 g.prog.length q3c0, .int .i64 g.a, .int .i64 (IntKind.i64.wrap (g.pc + 1)), .slice q3A1 g.wr.length q3c1, .slice q3A2 g.lv.length q3c2, .int .i64 g.t.1, .int .i64 g.t.2.1, .bool g.t.2.2, .int .i64 g.pd, .int .i64 g.x.1, .int .i64 g.x.2.1, .bool g.x.2.2.1, .int .i64 g.x.2.2.2, .bool g.hl, .slice q3A3 g.seen.length q3c3]] rfl (by kernel_rfl) (by kernel_rfl) (by kernel_rfl) rfl (by kernel_rfl) rfl (by kernel_rfl) (by kernel_rfl) (by kernel_rfl) ?_
    refine Sx.G.nil ?_
    refine Sx.E.next ?_
    refine Sx.C.ret ?_
    refine Sx.E.retc b2 4 [.slice q3A0 g.prog.length q3c0, .int .i64 g.a, .int .i64 (IntKind.i64.wrap (g.pc + 1)), .slice q3A1 g.wr.length q3c1, .slice q3A2 g.lv.length q3c2, .int .i64 g.t.1, .int .i64 g.t.2.1, .bool g.t.2.2, .int .i64 g.pd, .int .i64 g.x.1, .int .i64 g.x.2.1, .bool g.x.2.2.1, .int .i64 g.x.2.2.2, .bool g.hl, .slice q3A3 g.seen.length q3c3] rfl (by kernel_rfl) rfl (by kernel_rfl) (by kernel_rfl) (fun w S => ?_)
    have HW : movedG g = { g with pc := (IntKind.i64.wrap (g.pc + 1)) } := by simp [movedG, hb4]
    obtain ⟨ho, hF⟩ := rG_shut (g := { g with pc := (IntKind.i64.wrap (g.pc + 1)) }) S 0 rfl 1 rfl 2 rfl 3 rfl (by decide) (by decide) (by decide) (by decide) (by decide) (by decide)
    rw [HW]; exact ⟨_, _, rfl, ho, hF, S.below⟩
  · have hb4 := hc4
    replace hc4 := of_decide_eq_true hc4
    refine Sx.C.yes (by kernel_rfl) (by kernel_rfl) ?_
    refine Sx.C.region ?_
    refine Sx.G.pure (.pointer (some ⟨b1, 2, none⟩)) (by kernel_rfl) (fun w => by kernel_rfl) ?_
    refine Sx.G.sto 3 (.tmp 8) (.const (.int .i64 12)) b1 2 5 [.slice q3A0 g.prog.length q3c0, .int .i64 g.a, .int .i64 g.pc, .slice q3A1 g.wr.length q3c1, .slice q3A2 g.lv.length q3c2, .int .i64 g.t.1, .int .i64 g.t.2.1, .bool g.t.2.2, .int .i64 g.pd, .int .i64 g.x.1, .int .i64 g.x.2.1, .bool g.x.2.2.1, .int .i64 g.x.2.2.2, .bool g.hl, .slice q3A3 g.seen.length q3c3] [.int .i64 12] [.slice q3A0 g.prog.length q3c0, .int .i64 g.a, .int .i64 12, .slice q3A1 g.wr.length q3c1, .slice q3A2 g.lv.length q3c2, .int .i64 g.t.1, .int .i64 g.t.2.1, .bool g.t.2.2, .int .i64 g.pd, .int .i64 g.x.1, .int .i64 g.x.2.1, .bool g.x.2.2.1, .int .i64 g.x.2.2.2, .bool g.hl, .slice q3A3 g.seen.length q3c3] [ow (rLst 42 (rPair rInt rInt)) w3.heap.size (w3'.heap.size) g.prog [.slice q3A0 g.prog.length q3c0] G3_0, ow (rLsw (rPair rInt rInt)) w3.heap.size w3'.heap.size g.wr [.slice q3A1 g.wr.length q3c1] G3_1, ow (rLsw (rPair rInt rInt)) w3.heap.size w3'.heap.size g.lv [.slice q3A2 g.lv.length q3c2] G3_2, ow (rLst 3 rInt) w3.heap.size (w3'.heap.size) g.seen [.slice q3A3 g.seen.length q3c3] G3_3, vr b2 [.slice none 0 0, .int .i64 0, .int .i64 0, .slice none 0 0, .slice none 0 0, .int .i64 0, .int .i64 0, .bool false, .int .i64 0, .int .i64 0, .int .i64 0, .bool false, .int .i64 0, .bool false, .slice none 0 0], vr b1 [.slice q3A0 g.prog.length q3c0, .int .i64 g.a, .int .i64 12, .slice q3A1 g.wr.length q3c1, .slice q3A2 g.lv.length q3c2, .int .i64 g.t.1, .int .i64 g.t.2.1, .bool g.t.2.2, .int .i64 g.pd, .int .i64 g.x.1, .int .i64 g.x.2.1, .bool g.x.2.2.1, .int .i64 g.x.2.2.2, .bool g.hl, .slice q3A3 g.seen.length q3c3]] rfl (by kernel_rfl) (by kernel_rfl) (by kernel_rfl) rfl (by kernel_rfl) rfl (by kernel_rfl) (by kernel_rfl) (by kernel_rfl) ?_
    refine Sx.G.nil ?_
    refine Sx.E.next ?_
    refine Sx.C.seq ?_
    refine Sx.C.region ?_
    refine Sx.G.ld 32 (.tmp 1) b1 0 5 [.slice q3A0 g.prog.length q3c0, .int .i64 g.a, .int .i64 12, .slice q3A1 g.wr.length q3c1, .slice q3A2 g.lv.length q3c2, .int .i64 g.t.1, .int .i64 g.t.2.1, .bool g.t.2.2, .int .i64 g.pd, .int .i64 g.x.1, .int .i64 g.x.2.1, .bool g.x.2.2.1, .int .i64 g.x.2.2.2, .bool g.hl, .slice q3A3 g.seen.length q3c3] [.slice q3A0 g.prog.length q3c0, .int .i64 g.a, .int .i64 12, .slice q3A1 g.wr.length q3c1, .slice q3A2 g.lv.length q3c2, .int .i64 g.t.1, .int .i64 g.t.2.1, .bool g.t.2.2, .int .i64 g.pd, .int .i64 g.x.1, .int .i64 g.x.2.1, .bool g.x.2.2.1, .int .i64 g.x.2.2.2, .bool g.hl, .slice q3A3 g.seen.length q3c3] rfl (by kernel_rfl) (by kernel_rfl) rfl (by kernel_rfl) (by kernel_rfl) (by kernel_rfl) ?_
    refine Sx.G.sto 32 (.tmp 2) (.tmp 13) b2 0 4 [.slice none 0 0, .int .i64 0, .int .i64 0, .slice none 0 0, .slice none 0 0, .int .i64 0, .int .i64 0, .bool false, .int .i64 0, .int .i64 0, .int .i64 0, .bool false, .int .i64 0, .bool false, .slice none 0 0] [.slice q3A0 g.prog.length q3c0, .int .i64 g.a, .int .i64 12, .slice q3A1 g.wr.length q3c1, .slice q3A2 g.lv.length q3c2, .int .i64 g.t.1, .int .i64 g.t.2.1, .bool g.t.2.2, .int .i64 g.pd, .int .i64 g.x.1, .int .i64 g.x.2.1, .bool g.x.2.2.1, .int .i64 g.x.2.2.2, .bool g.hl, .slice q3A3 g.seen.length q3c3] [.slice q3A0 g.prog.length q3c0, .int .i64 g.a, .int .i64 12, .slice q3A1 g.wr.length q3c1, .slice q3A2 g.lv.length q3c2, .int .i64 g.t.1, .int .i64 g.t.2.1, .bool g.t.2.2, .int .i64 g.pd, .int .i64 g.x.1, .int .i64 g.x.2.1, .bool g.x.2.2.1, .int .i64 g.x.2.2.2, .bool g.hl, .slice q3A3 g.seen.length q3c3] [ow (rLst 42 (rPair rInt rInt)) w3.heap.size (w3'.heap.size) g.prog [.slice q3A0 g.prog.length q3c0] G3_0, ow (rLsw (rPair rInt rInt)) w3.heap.size w3'.heap.size g.wr [.slice q3A1 g.wr.length q3c1] G3_1, ow (rLsw (rPair rInt rInt)) w3.heap.size w3'.heap.size g.lv [.slice q3A2 g.lv.length q3c2] G3_2, ow (rLst 3 rInt) w3.heap.size (w3'.heap.size) g.seen [.slice q3A3 g.seen.length q3c3] G3_3, vr b2 [.slice q3A0 g.prog.length q3c0, .int .i64 g.a, .int .i64 12, .slice q3A1 g.wr.length q3c1, .slice q3A2 g.lv.length q3c2, .int .i64 g.t.1, .int .i64 g.t.2.1, .bool g.t.2.2, .int .i64 g.pd, .int .i64 g.x.1, .int .i64 g.x.2.1, .bool g.x.2.2.1, .int .i64 g.x.2.2.2, .bool g.hl, .slice q3A3 g.seen.length q3c3], vr b1 [.slice q3A0 g.prog.length q3c0, .int .i64 g.a, .int .i64 12, .slice q3A1 g.wr.length q3c1, .slice q3A2 g.lv.length q3c2, .int .i64 g.t.1, .int .i64 g.t.2.1, .bool g.t.2.2, .int .i64 g.pd, .int .i64 g.x.1, .int .i64 g.x.2.1, .bool g.x.2.2.1, .int .i64 g.x.2.2.2, .bool g.hl, .slice q3A3 g.seen.length q3c3]] rfl (by kernel_rfl) (by kernel_rfl) (by kernel_rfl) rfl (by kernel_rfl) rfl (by kernel_rfl) (by kernel_rfl) (by kernel_rfl) ?_
    refine Sx.G.nil ?_
    refine Sx.E.next ?_
    refine Sx.C.ret ?_
    refine Sx.E.retc b2 4 [.slice q3A0 g.prog.length q3c0, .int .i64 g.a, .int .i64 12, .slice q3A1 g.wr.length q3c1, .slice q3A2 g.lv.length q3c2, .int .i64 g.t.1, .int .i64 g.t.2.1, .bool g.t.2.2, .int .i64 g.pd, .int .i64 g.x.1, .int .i64 g.x.2.1, .bool g.x.2.2.1, .int .i64 g.x.2.2.2, .bool g.hl, .slice q3A3 g.seen.length q3c3] rfl (by kernel_rfl) rfl (by kernel_rfl) (by kernel_rfl) (fun w S => ?_)
    have HW : movedG g = { g with pc := 12 } := by simp [movedG, hb4]
    obtain ⟨ho, hF⟩ := rG_shut (g := { g with pc := 12 }) S 0 rfl 1 rfl 2 rfl 3 rfl (by decide) (by decide) (by decide) (by decide) (by decide) (by decide)
    rw [HW]; exact ⟨_, _, rfl, ho, hF, S.below⟩

set_option maxRecDepth 100000 in
set_option maxHeartbeats 4000000 in
theorem specx_plain (g : gT) (cs : List Value) (w : World) (hc : rG.cap g) (h : rG.rd w 0 w.heap.size g cs) : Calls Try.prog 18 #[.agg cs.toArray] w (Gives rG w (plainG g)) := by
  obtain ⟨q0, q1, q2, q3⟩ := rG_len hc
  have hr := h
  obtain ⟨P0, P1, P2, P3, rfl, h0, h1, h2, h3⟩ := rG_rd h
  obtain ⟨PA0, Pc0, e0, hP0⟩ := lst_val h0
  subst e0
  obtain ⟨PA1, Pc1, e1, hP1⟩ := lst_val h1
  subst e1
  obtain ⟨PA2, Pc2, e2, hP2⟩ := lst_val h2
  subst e2
  obtain ⟨PA3, Pc3, e3, hP3⟩ := lst_val h3
  subst e3
  refine Sx.enter (args := [.agg #[.slice PA0 g.prog.length Pc0, .int .i64 g.a, .int .i64 g.pc, .slice PA1 g.wr.length Pc1, .slice PA2 g.lv.length Pc2, .int .i64 g.t.1, .int .i64 g.t.2.1, .bool g.t.2.2, .int .i64 g.pd, .int .i64 g.x.1, .int .i64 g.x.2.1, .bool g.x.2.2.1, .int .i64 g.x.2.2.2, .bool g.hl, .slice PA3 g.seen.length Pc3]]) Try.func18 rfl Try.ntmps18 rfl ?_
  refine Sx.C.seq ?_
  refine Sx.C.region ?_
  refine Sx.G.box 32 (.tmp 0) [.slice PA0 g.prog.length Pc0, .int .i64 g.a, .int .i64 g.pc, .slice PA1 g.wr.length Pc1, .slice PA2 g.lv.length Pc2, .int .i64 g.t.1, .int .i64 g.t.2.1, .bool g.t.2.2, .int .i64 g.pd, .int .i64 g.x.1, .int .i64 g.x.2.1, .bool g.x.2.2.1, .int .i64 g.x.2.2.2, .bool g.hl, .slice PA3 g.seen.length Pc3] rfl (by kernel_rfl) (by kernel_rfl) (fun b1 => ?_)
  refine Sx.G.alloc 32 (.agg #[.slice none 0 0, .int .i64 0, .int .i64 0, .slice none 0 0, .slice none 0 0, .int .i64 0, .int .i64 0, .bool false, .int .i64 0, .int .i64 0, .int .i64 0, .bool false, .int .i64 0, .bool false, .slice none 0 0]) [.slice none 0 0, .int .i64 0, .int .i64 0, .slice none 0 0, .slice none 0 0, .int .i64 0, .int .i64 0, .bool false, .int .i64 0, .int .i64 0, .int .i64 0, .bool false, .int .i64 0, .bool false, .slice none 0 0] rfl (by kernel_rfl) (fun w => by kernel_rfl) (by kernel_rfl) (fun b2 => ?_)
  refine Sx.G.nil ?_
  refine Sx.E.next ?_
  refine Sx.C.seq ?_
  refine Sx.C.seq ?_
  refine Sx.C.region ?_
  refine Sx.G.ld 32 (.tmp 1) b1 0 1 [.slice PA0 g.prog.length Pc0, .int .i64 g.a, .int .i64 g.pc, .slice PA1 g.wr.length Pc1, .slice PA2 g.lv.length Pc2, .int .i64 g.t.1, .int .i64 g.t.2.1, .bool g.t.2.2, .int .i64 g.pd, .int .i64 g.x.1, .int .i64 g.x.2.1, .bool g.x.2.2.1, .int .i64 g.x.2.2.2, .bool g.hl, .slice PA3 g.seen.length Pc3] [.slice PA0 g.prog.length Pc0, .int .i64 g.a, .int .i64 g.pc, .slice PA1 g.wr.length Pc1, .slice PA2 g.lv.length Pc2, .int .i64 g.t.1, .int .i64 g.t.2.1, .bool g.t.2.2, .int .i64 g.pd, .int .i64 g.x.1, .int .i64 g.x.2.1, .bool g.x.2.2.1, .int .i64 g.x.2.2.2, .bool g.hl, .slice PA3 g.seen.length Pc3] rfl (by kernel_rfl) (by kernel_rfl) rfl (by kernel_rfl) (by kernel_rfl) (by kernel_rfl) ?_
  refine Sx.G.plain 28 #[.agg #[.slice PA0 g.prog.length Pc0, .int .i64 g.a, .int .i64 g.pc, .slice PA1 g.wr.length Pc1, .slice PA2 g.lv.length Pc2, .int .i64 g.t.1, .int .i64 g.t.2.1, .bool g.t.2.2, .int .i64 g.pd, .int .i64 g.x.1, .int .i64 g.x.2.1, .bool g.x.2.2.1, .int .i64 g.x.2.2.2, .bool g.hl, .slice PA3 g.seen.length Pc3]] (.int .i64 (wantG g)) (by kernel_rfl) (fun w => by kernel_rfl) (fun w S => by exact specx_want g _ _ (by exact hc) (St.old S hr)) ?_
  refine Sx.G.pure (.bool ((wantG g) != 2)) (by kernel_rfl) (fun w => by kernel_rfl) ?_
  refine Sx.G.nil ?_
  refine Sx.E.next ?_
  cases hc3 : ((wantG g) != 2)
  · have hb3 := hc3
    refine Sx.C.no (by kernel_rfl) (by kernel_rfl) ?_
    refine Sx.C.skip ?_
    refine Sx.E.next ?_
    refine Sx.C.seq ?_
    refine Sx.C.region ?_
    refine Sx.G.pure (.pointer (some ⟨b1, 0, none⟩)) (by kernel_rfl) (fun w => by kernel_rfl) ?_
    refine Sx.G.ld1 24 (.tmp 10) b1 0 1 [.slice PA0 g.prog.length Pc0, .int .i64 g.a, .int .i64 g.pc, .slice PA1 g.wr.length Pc1, .slice PA2 g.lv.length Pc2, .int .i64 g.t.1, .int .i64 g.t.2.1, .bool g.t.2.2, .int .i64 g.pd, .int .i64 g.x.1, .int .i64 g.x.2.1, .bool g.x.2.2.1, .int .i64 g.x.2.2.2, .bool g.hl, .slice PA3 g.seen.length Pc3] (.slice PA0 g.prog.length Pc0) rfl (by kernel_rfl) (by kernel_rfl) rfl (by kernel_rfl) (by kernel_rfl) ?_
    refine Sx.G.pure (.pointer (some ⟨b1, 2, none⟩)) (by kernel_rfl) (fun w => by kernel_rfl) ?_
    refine Sx.G.ld1 3 (.tmp 12) b1 2 1 [.slice PA0 g.prog.length Pc0, .int .i64 g.a, .int .i64 g.pc, .slice PA1 g.wr.length Pc1, .slice PA2 g.lv.length Pc2, .int .i64 g.t.1, .int .i64 g.t.2.1, .bool g.t.2.2, .int .i64 g.pd, .int .i64 g.x.1, .int .i64 g.x.2.1, .bool g.x.2.2.1, .int .i64 g.x.2.2.2, .bool g.hl, .slice PA3 g.seen.length Pc3] (.int .i64 g.pc) rfl (by kernel_rfl) (by kernel_rfl) rfl (by kernel_rfl) (by kernel_rfl) ?_
    refine Sx.G.plain 52 #[.slice PA0 g.prog.length Pc0, .int .i64 g.pc] (.agg #[.int .i64 (insAt g.prog g.pc).1, .int .i64 (insAt g.prog g.pc).2]) (by kernel_rfl) (fun w => by kernel_rfl) (fun w S => by exact spec_insAt PA0 g.prog.length Pc0 0 g.pc g.prog _ q0 rfl (by rw [← pcells_j]; exact p2_lies (St.old S h0))) ?_
    refine Sx.G.alloc 42 (.agg #[.int .i64 0, .int .i64 0]) [.int .i64 0, .int .i64 0] rfl (by kernel_rfl) (fun w => by kernel_rfl) (by kernel_rfl) (fun b4 => ?_)
    refine Sx.G.sto 42 (.tmp 3) (.tmp 14) b4 0 0 [.int .i64 0, .int .i64 0] [.int .i64 (insAt g.prog g.pc).1, .int .i64 (insAt g.prog g.pc).2] [.int .i64 (insAt g.prog g.pc).1, .int .i64 (insAt g.prog g.pc).2] [vr b4 [.int .i64 (insAt g.prog g.pc).1, .int .i64 (insAt g.prog g.pc).2], vr b2 [.slice none 0 0, .int .i64 0, .int .i64 0, .slice none 0 0, .slice none 0 0, .int .i64 0, .int .i64 0, .bool false, .int .i64 0, .int .i64 0, .int .i64 0, .bool false, .int .i64 0, .bool false, .slice none 0 0], vr b1 [.slice PA0 g.prog.length Pc0, .int .i64 g.a, .int .i64 g.pc, .slice PA1 g.wr.length Pc1, .slice PA2 g.lv.length Pc2, .int .i64 g.t.1, .int .i64 g.t.2.1, .bool g.t.2.2, .int .i64 g.pd, .int .i64 g.x.1, .int .i64 g.x.2.1, .bool g.x.2.2.1, .int .i64 g.x.2.2.2, .bool g.hl, .slice PA3 g.seen.length Pc3]] rfl (by kernel_rfl) (by kernel_rfl) (by kernel_rfl) rfl (by kernel_rfl) rfl (by kernel_rfl) (by kernel_rfl) (by kernel_rfl) ?_
    refine Sx.G.nil ?_
    refine Sx.E.next ?_
    refine Sx.C.seq ?_
    refine Sx.C.region ?_
    refine Sx.G.pure (.pointer (some ⟨b1, 1, none⟩)) (by kernel_rfl) (fun w => by kernel_rfl) ?_
    refine Sx.G.ld1 3 (.tmp 15) b1 1 2 [.slice PA0 g.prog.length Pc0, .int .i64 g.a, .int .i64 g.pc, .slice PA1 g.wr.length Pc1, .slice PA2 g.lv.length Pc2, .int .i64 g.t.1, .int .i64 g.t.2.1, .bool g.t.2.2, .int .i64 g.pd, .int .i64 g.x.1, .int .i64 g.x.2.1, .bool g.x.2.2.1, .int .i64 g.x.2.2.2, .bool g.hl, .slice PA3 g.seen.length Pc3] (.int .i64 g.a) rfl (by kernel_rfl) (by kernel_rfl) rfl (by kernel_rfl) (by kernel_rfl) ?_
    refine Sx.G.plain 53 #[.int .i64 g.a, .int .i64 0, .int .i64 99] (.bool (inB g.a 0 99)) (by kernel_rfl) (fun w => by kernel_rfl) (fun w S => by exact ((spec_in g.a 0 99 _).mono fun e w' h => And.intro h.1 (below_same h.2))) ?_
    refine Sx.G.pure (.bool (inB g.a 0 99)) (by kernel_rfl) (fun w => by kernel_rfl) ?_
    cases hc5 : (inB g.a 0 99)
    · have hb5 := hc5
      refine Sx.G.skip (by kernel_rfl) ?_
      refine Sx.G.skip (by kernel_rfl) ?_
      refine Sx.G.skip (by kernel_rfl) ?_
      refine Sx.G.pure (.bool false) (by kernel_rfl) (fun w => by kernel_rfl) ?_
      refine Sx.G.pure (.bool false) (by kernel_rfl) (fun w => by kernel_rfl) ?_
      refine Sx.G.nil ?_
      refine Sx.E.next ?_
      refine Sx.C.seq ?_
      refine Sx.C.block ?_
      refine Sx.C.seq ?_
      refine Sx.C.region ?_
      refine Sx.G.pure (.bool false) (by kernel_rfl) (fun w => by kernel_rfl) ?_
      refine Sx.G.pure (.bool false) (by kernel_rfl) (fun w => by kernel_rfl) ?_
      refine Sx.G.skip (by kernel_rfl) ?_
      refine Sx.G.skip (by kernel_rfl) ?_
      refine Sx.G.skip (by kernel_rfl) ?_
      refine Sx.G.pure (.bool false) (by kernel_rfl) (fun w => by kernel_rfl) ?_
      refine Sx.G.pure (.bool false) (by kernel_rfl) (fun w => by kernel_rfl) ?_
      refine Sx.G.nil ?_
      refine Sx.E.next ?_
      refine Sx.C.no (by kernel_rfl) (by kernel_rfl) ?_
      refine Sx.C.seq ?_
      refine Sx.C.region ?_
      refine Sx.G.pure (.bool false) (by kernel_rfl) (fun w => by kernel_rfl) ?_
      refine Sx.G.pure (.bool false) (by kernel_rfl) (fun w => by kernel_rfl) ?_
      refine Sx.G.skip (by kernel_rfl) ?_
      refine Sx.G.skip (by kernel_rfl) ?_
      refine Sx.G.skip (by kernel_rfl) ?_
      refine Sx.G.pure (.bool false) (by kernel_rfl) (fun w => by kernel_rfl) ?_
      refine Sx.G.pure (.bool false) (by kernel_rfl) (fun w => by kernel_rfl) ?_
      refine Sx.G.nil ?_
      refine Sx.E.next ?_
      refine Sx.C.no (by kernel_rfl) (by kernel_rfl) ?_
      refine Sx.C.seq ?_
      refine Sx.C.region ?_
      refine Sx.G.pure (.bool false) (by kernel_rfl) (fun w => by kernel_rfl) ?_
      refine Sx.G.pure (.bool false) (by kernel_rfl) (fun w => by kernel_rfl) ?_
      refine Sx.G.skip (by kernel_rfl) ?_
      refine Sx.G.skip (by kernel_rfl) ?_
      refine Sx.G.skip (by kernel_rfl) ?_
      refine Sx.G.pure (.bool false) (by kernel_rfl) (fun w => by kernel_rfl) ?_
      refine Sx.G.pure (.bool false) (by kernel_rfl) (fun w => by kernel_rfl) ?_
      refine Sx.G.skip (by kernel_rfl) ?_
      refine Sx.G.skip (by kernel_rfl) ?_
      refine Sx.G.skip (by kernel_rfl) ?_
      refine Sx.G.pure (.bool false) (by kernel_rfl) (fun w => by kernel_rfl) ?_
      refine Sx.G.pure (.bool false) (by kernel_rfl) (fun w => by kernel_rfl) ?_
      refine Sx.G.nil ?_
      refine Sx.E.next ?_
      refine Sx.C.no (by kernel_rfl) (by kernel_rfl) ?_
      refine Sx.C.skip ?_
      refine Sx.E.block_normal ?_
      refine Sx.E.next ?_
      refine Sx.C.seq ?_
      refine Sx.C.region ?_
      refine Sx.G.ld 32 (.tmp 1) b1 0 2 [.slice PA0 g.prog.length Pc0, .int .i64 g.a, .int .i64 g.pc, .slice PA1 g.wr.length Pc1, .slice PA2 g.lv.length Pc2, .int .i64 g.t.1, .int .i64 g.t.2.1, .bool g.t.2.2, .int .i64 g.pd, .int .i64 g.x.1, .int .i64 g.x.2.1, .bool g.x.2.2.1, .int .i64 g.x.2.2.2, .bool g.hl, .slice PA3 g.seen.length Pc3] [.slice PA0 g.prog.length Pc0, .int .i64 g.a, .int .i64 g.pc, .slice PA1 g.wr.length Pc1, .slice PA2 g.lv.length Pc2, .int .i64 g.t.1, .int .i64 g.t.2.1, .bool g.t.2.2, .int .i64 g.pd, .int .i64 g.x.1, .int .i64 g.x.2.1, .bool g.x.2.2.1, .int .i64 g.x.2.2.2, .bool g.hl, .slice PA3 g.seen.length Pc3] rfl (by kernel_rfl) (by kernel_rfl) rfl (by kernel_rfl) (by kernel_rfl) (by kernel_rfl) ?_
      refine Sx.G.call 22 #[.agg #[.slice PA0 g.prog.length Pc0, .int .i64 g.a, .int .i64 g.pc, .slice PA1 g.wr.length Pc1, .slice PA2 g.lv.length Pc2, .int .i64 g.t.1, .int .i64 g.t.2.1, .bool g.t.2.2, .int .i64 g.pd, .int .i64 g.x.1, .int .i64 g.x.2.1, .bool g.x.2.2.1, .int .i64 g.x.2.2.2, .bool g.hl, .slice PA3 g.seen.length Pc3]] (by kernel_rfl) (fun w => by kernel_rfl) (fun w6 S => (specx_moved g _ _ (by exact hc) (St.old S hr)).mono fun e w6' hp => ?_)
      obtain ⟨cs, F, rfl, ho, hF, hb⟩ := hp
      obtain ⟨q6_0, q6_1, q6_2, q6_3, G6_0, G6_1, G6_2, G6_3, rfl, S'⟩ := rG_open (S.got hb ho hF)
      obtain ⟨q6A0, q6c0, e0, -⟩ := lst_val (S'.reads 0 rfl)
      subst e0
      obtain ⟨q6A1, q6c1, e1, -⟩ := lst_val (S'.reads 1 rfl)
      subst e1
      obtain ⟨q6A2, q6c2, e2, -⟩ := lst_val (S'.reads 2 rfl)
      subst e2
      obtain ⟨q6A3, q6c3, e3, -⟩ := lst_val (S'.reads 3 rfl)
      subst e3
      refine ⟨_, _, rfl, S', ?_⟩
      clear S S' ho hF hb
      refine Sx.G.sto 32 (.tmp 2) (.tmp 66) b2 0 5 [.slice none 0 0, .int .i64 0, .int .i64 0, .slice none 0 0, .slice none 0 0, .int .i64 0, .int .i64 0, .bool false, .int .i64 0, .int .i64 0, .int .i64 0, .bool false, .int .i64 0, .bool false, .slice none 0 0] [.slice q6A0 (movedG g).prog.length q6c0, .int .i64 (movedG g).a, .int .i64 (movedG g).pc, .slice q6A1 (movedG g).wr.length q6c1, .slice q6A2 (movedG g).lv.length q6c2, .int .i64 (movedG g).t.1, .int .i64 (movedG g).t.2.1, .bool (movedG g).t.2.2, .int .i64 (movedG g).pd, .int .i64 (movedG g).x.1, .int .i64 (movedG g).x.2.1, .bool (movedG g).x.2.2.1, .int .i64 (movedG g).x.2.2.2, .bool (movedG g).hl, .slice q6A3 (movedG g).seen.length q6c3] [.slice q6A0 (movedG g).prog.length q6c0, .int .i64 (movedG g).a, .int .i64 (movedG g).pc, .slice q6A1 (movedG g).wr.length q6c1, .slice q6A2 (movedG g).lv.length q6c2, .int .i64 (movedG g).t.1, .int .i64 (movedG g).t.2.1, .bool (movedG g).t.2.2, .int .i64 (movedG g).pd, .int .i64 (movedG g).x.1, .int .i64 (movedG g).x.2.1, .bool (movedG g).x.2.2.1, .int .i64 (movedG g).x.2.2.2, .bool (movedG g).hl, .slice q6A3 (movedG g).seen.length q6c3] [ow (rLst 42 (rPair rInt rInt)) w6.heap.size (w6'.heap.size) ((movedG g).prog) [.slice q6A0 (movedG g).prog.length q6c0] G6_0, ow (rLsw (rPair rInt rInt)) w6.heap.size w6'.heap.size (movedG g).wr [.slice q6A1 (movedG g).wr.length q6c1] G6_1, ow (rLsw (rPair rInt rInt)) w6.heap.size w6'.heap.size (movedG g).lv [.slice q6A2 (movedG g).lv.length q6c2] G6_2, ow (rLst 3 rInt) w6.heap.size (w6'.heap.size) ((movedG g).seen) [.slice q6A3 (movedG g).seen.length q6c3] G6_3, vr b4 [.int .i64 (insAt g.prog g.pc).1, .int .i64 (insAt g.prog g.pc).2], vr b2 [.slice q6A0 (movedG g).prog.length q6c0, .int .i64 (movedG g).a, .int .i64 (movedG g).pc, .slice q6A1 (movedG g).wr.length q6c1, .slice q6A2 (movedG g).lv.length q6c2, .int .i64 (movedG g).t.1, .int .i64 (movedG g).t.2.1, .bool (movedG g).t.2.2, .int .i64 (movedG g).pd, .int .i64 (movedG g).x.1, .int .i64 (movedG g).x.2.1, .bool (movedG g).x.2.2.1, .int .i64 (movedG g).x.2.2.2, .bool (movedG g).hl, .slice q6A3 (movedG g).seen.length q6c3], vr b1 [.slice PA0 g.prog.length Pc0, .int .i64 g.a, .int .i64 g.pc, .slice PA1 g.wr.length Pc1, .slice PA2 g.lv.length Pc2, .int .i64 g.t.1, .int .i64 g.t.2.1, .bool g.t.2.2, .int .i64 g.pd, .int .i64 g.x.1, .int .i64 g.x.2.1, .bool g.x.2.2.1, .int .i64 g.x.2.2.2, .bool g.hl, .slice PA3 g.seen.length Pc3]] rfl (by kernel_rfl) (by kernel_rfl) (by kernel_rfl) rfl (by kernel_rfl) rfl (by kernel_rfl) (by kernel_rfl) (by kernel_rfl) ?_
      refine Sx.G.nil ?_
      refine Sx.E.next ?_
      refine Sx.C.ret ?_
      refine Sx.E.retc b2 5 [.slice q6A0 (movedG g).prog.length q6c0, .int .i64 (movedG g).a, .int .i64 (movedG g).pc, .slice q6A1 (movedG g).wr.length q6c1, .slice q6A2 (movedG g).lv.length q6c2, .int .i64 (movedG g).t.1, .int .i64 (movedG g).t.2.1, .bool (movedG g).t.2.2, .int .i64 (movedG g).pd, .int .i64 (movedG g).x.1, .int .i64 (movedG g).x.2.1, .bool (movedG g).x.2.2.1, .int .i64 (movedG g).x.2.2.2, .bool (movedG g).hl, .slice q6A3 (movedG g).seen.length q6c3] rfl (by kernel_rfl) rfl (by kernel_rfl) (by kernel_rfl) (fun w S => ?_)
      have HW : plainG g = movedG g := by simp [plainG, hb3, hb5]
      obtain ⟨ho, hF⟩ := rG_shut (g := movedG g) S 0 rfl 1 rfl 2 rfl 3 rfl (by decide) (by decide) (by decide) (by decide) (by decide) (by decide)
      rw [HW]; exact ⟨_, _, rfl, ho, hF, S.below⟩
    · have hb5 := hc5
      refine Sx.G.pure (.pointer (some ⟨b4, 1, none⟩)) (by kernel_rfl) (fun w => by kernel_rfl) ?_
      refine Sx.G.ld1 3 (.tmp 19) b4 1 0 [.int .i64 (insAt g.prog g.pc).1, .int .i64 (insAt g.prog g.pc).2] (.int .i64 (insAt g.prog g.pc).2) rfl (by kernel_rfl) (by kernel_rfl) rfl (by kernel_rfl) (by kernel_rfl) ?_
      refine Sx.G.plain 53 #[.int .i64 (insAt g.prog g.pc).2, .int .i64 0, .int .i64 99] (.bool (inB ((insAt g.prog g.pc).2) 0 99)) (by kernel_rfl) (fun w => by kernel_rfl) (fun w S => by exact ((spec_in ((insAt g.prog g.pc).2) 0 99 _).mono fun e w' h => And.intro h.1 (below_same h.2))) ?_
      refine Sx.G.pure (.bool (inB ((insAt g.prog g.pc).2) 0 99)) (by kernel_rfl) (fun w => by kernel_rfl) ?_
      refine Sx.G.pure (.bool (inB ((insAt g.prog g.pc).2) 0 99)) (by kernel_rfl) (fun w => by kernel_rfl) ?_
      refine Sx.G.nil ?_
      refine Sx.E.next ?_
      refine Sx.C.seq ?_
      refine Sx.C.block ?_
      refine Sx.C.seq ?_
      refine Sx.C.region ?_
      refine Sx.G.pure (.bool (inB ((insAt g.prog g.pc).2) 0 99)) (by kernel_rfl) (fun w => by kernel_rfl) ?_
      refine Sx.G.pure (.bool (inB ((insAt g.prog g.pc).2) 0 99)) (by kernel_rfl) (fun w => by kernel_rfl) ?_
      cases hc7 : (inB ((insAt g.prog g.pc).2) 0 99)
      · have hb7 := hc7
        refine Sx.G.skip (by kernel_rfl) ?_
        refine Sx.G.skip (by kernel_rfl) ?_
        refine Sx.G.skip (by kernel_rfl) ?_
        refine Sx.G.pure (.bool false) (by kernel_rfl) (fun w => by kernel_rfl) ?_
        refine Sx.G.pure (.bool false) (by kernel_rfl) (fun w => by kernel_rfl) ?_
        refine Sx.G.nil ?_
        refine Sx.E.next ?_
        refine Sx.C.no (by kernel_rfl) (by kernel_rfl) ?_
        refine Sx.C.seq ?_
        refine Sx.C.region ?_
        refine Sx.G.pure (.bool false) (by kernel_rfl) (fun w => by kernel_rfl) ?_
        refine Sx.G.pure (.bool false) (by kernel_rfl) (fun w => by kernel_rfl) ?_
        refine Sx.G.skip (by kernel_rfl) ?_
        refine Sx.G.skip (by kernel_rfl) ?_
        refine Sx.G.skip (by kernel_rfl) ?_
        refine Sx.G.pure (.bool false) (by kernel_rfl) (fun w => by kernel_rfl) ?_
        refine Sx.G.pure (.bool false) (by kernel_rfl) (fun w => by kernel_rfl) ?_
        refine Sx.G.nil ?_
        refine Sx.E.next ?_
        refine Sx.C.no (by kernel_rfl) (by kernel_rfl) ?_
        refine Sx.C.seq ?_
        refine Sx.C.region ?_
        refine Sx.G.pure (.bool false) (by kernel_rfl) (fun w => by kernel_rfl) ?_
        refine Sx.G.pure (.bool false) (by kernel_rfl) (fun w => by kernel_rfl) ?_
        refine Sx.G.skip (by kernel_rfl) ?_
        refine Sx.G.skip (by kernel_rfl) ?_
        refine Sx.G.skip (by kernel_rfl) ?_
        refine Sx.G.pure (.bool false) (by kernel_rfl) (fun w => by kernel_rfl) ?_
        refine Sx.G.pure (.bool false) (by kernel_rfl) (fun w => by kernel_rfl) ?_
        refine Sx.G.skip (by kernel_rfl) ?_
        refine Sx.G.skip (by kernel_rfl) ?_
        refine Sx.G.skip (by kernel_rfl) ?_
        refine Sx.G.pure (.bool false) (by kernel_rfl) (fun w => by kernel_rfl) ?_
        refine Sx.G.pure (.bool false) (by kernel_rfl) (fun w => by kernel_rfl) ?_
        refine Sx.G.nil ?_
        refine Sx.E.next ?_
        refine Sx.C.no (by kernel_rfl) (by kernel_rfl) ?_
        refine Sx.C.skip ?_
        refine Sx.E.block_normal ?_
        refine Sx.E.next ?_
        refine Sx.C.seq ?_
        refine Sx.C.region ?_
        refine Sx.G.ld 32 (.tmp 1) b1 0 2 [.slice PA0 g.prog.length Pc0, .int .i64 g.a, .int .i64 g.pc, .slice PA1 g.wr.length Pc1, .slice PA2 g.lv.length Pc2, .int .i64 g.t.1, .int .i64 g.t.2.1, .bool g.t.2.2, .int .i64 g.pd, .int .i64 g.x.1, .int .i64 g.x.2.1, .bool g.x.2.2.1, .int .i64 g.x.2.2.2, .bool g.hl, .slice PA3 g.seen.length Pc3] [.slice PA0 g.prog.length Pc0, .int .i64 g.a, .int .i64 g.pc, .slice PA1 g.wr.length Pc1, .slice PA2 g.lv.length Pc2, .int .i64 g.t.1, .int .i64 g.t.2.1, .bool g.t.2.2, .int .i64 g.pd, .int .i64 g.x.1, .int .i64 g.x.2.1, .bool g.x.2.2.1, .int .i64 g.x.2.2.2, .bool g.hl, .slice PA3 g.seen.length Pc3] rfl (by kernel_rfl) (by kernel_rfl) rfl (by kernel_rfl) (by kernel_rfl) (by kernel_rfl) ?_
        refine Sx.G.call 22 #[.agg #[.slice PA0 g.prog.length Pc0, .int .i64 g.a, .int .i64 g.pc, .slice PA1 g.wr.length Pc1, .slice PA2 g.lv.length Pc2, .int .i64 g.t.1, .int .i64 g.t.2.1, .bool g.t.2.2, .int .i64 g.pd, .int .i64 g.x.1, .int .i64 g.x.2.1, .bool g.x.2.2.1, .int .i64 g.x.2.2.2, .bool g.hl, .slice PA3 g.seen.length Pc3]] (by kernel_rfl) (fun w => by kernel_rfl) (fun w8 S => (specx_moved g _ _ (by exact hc) (St.old S hr)).mono fun e w8' hp => ?_)
        obtain ⟨cs, F, rfl, ho, hF, hb⟩ := hp
        obtain ⟨q8_0, q8_1, q8_2, q8_3, G8_0, G8_1, G8_2, G8_3, rfl, S'⟩ := rG_open (S.got hb ho hF)
        obtain ⟨q8A0, q8c0, e0, -⟩ := lst_val (S'.reads 0 rfl)
        subst e0
        obtain ⟨q8A1, q8c1, e1, -⟩ := lst_val (S'.reads 1 rfl)
        subst e1
        obtain ⟨q8A2, q8c2, e2, -⟩ := lst_val (S'.reads 2 rfl)
        subst e2
        obtain ⟨q8A3, q8c3, e3, -⟩ := lst_val (S'.reads 3 rfl)
        subst e3
        refine ⟨_, _, rfl, S', ?_⟩
        clear S S' ho hF hb
        refine Sx.G.sto 32 (.tmp 2) (.tmp 66) b2 0 5 [.slice none 0 0, .int .i64 0, .int .i64 0, .slice none 0 0, .slice none 0 0, .int .i64 0, .int .i64 0, .bool false, .int .i64 0, .int .i64 0, .int .i64 0, .bool false, .int .i64 0, .bool false, .slice none 0 0] [.slice q8A0 (movedG g).prog.length q8c0, .int .i64 (movedG g).a, .int .i64 (movedG g).pc, .slice q8A1 (movedG g).wr.length q8c1, .slice q8A2 (movedG g).lv.length q8c2, .int .i64 (movedG g).t.1, .int .i64 (movedG g).t.2.1, .bool (movedG g).t.2.2, .int .i64 (movedG g).pd, .int .i64 (movedG g).x.1, .int .i64 (movedG g).x.2.1, .bool (movedG g).x.2.2.1, .int .i64 (movedG g).x.2.2.2, .bool (movedG g).hl, .slice q8A3 (movedG g).seen.length q8c3] [.slice q8A0 (movedG g).prog.length q8c0, .int .i64 (movedG g).a, .int .i64 (movedG g).pc, .slice q8A1 (movedG g).wr.length q8c1, .slice q8A2 (movedG g).lv.length q8c2, .int .i64 (movedG g).t.1, .int .i64 (movedG g).t.2.1, .bool (movedG g).t.2.2, .int .i64 (movedG g).pd, .int .i64 (movedG g).x.1, .int .i64 (movedG g).x.2.1, .bool (movedG g).x.2.2.1, .int .i64 (movedG g).x.2.2.2, .bool (movedG g).hl, .slice q8A3 (movedG g).seen.length q8c3] [ow (rLst 42 (rPair rInt rInt)) w8.heap.size (w8'.heap.size) ((movedG g).prog) [.slice q8A0 (movedG g).prog.length q8c0] G8_0, ow (rLsw (rPair rInt rInt)) w8.heap.size w8'.heap.size (movedG g).wr [.slice q8A1 (movedG g).wr.length q8c1] G8_1, ow (rLsw (rPair rInt rInt)) w8.heap.size w8'.heap.size (movedG g).lv [.slice q8A2 (movedG g).lv.length q8c2] G8_2, ow (rLst 3 rInt) w8.heap.size (w8'.heap.size) ((movedG g).seen) [.slice q8A3 (movedG g).seen.length q8c3] G8_3, vr b4 [.int .i64 (insAt g.prog g.pc).1, .int .i64 (insAt g.prog g.pc).2], vr b2 [.slice q8A0 (movedG g).prog.length q8c0, .int .i64 (movedG g).a, .int .i64 (movedG g).pc, .slice q8A1 (movedG g).wr.length q8c1, .slice q8A2 (movedG g).lv.length q8c2, .int .i64 (movedG g).t.1, .int .i64 (movedG g).t.2.1, .bool (movedG g).t.2.2, .int .i64 (movedG g).pd, .int .i64 (movedG g).x.1, .int .i64 (movedG g).x.2.1, .bool (movedG g).x.2.2.1, .int .i64 (movedG g).x.2.2.2, .bool (movedG g).hl, .slice q8A3 (movedG g).seen.length q8c3], vr b1 [.slice PA0 g.prog.length Pc0, .int .i64 g.a, .int .i64 g.pc, .slice PA1 g.wr.length Pc1, .slice PA2 g.lv.length Pc2, .int .i64 g.t.1, .int .i64 g.t.2.1, .bool g.t.2.2, .int .i64 g.pd, .int .i64 g.x.1, .int .i64 g.x.2.1, .bool g.x.2.2.1, .int .i64 g.x.2.2.2, .bool g.hl, .slice PA3 g.seen.length Pc3]] rfl (by kernel_rfl) (by kernel_rfl) (by kernel_rfl) rfl (by kernel_rfl) rfl (by kernel_rfl) (by kernel_rfl) (by kernel_rfl) ?_
        refine Sx.G.nil ?_
        refine Sx.E.next ?_
        refine Sx.C.ret ?_
        refine Sx.E.retc b2 5 [.slice q8A0 (movedG g).prog.length q8c0, .int .i64 (movedG g).a, .int .i64 (movedG g).pc, .slice q8A1 (movedG g).wr.length q8c1, .slice q8A2 (movedG g).lv.length q8c2, .int .i64 (movedG g).t.1, .int .i64 (movedG g).t.2.1, .bool (movedG g).t.2.2, .int .i64 (movedG g).pd, .int .i64 (movedG g).x.1, .int .i64 (movedG g).x.2.1, .bool (movedG g).x.2.2.1, .int .i64 (movedG g).x.2.2.2, .bool (movedG g).hl, .slice q8A3 (movedG g).seen.length q8c3] rfl (by kernel_rfl) rfl (by kernel_rfl) (by kernel_rfl) (fun w S => ?_)
        have HW : plainG g = movedG g := by simp [plainG, hb3, hb5, hb7]
        obtain ⟨ho, hF⟩ := rG_shut (g := movedG g) S 0 rfl 1 rfl 2 rfl 3 rfl (by decide) (by decide) (by decide) (by decide) (by decide) (by decide)
        rw [HW]; exact ⟨_, _, rfl, ho, hF, S.below⟩
      · have hb7 := hc7
        refine Sx.G.pure (.pointer (some ⟨b4, 0, none⟩)) (by kernel_rfl) (fun w => by kernel_rfl) ?_
        refine Sx.G.ld1 3 (.tmp 26) b4 0 0 [.int .i64 (insAt g.prog g.pc).1, .int .i64 (insAt g.prog g.pc).2] (.int .i64 (insAt g.prog g.pc).1) rfl (by kernel_rfl) (by kernel_rfl) rfl (by kernel_rfl) (by kernel_rfl) ?_
        refine Sx.G.pure (.bool ((insAt g.prog g.pc).1 == 1)) (by kernel_rfl) (fun w => by kernel_rfl) ?_
        refine Sx.G.pure (.bool ((insAt g.prog g.pc).1 == 1)) (by kernel_rfl) (fun w => by kernel_rfl) ?_
        refine Sx.G.pure (.bool ((insAt g.prog g.pc).1 == 1)) (by kernel_rfl) (fun w => by kernel_rfl) ?_
        refine Sx.G.nil ?_
        refine Sx.E.next ?_
        cases hc9 : ((insAt g.prog g.pc).1 == 1)
        · have hb9 := hc9
          refine Sx.C.no (by kernel_rfl) (by kernel_rfl) ?_
          refine Sx.C.seq ?_
          refine Sx.C.region ?_
          refine Sx.G.pure (.bool true) (by kernel_rfl) (fun w => by kernel_rfl) ?_
          refine Sx.G.pure (.bool true) (by kernel_rfl) (fun w => by kernel_rfl) ?_
          refine Sx.G.pure (.pointer (some ⟨b4, 0, none⟩)) (by kernel_rfl) (fun w => by kernel_rfl) ?_
          refine Sx.G.ld1 3 (.tmp 36) b4 0 0 [.int .i64 (insAt g.prog g.pc).1, .int .i64 (insAt g.prog g.pc).2] (.int .i64 (insAt g.prog g.pc).1) rfl (by kernel_rfl) (by kernel_rfl) rfl (by kernel_rfl) (by kernel_rfl) ?_
          refine Sx.G.pure (.bool ((insAt g.prog g.pc).1 == 2)) (by kernel_rfl) (fun w => by kernel_rfl) ?_
          refine Sx.G.pure (.bool ((insAt g.prog g.pc).1 == 2)) (by kernel_rfl) (fun w => by kernel_rfl) ?_
          refine Sx.G.pure (.bool ((insAt g.prog g.pc).1 == 2)) (by kernel_rfl) (fun w => by kernel_rfl) ?_
          refine Sx.G.nil ?_
          refine Sx.E.next ?_
          cases hc10 : ((insAt g.prog g.pc).1 == 2)
          · have hb10 := hc10
            refine Sx.C.no (by kernel_rfl) (by kernel_rfl) ?_
            refine Sx.C.seq ?_
            refine Sx.C.region ?_
            refine Sx.G.pure (.bool true) (by kernel_rfl) (fun w => by kernel_rfl) ?_
            refine Sx.G.pure (.bool true) (by kernel_rfl) (fun w => by kernel_rfl) ?_
            refine Sx.G.pure (.pointer (some ⟨b4, 0, none⟩)) (by kernel_rfl) (fun w => by kernel_rfl) ?_
            refine Sx.G.ld1 3 (.tmp 50) b4 0 0 [.int .i64 (insAt g.prog g.pc).1, .int .i64 (insAt g.prog g.pc).2] (.int .i64 (insAt g.prog g.pc).1) rfl (by kernel_rfl) (by kernel_rfl) rfl (by kernel_rfl) (by kernel_rfl) ?_
            refine Sx.G.pure (.bool ((insAt g.prog g.pc).1 == 8)) (by kernel_rfl) (fun w => by kernel_rfl) ?_
            refine Sx.G.pure (.bool ((insAt g.prog g.pc).1 == 8)) (by kernel_rfl) (fun w => by kernel_rfl) ?_
            refine Sx.G.pure (.bool ((insAt g.prog g.pc).1 == 8)) (by kernel_rfl) (fun w => by kernel_rfl) ?_
            cases hc11 : ((insAt g.prog g.pc).1 == 8)
            · have hb11 := hc11
              refine Sx.G.skip (by kernel_rfl) ?_
              refine Sx.G.skip (by kernel_rfl) ?_
              refine Sx.G.skip (by kernel_rfl) ?_
              refine Sx.G.pure (.bool false) (by kernel_rfl) (fun w => by kernel_rfl) ?_
              refine Sx.G.pure (.bool false) (by kernel_rfl) (fun w => by kernel_rfl) ?_
              refine Sx.G.nil ?_
              refine Sx.E.next ?_
              refine Sx.C.no (by kernel_rfl) (by kernel_rfl) ?_
              refine Sx.C.skip ?_
              refine Sx.E.block_normal ?_
              refine Sx.E.next ?_
              refine Sx.C.seq ?_
              refine Sx.C.region ?_
              refine Sx.G.ld 32 (.tmp 1) b1 0 2 [.slice PA0 g.prog.length Pc0, .int .i64 g.a, .int .i64 g.pc, .slice PA1 g.wr.length Pc1, .slice PA2 g.lv.length Pc2, .int .i64 g.t.1, .int .i64 g.t.2.1, .bool g.t.2.2, .int .i64 g.pd, .int .i64 g.x.1, .int .i64 g.x.2.1, .bool g.x.2.2.1, .int .i64 g.x.2.2.2, .bool g.hl, .slice PA3 g.seen.length Pc3] [.slice PA0 g.prog.length Pc0, .int .i64 g.a, .int .i64 g.pc, .slice PA1 g.wr.length Pc1, .slice PA2 g.lv.length Pc2, .int .i64 g.t.1, .int .i64 g.t.2.1, .bool g.t.2.2, .int .i64 g.pd, .int .i64 g.x.1, .int .i64 g.x.2.1, .bool g.x.2.2.1, .int .i64 g.x.2.2.2, .bool g.hl, .slice PA3 g.seen.length Pc3] rfl (by kernel_rfl) (by kernel_rfl) rfl (by kernel_rfl) (by kernel_rfl) (by kernel_rfl) ?_
              refine Sx.G.call 22 #[.agg #[.slice PA0 g.prog.length Pc0, .int .i64 g.a, .int .i64 g.pc, .slice PA1 g.wr.length Pc1, .slice PA2 g.lv.length Pc2, .int .i64 g.t.1, .int .i64 g.t.2.1, .bool g.t.2.2, .int .i64 g.pd, .int .i64 g.x.1, .int .i64 g.x.2.1, .bool g.x.2.2.1, .int .i64 g.x.2.2.2, .bool g.hl, .slice PA3 g.seen.length Pc3]] (by kernel_rfl) (fun w => by kernel_rfl) (fun w12 S => (specx_moved g _ _ (by exact hc) (St.old S hr)).mono fun e w12' hp => ?_)
              obtain ⟨cs, F, rfl, ho, hF, hb⟩ := hp
              obtain ⟨q12_0, q12_1, q12_2, q12_3, G12_0, G12_1, G12_2, G12_3, rfl, S'⟩ := rG_open (S.got hb ho hF)
              obtain ⟨q12A0, q12c0, e0, -⟩ := lst_val (S'.reads 0 rfl)
              subst e0
              obtain ⟨q12A1, q12c1, e1, -⟩ := lst_val (S'.reads 1 rfl)
              subst e1
              obtain ⟨q12A2, q12c2, e2, -⟩ := lst_val (S'.reads 2 rfl)
              subst e2
              obtain ⟨q12A3, q12c3, e3, -⟩ := lst_val (S'.reads 3 rfl)
              subst e3
              refine ⟨_, _, rfl, S', ?_⟩
              clear S S' ho hF hb
              refine Sx.G.sto 32 (.tmp 2) (.tmp 66) b2 0 5 [.slice none 0 0, .int .i64 0, .int .i64 0, .slice none 0 0, .slice none 0 0, .int .i64 0, .int .i64 0, .bool false, .int .i64 0, .int .i64 0, .int .i64 0, .bool false, .int .i64 0, .bool false, .slice none 0 0] [.slice q12A0 (movedG g).prog.length q12c0, .int .i64 (movedG g).a, .int .i64 (movedG g).pc, .slice q12A1 (movedG g).wr.length q12c1, .slice q12A2 (movedG g).lv.length q12c2, .int .i64 (movedG g).t.1, .int .i64 (movedG g).t.2.1, .bool (movedG g).t.2.2, .int .i64 (movedG g).pd, .int .i64 (movedG g).x.1, .int .i64 (movedG g).x.2.1, .bool (movedG g).x.2.2.1, .int .i64 (movedG g).x.2.2.2, .bool (movedG g).hl, .slice q12A3 (movedG g).seen.length q12c3] [.slice q12A0 (movedG g).prog.length q12c0, .int .i64 (movedG g).a, .int .i64 (movedG g).pc, .slice q12A1 (movedG g).wr.length q12c1, .slice q12A2 (movedG g).lv.length q12c2, .int .i64 (movedG g).t.1, .int .i64 (movedG g).t.2.1, .bool (movedG g).t.2.2, .int .i64 (movedG g).pd, .int .i64 (movedG g).x.1, .int .i64 (movedG g).x.2.1, .bool (movedG g).x.2.2.1, .int .i64 (movedG g).x.2.2.2, .bool (movedG g).hl, .slice q12A3 (movedG g).seen.length q12c3] [ow (rLst 42 (rPair rInt rInt)) w12.heap.size (w12'.heap.size) ((movedG g).prog) [.slice q12A0 (movedG g).prog.length q12c0] G12_0, ow (rLsw (rPair rInt rInt)) w12.heap.size w12'.heap.size (movedG g).wr [.slice q12A1 (movedG g).wr.length q12c1] G12_1, ow (rLsw (rPair rInt rInt)) w12.heap.size w12'.heap.size (movedG g).lv [.slice q12A2 (movedG g).lv.length q12c2] G12_2, ow (rLst 3 rInt) w12.heap.size (w12'.heap.size) ((movedG g).seen) [.slice q12A3 (movedG g).seen.length q12c3] G12_3, vr b4 [.int .i64 (insAt g.prog g.pc).1, .int .i64 (insAt g.prog g.pc).2], vr b2 [.slice q12A0 (movedG g).prog.length q12c0, .int .i64 (movedG g).a, .int .i64 (movedG g).pc, .slice q12A1 (movedG g).wr.length q12c1, .slice q12A2 (movedG g).lv.length q12c2, .int .i64 (movedG g).t.1, .int .i64 (movedG g).t.2.1, .bool (movedG g).t.2.2, .int .i64 (movedG g).pd, .int .i64 (movedG g).x.1, .int .i64 (movedG g).x.2.1, .bool (movedG g).x.2.2.1, .int .i64 (movedG g).x.2.2.2, .bool (movedG g).hl, .slice q12A3 (movedG g).seen.length q12c3], vr b1 [.slice PA0 g.prog.length Pc0, .int .i64 g.a, .int .i64 g.pc, .slice PA1 g.wr.length Pc1, .slice PA2 g.lv.length Pc2, .int .i64 g.t.1, .int .i64 g.t.2.1, .bool g.t.2.2, .int .i64 g.pd, .int .i64 g.x.1, .int .i64 g.x.2.1, .bool g.x.2.2.1, .int .i64 g.x.2.2.2, .bool g.hl, .slice PA3 g.seen.length Pc3]] rfl (by kernel_rfl) (by kernel_rfl) (by kernel_rfl) rfl (by kernel_rfl) rfl (by kernel_rfl) (by kernel_rfl) (by kernel_rfl) ?_
              refine Sx.G.nil ?_
              refine Sx.E.next ?_
              refine Sx.C.ret ?_
              refine Sx.E.retc b2 5 [.slice q12A0 (movedG g).prog.length q12c0, .int .i64 (movedG g).a, .int .i64 (movedG g).pc, .slice q12A1 (movedG g).wr.length q12c1, .slice q12A2 (movedG g).lv.length q12c2, .int .i64 (movedG g).t.1, .int .i64 (movedG g).t.2.1, .bool (movedG g).t.2.2, .int .i64 (movedG g).pd, .int .i64 (movedG g).x.1, .int .i64 (movedG g).x.2.1, .bool (movedG g).x.2.2.1, .int .i64 (movedG g).x.2.2.2, .bool (movedG g).hl, .slice q12A3 (movedG g).seen.length q12c3] rfl (by kernel_rfl) rfl (by kernel_rfl) (by kernel_rfl) (fun w S => ?_)
              have HW : plainG g = movedG g := by simp [plainG, hb3, hb5, hb7, hb9, hb10, hb11]
              obtain ⟨ho, hF⟩ := rG_shut (g := movedG g) S 0 rfl 1 rfl 2 rfl 3 rfl (by decide) (by decide) (by decide) (by decide) (by decide) (by decide)
              rw [HW]; exact ⟨_, _, rfl, ho, hF, S.below⟩
            · have hb11 := hc11
              refine Sx.G.pure (.pointer (some ⟨b1, 1, none⟩)) (by kernel_rfl) (fun w => by kernel_rfl) ?_
              refine Sx.G.ld1 3 (.tmp 55) b1 1 2 [.slice PA0 g.prog.length Pc0, .int .i64 g.a, .int .i64 g.pc, .slice PA1 g.wr.length Pc1, .slice PA2 g.lv.length Pc2, .int .i64 g.t.1, .int .i64 g.t.2.1, .bool g.t.2.2, .int .i64 g.pd, .int .i64 g.x.1, .int .i64 g.x.2.1, .bool g.x.2.2.1, .int .i64 g.x.2.2.2, .bool g.hl, .slice PA3 g.seen.length Pc3] (.int .i64 g.a) rfl (by kernel_rfl) (by kernel_rfl) rfl (by kernel_rfl) (by kernel_rfl) ?_
              refine Sx.G.pure (.bool (g.a == 0)) (by kernel_rfl) (fun w => by kernel_rfl) ?_
              refine Sx.G.pure (.bool (g.a == 0)) (by kernel_rfl) (fun w => by kernel_rfl) ?_
              refine Sx.G.pure (.bool (g.a == 0)) (by kernel_rfl) (fun w => by kernel_rfl) ?_
              refine Sx.G.nil ?_
              refine Sx.E.next ?_
              cases hc13 : (g.a == 0)
              · have hb13 := hc13
                refine Sx.C.no (by kernel_rfl) (by kernel_rfl) ?_
                refine Sx.C.skip ?_
                refine Sx.E.block_normal ?_
                refine Sx.E.next ?_
                refine Sx.C.seq ?_
                refine Sx.C.region ?_
                refine Sx.G.ld 32 (.tmp 1) b1 0 2 [.slice PA0 g.prog.length Pc0, .int .i64 g.a, .int .i64 g.pc, .slice PA1 g.wr.length Pc1, .slice PA2 g.lv.length Pc2, .int .i64 g.t.1, .int .i64 g.t.2.1, .bool g.t.2.2, .int .i64 g.pd, .int .i64 g.x.1, .int .i64 g.x.2.1, .bool g.x.2.2.1, .int .i64 g.x.2.2.2, .bool g.hl, .slice PA3 g.seen.length Pc3] [.slice PA0 g.prog.length Pc0, .int .i64 g.a, .int .i64 g.pc, .slice PA1 g.wr.length Pc1, .slice PA2 g.lv.length Pc2, .int .i64 g.t.1, .int .i64 g.t.2.1, .bool g.t.2.2, .int .i64 g.pd, .int .i64 g.x.1, .int .i64 g.x.2.1, .bool g.x.2.2.1, .int .i64 g.x.2.2.2, .bool g.hl, .slice PA3 g.seen.length Pc3] rfl (by kernel_rfl) (by kernel_rfl) rfl (by kernel_rfl) (by kernel_rfl) (by kernel_rfl) ?_
                refine Sx.G.call 22 #[.agg #[.slice PA0 g.prog.length Pc0, .int .i64 g.a, .int .i64 g.pc, .slice PA1 g.wr.length Pc1, .slice PA2 g.lv.length Pc2, .int .i64 g.t.1, .int .i64 g.t.2.1, .bool g.t.2.2, .int .i64 g.pd, .int .i64 g.x.1, .int .i64 g.x.2.1, .bool g.x.2.2.1, .int .i64 g.x.2.2.2, .bool g.hl, .slice PA3 g.seen.length Pc3]] (by kernel_rfl) (fun w => by kernel_rfl) (fun w14 S => (specx_moved g _ _ (by exact hc) (St.old S hr)).mono fun e w14' hp => ?_)
                obtain ⟨cs, F, rfl, ho, hF, hb⟩ := hp
                obtain ⟨q14_0, q14_1, q14_2, q14_3, G14_0, G14_1, G14_2, G14_3, rfl, S'⟩ := rG_open (S.got hb ho hF)
                obtain ⟨q14A0, q14c0, e0, -⟩ := lst_val (S'.reads 0 rfl)
                subst e0
                obtain ⟨q14A1, q14c1, e1, -⟩ := lst_val (S'.reads 1 rfl)
                subst e1
                obtain ⟨q14A2, q14c2, e2, -⟩ := lst_val (S'.reads 2 rfl)
                subst e2
                obtain ⟨q14A3, q14c3, e3, -⟩ := lst_val (S'.reads 3 rfl)
                subst e3
                refine ⟨_, _, rfl, S', ?_⟩
                clear S S' ho hF hb
                refine Sx.G.sto 32 (.tmp 2) (.tmp 66) b2 0 5 [.slice none 0 0, .int .i64 0, .int .i64 0, .slice none 0 0, .slice none 0 0, .int .i64 0, .int .i64 0, .bool false, .int .i64 0, .int .i64 0, .int .i64 0, .bool false, .int .i64 0, .bool false, .slice none 0 0] [.slice q14A0 (movedG g).prog.length q14c0, .int .i64 (movedG g).a, .int .i64 (movedG g).pc, .slice q14A1 (movedG g).wr.length q14c1, .slice q14A2 (movedG g).lv.length q14c2, .int .i64 (movedG g).t.1, .int .i64 (movedG g).t.2.1, .bool (movedG g).t.2.2, .int .i64 (movedG g).pd, .int .i64 (movedG g).x.1, .int .i64 (movedG g).x.2.1, .bool (movedG g).x.2.2.1, .int .i64 (movedG g).x.2.2.2, .bool (movedG g).hl, .slice q14A3 (movedG g).seen.length q14c3] [.slice q14A0 (movedG g).prog.length q14c0, .int .i64 (movedG g).a, .int .i64 (movedG g).pc, .slice q14A1 (movedG g).wr.length q14c1, .slice q14A2 (movedG g).lv.length q14c2, .int .i64 (movedG g).t.1, .int .i64 (movedG g).t.2.1, .bool (movedG g).t.2.2, .int .i64 (movedG g).pd, .int .i64 (movedG g).x.1, .int .i64 (movedG g).x.2.1, .bool (movedG g).x.2.2.1, .int .i64 (movedG g).x.2.2.2, .bool (movedG g).hl, .slice q14A3 (movedG g).seen.length q14c3] [ow (rLst 42 (rPair rInt rInt)) w14.heap.size (w14'.heap.size) ((movedG g).prog) [.slice q14A0 (movedG g).prog.length q14c0] G14_0, ow (rLsw (rPair rInt rInt)) w14.heap.size w14'.heap.size (movedG g).wr [.slice q14A1 (movedG g).wr.length q14c1] G14_1, ow (rLsw (rPair rInt rInt)) w14.heap.size w14'.heap.size (movedG g).lv [.slice q14A2 (movedG g).lv.length q14c2] G14_2, ow (rLst 3 rInt) w14.heap.size (w14'.heap.size) ((movedG g).seen) [.slice q14A3 (movedG g).seen.length q14c3] G14_3, vr b4 [.int .i64 (insAt g.prog g.pc).1, .int .i64 (insAt g.prog g.pc).2], vr b2 [.slice q14A0 (movedG g).prog.length q14c0, .int .i64 (movedG g).a, .int .i64 (movedG g).pc, .slice q14A1 (movedG g).wr.length q14c1, .slice q14A2 (movedG g).lv.length q14c2, .int .i64 (movedG g).t.1, .int .i64 (movedG g).t.2.1, .bool (movedG g).t.2.2, .int .i64 (movedG g).pd, .int .i64 (movedG g).x.1, .int .i64 (movedG g).x.2.1, .bool (movedG g).x.2.2.1, .int .i64 (movedG g).x.2.2.2, .bool (movedG g).hl, .slice q14A3 (movedG g).seen.length q14c3], vr b1 [.slice PA0 g.prog.length Pc0, .int .i64 g.a, .int .i64 g.pc, .slice PA1 g.wr.length Pc1, .slice PA2 g.lv.length Pc2, .int .i64 g.t.1, .int .i64 g.t.2.1, .bool g.t.2.2, .int .i64 g.pd, .int .i64 g.x.1, .int .i64 g.x.2.1, .bool g.x.2.2.1, .int .i64 g.x.2.2.2, .bool g.hl, .slice PA3 g.seen.length Pc3]] rfl (by kernel_rfl) (by kernel_rfl) (by kernel_rfl) rfl (by kernel_rfl) rfl (by kernel_rfl) (by kernel_rfl) (by kernel_rfl) ?_
                refine Sx.G.nil ?_
                refine Sx.E.next ?_
                refine Sx.C.ret ?_
                refine Sx.E.retc b2 5 [.slice q14A0 (movedG g).prog.length q14c0, .int .i64 (movedG g).a, .int .i64 (movedG g).pc, .slice q14A1 (movedG g).wr.length q14c1, .slice q14A2 (movedG g).lv.length q14c2, .int .i64 (movedG g).t.1, .int .i64 (movedG g).t.2.1, .bool (movedG g).t.2.2, .int .i64 (movedG g).pd, .int .i64 (movedG g).x.1, .int .i64 (movedG g).x.2.1, .bool (movedG g).x.2.2.1, .int .i64 (movedG g).x.2.2.2, .bool (movedG g).hl, .slice q14A3 (movedG g).seen.length q14c3] rfl (by kernel_rfl) rfl (by kernel_rfl) (by kernel_rfl) (fun w S => ?_)
                have HW : plainG g = movedG g := by simp [plainG, hb3, hb5, hb7, hb9, hb10, hb11, hb13]
                obtain ⟨ho, hF⟩ := rG_shut (g := movedG g) S 0 rfl 1 rfl 2 rfl 3 rfl (by decide) (by decide) (by decide) (by decide) (by decide) (by decide)
                rw [HW]; exact ⟨_, _, rfl, ho, hF, S.below⟩
              · have hb13 := hc13
                refine Sx.C.yes (by kernel_rfl) (by kernel_rfl) ?_
                refine Sx.C.seq ?_
                refine Sx.C.region ?_
                refine Sx.G.ld 32 (.tmp 1) b1 0 2 [.slice PA0 g.prog.length Pc0, .int .i64 g.a, .int .i64 g.pc, .slice PA1 g.wr.length Pc1, .slice PA2 g.lv.length Pc2, .int .i64 g.t.1, .int .i64 g.t.2.1, .bool g.t.2.2, .int .i64 g.pd, .int .i64 g.x.1, .int .i64 g.x.2.1, .bool g.x.2.2.1, .int .i64 g.x.2.2.2, .bool g.hl, .slice PA3 g.seen.length Pc3] [.slice PA0 g.prog.length Pc0, .int .i64 g.a, .int .i64 g.pc, .slice PA1 g.wr.length Pc1, .slice PA2 g.lv.length Pc2, .int .i64 g.t.1, .int .i64 g.t.2.1, .bool g.t.2.2, .int .i64 g.pd, .int .i64 g.x.1, .int .i64 g.x.2.1, .bool g.x.2.2.1, .int .i64 g.x.2.2.2, .bool g.hl, .slice PA3 g.seen.length Pc3] rfl (by kernel_rfl) (by kernel_rfl) rfl (by kernel_rfl) (by kernel_rfl) (by kernel_rfl) ?_
                refine Sx.G.call 51 #[.agg #[.slice PA0 g.prog.length Pc0, .int .i64 g.a, .int .i64 g.pc, .slice PA1 g.wr.length Pc1, .slice PA2 g.lv.length Pc2, .int .i64 g.t.1, .int .i64 g.t.2.1, .bool g.t.2.2, .int .i64 g.pd, .int .i64 g.x.1, .int .i64 g.x.2.1, .bool g.x.2.2.1, .int .i64 g.x.2.2.2, .bool g.hl, .slice PA3 g.seen.length Pc3]] (by kernel_rfl) (fun w => by kernel_rfl) (fun w15 S => (specx_copy g _ _ (by exact hc) (St.old S hr)).mono fun e w15' hp => ?_)
                obtain ⟨cs, F, rfl, ho, hF, hb⟩ := hp
                obtain ⟨q15_0, q15_1, q15_2, q15_3, G15_0, G15_1, G15_2, G15_3, rfl, S'⟩ := rG_open (S.got hb ho hF)
                obtain ⟨q15A0, q15c0, e0, -⟩ := lst_val (S'.reads 0 rfl)
                subst e0
                obtain ⟨q15A1, q15c1, e1, -⟩ := lst_val (S'.reads 1 rfl)
                subst e1
                obtain ⟨q15A2, q15c2, e2, -⟩ := lst_val (S'.reads 2 rfl)
                subst e2
                obtain ⟨q15A3, q15c3, e3, -⟩ := lst_val (S'.reads 3 rfl)
                subst e3
                refine ⟨_, _, rfl, S', ?_⟩
                clear S S' ho hF hb
                refine Sx.G.sto 32 (.tmp 1) (.tmp 60) b1 0 6 [.slice PA0 g.prog.length Pc0, .int .i64 g.a, .int .i64 g.pc, .slice PA1 g.wr.length Pc1, .slice PA2 g.lv.length Pc2, .int .i64 g.t.1, .int .i64 g.t.2.1, .bool g.t.2.2, .int .i64 g.pd, .int .i64 g.x.1, .int .i64 g.x.2.1, .bool g.x.2.2.1, .int .i64 g.x.2.2.2, .bool g.hl, .slice PA3 g.seen.length Pc3] [.slice q15A0 g.prog.length q15c0, .int .i64 g.a, .int .i64 g.pc, .slice q15A1 g.wr.length q15c1, .slice q15A2 g.lv.length q15c2, .int .i64 g.t.1, .int .i64 g.t.2.1, .bool g.t.2.2, .int .i64 g.pd, .int .i64 g.x.1, .int .i64 g.x.2.1, .bool g.x.2.2.1, .int .i64 g.x.2.2.2, .bool g.hl, .slice q15A3 g.seen.length q15c3] [.slice q15A0 g.prog.length q15c0, .int .i64 g.a, .int .i64 g.pc, .slice q15A1 g.wr.length q15c1, .slice q15A2 g.lv.length q15c2, .int .i64 g.t.1, .int .i64 g.t.2.1, .bool g.t.2.2, .int .i64 g.pd, .int .i64 g.x.1, .int .i64 g.x.2.1, .bool g.x.2.2.1, .int .i64 g.x.2.2.2, .bool g.hl, .slice q15A3 g.seen.length q15c3] [ow (rLst 42 (rPair rInt rInt)) w15.heap.size (w15'.heap.size) g.prog [.slice q15A0 g.prog.length q15c0] G15_0, ow (rLsw (rPair rInt rInt)) w15.heap.size w15'.heap.size g.wr [.slice q15A1 g.wr.length q15c1] G15_1, ow (rLsw (rPair rInt rInt)) w15.heap.size w15'.heap.size g.lv [.slice q15A2 g.lv.length q15c2] G15_2, ow (rLst 3 rInt) w15.heap.size (w15'.heap.size) g.seen [.slice q15A3 g.seen.length q15c3] G15_3, vr b4 [.int .i64 (insAt g.prog g.pc).1, .int .i64 (insAt g.prog g.pc).2], vr b2 [.slice none 0 0, .int .i64 0, .int .i64 0, .slice none 0 0, .slice none 0 0, .int .i64 0, .int .i64 0, .bool false, .int .i64 0, .int .i64 0, .int .i64 0, .bool false, .int .i64 0, .bool false, .slice none 0 0], vr b1 [.slice q15A0 g.prog.length q15c0, .int .i64 g.a, .int .i64 g.pc, .slice q15A1 g.wr.length q15c1, .slice q15A2 g.lv.length q15c2, .int .i64 g.t.1, .int .i64 g.t.2.1, .bool g.t.2.2, .int .i64 g.pd, .int .i64 g.x.1, .int .i64 g.x.2.1, .bool g.x.2.2.1, .int .i64 g.x.2.2.2, .bool g.hl, .slice q15A3 g.seen.length q15c3]] rfl (by kernel_rfl) (by kernel_rfl) (by kernel_rfl) rfl (by kernel_rfl) rfl (by kernel_rfl) (by kernel_rfl) (by kernel_rfl) ?_
                refine Sx.G.nil ?_
                refine Sx.E.next ?_
                refine Sx.C.seq ?_
                refine Sx.C.region ?_
                refine Sx.G.pure (.pointer (some ⟨b4, 1, none⟩)) (by kernel_rfl) (fun w => by kernel_rfl) ?_
                refine Sx.G.ld1 3 (.tmp 61) b4 1 4 [.int .i64 (insAt g.prog g.pc).1, .int .i64 (insAt g.prog g.pc).2] (.int .i64 (insAt g.prog g.pc).2) rfl (by kernel_rfl) (by kernel_rfl) rfl (by kernel_rfl) (by kernel_rfl) ?_
                refine Sx.G.pure (.pointer (some ⟨b1, 2, none⟩)) (by kernel_rfl) (fun w => by kernel_rfl) ?_
                refine Sx.G.sto 3 (.tmp 63) (.tmp 62) b1 2 6 [.slice q15A0 g.prog.length q15c0, .int .i64 g.a, .int .i64 g.pc, .slice q15A1 g.wr.length q15c1, .slice q15A2 g.lv.length q15c2, .int .i64 g.t.1, .int .i64 g.t.2.1, .bool g.t.2.2, .int .i64 g.pd, .int .i64 g.x.1, .int .i64 g.x.2.1, .bool g.x.2.2.1, .int .i64 g.x.2.2.2, .bool g.hl, .slice q15A3 g.seen.length q15c3] [.int .i64 (insAt g.prog g.pc).2] [.slice q15A0 g.prog.length q15c0, .int .i64 g.a, .int .i64 (insAt g.prog g.pc).2, .slice q15A1 g.wr.length q15c1, .slice q15A2 g.lv.length q15c2, .int .i64 g.t.1, .int .i64 g.t.2.1, .bool g.t.2.2, .int .i64 g.pd, .int .i64 g.x.1, .int .i64 g.x.2.1, .bool g.x.2.2.1, .int .i64 g.x.2.2.2, .bool g.hl, .slice q15A3 g.seen.length q15c3] [ow (rLst 42 (rPair rInt rInt)) w15.heap.size (w15'.heap.size) g.prog [.slice q15A0 g.prog.length q15c0] G15_0, ow (rLsw (rPair rInt rInt)) w15.heap.size w15'.heap.size g.wr [.slice q15A1 g.wr.length q15c1] G15_1, ow (rLsw (rPair rInt rInt)) w15.heap.size w15'.heap.size g.lv [.slice q15A2 g.lv.length q15c2] G15_2, ow (rLst 3 rInt) w15.heap.size (w15'.heap.size) g.seen [.slice q15A3 g.seen.length q15c3] G15_3, vr b4 [.int .i64 (insAt g.prog g.pc).1, .int .i64 (insAt g.prog g.pc).2], vr b2 [.slice none 0 0, .int .i64 0, .int .i64 0, .slice none 0 0, .slice none 0 0, .int .i64 0, .int .i64 0, .bool false, .int .i64 0, .int .i64 0, .int .i64 0, .bool false, .int .i64 0, .bool false, .slice none 0 0], vr b1 [.slice q15A0 g.prog.length q15c0, .int .i64 g.a, .int .i64 (insAt g.prog g.pc).2, .slice q15A1 g.wr.length q15c1, .slice q15A2 g.lv.length q15c2, .int .i64 g.t.1, .int .i64 g.t.2.1, .bool g.t.2.2, .int .i64 g.pd, .int .i64 g.x.1, .int .i64 g.x.2.1, .bool g.x.2.2.1, .int .i64 g.x.2.2.2, .bool g.hl, .slice q15A3 g.seen.length q15c3]] rfl (by kernel_rfl) (by kernel_rfl) (by kernel_rfl) rfl (by kernel_rfl) rfl (by kernel_rfl) (by kernel_rfl) (by kernel_rfl) ?_
                refine Sx.G.nil ?_
                refine Sx.E.next ?_
                refine Sx.C.seq ?_
                refine Sx.C.region ?_
                refine Sx.G.ld 32 (.tmp 1) b1 0 6 [.slice q15A0 g.prog.length q15c0, .int .i64 g.a, .int .i64 (insAt g.prog g.pc).2, .slice q15A1 g.wr.length q15c1, .slice q15A2 g.lv.length q15c2, .int .i64 g.t.1, .int .i64 g.t.2.1, .bool g.t.2.2, .int .i64 g.pd, .int .i64 g.x.1, .int .i64 g.x.2.1, .bool g.x.2.2.1, .int .i64 g.x.2.2.2, .bool g.hl, .slice q15A3 g.seen.length q15c3] [.slice q15A0 g.prog.length q15c0, .int .i64 g.a, .int .i64 (insAt g.prog g.pc).2, .slice q15A1 g.wr.length q15c1, .slice q15A2 g.lv.length q15c2, .int .i64 g.t.1, .int .i64 g.t.2.1, .bool g.t.2.2, .int .i64 g.pd, .int .i64 g.x.1, .int .i64 g.x.2.1, .bool g.x.2.2.1, .int .i64 g.x.2.2.2, .bool g.hl, .slice q15A3 g.seen.length q15c3] rfl (by kernel_rfl) (by kernel_rfl) rfl (by kernel_rfl) (by kernel_rfl) (by kernel_rfl) ?_
                refine Sx.G.sto 32 (.tmp 2) (.tmp 64) b2 0 5 [.slice none 0 0, .int .i64 0, .int .i64 0, .slice none 0 0, .slice none 0 0, .int .i64 0, .int .i64 0, .bool false, .int .i64 0, .int .i64 0, .int .i64 0, .bool false, .int .i64 0, .bool false, .slice none 0 0] [.slice q15A0 g.prog.length q15c0, .int .i64 g.a, .int .i64 (insAt g.prog g.pc).2, .slice q15A1 g.wr.length q15c1, .slice q15A2 g.lv.length q15c2, .int .i64 g.t.1, .int .i64 g.t.2.1, .bool g.t.2.2, .int .i64 g.pd, .int .i64 g.x.1, .int .i64 g.x.2.1, .bool g.x.2.2.1, .int .i64 g.x.2.2.2, .bool g.hl, .slice q15A3 g.seen.length q15c3] [.slice q15A0 g.prog.length q15c0, .int .i64 g.a, .int .i64 (insAt g.prog g.pc).2, .slice q15A1 g.wr.length q15c1, .slice q15A2 g.lv.length q15c2, .int .i64 g.t.1, .int .i64 g.t.2.1, .bool g.t.2.2, .int .i64 g.pd, .int .i64 g.x.1, .int .i64 g.x.2.1, .bool g.x.2.2.1, .int .i64 g.x.2.2.2, .bool g.hl, .slice q15A3 g.seen.length q15c3] [ow (rLst 42 (rPair rInt rInt)) w15.heap.size (w15'.heap.size) g.prog [.slice q15A0 g.prog.length q15c0] G15_0, ow (rLsw (rPair rInt rInt)) w15.heap.size w15'.heap.size g.wr [.slice q15A1 g.wr.length q15c1] G15_1, ow (rLsw (rPair rInt rInt)) w15.heap.size w15'.heap.size g.lv [.slice q15A2 g.lv.length q15c2] G15_2, ow (rLst 3 rInt) w15.heap.size (w15'.heap.size) g.seen [.slice q15A3 g.seen.length q15c3] G15_3, vr b4 [.int .i64 (insAt g.prog g.pc).1, .int .i64 (insAt g.prog g.pc).2], vr b2 [.slice q15A0 g.prog.length q15c0, .int .i64 g.a, .int .i64 (insAt g.prog g.pc).2, .slice q15A1 g.wr.length q15c1, .slice q15A2 g.lv.length q15c2, .int .i64 g.t.1, .int .i64 g.t.2.1, .bool g.t.2.2, .int .i64 g.pd, .int .i64 g.x.1, .int .i64 g.x.2.1, .bool g.x.2.2.1, .int .i64 g.x.2.2.2, .bool g.hl, .slice q15A3 g.seen.length q15c3], vr b1 [.slice q15A0 g.prog.length q15c0, .int .i64 g.a, .int .i64 (insAt g.prog g.pc).2, .slice q15A1 g.wr.length q15c1, .slice q15A2 g.lv.length q15c2, .int .i64 g.t.1, .int .i64 g.t.2.1, .bool g.t.2.2, .int .i64 g.pd, .int .i64 g.x.1, .int .i64 g.x.2.1, .bool g.x.2.2.1, .int .i64 g.x.2.2.2, .bool g.hl, .slice q15A3 g.seen.length q15c3]] rfl (by kernel_rfl) (by kernel_rfl) (by kernel_rfl) rfl (by kernel_rfl) rfl (by kernel_rfl) (by kernel_rfl) (by kernel_rfl) ?_
                refine Sx.G.nil ?_
                refine Sx.E.next ?_
                refine Sx.C.ret ?_
                refine Sx.E.block_ret ?_
                refine Sx.E.then_ret ?_
                refine Sx.E.retc b2 5 [.slice q15A0 g.prog.length q15c0, .int .i64 g.a, .int .i64 (insAt g.prog g.pc).2, .slice q15A1 g.wr.length q15c1, .slice q15A2 g.lv.length q15c2, .int .i64 g.t.1, .int .i64 g.t.2.1, .bool g.t.2.2, .int .i64 g.pd, .int .i64 g.x.1, .int .i64 g.x.2.1, .bool g.x.2.2.1, .int .i64 g.x.2.2.2, .bool g.hl, .slice q15A3 g.seen.length q15c3] rfl (by kernel_rfl) rfl (by kernel_rfl) (by kernel_rfl) (fun w S => ?_)
                have HW : plainG g = { g with pc := (insAt g.prog g.pc).2 } := by simp [plainG, hb3, hb5, hb7, hb9, hb10, hb11, hb13]
                obtain ⟨ho, hF⟩ := rG_shut (g := { g with pc := (insAt g.prog g.pc).2 }) S 0 rfl 1 rfl 2 rfl 3 rfl (by decide) (by decide) (by decide) (by decide) (by decide) (by decide)
                rw [HW]; exact ⟨_, _, rfl, ho, hF, S.below⟩
          · have hb10 := hc10
            refine Sx.C.yes (by kernel_rfl) (by kernel_rfl) ?_
            refine Sx.C.region ?_
            refine Sx.G.pure (.pointer (some ⟨b1, 1, none⟩)) (by kernel_rfl) (fun w => by kernel_rfl) ?_
            refine Sx.G.ld1 3 (.tmp 40) b1 1 2 [.slice PA0 g.prog.length Pc0, .int .i64 g.a, .int .i64 g.pc, .slice PA1 g.wr.length Pc1, .slice PA2 g.lv.length Pc2, .int .i64 g.t.1, .int .i64 g.t.2.1, .bool g.t.2.2, .int .i64 g.pd, .int .i64 g.x.1, .int .i64 g.x.2.1, .bool g.x.2.2.1, .int .i64 g.x.2.2.2, .bool g.hl, .slice PA3 g.seen.length Pc3] (.int .i64 g.a) rfl (by kernel_rfl) (by kernel_rfl) rfl (by kernel_rfl) (by kernel_rfl) ?_
            refine Sx.G.pure (.pointer (some ⟨b4, 1, none⟩)) (by kernel_rfl) (fun w => by kernel_rfl) ?_
            refine Sx.G.ld1 3 (.tmp 42) b4 1 0 [.int .i64 (insAt g.prog g.pc).1, .int .i64 (insAt g.prog g.pc).2] (.int .i64 (insAt g.prog g.pc).2) rfl (by kernel_rfl) (by kernel_rfl) rfl (by kernel_rfl) (by kernel_rfl) ?_
            refine Sx.G.pure (.int .i64 (IntKind.i64.wrap (g.a + (insAt g.prog g.pc).2))) (by kernel_rfl) (fun w => by kernel_rfl) ?_
            refine Sx.G.pure (.int .i64 ((IntKind.i64.wrap (g.a + (insAt g.prog g.pc).2)).tmod 100)) (by kernel_rfl) (fun w => by kernel_rfl) ?_
            refine Sx.G.pure (.pointer (some ⟨b1, 1, none⟩)) (by kernel_rfl) (fun w => by kernel_rfl) ?_
            refine Sx.G.sto 3 (.tmp 46) (.tmp 45) b1 1 2 [.slice PA0 g.prog.length Pc0, .int .i64 g.a, .int .i64 g.pc, .slice PA1 g.wr.length Pc1, .slice PA2 g.lv.length Pc2, .int .i64 g.t.1, .int .i64 g.t.2.1, .bool g.t.2.2, .int .i64 g.pd, .int .i64 g.x.1, .int .i64 g.x.2.1, .bool g.x.2.2.1, .int .i64 g.x.2.2.2, .bool g.hl, .slice PA3 g.seen.length Pc3] [.int .i64 ((IntKind.i64.wrap (g.a + (insAt g.prog g.pc).2)).tmod 100)] [.slice PA0 g.prog.length Pc0, .int .i64 ((IntKind.i64.wrap (g.a + (insAt g.prog g.pc).2)).tmod 100), .int .i64 g.pc, .slice PA1 g.wr.length Pc1, .slice PA2 g.lv.length Pc2, .int .i64 g.t.1, .int .i64 g.t.2.1, .bool g.t.2.2, .int .i64 g.pd, .int .i64 g.x.1, .int .i64 g.x.2.1, .bool g.x.2.2.1, .int .i64 g.x.2.2.2, .bool g.hl, .slice PA3 g.seen.length Pc3] [vr b4 [.int .i64 (insAt g.prog g.pc).1, .int .i64 (insAt g.prog g.pc).2], vr b2 [.slice none 0 0, .int .i64 0, .int .i64 0, .slice none 0 0, .slice none 0 0, .int .i64 0, .int .i64 0, .bool false, .int .i64 0, .int .i64 0, .int .i64 0, .bool false, .int .i64 0, .bool false, .slice none 0 0], vr b1 [.slice PA0 g.prog.length Pc0, .int .i64 ((IntKind.i64.wrap (g.a + (insAt g.prog g.pc).2)).tmod 100), .int .i64 g.pc, .slice PA1 g.wr.length Pc1, .slice PA2 g.lv.length Pc2, .int .i64 g.t.1, .int .i64 g.t.2.1, .bool g.t.2.2, .int .i64 g.pd, .int .i64 g.x.1, .int .i64 g.x.2.1, .bool g.x.2.2.1, .int .i64 g.x.2.2.2, .bool g.hl, .slice PA3 g.seen.length Pc3]] rfl (by kernel_rfl) (by kernel_rfl) (by kernel_rfl) rfl (by kernel_rfl) rfl (by kernel_rfl) (by kernel_rfl) (by kernel_rfl) ?_
            refine Sx.G.nil ?_
            refine Sx.E.block_normal ?_
            refine Sx.E.next ?_
            refine Sx.C.seq ?_
            refine Sx.C.region ?_
            refine Sx.G.ld 32 (.tmp 1) b1 0 2 [.slice PA0 g.prog.length Pc0, .int .i64 ((IntKind.i64.wrap (g.a + (insAt g.prog g.pc).2)).tmod 100), .int .i64 g.pc, .slice PA1 g.wr.length Pc1, .slice PA2 g.lv.length Pc2, .int .i64 g.t.1, .int .i64 g.t.2.1, .bool g.t.2.2, .int .i64 g.pd, .int .i64 g.x.1, .int .i64 g.x.2.1, .bool g.x.2.2.1, .int .i64 g.x.2.2.2, .bool g.hl, .slice PA3 g.seen.length Pc3] [.slice PA0 g.prog.length Pc0, .int .i64 ((IntKind.i64.wrap (g.a + (insAt g.prog g.pc).2)).tmod 100), .int .i64 g.pc, .slice PA1 g.wr.length Pc1, .slice PA2 g.lv.length Pc2, .int .i64 g.t.1, .int .i64 g.t.2.1, .bool g.t.2.2, .int .i64 g.pd, .int .i64 g.x.1, .int .i64 g.x.2.1, .bool g.x.2.2.1, .int .i64 g.x.2.2.2, .bool g.hl, .slice PA3 g.seen.length Pc3] rfl (by kernel_rfl) (by kernel_rfl) rfl (by kernel_rfl) (by kernel_rfl) (by kernel_rfl) ?_
            refine Sx.G.call 22 #[.agg #[.slice PA0 g.prog.length Pc0, .int .i64 ((IntKind.i64.wrap (g.a + (insAt g.prog g.pc).2)).tmod 100), .int .i64 g.pc, .slice PA1 g.wr.length Pc1, .slice PA2 g.lv.length Pc2, .int .i64 g.t.1, .int .i64 g.t.2.1, .bool g.t.2.2, .int .i64 g.pd, .int .i64 g.x.1, .int .i64 g.x.2.1, .bool g.x.2.2.1, .int .i64 g.x.2.2.2, .bool g.hl, .slice PA3 g.seen.length Pc3]] (by kernel_rfl) (fun w => by kernel_rfl) (fun w16 S => (specx_moved ({ g with a := ((IntKind.i64.wrap (g.a + (insAt g.prog g.pc).2)).tmod 100) }) _ _ (by exact hc) (rG_rd_mk (g := { g with a := ((IntKind.i64.wrap (g.a + (insAt g.prog g.pc).2)).tmod 100) }) (St.old S h0) (St.old S h1) (St.old S h2) (St.old S h3))).mono fun e w16' hp => ?_)
            obtain ⟨cs, F, rfl, ho, hF, hb⟩ := hp
            obtain ⟨q16_0, q16_1, q16_2, q16_3, G16_0, G16_1, G16_2, G16_3, rfl, S'⟩ := rG_open (S.got hb ho hF)
            obtain ⟨q16A0, q16c0, e0, -⟩ := lst_val (S'.reads 0 rfl)
            subst e0
            obtain ⟨q16A1, q16c1, e1, -⟩ := lst_val (S'.reads 1 rfl)
            subst e1
            obtain ⟨q16A2, q16c2, e2, -⟩ := lst_val (S'.reads 2 rfl)
            subst e2
            obtain ⟨q16A3, q16c3, e3, -⟩ := lst_val (S'.reads 3 rfl)
            subst e3
            refine ⟨_, _, rfl, S', ?_⟩
            clear S S' ho hF hb
            refine Sx.G.sto 32 (.tmp 2) (.tmp 66) b2 0 5 [.slice none 0 0, .int .i64 0, .int .i64 0, .slice none 0 0, .slice none 0 0, .int .i64 0, .int .i64 0, .bool false, .int .i64 0, .int .i64 0, .int .i64 0, .bool false, .int .i64 0, .bool false, .slice none 0 0] [.slice q16A0 (movedG ({ g with a := ((IntKind.i64.wrap (g.a + (insAt g.prog g.pc).2)).tmod 100) })).prog.length q16c0, .int .i64 (movedG ({ g with a := ((IntKind.i64.wrap (g.a + (insAt g.prog g.pc).2)).tmod 100) })).a, .int .i64 (movedG ({ g with a := ((IntKind.i64.wrap (g.a + (insAt g.prog g.pc).2)).tmod 100) })).pc, .slice q16A1 (movedG ({ g with a := ((IntKind.i64.wrap (g.a + (insAt g.prog g.pc).2)).tmod 100) })).wr.length q16c1, .slice q16A2 (movedG ({ g with a := ((IntKind.i64.wrap (g.a + (insAt g.prog g.pc).2)).tmod 100) })).lv.length q16c2, .int .i64 (movedG ({ g with a := ((IntKind.i64.wrap (g.a + (insAt g.prog g.pc).2)).tmod 100) })).t.1, .int .i64 (movedG ({ g with a := ((IntKind.i64.wrap (g.a + (insAt g.prog g.pc).2)).tmod 100) })).t.2.1, .bool (movedG ({ g with a := ((IntKind.i64.wrap (g.a + (insAt g.prog g.pc).2)).tmod 100) })).t.2.2, .int .i64 (movedG ({ g with a := ((IntKind.i64.wrap (g.a + (insAt g.prog g.pc).2)).tmod 100) })).pd, .int .i64 (movedG ({ g with a := ((IntKind.i64.wrap (g.a + (insAt g.prog g.pc).2)).tmod 100) })).x.1, .int .i64 (movedG ({ g with a := ((IntKind.i64.wrap (g.a + (insAt g.prog g.pc).2)).tmod 100) })).x.2.1, .bool (movedG ({ g with a := ((IntKind.i64.wrap (g.a + (insAt g.prog g.pc).2)).tmod 100) })).x.2.2.1, .int .i64 (movedG ({ g with a := ((IntKind.i64.wrap (g.a + (insAt g.prog g.pc).2)).tmod 100) })).x.2.2.2, .bool (movedG ({ g with a := ((IntKind.i64.wrap (g.a + (insAt g.prog g.pc).2)).tmod 100) })).hl, .slice q16A3 (movedG ({ g with a := ((IntKind.i64.wrap (g.a + (insAt g.prog g.pc).2)).tmod 100) })).seen.length q16c3] [.slice q16A0 (movedG ({ g with a := ((IntKind.i64.wrap (g.a + (insAt g.prog g.pc).2)).tmod 100) })).prog.length q16c0, .int .i64 (movedG ({ g with a := ((IntKind.i64.wrap (g.a + (insAt g.prog g.pc).2)).tmod 100) })).a, .int .i64 (movedG ({ g with a := ((IntKind.i64.wrap (g.a + (insAt g.prog g.pc).2)).tmod 100) })).pc, .slice q16A1 (movedG ({ g with a := ((IntKind.i64.wrap (g.a + (insAt g.prog g.pc).2)).tmod 100) })).wr.length q16c1, .slice q16A2 (movedG ({ g with a := ((IntKind.i64.wrap (g.a + (insAt g.prog g.pc).2)).tmod 100) })).lv.length q16c2, .int .i64 (movedG ({ g with a := ((IntKind.i64.wrap (g.a + (insAt g.prog g.pc).2)).tmod 100) })).t.1, .int .i64 (movedG ({ g with a := ((IntKind.i64.wrap (g.a + (insAt g.prog g.pc).2)).tmod 100) })).t.2.1, .bool (movedG ({ g with a := ((IntKind.i64.wrap (g.a + (insAt g.prog g.pc).2)).tmod 100) })).t.2.2, .int .i64 (movedG ({ g with a := ((IntKind.i64.wrap (g.a + (insAt g.prog g.pc).2)).tmod 100) })).pd, .int .i64 (movedG ({ g with a := ((IntKind.i64.wrap (g.a + (insAt g.prog g.pc).2)).tmod 100) })).x.1, .int .i64 (movedG ({ g with a := ((IntKind.i64.wrap (g.a + (insAt g.prog g.pc).2)).tmod 100) })).x.2.1, .bool (movedG ({ g with a := ((IntKind.i64.wrap (g.a + (insAt g.prog g.pc).2)).tmod 100) })).x.2.2.1, .int .i64 (movedG ({ g with a := ((IntKind.i64.wrap (g.a + (insAt g.prog g.pc).2)).tmod 100) })).x.2.2.2, .bool (movedG ({ g with a := ((IntKind.i64.wrap (g.a + (insAt g.prog g.pc).2)).tmod 100) })).hl, .slice q16A3 (movedG ({ g with a := ((IntKind.i64.wrap (g.a + (insAt g.prog g.pc).2)).tmod 100) })).seen.length q16c3] [ow (rLst 42 (rPair rInt rInt)) w16.heap.size (w16'.heap.size) ((movedG ({ g with a := ((IntKind.i64.wrap (g.a + (insAt g.prog g.pc).2)).tmod 100) })).prog) [.slice q16A0 (movedG ({ g with a := ((IntKind.i64.wrap (g.a + (insAt g.prog g.pc).2)).tmod 100) })).prog.length q16c0] G16_0, ow (rLsw (rPair rInt rInt)) w16.heap.size w16'.heap.size (movedG ({ g with a := ((IntKind.i64.wrap (g.a + (insAt g.prog g.pc).2)).tmod 100) })).wr [.slice q16A1 (movedG ({ g with a := ((IntKind.i64.wrap (g.a + (insAt g.prog g.pc).2)).tmod 100) })).wr.length q16c1] G16_1, ow (rLsw (rPair rInt rInt)) w16.heap.size w16'.heap.size (movedG ({ g with a := ((IntKind.i64.wrap (g.a + (insAt g.prog g.pc).2)).tmod 100) })).lv [.slice q16A2 (movedG ({ g with a := ((IntKind.i64.wrap (g.a + (insAt g.prog g.pc).2)).tmod 100) })).lv.length q16c2] G16_2, ow (rLst 3 rInt) w16.heap.size (w16'.heap.size) ((movedG ({ g with a := ((IntKind.i64.wrap (g.a + (insAt g.prog g.pc).2)).tmod 100) })).seen) [.slice q16A3 (movedG ({ g with a := ((IntKind.i64.wrap (g.a + (insAt g.prog g.pc).2)).tmod 100) })).seen.length q16c3] G16_3, vr b4 [.int .i64 (insAt g.prog g.pc).1, .int .i64 (insAt g.prog g.pc).2], vr b2 [.slice q16A0 (movedG ({ g with a := ((IntKind.i64.wrap (g.a + (insAt g.prog g.pc).2)).tmod 100) })).prog.length q16c0, .int .i64 (movedG ({ g with a := ((IntKind.i64.wrap (g.a + (insAt g.prog g.pc).2)).tmod 100) })).a, .int .i64 (movedG ({ g with a := ((IntKind.i64.wrap (g.a + (insAt g.prog g.pc).2)).tmod 100) })).pc, .slice q16A1 (movedG ({ g with a := ((IntKind.i64.wrap (g.a + (insAt g.prog g.pc).2)).tmod 100) })).wr.length q16c1, .slice q16A2 (movedG ({ g with a := ((IntKind.i64.wrap (g.a + (insAt g.prog g.pc).2)).tmod 100) })).lv.length q16c2, .int .i64 (movedG ({ g with a := ((IntKind.i64.wrap (g.a + (insAt g.prog g.pc).2)).tmod 100) })).t.1, .int .i64 (movedG ({ g with a := ((IntKind.i64.wrap (g.a + (insAt g.prog g.pc).2)).tmod 100) })).t.2.1, .bool (movedG ({ g with a := ((IntKind.i64.wrap (g.a + (insAt g.prog g.pc).2)).tmod 100) })).t.2.2, .int .i64 (movedG ({ g with a := ((IntKind.i64.wrap (g.a + (insAt g.prog g.pc).2)).tmod 100) })).pd, .int .i64 (movedG ({ g with a := ((IntKind.i64.wrap (g.a + (insAt g.prog g.pc).2)).tmod 100) })).x.1, .int .i64 (movedG ({ g with a := ((IntKind.i64.wrap (g.a + (insAt g.prog g.pc).2)).tmod 100) })).x.2.1, .bool (movedG ({ g with a := ((IntKind.i64.wrap (g.a + (insAt g.prog g.pc).2)).tmod 100) })).x.2.2.1, .int .i64 (movedG ({ g with a := ((IntKind.i64.wrap (g.a + (insAt g.prog g.pc).2)).tmod 100) })).x.2.2.2, .bool (movedG ({ g with a := ((IntKind.i64.wrap (g.a + (insAt g.prog g.pc).2)).tmod 100) })).hl, .slice q16A3 (movedG ({ g with a := ((IntKind.i64.wrap (g.a + (insAt g.prog g.pc).2)).tmod 100) })).seen.length q16c3], vr b1 [.slice PA0 g.prog.length Pc0, .int .i64 ((IntKind.i64.wrap (g.a + (insAt g.prog g.pc).2)).tmod 100), .int .i64 g.pc, .slice PA1 g.wr.length Pc1, .slice PA2 g.lv.length Pc2, .int .i64 g.t.1, .int .i64 g.t.2.1, .bool g.t.2.2, .int .i64 g.pd, .int .i64 g.x.1, .int .i64 g.x.2.1, .bool g.x.2.2.1, .int .i64 g.x.2.2.2, .bool g.hl, .slice PA3 g.seen.length Pc3]] rfl (by kernel_rfl) (by kernel_rfl) (by kernel_rfl) rfl (by kernel_rfl) rfl (by kernel_rfl) (by kernel_rfl) (by kernel_rfl) ?_
            refine Sx.G.nil ?_
            refine Sx.E.next ?_
            refine Sx.C.ret ?_
            refine Sx.E.retc b2 5 [.slice q16A0 (movedG ({ g with a := ((IntKind.i64.wrap (g.a + (insAt g.prog g.pc).2)).tmod 100) })).prog.length q16c0, .int .i64 (movedG ({ g with a := ((IntKind.i64.wrap (g.a + (insAt g.prog g.pc).2)).tmod 100) })).a, .int .i64 (movedG ({ g with a := ((IntKind.i64.wrap (g.a + (insAt g.prog g.pc).2)).tmod 100) })).pc, .slice q16A1 (movedG ({ g with a := ((IntKind.i64.wrap (g.a + (insAt g.prog g.pc).2)).tmod 100) })).wr.length q16c1, .slice q16A2 (movedG ({ g with a := ((IntKind.i64.wrap (g.a + (insAt g.prog g.pc).2)).tmod 100) })).lv.length q16c2, .int .i64 (movedG ({ g with a := ((IntKind.i64.wrap (g.a + (insAt g.prog g.pc).2)).tmod 100) })).t.1, .int .i64 (movedG ({ g with a := ((IntKind.i64.wrap (g.a + (insAt g.prog g.pc).2)).tmod 100) })).t.2.1, .bool (movedG ({ g with a := ((IntKind.i64.wrap (g.a + (insAt g.prog g.pc).2)).tmod 100) })).t.2.2, .int .i64 (movedG ({ g with a := ((IntKind.i64.wrap (g.a + (insAt g.prog g.pc).2)).tmod 100) })).pd, .int .i64 (movedG ({ g with a := ((IntKind.i64.wrap (g.a + (insAt g.prog g.pc).2)).tmod 100) })).x.1, .int .i64 (movedG ({ g with a := ((IntKind.i64.wrap (g.a + (insAt g.prog g.pc).2)).tmod 100) })).x.2.1, .bool (movedG ({ g with a := ((IntKind.i64.wrap (g.a + (insAt g.prog g.pc).2)).tmod 100) })).x.2.2.1, .int .i64 (movedG ({ g with a := ((IntKind.i64.wrap (g.a + (insAt g.prog g.pc).2)).tmod 100) })).x.2.2.2, .bool (movedG ({ g with a := ((IntKind.i64.wrap (g.a + (insAt g.prog g.pc).2)).tmod 100) })).hl, .slice q16A3 (movedG ({ g with a := ((IntKind.i64.wrap (g.a + (insAt g.prog g.pc).2)).tmod 100) })).seen.length q16c3] rfl (by kernel_rfl) rfl (by kernel_rfl) (by kernel_rfl) (fun w S => ?_)
            have HW : plainG g = movedG ({ g with a := ((IntKind.i64.wrap (g.a + (insAt g.prog g.pc).2)).tmod 100) }) := by simp [plainG, hb3, hb5, hb7, hb9, hb10]
            obtain ⟨ho, hF⟩ := rG_shut (g := movedG ({ g with a := ((IntKind.i64.wrap (g.a + (insAt g.prog g.pc).2)).tmod 100) })) S 0 rfl 1 rfl 2 rfl 3 rfl (by decide) (by decide) (by decide) (by decide) (by decide) (by decide)
            rw [HW]; exact ⟨_, _, rfl, ho, hF, S.below⟩
        · have hb9 := hc9
          refine Sx.C.yes (by kernel_rfl) (by kernel_rfl) ?_
          refine Sx.C.region ?_
          refine Sx.G.pure (.pointer (some ⟨b4, 1, none⟩)) (by kernel_rfl) (fun w => by kernel_rfl) ?_
          refine Sx.G.ld1 3 (.tmp 30) b4 1 0 [.int .i64 (insAt g.prog g.pc).1, .int .i64 (insAt g.prog g.pc).2] (.int .i64 (insAt g.prog g.pc).2) rfl (by kernel_rfl) (by kernel_rfl) rfl (by kernel_rfl) (by kernel_rfl) ?_
          refine Sx.G.pure (.pointer (some ⟨b1, 1, none⟩)) (by kernel_rfl) (fun w => by kernel_rfl) ?_
          refine Sx.G.sto 3 (.tmp 32) (.tmp 31) b1 1 2 [.slice PA0 g.prog.length Pc0, .int .i64 g.a, .int .i64 g.pc, .slice PA1 g.wr.length Pc1, .slice PA2 g.lv.length Pc2, .int .i64 g.t.1, .int .i64 g.t.2.1, .bool g.t.2.2, .int .i64 g.pd, .int .i64 g.x.1, .int .i64 g.x.2.1, .bool g.x.2.2.1, .int .i64 g.x.2.2.2, .bool g.hl, .slice PA3 g.seen.length Pc3] [.int .i64 (insAt g.prog g.pc).2] [.slice PA0 g.prog.length Pc0, .int .i64 (insAt g.prog g.pc).2, .int .i64 g.pc, .slice PA1 g.wr.length Pc1, .slice PA2 g.lv.length Pc2, .int .i64 g.t.1, .int .i64 g.t.2.1, .bool g.t.2.2, .int .i64 g.pd, .int .i64 g.x.1, .int .i64 g.x.2.1, .bool g.x.2.2.1, .int .i64 g.x.2.2.2, .bool g.hl, .slice PA3 g.seen.length Pc3] [vr b4 [.int .i64 (insAt g.prog g.pc).1, .int .i64 (insAt g.prog g.pc).2], vr b2 [.slice none 0 0, .int .i64 0, .int .i64 0, .slice none 0 0, .slice none 0 0, .int .i64 0, .int .i64 0, .bool false, .int .i64 0, .int .i64 0, .int .i64 0, .bool false, .int .i64 0, .bool false, .slice none 0 0], vr b1 [.slice PA0 g.prog.length Pc0, .int .i64 (insAt g.prog g.pc).2, .int .i64 g.pc, .slice PA1 g.wr.length Pc1, .slice PA2 g.lv.length Pc2, .int .i64 g.t.1, .int .i64 g.t.2.1, .bool g.t.2.2, .int .i64 g.pd, .int .i64 g.x.1, .int .i64 g.x.2.1, .bool g.x.2.2.1, .int .i64 g.x.2.2.2, .bool g.hl, .slice PA3 g.seen.length Pc3]] rfl (by kernel_rfl) (by kernel_rfl) (by kernel_rfl) rfl (by kernel_rfl) rfl (by kernel_rfl) (by kernel_rfl) (by kernel_rfl) ?_
          refine Sx.G.nil ?_
          refine Sx.E.block_normal ?_
          refine Sx.E.next ?_
          refine Sx.C.seq ?_
          refine Sx.C.region ?_
          refine Sx.G.ld 32 (.tmp 1) b1 0 2 [.slice PA0 g.prog.length Pc0, .int .i64 (insAt g.prog g.pc).2, .int .i64 g.pc, .slice PA1 g.wr.length Pc1, .slice PA2 g.lv.length Pc2, .int .i64 g.t.1, .int .i64 g.t.2.1, .bool g.t.2.2, .int .i64 g.pd, .int .i64 g.x.1, .int .i64 g.x.2.1, .bool g.x.2.2.1, .int .i64 g.x.2.2.2, .bool g.hl, .slice PA3 g.seen.length Pc3] [.slice PA0 g.prog.length Pc0, .int .i64 (insAt g.prog g.pc).2, .int .i64 g.pc, .slice PA1 g.wr.length Pc1, .slice PA2 g.lv.length Pc2, .int .i64 g.t.1, .int .i64 g.t.2.1, .bool g.t.2.2, .int .i64 g.pd, .int .i64 g.x.1, .int .i64 g.x.2.1, .bool g.x.2.2.1, .int .i64 g.x.2.2.2, .bool g.hl, .slice PA3 g.seen.length Pc3] rfl (by kernel_rfl) (by kernel_rfl) rfl (by kernel_rfl) (by kernel_rfl) (by kernel_rfl) ?_
          refine Sx.G.call 22 #[.agg #[.slice PA0 g.prog.length Pc0, .int .i64 (insAt g.prog g.pc).2, .int .i64 g.pc, .slice PA1 g.wr.length Pc1, .slice PA2 g.lv.length Pc2, .int .i64 g.t.1, .int .i64 g.t.2.1, .bool g.t.2.2, .int .i64 g.pd, .int .i64 g.x.1, .int .i64 g.x.2.1, .bool g.x.2.2.1, .int .i64 g.x.2.2.2, .bool g.hl, .slice PA3 g.seen.length Pc3]] (by kernel_rfl) (fun w => by kernel_rfl) (fun w17 S => (specx_moved ({ g with a := (insAt g.prog g.pc).2 }) _ _ (by exact hc) (rG_rd_mk (g := { g with a := (insAt g.prog g.pc).2 }) (St.old S h0) (St.old S h1) (St.old S h2) (St.old S h3))).mono fun e w17' hp => ?_)
          obtain ⟨cs, F, rfl, ho, hF, hb⟩ := hp
          obtain ⟨q17_0, q17_1, q17_2, q17_3, G17_0, G17_1, G17_2, G17_3, rfl, S'⟩ := rG_open (S.got hb ho hF)
          obtain ⟨q17A0, q17c0, e0, -⟩ := lst_val (S'.reads 0 rfl)
          subst e0
          obtain ⟨q17A1, q17c1, e1, -⟩ := lst_val (S'.reads 1 rfl)
          subst e1
          obtain ⟨q17A2, q17c2, e2, -⟩ := lst_val (S'.reads 2 rfl)
          subst e2
          obtain ⟨q17A3, q17c3, e3, -⟩ := lst_val (S'.reads 3 rfl)
          subst e3
          refine ⟨_, _, rfl, S', ?_⟩
          clear S S' ho hF hb
          refine Sx.G.sto 32 (.tmp 2) (.tmp 66) b2 0 5 [.slice none 0 0, .int .i64 0, .int .i64 0, .slice none 0 0, .slice none 0 0, .int .i64 0, .int .i64 0, .bool false, .int .i64 0, .int .i64 0, .int .i64 0, .bool false, .int .i64 0, .bool false, .slice none 0 0] [.slice q17A0 (movedG ({ g with a := (insAt g.prog g.pc).2 })).prog.length q17c0, .int .i64 (movedG ({ g with a := (insAt g.prog g.pc).2 })).a, .int .i64 (movedG ({ g with a := (insAt g.prog g.pc).2 })).pc, .slice q17A1 (movedG ({ g with a := (insAt g.prog g.pc).2 })).wr.length q17c1, .slice q17A2 (movedG ({ g with a := (insAt g.prog g.pc).2 })).lv.length q17c2, .int .i64 (movedG ({ g with a := (insAt g.prog g.pc).2 })).t.1, .int .i64 (movedG ({ g with a := (insAt g.prog g.pc).2 })).t.2.1, .bool (movedG ({ g with a := (insAt g.prog g.pc).2 })).t.2.2, .int .i64 (movedG ({ g with a := (insAt g.prog g.pc).2 })).pd, .int .i64 (movedG ({ g with a := (insAt g.prog g.pc).2 })).x.1, .int .i64 (movedG ({ g with a := (insAt g.prog g.pc).2 })).x.2.1, .bool (movedG ({ g with a := (insAt g.prog g.pc).2 })).x.2.2.1, .int .i64 (movedG ({ g with a := (insAt g.prog g.pc).2 })).x.2.2.2, .bool (movedG ({ g with a := (insAt g.prog g.pc).2 })).hl, .slice q17A3 (movedG ({ g with a := (insAt g.prog g.pc).2 })).seen.length q17c3] [.slice q17A0 (movedG ({ g with a := (insAt g.prog g.pc).2 })).prog.length q17c0, .int .i64 (movedG ({ g with a := (insAt g.prog g.pc).2 })).a, .int .i64 (movedG ({ g with a := (insAt g.prog g.pc).2 })).pc, .slice q17A1 (movedG ({ g with a := (insAt g.prog g.pc).2 })).wr.length q17c1, .slice q17A2 (movedG ({ g with a := (insAt g.prog g.pc).2 })).lv.length q17c2, .int .i64 (movedG ({ g with a := (insAt g.prog g.pc).2 })).t.1, .int .i64 (movedG ({ g with a := (insAt g.prog g.pc).2 })).t.2.1, .bool (movedG ({ g with a := (insAt g.prog g.pc).2 })).t.2.2, .int .i64 (movedG ({ g with a := (insAt g.prog g.pc).2 })).pd, .int .i64 (movedG ({ g with a := (insAt g.prog g.pc).2 })).x.1, .int .i64 (movedG ({ g with a := (insAt g.prog g.pc).2 })).x.2.1, .bool (movedG ({ g with a := (insAt g.prog g.pc).2 })).x.2.2.1, .int .i64 (movedG ({ g with a := (insAt g.prog g.pc).2 })).x.2.2.2, .bool (movedG ({ g with a := (insAt g.prog g.pc).2 })).hl, .slice q17A3 (movedG ({ g with a := (insAt g.prog g.pc).2 })).seen.length q17c3] [ow (rLst 42 (rPair rInt rInt)) w17.heap.size (w17'.heap.size) ((movedG ({ g with a := (insAt g.prog g.pc).2 })).prog) [.slice q17A0 (movedG ({ g with a := (insAt g.prog g.pc).2 })).prog.length q17c0] G17_0, ow (rLsw (rPair rInt rInt)) w17.heap.size w17'.heap.size (movedG ({ g with a := (insAt g.prog g.pc).2 })).wr [.slice q17A1 (movedG ({ g with a := (insAt g.prog g.pc).2 })).wr.length q17c1] G17_1, ow (rLsw (rPair rInt rInt)) w17.heap.size w17'.heap.size (movedG ({ g with a := (insAt g.prog g.pc).2 })).lv [.slice q17A2 (movedG ({ g with a := (insAt g.prog g.pc).2 })).lv.length q17c2] G17_2, ow (rLst 3 rInt) w17.heap.size (w17'.heap.size) ((movedG ({ g with a := (insAt g.prog g.pc).2 })).seen) [.slice q17A3 (movedG ({ g with a := (insAt g.prog g.pc).2 })).seen.length q17c3] G17_3, vr b4 [.int .i64 (insAt g.prog g.pc).1, .int .i64 (insAt g.prog g.pc).2], vr b2 [.slice q17A0 (movedG ({ g with a := (insAt g.prog g.pc).2 })).prog.length q17c0, .int .i64 (movedG ({ g with a := (insAt g.prog g.pc).2 })).a, .int .i64 (movedG ({ g with a := (insAt g.prog g.pc).2 })).pc, .slice q17A1 (movedG ({ g with a := (insAt g.prog g.pc).2 })).wr.length q17c1, .slice q17A2 (movedG ({ g with a := (insAt g.prog g.pc).2 })).lv.length q17c2, .int .i64 (movedG ({ g with a := (insAt g.prog g.pc).2 })).t.1, .int .i64 (movedG ({ g with a := (insAt g.prog g.pc).2 })).t.2.1, .bool (movedG ({ g with a := (insAt g.prog g.pc).2 })).t.2.2, .int .i64 (movedG ({ g with a := (insAt g.prog g.pc).2 })).pd, .int .i64 (movedG ({ g with a := (insAt g.prog g.pc).2 })).x.1, .int .i64 (movedG ({ g with a := (insAt g.prog g.pc).2 })).x.2.1, .bool (movedG ({ g with a := (insAt g.prog g.pc).2 })).x.2.2.1, .int .i64 (movedG ({ g with a := (insAt g.prog g.pc).2 })).x.2.2.2, .bool (movedG ({ g with a := (insAt g.prog g.pc).2 })).hl, .slice q17A3 (movedG ({ g with a := (insAt g.prog g.pc).2 })).seen.length q17c3], vr b1 [.slice PA0 g.prog.length Pc0, .int .i64 (insAt g.prog g.pc).2, .int .i64 g.pc, .slice PA1 g.wr.length Pc1, .slice PA2 g.lv.length Pc2, .int .i64 g.t.1, .int .i64 g.t.2.1, .bool g.t.2.2, .int .i64 g.pd, .int .i64 g.x.1, .int .i64 g.x.2.1, .bool g.x.2.2.1, .int .i64 g.x.2.2.2, .bool g.hl, .slice PA3 g.seen.length Pc3]] rfl (by kernel_rfl) (by kernel_rfl) (by kernel_rfl) rfl (by kernel_rfl) rfl (by kernel_rfl) (by kernel_rfl) (by kernel_rfl) ?_
          refine Sx.G.nil ?_
          refine Sx.E.next ?_
          refine Sx.C.ret ?_
          refine Sx.E.retc b2 5 [.slice q17A0 (movedG ({ g with a := (insAt g.prog g.pc).2 })).prog.length q17c0, .int .i64 (movedG ({ g with a := (insAt g.prog g.pc).2 })).a, .int .i64 (movedG ({ g with a := (insAt g.prog g.pc).2 })).pc, .slice q17A1 (movedG ({ g with a := (insAt g.prog g.pc).2 })).wr.length q17c1, .slice q17A2 (movedG ({ g with a := (insAt g.prog g.pc).2 })).lv.length q17c2, .int .i64 (movedG ({ g with a := (insAt g.prog g.pc).2 })).t.1, .int .i64 (movedG ({ g with a := (insAt g.prog g.pc).2 })).t.2.1, .bool (movedG ({ g with a := (insAt g.prog g.pc).2 })).t.2.2, .int .i64 (movedG ({ g with a := (insAt g.prog g.pc).2 })).pd, .int .i64 (movedG ({ g with a := (insAt g.prog g.pc).2 })).x.1, .int .i64 (movedG ({ g with a := (insAt g.prog g.pc).2 })).x.2.1, .bool (movedG ({ g with a := (insAt g.prog g.pc).2 })).x.2.2.1, .int .i64 (movedG ({ g with a := (insAt g.prog g.pc).2 })).x.2.2.2, .bool (movedG ({ g with a := (insAt g.prog g.pc).2 })).hl, .slice q17A3 (movedG ({ g with a := (insAt g.prog g.pc).2 })).seen.length q17c3] rfl (by kernel_rfl) rfl (by kernel_rfl) (by kernel_rfl) (fun w S => ?_)
          have HW : plainG g = movedG ({ g with a := (insAt g.prog g.pc).2 }) := by simp [plainG, hb3, hb5, hb7, hb9]
          obtain ⟨ho, hF⟩ := rG_shut (g := movedG ({ g with a := (insAt g.prog g.pc).2 })) S 0 rfl 1 rfl 2 rfl 3 rfl (by decide) (by decide) (by decide) (by decide) (by decide) (by decide)
          rw [HW]; exact ⟨_, _, rfl, ho, hF, S.below⟩
  · have hb3 := hc3
    refine Sx.C.yes (by kernel_rfl) (by kernel_rfl) ?_
    refine Sx.C.seq ?_
    refine Sx.C.region ?_
    refine Sx.G.ld 32 (.tmp 1) b1 0 1 [.slice PA0 g.prog.length Pc0, .int .i64 g.a, .int .i64 g.pc, .slice PA1 g.wr.length Pc1, .slice PA2 g.lv.length Pc2, .int .i64 g.t.1, .int .i64 g.t.2.1, .bool g.t.2.2, .int .i64 g.pd, .int .i64 g.x.1, .int .i64 g.x.2.1, .bool g.x.2.2.1, .int .i64 g.x.2.2.2, .bool g.hl, .slice PA3 g.seen.length Pc3] [.slice PA0 g.prog.length Pc0, .int .i64 g.a, .int .i64 g.pc, .slice PA1 g.wr.length Pc1, .slice PA2 g.lv.length Pc2, .int .i64 g.t.1, .int .i64 g.t.2.1, .bool g.t.2.2, .int .i64 g.pd, .int .i64 g.x.1, .int .i64 g.x.2.1, .bool g.x.2.2.1, .int .i64 g.x.2.2.2, .bool g.hl, .slice PA3 g.seen.length Pc3] rfl (by kernel_rfl) (by kernel_rfl) rfl (by kernel_rfl) (by kernel_rfl) (by kernel_rfl) ?_
    refine Sx.G.call 51 #[.agg #[.slice PA0 g.prog.length Pc0, .int .i64 g.a, .int .i64 g.pc, .slice PA1 g.wr.length Pc1, .slice PA2 g.lv.length Pc2, .int .i64 g.t.1, .int .i64 g.t.2.1, .bool g.t.2.2, .int .i64 g.pd, .int .i64 g.x.1, .int .i64 g.x.2.1, .bool g.x.2.2.1, .int .i64 g.x.2.2.2, .bool g.hl, .slice PA3 g.seen.length Pc3]] (by kernel_rfl) (fun w => by kernel_rfl) (fun w18 S => (specx_copy g _ _ (by exact hc) (St.old S hr)).mono fun e w18' hp => ?_)
    obtain ⟨cs, F, rfl, ho, hF, hb⟩ := hp
    obtain ⟨q18_0, q18_1, q18_2, q18_3, G18_0, G18_1, G18_2, G18_3, rfl, S'⟩ := rG_open (S.got hb ho hF)
    obtain ⟨q18A0, q18c0, e0, -⟩ := lst_val (S'.reads 0 rfl)
    subst e0
    obtain ⟨q18A1, q18c1, e1, -⟩ := lst_val (S'.reads 1 rfl)
    subst e1
    obtain ⟨q18A2, q18c2, e2, -⟩ := lst_val (S'.reads 2 rfl)
    subst e2
    obtain ⟨q18A3, q18c3, e3, -⟩ := lst_val (S'.reads 3 rfl)
    subst e3
    refine ⟨_, _, rfl, S', ?_⟩
    clear S S' ho hF hb
    refine Sx.G.sto 32 (.tmp 2) (.tmp 9) b2 0 4 [.slice none 0 0, .int .i64 0, .int .i64 0, .slice none 0 0, .slice none 0 0, .int .i64 0, .int .i64 0, .bool false, .int .i64 0, .int .i64 0, .int .i64 0, .bool false, .int .i64 0, .bool false, .slice none 0 0] [.slice q18A0 g.prog.length q18c0, .int .i64 g.a, .int .i64 g.pc, .slice q18A1 g.wr.length q18c1, .slice q18A2 g.lv.length q18c2, .int .i64 g.t.1, .int .i64 g.t.2.1, .bool g.t.2.2, .int .i64 g.pd, .int .i64 g.x.1, .int .i64 g.x.2.1, .bool g.x.2.2.1, .int .i64 g.x.2.2.2, .bool g.hl, .slice q18A3 g.seen.length q18c3] [.slice q18A0 g.prog.length q18c0, .int .i64 g.a, .int .i64 g.pc, .slice q18A1 g.wr.length q18c1, .slice q18A2 g.lv.length q18c2, .int .i64 g.t.1, .int .i64 g.t.2.1, .bool g.t.2.2, .int .i64 g.pd, .int .i64 g.x.1, .int .i64 g.x.2.1, .bool g.x.2.2.1, .int .i64 g.x.2.2.2, .bool g.hl, .slice q18A3 g.seen.length q18c3] [ow (rLst 42 (rPair rInt rInt)) w18.heap.size (w18'.heap.size) g.prog [.slice q18A0 g.prog.length q18c0] G18_0, ow (rLsw (rPair rInt rInt)) w18.heap.size w18'.heap.size g.wr [.slice q18A1 g.wr.length q18c1] G18_1, ow (rLsw (rPair rInt rInt)) w18.heap.size w18'.heap.size g.lv [.slice q18A2 g.lv.length q18c2] G18_2, ow (rLst 3 rInt) w18.heap.size (w18'.heap.size) g.seen [.slice q18A3 g.seen.length q18c3] G18_3, vr b2 [.slice q18A0 g.prog.length q18c0, .int .i64 g.a, .int .i64 g.pc, .slice q18A1 g.wr.length q18c1, .slice q18A2 g.lv.length q18c2, .int .i64 g.t.1, .int .i64 g.t.2.1, .bool g.t.2.2, .int .i64 g.pd, .int .i64 g.x.1, .int .i64 g.x.2.1, .bool g.x.2.2.1, .int .i64 g.x.2.2.2, .bool g.hl, .slice q18A3 g.seen.length q18c3], vr b1 [.slice PA0 g.prog.length Pc0, .int .i64 g.a, .int .i64 g.pc, .slice PA1 g.wr.length Pc1, .slice PA2 g.lv.length Pc2, .int .i64 g.t.1, .int .i64 g.t.2.1, .bool g.t.2.2, .int .i64 g.pd, .int .i64 g.x.1, .int .i64 g.x.2.1, .bool g.x.2.2.1, .int .i64 g.x.2.2.2, .bool g.hl, .slice PA3 g.seen.length Pc3]] rfl (by kernel_rfl) (by kernel_rfl) (by kernel_rfl) rfl (by kernel_rfl) rfl (by kernel_rfl) (by kernel_rfl) (by kernel_rfl) ?_
    refine Sx.G.nil ?_
    refine Sx.E.next ?_
    refine Sx.C.ret ?_
    refine Sx.E.then_ret ?_
    refine Sx.E.retc b2 4 [.slice q18A0 g.prog.length q18c0, .int .i64 g.a, .int .i64 g.pc, .slice q18A1 g.wr.length q18c1, .slice q18A2 g.lv.length q18c2, .int .i64 g.t.1, .int .i64 g.t.2.1, .bool g.t.2.2, .int .i64 g.pd, .int .i64 g.x.1, .int .i64 g.x.2.1, .bool g.x.2.2.1, .int .i64 g.x.2.2.2, .bool g.hl, .slice q18A3 g.seen.length q18c3] rfl (by kernel_rfl) rfl (by kernel_rfl) (by kernel_rfl) (fun w S => ?_)
    have HW : plainG g = g := by simp [plainG, hb3]
    obtain ⟨ho, hF⟩ := rG_shut (g := g) S 0 rfl 1 rfl 2 rfl 3 rfl (by decide) (by decide) (by decide) (by decide) (by decide) (by decide)
    rw [HW]; exact ⟨_, _, rfl, ho, hF, S.below⟩

set_option maxRecDepth 100000 in
set_option maxHeartbeats 4000000 in
theorem specx_loaded (g : gT) (cs : List Value) (v : Int) (w : World) (hc : rG.cap g) (h : rG.rd w 0 w.heap.size g cs) (hcs : rG.cap (sawG { g with a := v } v)) : Calls Try.prog 20 #[.agg cs.toArray, .int .i64 v] w (Gives rG w (loadedG g v)) := by
  obtain ⟨q0, q1, q2, q3⟩ := rG_len hc
  have hr := h
  obtain ⟨P0, P1, P2, P3, rfl, h0, h1, h2, h3⟩ := rG_rd h
  obtain ⟨PA0, Pc0, e0, hP0⟩ := lst_val h0
  subst e0
  obtain ⟨PA1, Pc1, e1, hP1⟩ := lst_val h1
  subst e1
  obtain ⟨PA2, Pc2, e2, hP2⟩ := lst_val h2
  subst e2
  obtain ⟨PA3, Pc3, e3, hP3⟩ := lst_val h3
  subst e3
  refine Sx.enter (args := [.agg #[.slice PA0 g.prog.length Pc0, .int .i64 g.a, .int .i64 g.pc, .slice PA1 g.wr.length Pc1, .slice PA2 g.lv.length Pc2, .int .i64 g.t.1, .int .i64 g.t.2.1, .bool g.t.2.2, .int .i64 g.pd, .int .i64 g.x.1, .int .i64 g.x.2.1, .bool g.x.2.2.1, .int .i64 g.x.2.2.2, .bool g.hl, .slice PA3 g.seen.length Pc3], .int .i64 v]) Try.func20 rfl Try.ntmps20 rfl ?_
  refine Sx.C.seq ?_
  refine Sx.C.region ?_
  refine Sx.G.box 32 (.tmp 0) [.slice PA0 g.prog.length Pc0, .int .i64 g.a, .int .i64 g.pc, .slice PA1 g.wr.length Pc1, .slice PA2 g.lv.length Pc2, .int .i64 g.t.1, .int .i64 g.t.2.1, .bool g.t.2.2, .int .i64 g.pd, .int .i64 g.x.1, .int .i64 g.x.2.1, .bool g.x.2.2.1, .int .i64 g.x.2.2.2, .bool g.hl, .slice PA3 g.seen.length Pc3] rfl (by kernel_rfl) (by kernel_rfl) (fun b1 => ?_)
  refine Sx.G.alloc 32 (.agg #[.slice none 0 0, .int .i64 0, .int .i64 0, .slice none 0 0, .slice none 0 0, .int .i64 0, .int .i64 0, .bool false, .int .i64 0, .int .i64 0, .int .i64 0, .bool false, .int .i64 0, .bool false, .slice none 0 0]) [.slice none 0 0, .int .i64 0, .int .i64 0, .slice none 0 0, .slice none 0 0, .int .i64 0, .int .i64 0, .bool false, .int .i64 0, .int .i64 0, .int .i64 0, .bool false, .int .i64 0, .bool false, .slice none 0 0] rfl (by kernel_rfl) (fun w => by kernel_rfl) (by kernel_rfl) (fun b2 => ?_)
  refine Sx.G.nil ?_
  refine Sx.E.next ?_
  refine Sx.C.seq ?_
  refine Sx.C.region ?_
  refine Sx.G.pure (.int .i64 v) (by kernel_rfl) (fun w => by kernel_rfl) ?_
  refine Sx.G.pure (.pointer (some ⟨b1, 1, none⟩)) (by kernel_rfl) (fun w => by kernel_rfl) ?_
  refine Sx.G.sto 3 (.tmp 6) (.tmp 5) b1 1 1 [.slice PA0 g.prog.length Pc0, .int .i64 g.a, .int .i64 g.pc, .slice PA1 g.wr.length Pc1, .slice PA2 g.lv.length Pc2, .int .i64 g.t.1, .int .i64 g.t.2.1, .bool g.t.2.2, .int .i64 g.pd, .int .i64 g.x.1, .int .i64 g.x.2.1, .bool g.x.2.2.1, .int .i64 g.x.2.2.2, .bool g.hl, .slice PA3 g.seen.length Pc3] [.int .i64 v] [.slice PA0 g.prog.length Pc0, .int .i64 v, .int .i64 g.pc, .slice PA1 g.wr.length Pc1, .slice PA2 g.lv.length Pc2, .int .i64 g.t.1, .int .i64 g.t.2.1, .bool g.t.2.2, .int .i64 g.pd, .int .i64 g.x.1, .int .i64 g.x.2.1, .bool g.x.2.2.1, .int .i64 g.x.2.2.2, .bool g.hl, .slice PA3 g.seen.length Pc3] [vr b2 [.slice none 0 0, .int .i64 0, .int .i64 0, .slice none 0 0, .slice none 0 0, .int .i64 0, .int .i64 0, .bool false, .int .i64 0, .int .i64 0, .int .i64 0, .bool false, .int .i64 0, .bool false, .slice none 0 0], vr b1 [.slice PA0 g.prog.length Pc0, .int .i64 v, .int .i64 g.pc, .slice PA1 g.wr.length Pc1, .slice PA2 g.lv.length Pc2, .int .i64 g.t.1, .int .i64 g.t.2.1, .bool g.t.2.2, .int .i64 g.pd, .int .i64 g.x.1, .int .i64 g.x.2.1, .bool g.x.2.2.1, .int .i64 g.x.2.2.2, .bool g.hl, .slice PA3 g.seen.length Pc3]] rfl (by kernel_rfl) (by kernel_rfl) (by kernel_rfl) rfl (by kernel_rfl) rfl (by kernel_rfl) (by kernel_rfl) (by kernel_rfl) ?_
  refine Sx.G.nil ?_
  refine Sx.E.next ?_
  refine Sx.C.seq ?_
  refine Sx.C.region ?_
  refine Sx.G.ld 32 (.tmp 2) b1 0 1 [.slice PA0 g.prog.length Pc0, .int .i64 v, .int .i64 g.pc, .slice PA1 g.wr.length Pc1, .slice PA2 g.lv.length Pc2, .int .i64 g.t.1, .int .i64 g.t.2.1, .bool g.t.2.2, .int .i64 g.pd, .int .i64 g.x.1, .int .i64 g.x.2.1, .bool g.x.2.2.1, .int .i64 g.x.2.2.2, .bool g.hl, .slice PA3 g.seen.length Pc3] [.slice PA0 g.prog.length Pc0, .int .i64 v, .int .i64 g.pc, .slice PA1 g.wr.length Pc1, .slice PA2 g.lv.length Pc2, .int .i64 g.t.1, .int .i64 g.t.2.1, .bool g.t.2.2, .int .i64 g.pd, .int .i64 g.x.1, .int .i64 g.x.2.1, .bool g.x.2.2.1, .int .i64 g.x.2.2.2, .bool g.hl, .slice PA3 g.seen.length Pc3] rfl (by kernel_rfl) (by kernel_rfl) rfl (by kernel_rfl) (by kernel_rfl) (by kernel_rfl) ?_
  refine Sx.G.pure (.int .i64 v) (by kernel_rfl) (fun w => by kernel_rfl) ?_
  refine Sx.G.call 55 #[.agg #[.slice PA0 g.prog.length Pc0, .int .i64 v, .int .i64 g.pc, .slice PA1 g.wr.length Pc1, .slice PA2 g.lv.length Pc2, .int .i64 g.t.1, .int .i64 g.t.2.1, .bool g.t.2.2, .int .i64 g.pd, .int .i64 g.x.1, .int .i64 g.x.2.1, .bool g.x.2.2.1, .int .i64 g.x.2.2.2, .bool g.hl, .slice PA3 g.seen.length Pc3], .int .i64 v] (by kernel_rfl) (fun w => by kernel_rfl) (fun w3 S => (specx_saw ({ g with a := v }) _ v _ (by exact hc) (rG_rd_mk (g := { g with a := v }) (St.old S h0) (St.old S h1) (St.old S h2) (St.old S h3))).mono fun e w3' hp => ?_)
  obtain ⟨cs, F, rfl, ho, hF, hb⟩ := hp
  obtain ⟨q3_0, q3_1, q3_2, q3_3, G3_0, G3_1, G3_2, G3_3, rfl, S'⟩ := rG_open (S.got hb ho hF)
  obtain ⟨q3A0, q3c0, e0, -⟩ := lst_val (S'.reads 0 rfl)
  subst e0
  obtain ⟨q3A1, q3c1, e1, -⟩ := lst_val (S'.reads 1 rfl)
  subst e1
  obtain ⟨q3A2, q3c2, e2, -⟩ := lst_val (S'.reads 2 rfl)
  subst e2
  obtain ⟨q3A3, q3c3, e3, -⟩ := lst_val (S'.reads 3 rfl)
  subst e3
  refine ⟨_, _, rfl, S', ?_⟩
  clear S S' ho hF hb
  refine Sx.G.call 22 #[.agg #[.slice q3A0 (sawG ({ g with a := v }) v).prog.length q3c0, .int .i64 (sawG ({ g with a := v }) v).a, .int .i64 (sawG ({ g with a := v }) v).pc, .slice q3A1 (sawG ({ g with a := v }) v).wr.length q3c1, .slice q3A2 (sawG ({ g with a := v }) v).lv.length q3c2, .int .i64 (sawG ({ g with a := v }) v).t.1, .int .i64 (sawG ({ g with a := v }) v).t.2.1, .bool (sawG ({ g with a := v }) v).t.2.2, .int .i64 (sawG ({ g with a := v }) v).pd, .int .i64 (sawG ({ g with a := v }) v).x.1, .int .i64 (sawG ({ g with a := v }) v).x.2.1, .bool (sawG ({ g with a := v }) v).x.2.2.1, .int .i64 (sawG ({ g with a := v }) v).x.2.2.2, .bool (sawG ({ g with a := v }) v).hl, .slice q3A3 (sawG ({ g with a := v }) v).seen.length q3c3]] (by kernel_rfl) (fun w => by kernel_rfl) (fun w4 S => (specx_moved (sawG ({ g with a := v }) v) _ _ hcs (rG_rd_mk (g := sawG ({ g with a := v }) v) (St.reads S 0 rfl) (St.reads S 1 rfl) (St.reads S 2 rfl) (St.reads S 3 rfl))).mono fun e w4' hp => ?_)
  obtain ⟨cs, F, rfl, ho, hF, hb⟩ := hp
  obtain ⟨q4_0, q4_1, q4_2, q4_3, G4_0, G4_1, G4_2, G4_3, rfl, S'⟩ := rG_open (S.got hb ho hF)
  obtain ⟨q4A0, q4c0, e0, -⟩ := lst_val (S'.reads 0 rfl)
  subst e0
  obtain ⟨q4A1, q4c1, e1, -⟩ := lst_val (S'.reads 1 rfl)
  subst e1
  obtain ⟨q4A2, q4c2, e2, -⟩ := lst_val (S'.reads 2 rfl)
  subst e2
  obtain ⟨q4A3, q4c3, e3, -⟩ := lst_val (S'.reads 3 rfl)
  subst e3
  refine ⟨_, _, rfl, S', ?_⟩
  clear S S' ho hF hb
  refine Sx.G.sto 32 (.tmp 4) (.tmp 10) b2 0 8 [.slice none 0 0, .int .i64 0, .int .i64 0, .slice none 0 0, .slice none 0 0, .int .i64 0, .int .i64 0, .bool false, .int .i64 0, .int .i64 0, .int .i64 0, .bool false, .int .i64 0, .bool false, .slice none 0 0] [.slice q4A0 (movedG (sawG ({ g with a := v }) v)).prog.length q4c0, .int .i64 (movedG (sawG ({ g with a := v }) v)).a, .int .i64 (movedG (sawG ({ g with a := v }) v)).pc, .slice q4A1 (movedG (sawG ({ g with a := v }) v)).wr.length q4c1, .slice q4A2 (movedG (sawG ({ g with a := v }) v)).lv.length q4c2, .int .i64 (movedG (sawG ({ g with a := v }) v)).t.1, .int .i64 (movedG (sawG ({ g with a := v }) v)).t.2.1, .bool (movedG (sawG ({ g with a := v }) v)).t.2.2, .int .i64 (movedG (sawG ({ g with a := v }) v)).pd, .int .i64 (movedG (sawG ({ g with a := v }) v)).x.1, .int .i64 (movedG (sawG ({ g with a := v }) v)).x.2.1, .bool (movedG (sawG ({ g with a := v }) v)).x.2.2.1, .int .i64 (movedG (sawG ({ g with a := v }) v)).x.2.2.2, .bool (movedG (sawG ({ g with a := v }) v)).hl, .slice q4A3 (movedG (sawG ({ g with a := v }) v)).seen.length q4c3] [.slice q4A0 (movedG (sawG ({ g with a := v }) v)).prog.length q4c0, .int .i64 (movedG (sawG ({ g with a := v }) v)).a, .int .i64 (movedG (sawG ({ g with a := v }) v)).pc, .slice q4A1 (movedG (sawG ({ g with a := v }) v)).wr.length q4c1, .slice q4A2 (movedG (sawG ({ g with a := v }) v)).lv.length q4c2, .int .i64 (movedG (sawG ({ g with a := v }) v)).t.1, .int .i64 (movedG (sawG ({ g with a := v }) v)).t.2.1, .bool (movedG (sawG ({ g with a := v }) v)).t.2.2, .int .i64 (movedG (sawG ({ g with a := v }) v)).pd, .int .i64 (movedG (sawG ({ g with a := v }) v)).x.1, .int .i64 (movedG (sawG ({ g with a := v }) v)).x.2.1, .bool (movedG (sawG ({ g with a := v }) v)).x.2.2.1, .int .i64 (movedG (sawG ({ g with a := v }) v)).x.2.2.2, .bool (movedG (sawG ({ g with a := v }) v)).hl, .slice q4A3 (movedG (sawG ({ g with a := v }) v)).seen.length q4c3] [ow (rLst 42 (rPair rInt rInt)) w4.heap.size (w4'.heap.size) ((movedG (sawG ({ g with a := v }) v)).prog) [.slice q4A0 (movedG (sawG ({ g with a := v }) v)).prog.length q4c0] G4_0, ow (rLsw (rPair rInt rInt)) w4.heap.size w4'.heap.size (movedG (sawG ({ g with a := v }) v)).wr [.slice q4A1 (movedG (sawG ({ g with a := v }) v)).wr.length q4c1] G4_1, ow (rLsw (rPair rInt rInt)) w4.heap.size w4'.heap.size (movedG (sawG ({ g with a := v }) v)).lv [.slice q4A2 (movedG (sawG ({ g with a := v }) v)).lv.length q4c2] G4_2, ow (rLst 3 rInt) w4.heap.size (w4'.heap.size) ((movedG (sawG ({ g with a := v }) v)).seen) [.slice q4A3 (movedG (sawG ({ g with a := v }) v)).seen.length q4c3] G4_3, ow (rLst 42 (rPair rInt rInt)) w3.heap.size (w3'.heap.size) ((sawG ({ g with a := v }) v).prog) [.slice q3A0 (sawG ({ g with a := v }) v).prog.length q3c0] G3_0, ow (rLsw (rPair rInt rInt)) w3.heap.size w3'.heap.size (sawG ({ g with a := v }) v).wr [.slice q3A1 (sawG ({ g with a := v }) v).wr.length q3c1] G3_1, ow (rLsw (rPair rInt rInt)) w3.heap.size w3'.heap.size (sawG ({ g with a := v }) v).lv [.slice q3A2 (sawG ({ g with a := v }) v).lv.length q3c2] G3_2, ow (rLst 3 rInt) w3.heap.size (w3'.heap.size) ((sawG ({ g with a := v }) v).seen) [.slice q3A3 (sawG ({ g with a := v }) v).seen.length q3c3] G3_3, vr b2 [.slice q4A0 (movedG (sawG ({ g with a := v }) v)).prog.length q4c0, .int .i64 (movedG (sawG ({ g with a := v }) v)).a, .int .i64 (movedG (sawG ({ g with a := v }) v)).pc, .slice q4A1 (movedG (sawG ({ g with a := v }) v)).wr.length q4c1, .slice q4A2 (movedG (sawG ({ g with a := v }) v)).lv.length q4c2, .int .i64 (movedG (sawG ({ g with a := v }) v)).t.1, .int .i64 (movedG (sawG ({ g with a := v }) v)).t.2.1, .bool (movedG (sawG ({ g with a := v }) v)).t.2.2, .int .i64 (movedG (sawG ({ g with a := v }) v)).pd, .int .i64 (movedG (sawG ({ g with a := v }) v)).x.1, .int .i64 (movedG (sawG ({ g with a := v }) v)).x.2.1, .bool (movedG (sawG ({ g with a := v }) v)).x.2.2.1, .int .i64 (movedG (sawG ({ g with a := v }) v)).x.2.2.2, .bool (movedG (sawG ({ g with a := v }) v)).hl, .slice q4A3 (movedG (sawG ({ g with a := v }) v)).seen.length q4c3], vr b1 [.slice PA0 g.prog.length Pc0, .int .i64 v, .int .i64 g.pc, .slice PA1 g.wr.length Pc1, .slice PA2 g.lv.length Pc2, .int .i64 g.t.1, .int .i64 g.t.2.1, .bool g.t.2.2, .int .i64 g.pd, .int .i64 g.x.1, .int .i64 g.x.2.1, .bool g.x.2.2.1, .int .i64 g.x.2.2.2, .bool g.hl, .slice PA3 g.seen.length Pc3]] rfl (by kernel_rfl) (by kernel_rfl) (by kernel_rfl) rfl (by kernel_rfl) rfl (by kernel_rfl) (by kernel_rfl) (by kernel_rfl) ?_
  refine Sx.G.nil ?_
  refine Sx.E.next ?_
  refine Sx.C.ret ?_
  refine Sx.E.retc b2 8 [.slice q4A0 (movedG (sawG ({ g with a := v }) v)).prog.length q4c0, .int .i64 (movedG (sawG ({ g with a := v }) v)).a, .int .i64 (movedG (sawG ({ g with a := v }) v)).pc, .slice q4A1 (movedG (sawG ({ g with a := v }) v)).wr.length q4c1, .slice q4A2 (movedG (sawG ({ g with a := v }) v)).lv.length q4c2, .int .i64 (movedG (sawG ({ g with a := v }) v)).t.1, .int .i64 (movedG (sawG ({ g with a := v }) v)).t.2.1, .bool (movedG (sawG ({ g with a := v }) v)).t.2.2, .int .i64 (movedG (sawG ({ g with a := v }) v)).pd, .int .i64 (movedG (sawG ({ g with a := v }) v)).x.1, .int .i64 (movedG (sawG ({ g with a := v }) v)).x.2.1, .bool (movedG (sawG ({ g with a := v }) v)).x.2.2.1, .int .i64 (movedG (sawG ({ g with a := v }) v)).x.2.2.2, .bool (movedG (sawG ({ g with a := v }) v)).hl, .slice q4A3 (movedG (sawG ({ g with a := v }) v)).seen.length q4c3] rfl (by kernel_rfl) rfl (by kernel_rfl) (by kernel_rfl) (fun w S => ?_)
  obtain ⟨ho, hF⟩ := rG_shut (g := loadedG g v) S 0 rfl 1 rfl 2 rfl 3 rfl (by decide) (by decide) (by decide) (by decide) (by decide) (by decide)
  exact ⟨_, _, rfl, ho, hF, S.below⟩

set_option maxRecDepth 100000 in
set_option maxHeartbeats 4000000 in
theorem specx_stored (g : gT) (cs : List Value) (w : World) (hc : rG.cap g) (h : rG.rd w 0 w.heap.size g cs) : Calls Try.prog 24 #[.agg cs.toArray] w (Gives rG w (movedG g)) := by
  obtain ⟨q0, q1, q2, q3⟩ := rG_len hc
  have hr := h
  obtain ⟨P0, P1, P2, P3, rfl, h0, h1, h2, h3⟩ := rG_rd h
  obtain ⟨PA0, Pc0, e0, hP0⟩ := lst_val h0
  subst e0
  obtain ⟨PA1, Pc1, e1, hP1⟩ := lst_val h1
  subst e1
  obtain ⟨PA2, Pc2, e2, hP2⟩ := lst_val h2
  subst e2
  obtain ⟨PA3, Pc3, e3, hP3⟩ := lst_val h3
  subst e3
  refine Sx.enter (args := [.agg #[.slice PA0 g.prog.length Pc0, .int .i64 g.a, .int .i64 g.pc, .slice PA1 g.wr.length Pc1, .slice PA2 g.lv.length Pc2, .int .i64 g.t.1, .int .i64 g.t.2.1, .bool g.t.2.2, .int .i64 g.pd, .int .i64 g.x.1, .int .i64 g.x.2.1, .bool g.x.2.2.1, .int .i64 g.x.2.2.2, .bool g.hl, .slice PA3 g.seen.length Pc3]]) Try.func24 rfl Try.ntmps24 rfl ?_
  refine Sx.C.seq ?_
  refine Sx.C.region ?_
  refine Sx.G.box 32 (.tmp 0) [.slice PA0 g.prog.length Pc0, .int .i64 g.a, .int .i64 g.pc, .slice PA1 g.wr.length Pc1, .slice PA2 g.lv.length Pc2, .int .i64 g.t.1, .int .i64 g.t.2.1, .bool g.t.2.2, .int .i64 g.pd, .int .i64 g.x.1, .int .i64 g.x.2.1, .bool g.x.2.2.1, .int .i64 g.x.2.2.2, .bool g.hl, .slice PA3 g.seen.length Pc3] rfl (by kernel_rfl) (by kernel_rfl) (fun b1 => ?_)
  refine Sx.G.alloc 32 (.agg #[.slice none 0 0, .int .i64 0, .int .i64 0, .slice none 0 0, .slice none 0 0, .int .i64 0, .int .i64 0, .bool false, .int .i64 0, .int .i64 0, .int .i64 0, .bool false, .int .i64 0, .bool false, .slice none 0 0]) [.slice none 0 0, .int .i64 0, .int .i64 0, .slice none 0 0, .slice none 0 0, .int .i64 0, .int .i64 0, .bool false, .int .i64 0, .int .i64 0, .int .i64 0, .bool false, .int .i64 0, .bool false, .slice none 0 0] rfl (by kernel_rfl) (fun w => by kernel_rfl) (by kernel_rfl) (fun b2 => ?_)
  refine Sx.G.nil ?_
  refine Sx.E.next ?_
  refine Sx.C.seq ?_
  refine Sx.C.region ?_
  refine Sx.G.ld 32 (.tmp 1) b1 0 1 [.slice PA0 g.prog.length Pc0, .int .i64 g.a, .int .i64 g.pc, .slice PA1 g.wr.length Pc1, .slice PA2 g.lv.length Pc2, .int .i64 g.t.1, .int .i64 g.t.2.1, .bool g.t.2.2, .int .i64 g.pd, .int .i64 g.x.1, .int .i64 g.x.2.1, .bool g.x.2.2.1, .int .i64 g.x.2.2.2, .bool g.hl, .slice PA3 g.seen.length Pc3] [.slice PA0 g.prog.length Pc0, .int .i64 g.a, .int .i64 g.pc, .slice PA1 g.wr.length Pc1, .slice PA2 g.lv.length Pc2, .int .i64 g.t.1, .int .i64 g.t.2.1, .bool g.t.2.2, .int .i64 g.pd, .int .i64 g.x.1, .int .i64 g.x.2.1, .bool g.x.2.2.1, .int .i64 g.x.2.2.2, .bool g.hl, .slice PA3 g.seen.length Pc3] rfl (by kernel_rfl) (by kernel_rfl) rfl (by kernel_rfl) (by kernel_rfl) (by kernel_rfl) ?_
  refine Sx.G.call 22 #[.agg #[.slice PA0 g.prog.length Pc0, .int .i64 g.a, .int .i64 g.pc, .slice PA1 g.wr.length Pc1, .slice PA2 g.lv.length Pc2, .int .i64 g.t.1, .int .i64 g.t.2.1, .bool g.t.2.2, .int .i64 g.pd, .int .i64 g.x.1, .int .i64 g.x.2.1, .bool g.x.2.2.1, .int .i64 g.x.2.2.2, .bool g.hl, .slice PA3 g.seen.length Pc3]] (by kernel_rfl) (fun w => by kernel_rfl) (fun w3 S => (specx_moved g _ _ (by exact hc) (St.old S hr)).mono fun e w3' hp => ?_)
  obtain ⟨cs, F, rfl, ho, hF, hb⟩ := hp
  obtain ⟨q3_0, q3_1, q3_2, q3_3, G3_0, G3_1, G3_2, G3_3, rfl, S'⟩ := rG_open (S.got hb ho hF)
  obtain ⟨q3A0, q3c0, e0, -⟩ := lst_val (S'.reads 0 rfl)
  subst e0
  obtain ⟨q3A1, q3c1, e1, -⟩ := lst_val (S'.reads 1 rfl)
  subst e1
  obtain ⟨q3A2, q3c2, e2, -⟩ := lst_val (S'.reads 2 rfl)
  subst e2
  obtain ⟨q3A3, q3c3, e3, -⟩ := lst_val (S'.reads 3 rfl)
  subst e3
  refine ⟨_, _, rfl, S', ?_⟩
  clear S S' ho hF hb
  refine Sx.G.sto 32 (.tmp 2) (.tmp 4) b2 0 4 [.slice none 0 0, .int .i64 0, .int .i64 0, .slice none 0 0, .slice none 0 0, .int .i64 0, .int .i64 0, .bool false, .int .i64 0, .int .i64 0, .int .i64 0, .bool false, .int .i64 0, .bool false, .slice none 0 0] [.slice q3A0 (movedG g).prog.length q3c0, .int .i64 (movedG g).a, .int .i64 (movedG g).pc, .slice q3A1 (movedG g).wr.length q3c1, .slice q3A2 (movedG g).lv.length q3c2, .int .i64 (movedG g).t.1, .int .i64 (movedG g).t.2.1, .bool (movedG g).t.2.2, .int .i64 (movedG g).pd, .int .i64 (movedG g).x.1, .int .i64 (movedG g).x.2.1, .bool (movedG g).x.2.2.1, .int .i64 (movedG g).x.2.2.2, .bool (movedG g).hl, .slice q3A3 (movedG g).seen.length q3c3] [.slice q3A0 (movedG g).prog.length q3c0, .int .i64 (movedG g).a, .int .i64 (movedG g).pc, .slice q3A1 (movedG g).wr.length q3c1, .slice q3A2 (movedG g).lv.length q3c2, .int .i64 (movedG g).t.1, .int .i64 (movedG g).t.2.1, .bool (movedG g).t.2.2, .int .i64 (movedG g).pd, .int .i64 (movedG g).x.1, .int .i64 (movedG g).x.2.1, .bool (movedG g).x.2.2.1, .int .i64 (movedG g).x.2.2.2, .bool (movedG g).hl, .slice q3A3 (movedG g).seen.length q3c3] [ow (rLst 42 (rPair rInt rInt)) w3.heap.size (w3'.heap.size) ((movedG g).prog) [.slice q3A0 (movedG g).prog.length q3c0] G3_0, ow (rLsw (rPair rInt rInt)) w3.heap.size w3'.heap.size (movedG g).wr [.slice q3A1 (movedG g).wr.length q3c1] G3_1, ow (rLsw (rPair rInt rInt)) w3.heap.size w3'.heap.size (movedG g).lv [.slice q3A2 (movedG g).lv.length q3c2] G3_2, ow (rLst 3 rInt) w3.heap.size (w3'.heap.size) ((movedG g).seen) [.slice q3A3 (movedG g).seen.length q3c3] G3_3, vr b2 [.slice q3A0 (movedG g).prog.length q3c0, .int .i64 (movedG g).a, .int .i64 (movedG g).pc, .slice q3A1 (movedG g).wr.length q3c1, .slice q3A2 (movedG g).lv.length q3c2, .int .i64 (movedG g).t.1, .int .i64 (movedG g).t.2.1, .bool (movedG g).t.2.2, .int .i64 (movedG g).pd, .int .i64 (movedG g).x.1, .int .i64 (movedG g).x.2.1, .bool (movedG g).x.2.2.1, .int .i64 (movedG g).x.2.2.2, .bool (movedG g).hl, .slice q3A3 (movedG g).seen.length q3c3], vr b1 [.slice PA0 g.prog.length Pc0, .int .i64 g.a, .int .i64 g.pc, .slice PA1 g.wr.length Pc1, .slice PA2 g.lv.length Pc2, .int .i64 g.t.1, .int .i64 g.t.2.1, .bool g.t.2.2, .int .i64 g.pd, .int .i64 g.x.1, .int .i64 g.x.2.1, .bool g.x.2.2.1, .int .i64 g.x.2.2.2, .bool g.hl, .slice PA3 g.seen.length Pc3]] rfl (by kernel_rfl) (by kernel_rfl) (by kernel_rfl) rfl (by kernel_rfl) rfl (by kernel_rfl) (by kernel_rfl) (by kernel_rfl) ?_
  refine Sx.G.nil ?_
  refine Sx.E.next ?_
  refine Sx.C.ret ?_
  refine Sx.E.retc b2 4 [.slice q3A0 (movedG g).prog.length q3c0, .int .i64 (movedG g).a, .int .i64 (movedG g).pc, .slice q3A1 (movedG g).wr.length q3c1, .slice q3A2 (movedG g).lv.length q3c2, .int .i64 (movedG g).t.1, .int .i64 (movedG g).t.2.1, .bool (movedG g).t.2.2, .int .i64 (movedG g).pd, .int .i64 (movedG g).x.1, .int .i64 (movedG g).x.2.1, .bool (movedG g).x.2.2.1, .int .i64 (movedG g).x.2.2.2, .bool (movedG g).hl, .slice q3A3 (movedG g).seen.length q3c3] rfl (by kernel_rfl) rfl (by kernel_rfl) (by kernel_rfl) (fun w S => ?_)
  obtain ⟨ho, hF⟩ := rG_shut (g := movedG g) S 0 rfl 1 rfl 2 rfl 3 rfl (by decide) (by decide) (by decide) (by decide) (by decide) (by decide)
  exact ⟨_, _, rfl, ho, hF, S.below⟩

set_option maxRecDepth 100000 in
set_option maxHeartbeats 4000000 in
theorem specx_held (g : gT) (cs : List Value) (w : World) (hc : rG.cap g) (h : rG.rd w 0 w.heap.size g cs) : Calls Try.prog 26 #[.agg cs.toArray] w (Gives rG w (heldG g)) := by
  obtain ⟨q0, q1, q2, q3⟩ := rG_len hc
  have hr := h
  obtain ⟨P0, P1, P2, P3, rfl, h0, h1, h2, h3⟩ := rG_rd h
  obtain ⟨PA0, Pc0, e0, hP0⟩ := lst_val h0
  subst e0
  obtain ⟨PA1, Pc1, e1, hP1⟩ := lst_val h1
  subst e1
  obtain ⟨PA2, Pc2, e2, hP2⟩ := lst_val h2
  subst e2
  obtain ⟨PA3, Pc3, e3, hP3⟩ := lst_val h3
  subst e3
  refine Sx.enter (args := [.agg #[.slice PA0 g.prog.length Pc0, .int .i64 g.a, .int .i64 g.pc, .slice PA1 g.wr.length Pc1, .slice PA2 g.lv.length Pc2, .int .i64 g.t.1, .int .i64 g.t.2.1, .bool g.t.2.2, .int .i64 g.pd, .int .i64 g.x.1, .int .i64 g.x.2.1, .bool g.x.2.2.1, .int .i64 g.x.2.2.2, .bool g.hl, .slice PA3 g.seen.length Pc3]]) Try.func26 rfl Try.ntmps26 rfl ?_
  refine Sx.C.seq ?_
  refine Sx.C.region ?_
  refine Sx.G.box 32 (.tmp 0) [.slice PA0 g.prog.length Pc0, .int .i64 g.a, .int .i64 g.pc, .slice PA1 g.wr.length Pc1, .slice PA2 g.lv.length Pc2, .int .i64 g.t.1, .int .i64 g.t.2.1, .bool g.t.2.2, .int .i64 g.pd, .int .i64 g.x.1, .int .i64 g.x.2.1, .bool g.x.2.2.1, .int .i64 g.x.2.2.2, .bool g.hl, .slice PA3 g.seen.length Pc3] rfl (by kernel_rfl) (by kernel_rfl) (fun b1 => ?_)
  refine Sx.G.alloc 32 (.agg #[.slice none 0 0, .int .i64 0, .int .i64 0, .slice none 0 0, .slice none 0 0, .int .i64 0, .int .i64 0, .bool false, .int .i64 0, .int .i64 0, .int .i64 0, .bool false, .int .i64 0, .bool false, .slice none 0 0]) [.slice none 0 0, .int .i64 0, .int .i64 0, .slice none 0 0, .slice none 0 0, .int .i64 0, .int .i64 0, .bool false, .int .i64 0, .int .i64 0, .int .i64 0, .bool false, .int .i64 0, .bool false, .slice none 0 0] rfl (by kernel_rfl) (fun w => by kernel_rfl) (by kernel_rfl) (fun b2 => ?_)
  refine Sx.G.nil ?_
  refine Sx.E.next ?_
  refine Sx.C.seq ?_
  refine Sx.C.region ?_
  refine Sx.G.pure (.pointer (some ⟨b1, 13, none⟩)) (by kernel_rfl) (fun w => by kernel_rfl) ?_
  refine Sx.G.sto 4 (.tmp 3) (.const (.bool true)) b1 13 1 [.slice PA0 g.prog.length Pc0, .int .i64 g.a, .int .i64 g.pc, .slice PA1 g.wr.length Pc1, .slice PA2 g.lv.length Pc2, .int .i64 g.t.1, .int .i64 g.t.2.1, .bool g.t.2.2, .int .i64 g.pd, .int .i64 g.x.1, .int .i64 g.x.2.1, .bool g.x.2.2.1, .int .i64 g.x.2.2.2, .bool g.hl, .slice PA3 g.seen.length Pc3] [.bool true] [.slice PA0 g.prog.length Pc0, .int .i64 g.a, .int .i64 g.pc, .slice PA1 g.wr.length Pc1, .slice PA2 g.lv.length Pc2, .int .i64 g.t.1, .int .i64 g.t.2.1, .bool g.t.2.2, .int .i64 g.pd, .int .i64 g.x.1, .int .i64 g.x.2.1, .bool g.x.2.2.1, .int .i64 g.x.2.2.2, .bool true, .slice PA3 g.seen.length Pc3] [vr b2 [.slice none 0 0, .int .i64 0, .int .i64 0, .slice none 0 0, .slice none 0 0, .int .i64 0, .int .i64 0, .bool false, .int .i64 0, .int .i64 0, .int .i64 0, .bool false, .int .i64 0, .bool false, .slice none 0 0], vr b1 [.slice PA0 g.prog.length Pc0, .int .i64 g.a, .int .i64 g.pc, .slice PA1 g.wr.length Pc1, .slice PA2 g.lv.length Pc2, .int .i64 g.t.1, .int .i64 g.t.2.1, .bool g.t.2.2, .int .i64 g.pd, .int .i64 g.x.1, .int .i64 g.x.2.1, .bool g.x.2.2.1, .int .i64 g.x.2.2.2, .bool true, .slice PA3 g.seen.length Pc3]] rfl (by kernel_rfl) (by kernel_rfl) (by kernel_rfl) rfl (by kernel_rfl) rfl (by kernel_rfl) (by kernel_rfl) (by kernel_rfl) ?_
  refine Sx.G.nil ?_
  refine Sx.E.next ?_
  refine Sx.C.seq ?_
  refine Sx.C.region ?_
  refine Sx.G.ld 32 (.tmp 1) b1 0 1 [.slice PA0 g.prog.length Pc0, .int .i64 g.a, .int .i64 g.pc, .slice PA1 g.wr.length Pc1, .slice PA2 g.lv.length Pc2, .int .i64 g.t.1, .int .i64 g.t.2.1, .bool g.t.2.2, .int .i64 g.pd, .int .i64 g.x.1, .int .i64 g.x.2.1, .bool g.x.2.2.1, .int .i64 g.x.2.2.2, .bool true, .slice PA3 g.seen.length Pc3] [.slice PA0 g.prog.length Pc0, .int .i64 g.a, .int .i64 g.pc, .slice PA1 g.wr.length Pc1, .slice PA2 g.lv.length Pc2, .int .i64 g.t.1, .int .i64 g.t.2.1, .bool g.t.2.2, .int .i64 g.pd, .int .i64 g.x.1, .int .i64 g.x.2.1, .bool g.x.2.2.1, .int .i64 g.x.2.2.2, .bool true, .slice PA3 g.seen.length Pc3] rfl (by kernel_rfl) (by kernel_rfl) rfl (by kernel_rfl) (by kernel_rfl) (by kernel_rfl) ?_
  refine Sx.G.call 22 #[.agg #[.slice PA0 g.prog.length Pc0, .int .i64 g.a, .int .i64 g.pc, .slice PA1 g.wr.length Pc1, .slice PA2 g.lv.length Pc2, .int .i64 g.t.1, .int .i64 g.t.2.1, .bool g.t.2.2, .int .i64 g.pd, .int .i64 g.x.1, .int .i64 g.x.2.1, .bool g.x.2.2.1, .int .i64 g.x.2.2.2, .bool true, .slice PA3 g.seen.length Pc3]] (by kernel_rfl) (fun w => by kernel_rfl) (fun w3 S => (specx_moved ({ g with hl := true }) _ _ (by exact hc) (rG_rd_mk (g := { g with hl := true }) (St.old S h0) (St.old S h1) (St.old S h2) (St.old S h3))).mono fun e w3' hp => ?_)
  obtain ⟨cs, F, rfl, ho, hF, hb⟩ := hp
  obtain ⟨q3_0, q3_1, q3_2, q3_3, G3_0, G3_1, G3_2, G3_3, rfl, S'⟩ := rG_open (S.got hb ho hF)
  obtain ⟨q3A0, q3c0, e0, -⟩ := lst_val (S'.reads 0 rfl)
  subst e0
  obtain ⟨q3A1, q3c1, e1, -⟩ := lst_val (S'.reads 1 rfl)
  subst e1
  obtain ⟨q3A2, q3c2, e2, -⟩ := lst_val (S'.reads 2 rfl)
  subst e2
  obtain ⟨q3A3, q3c3, e3, -⟩ := lst_val (S'.reads 3 rfl)
  subst e3
  refine ⟨_, _, rfl, S', ?_⟩
  clear S S' ho hF hb
  refine Sx.G.sto 32 (.tmp 2) (.tmp 5) b2 0 4 [.slice none 0 0, .int .i64 0, .int .i64 0, .slice none 0 0, .slice none 0 0, .int .i64 0, .int .i64 0, .bool false, .int .i64 0, .int .i64 0, .int .i64 0, .bool false, .int .i64 0, .bool false, .slice none 0 0] [.slice q3A0 (movedG ({ g with hl := true })).prog.length q3c0, .int .i64 (movedG ({ g with hl := true })).a, .int .i64 (movedG ({ g with hl := true })).pc, .slice q3A1 (movedG ({ g with hl := true })).wr.length q3c1, .slice q3A2 (movedG ({ g with hl := true })).lv.length q3c2, .int .i64 (movedG ({ g with hl := true })).t.1, .int .i64 (movedG ({ g with hl := true })).t.2.1, .bool (movedG ({ g with hl := true })).t.2.2, .int .i64 (movedG ({ g with hl := true })).pd, .int .i64 (movedG ({ g with hl := true })).x.1, .int .i64 (movedG ({ g with hl := true })).x.2.1, .bool (movedG ({ g with hl := true })).x.2.2.1, .int .i64 (movedG ({ g with hl := true })).x.2.2.2, .bool (movedG ({ g with hl := true })).hl, .slice q3A3 (movedG ({ g with hl := true })).seen.length q3c3] [.slice q3A0 (movedG ({ g with hl := true })).prog.length q3c0, .int .i64 (movedG ({ g with hl := true })).a, .int .i64 (movedG ({ g with hl := true })).pc, .slice q3A1 (movedG ({ g with hl := true })).wr.length q3c1, .slice q3A2 (movedG ({ g with hl := true })).lv.length q3c2, .int .i64 (movedG ({ g with hl := true })).t.1, .int .i64 (movedG ({ g with hl := true })).t.2.1, .bool (movedG ({ g with hl := true })).t.2.2, .int .i64 (movedG ({ g with hl := true })).pd, .int .i64 (movedG ({ g with hl := true })).x.1, .int .i64 (movedG ({ g with hl := true })).x.2.1, .bool (movedG ({ g with hl := true })).x.2.2.1, .int .i64 (movedG ({ g with hl := true })).x.2.2.2, .bool (movedG ({ g with hl := true })).hl, .slice q3A3 (movedG ({ g with hl := true })).seen.length q3c3] [ow (rLst 42 (rPair rInt rInt)) w3.heap.size (w3'.heap.size) ((movedG ({ g with hl := true })).prog) [.slice q3A0 (movedG ({ g with hl := true })).prog.length q3c0] G3_0, ow (rLsw (rPair rInt rInt)) w3.heap.size w3'.heap.size (movedG ({ g with hl := true })).wr [.slice q3A1 (movedG ({ g with hl := true })).wr.length q3c1] G3_1, ow (rLsw (rPair rInt rInt)) w3.heap.size w3'.heap.size (movedG ({ g with hl := true })).lv [.slice q3A2 (movedG ({ g with hl := true })).lv.length q3c2] G3_2, ow (rLst 3 rInt) w3.heap.size (w3'.heap.size) ((movedG ({ g with hl := true })).seen) [.slice q3A3 (movedG ({ g with hl := true })).seen.length q3c3] G3_3, vr b2 [.slice q3A0 (movedG ({ g with hl := true })).prog.length q3c0, .int .i64 (movedG ({ g with hl := true })).a, .int .i64 (movedG ({ g with hl := true })).pc, .slice q3A1 (movedG ({ g with hl := true })).wr.length q3c1, .slice q3A2 (movedG ({ g with hl := true })).lv.length q3c2, .int .i64 (movedG ({ g with hl := true })).t.1, .int .i64 (movedG ({ g with hl := true })).t.2.1, .bool (movedG ({ g with hl := true })).t.2.2, .int .i64 (movedG ({ g with hl := true })).pd, .int .i64 (movedG ({ g with hl := true })).x.1, .int .i64 (movedG ({ g with hl := true })).x.2.1, .bool (movedG ({ g with hl := true })).x.2.2.1, .int .i64 (movedG ({ g with hl := true })).x.2.2.2, .bool (movedG ({ g with hl := true })).hl, .slice q3A3 (movedG ({ g with hl := true })).seen.length q3c3], vr b1 [.slice PA0 g.prog.length Pc0, .int .i64 g.a, .int .i64 g.pc, .slice PA1 g.wr.length Pc1, .slice PA2 g.lv.length Pc2, .int .i64 g.t.1, .int .i64 g.t.2.1, .bool g.t.2.2, .int .i64 g.pd, .int .i64 g.x.1, .int .i64 g.x.2.1, .bool g.x.2.2.1, .int .i64 g.x.2.2.2, .bool true, .slice PA3 g.seen.length Pc3]] rfl (by kernel_rfl) (by kernel_rfl) (by kernel_rfl) rfl (by kernel_rfl) rfl (by kernel_rfl) (by kernel_rfl) (by kernel_rfl) ?_
  refine Sx.G.nil ?_
  refine Sx.E.next ?_
  refine Sx.C.ret ?_
  refine Sx.E.retc b2 4 [.slice q3A0 (movedG ({ g with hl := true })).prog.length q3c0, .int .i64 (movedG ({ g with hl := true })).a, .int .i64 (movedG ({ g with hl := true })).pc, .slice q3A1 (movedG ({ g with hl := true })).wr.length q3c1, .slice q3A2 (movedG ({ g with hl := true })).lv.length q3c2, .int .i64 (movedG ({ g with hl := true })).t.1, .int .i64 (movedG ({ g with hl := true })).t.2.1, .bool (movedG ({ g with hl := true })).t.2.2, .int .i64 (movedG ({ g with hl := true })).pd, .int .i64 (movedG ({ g with hl := true })).x.1, .int .i64 (movedG ({ g with hl := true })).x.2.1, .bool (movedG ({ g with hl := true })).x.2.2.1, .int .i64 (movedG ({ g with hl := true })).x.2.2.2, .bool (movedG ({ g with hl := true })).hl, .slice q3A3 (movedG ({ g with hl := true })).seen.length q3c3] rfl (by kernel_rfl) rfl (by kernel_rfl) (by kernel_rfl) (fun w S => ?_)
  obtain ⟨ho, hF⟩ := rG_shut (g := heldG g) S 0 rfl 1 rfl 2 rfl 3 rfl (by decide) (by decide) (by decide) (by decide) (by decide) (by decide)
  exact ⟨_, _, rfl, ho, hF, S.below⟩

set_option maxRecDepth 100000 in
set_option maxHeartbeats 4000000 in
theorem specx_addr (g : gT) (cs : List Value) (w : World) (hc : rG.cap g) (h : rG.rd w 0 w.heap.size g cs) : Calls Try.prog 30 #[.agg cs.toArray] w (fun e w' => e = .returned (.int .i64 (addrG g)) ∧ Below w.heap.size w w') := by
  obtain ⟨q0, q1, q2, q3⟩ := rG_len hc
  have hr := h
  obtain ⟨P0, P1, P2, P3, rfl, h0, h1, h2, h3⟩ := rG_rd h
  obtain ⟨PA0, Pc0, e0, hP0⟩ := lst_val h0
  subst e0
  obtain ⟨PA1, Pc1, e1, hP1⟩ := lst_val h1
  subst e1
  obtain ⟨PA2, Pc2, e2, hP2⟩ := lst_val h2
  subst e2
  obtain ⟨PA3, Pc3, e3, hP3⟩ := lst_val h3
  subst e3
  refine Sx.enter (args := [.agg #[.slice PA0 g.prog.length Pc0, .int .i64 g.a, .int .i64 g.pc, .slice PA1 g.wr.length Pc1, .slice PA2 g.lv.length Pc2, .int .i64 g.t.1, .int .i64 g.t.2.1, .bool g.t.2.2, .int .i64 g.pd, .int .i64 g.x.1, .int .i64 g.x.2.1, .bool g.x.2.2.1, .int .i64 g.x.2.2.2, .bool g.hl, .slice PA3 g.seen.length Pc3]]) Try.func30 rfl Try.ntmps30 rfl ?_
  refine Sx.C.seq ?_
  refine Sx.C.region ?_
  refine Sx.G.box 32 (.tmp 0) [.slice PA0 g.prog.length Pc0, .int .i64 g.a, .int .i64 g.pc, .slice PA1 g.wr.length Pc1, .slice PA2 g.lv.length Pc2, .int .i64 g.t.1, .int .i64 g.t.2.1, .bool g.t.2.2, .int .i64 g.pd, .int .i64 g.x.1, .int .i64 g.x.2.1, .bool g.x.2.2.1, .int .i64 g.x.2.2.2, .bool g.hl, .slice PA3 g.seen.length Pc3] rfl (by kernel_rfl) (by kernel_rfl) (fun b1 => ?_)
  refine Sx.G.pure (.int .i64 0) (by kernel_rfl) (fun w => by kernel_rfl) ?_
  refine Sx.G.nil ?_
  refine Sx.E.next ?_
  refine Sx.C.seq ?_
  refine Sx.C.region ?_
  refine Sx.G.ld 32 (.tmp 1) b1 0 0 [.slice PA0 g.prog.length Pc0, .int .i64 g.a, .int .i64 g.pc, .slice PA1 g.wr.length Pc1, .slice PA2 g.lv.length Pc2, .int .i64 g.t.1, .int .i64 g.t.2.1, .bool g.t.2.2, .int .i64 g.pd, .int .i64 g.x.1, .int .i64 g.x.2.1, .bool g.x.2.2.1, .int .i64 g.x.2.2.2, .bool g.hl, .slice PA3 g.seen.length Pc3] [.slice PA0 g.prog.length Pc0, .int .i64 g.a, .int .i64 g.pc, .slice PA1 g.wr.length Pc1, .slice PA2 g.lv.length Pc2, .int .i64 g.t.1, .int .i64 g.t.2.1, .bool g.t.2.2, .int .i64 g.pd, .int .i64 g.x.1, .int .i64 g.x.2.1, .bool g.x.2.2.1, .int .i64 g.x.2.2.2, .bool g.hl, .slice PA3 g.seen.length Pc3] rfl (by kernel_rfl) (by kernel_rfl) rfl (by kernel_rfl) (by kernel_rfl) (by kernel_rfl) ?_
  refine Sx.G.plain 28 #[.agg #[.slice PA0 g.prog.length Pc0, .int .i64 g.a, .int .i64 g.pc, .slice PA1 g.wr.length Pc1, .slice PA2 g.lv.length Pc2, .int .i64 g.t.1, .int .i64 g.t.2.1, .bool g.t.2.2, .int .i64 g.pd, .int .i64 g.x.1, .int .i64 g.x.2.1, .bool g.x.2.2.1, .int .i64 g.x.2.2.2, .bool g.hl, .slice PA3 g.seen.length Pc3]] (.int .i64 (wantG g)) (by kernel_rfl) (fun w => by kernel_rfl) (fun w S => by exact specx_want g _ _ (by exact hc) (St.old S hr)) ?_
  refine Sx.G.pure (.int .i64 (wantG g)) (by kernel_rfl) (fun w => by kernel_rfl) ?_
  refine Sx.G.nil ?_
  refine Sx.E.next ?_
  refine Sx.C.seq ?_
  refine Sx.C.seq ?_
  refine Sx.C.region ?_
  refine Sx.G.pure (.int .i64 (wantG g)) (by kernel_rfl) (fun w => by kernel_rfl) ?_
  refine Sx.G.pure (.bool ((wantG g) != 3)) (by kernel_rfl) (fun w => by kernel_rfl) ?_
  refine Sx.G.pure (.bool ((wantG g) != 3)) (by kernel_rfl) (fun w => by kernel_rfl) ?_
  cases hc2 : ((wantG g) != 3)
  · have hb2 := hc2
    refine Sx.G.skip (by kernel_rfl) ?_
    refine Sx.G.skip (by kernel_rfl) ?_
    refine Sx.G.pure (.bool false) (by kernel_rfl) (fun w => by kernel_rfl) ?_
    refine Sx.G.nil ?_
    refine Sx.E.next ?_
    refine Sx.C.no (by kernel_rfl) (by kernel_rfl) ?_
    refine Sx.C.skip ?_
    refine Sx.E.next ?_
    refine Sx.C.seq ?_
    refine Sx.C.region ?_
    refine Sx.G.pure (.pointer (some ⟨b1, 0, none⟩)) (by kernel_rfl) (fun w => by kernel_rfl) ?_
    refine Sx.G.ld1 24 (.tmp 12) b1 0 0 [.slice PA0 g.prog.length Pc0, .int .i64 g.a, .int .i64 g.pc, .slice PA1 g.wr.length Pc1, .slice PA2 g.lv.length Pc2, .int .i64 g.t.1, .int .i64 g.t.2.1, .bool g.t.2.2, .int .i64 g.pd, .int .i64 g.x.1, .int .i64 g.x.2.1, .bool g.x.2.2.1, .int .i64 g.x.2.2.2, .bool g.hl, .slice PA3 g.seen.length Pc3] (.slice PA0 g.prog.length Pc0) rfl (by kernel_rfl) (by kernel_rfl) rfl (by kernel_rfl) (by kernel_rfl) ?_
    refine Sx.G.pure (.pointer (some ⟨b1, 2, none⟩)) (by kernel_rfl) (fun w => by kernel_rfl) ?_
    refine Sx.G.ld1 3 (.tmp 14) b1 2 0 [.slice PA0 g.prog.length Pc0, .int .i64 g.a, .int .i64 g.pc, .slice PA1 g.wr.length Pc1, .slice PA2 g.lv.length Pc2, .int .i64 g.t.1, .int .i64 g.t.2.1, .bool g.t.2.2, .int .i64 g.pd, .int .i64 g.x.1, .int .i64 g.x.2.1, .bool g.x.2.2.1, .int .i64 g.x.2.2.2, .bool g.hl, .slice PA3 g.seen.length Pc3] (.int .i64 g.pc) rfl (by kernel_rfl) (by kernel_rfl) rfl (by kernel_rfl) (by kernel_rfl) ?_
    refine Sx.G.plain 52 #[.slice PA0 g.prog.length Pc0, .int .i64 g.pc] (.agg #[.int .i64 (insAt g.prog g.pc).1, .int .i64 (insAt g.prog g.pc).2]) (by kernel_rfl) (fun w => by kernel_rfl) (fun w S => by exact spec_insAt PA0 g.prog.length Pc0 0 g.pc g.prog _ q0 rfl (by rw [← pcells_j]; exact p2_lies (St.old S h0))) ?_
    refine Sx.G.pure (.int .i64 (insAt g.prog g.pc).2) (by kernel_rfl) (fun w => by kernel_rfl) ?_
    refine Sx.G.pure (.int .i64 (insAt g.prog g.pc).2) (by kernel_rfl) (fun w => by kernel_rfl) ?_
    refine Sx.G.nil ?_
    refine Sx.E.next ?_
    refine Sx.C.ret ?_
    refine Sx.E.ret1 (.int .i64 (insAt g.prog g.pc).2) rfl (by kernel_rfl) (fun w S => ?_)
    exact ⟨congrArg Ending.returned (congrArg (Value.int .i64) (by simp only [addrG, hb2, Bool.and_true, Bool.and_false, Bool.false_and, Bool.true_and, Bool.false_eq_true, if_true, if_false, reduceIte])), S.below⟩
  · have hb2 := hc2
    refine Sx.G.pure (.int .i64 (wantG g)) (by kernel_rfl) (fun w => by kernel_rfl) ?_
    refine Sx.G.pure (.bool ((wantG g) != 4)) (by kernel_rfl) (fun w => by kernel_rfl) ?_
    refine Sx.G.pure (.bool ((wantG g) != 4)) (by kernel_rfl) (fun w => by kernel_rfl) ?_
    refine Sx.G.nil ?_
    refine Sx.E.next ?_
    cases hc3 : ((wantG g) != 4)
    · have hb3 := hc3
      refine Sx.C.no (by kernel_rfl) (by kernel_rfl) ?_
      refine Sx.C.skip ?_
      refine Sx.E.next ?_
      refine Sx.C.seq ?_
      refine Sx.C.region ?_
      refine Sx.G.pure (.pointer (some ⟨b1, 0, none⟩)) (by kernel_rfl) (fun w => by kernel_rfl) ?_
      refine Sx.G.ld1 24 (.tmp 12) b1 0 0 [.slice PA0 g.prog.length Pc0, .int .i64 g.a, .int .i64 g.pc, .slice PA1 g.wr.length Pc1, .slice PA2 g.lv.length Pc2, .int .i64 g.t.1, .int .i64 g.t.2.1, .bool g.t.2.2, .int .i64 g.pd, .int .i64 g.x.1, .int .i64 g.x.2.1, .bool g.x.2.2.1, .int .i64 g.x.2.2.2, .bool g.hl, .slice PA3 g.seen.length Pc3] (.slice PA0 g.prog.length Pc0) rfl (by kernel_rfl) (by kernel_rfl) rfl (by kernel_rfl) (by kernel_rfl) ?_
      refine Sx.G.pure (.pointer (some ⟨b1, 2, none⟩)) (by kernel_rfl) (fun w => by kernel_rfl) ?_
      refine Sx.G.ld1 3 (.tmp 14) b1 2 0 [.slice PA0 g.prog.length Pc0, .int .i64 g.a, .int .i64 g.pc, .slice PA1 g.wr.length Pc1, .slice PA2 g.lv.length Pc2, .int .i64 g.t.1, .int .i64 g.t.2.1, .bool g.t.2.2, .int .i64 g.pd, .int .i64 g.x.1, .int .i64 g.x.2.1, .bool g.x.2.2.1, .int .i64 g.x.2.2.2, .bool g.hl, .slice PA3 g.seen.length Pc3] (.int .i64 g.pc) rfl (by kernel_rfl) (by kernel_rfl) rfl (by kernel_rfl) (by kernel_rfl) ?_
      refine Sx.G.plain 52 #[.slice PA0 g.prog.length Pc0, .int .i64 g.pc] (.agg #[.int .i64 (insAt g.prog g.pc).1, .int .i64 (insAt g.prog g.pc).2]) (by kernel_rfl) (fun w => by kernel_rfl) (fun w S => by exact spec_insAt PA0 g.prog.length Pc0 0 g.pc g.prog _ q0 rfl (by rw [← pcells_j]; exact p2_lies (St.old S h0))) ?_
      refine Sx.G.pure (.int .i64 (insAt g.prog g.pc).2) (by kernel_rfl) (fun w => by kernel_rfl) ?_
      refine Sx.G.pure (.int .i64 (insAt g.prog g.pc).2) (by kernel_rfl) (fun w => by kernel_rfl) ?_
      refine Sx.G.nil ?_
      refine Sx.E.next ?_
      refine Sx.C.ret ?_
      refine Sx.E.ret1 (.int .i64 (insAt g.prog g.pc).2) rfl (by kernel_rfl) (fun w S => ?_)
      exact ⟨congrArg Ending.returned (congrArg (Value.int .i64) (by simp only [addrG, hb2, hb3, Bool.and_true, Bool.and_false, Bool.false_and, Bool.true_and, Bool.false_eq_true, if_true, if_false, reduceIte])), S.below⟩
    · have hb3 := hc3
      refine Sx.C.yes (by kernel_rfl) (by kernel_rfl) ?_
      refine Sx.C.seq ?_
      refine Sx.C.region ?_
      refine Sx.G.pure (.int .i64 (-1)) (by kernel_rfl) (fun w => by kernel_rfl) ?_
      refine Sx.G.nil ?_
      refine Sx.E.next ?_
      refine Sx.C.ret ?_
      refine Sx.E.then_ret ?_
      refine Sx.E.ret1 (.int .i64 (-1)) rfl (by kernel_rfl) (fun w S => ?_)
      exact ⟨congrArg Ending.returned (congrArg (Value.int .i64) (by simp only [addrG, hb2, hb3, Bool.and_true, Bool.and_false, Bool.false_and, Bool.true_and, Bool.false_eq_true, if_true, if_false, reduceIte])), S.below⟩
end Go.Proofs.Ytdbhfadiinmgiaa.Guests
namespace Go.Proofs.Ytdbhfadiinmgiaa.Guests
set_option maxRecDepth 100000
open Go.ChangeShapes Go.WideShapes Go.ChangeAt Go.RowKit
open Go.Proofs.Ytdbhfadiinmgiaa.Base Go.Proofs.Ytdbhfadiinmgiaa.Mem Go.Proofs.Ytdbhfadiinmgiaa.Data Go.Proofs.Ytdbhfadiinmgiaa.Slots Go.Proofs.Ytdbhfadiinmgiaa.Ints Go.Proofs.Ytdbhfadiinmgiaa.Ctls Go.Proofs.Ytdbhfadiinmgiaa.Exits Go.Proofs.Ytdbhfadiinmgiaa.Stt Go.Proofs.Ytdbhfadiinmgiaa.Part
set_option linter.unusedVariables false
section
variable {w : World} {lo hi : Nat} {P : Value} {F : List Nat}
theorem icells_n (l : List Int) : icells l = ncells l := rfl
theorem so_p2 {l : List (Int × Int)} (h : SO w lo hi (pcells l) l.length P) : rdLst (rPair rInt rInt) w lo hi l [P] := by
  obtain ⟨A, c, rfl, hc, ho⟩ := h
  exact ⟨A, c, pcells l, rfl, hc, p2_all w lo hi l, ho.1⟩
theorem so_i1 {l : List Int} (h : SO w lo hi (ncells l) l.length P) : rdLst rInt w lo hi l [P] := by
  obtain ⟨A, c, rfl, hc, ho⟩ := h
  exact ⟨A, c, icells l, rfl, hc, i1_all w lo hi l, ho.1⟩
theorem bl_row {P : Value} {k : Nat} (hk : k ∈ bl P) : P.ownBlock = some k := by
  unfold bl at hk
  split at hk
  · split at hk
    · cases hk
    · simp at hk; subst hk; rfl
  · cases hk
theorem p2_so {e : TypeId} {l : List (Int × Int)} (h : (rLst e (rPair rInt rInt)).own w lo hi l [P] F) : SO w lo hi (pcells l) l.length P ∧ ∀ k ∈ bl P, k ∈ F := by
  obtain ⟨v, ds, F1, e1, rfl, h1, h2, h3⟩ := h
  cases e1
  obtain ⟨A, c, rfl, hc⟩ := row_form h2
  have hd := p2_cells (ownAll_reads h1)
  subst hd
  exact ⟨⟨A, c, rfl, hc, row_lies h2 h3⟩, fun k hk => by simp [bl_row hk]⟩
theorem i1_so {e : TypeId} {l : List Int} (h : (rLst e rInt).own w lo hi l [P] F) : SO w lo hi (ncells l) l.length P ∧ ∀ k ∈ bl P, k ∈ F := by
  obtain ⟨v, ds, F1, e1, rfl, h1, h2, h3⟩ := h
  cases e1
  obtain ⟨A, c, rfl, hc⟩ := row_form h2
  have hd := i1_cells (ownAll_reads h1)
  subst hd
  exact ⟨⟨A, c, rfl, hc, row_lies h2 h3⟩, fun k hk => by simp [bl_row hk]⟩
theorem p2_sow {l : List (Int × Int)} (h : (rLsw (rPair rInt rInt)).own w lo hi l [P] F) : SO w lo hi (pcells l) l.length P ∧ ∀ k ∈ bl P, k ∈ F := by
  obtain ⟨A, c, ds, F1, e1, hc, rfl, h1, h2⟩ := h
  cases e1
  have hd := p2_cells (ownAll_reads h1)
  subst hd
  refine ⟨⟨A, c, rfl, hc, h2⟩, fun k hk => ?_⟩
  unfold bl at hk
  split at hk
  · rename_i a n c' e
    cases e
    split at hk
    · cases hk
    · rename_i hn
      simp at hk
      have hl : l ≠ [] := fun e => hn (by rw [e]; rfl)
      have hp : pcells l ≠ [] := by
        cases l with
        | nil => exact absurd rfl hl
        | cons s l => simp [pcells]
      simp [blks, hp, hk]
  · cases hk
end
theorem gO.rg {w : World} {lo hi : Nat} {g : gT} {P0 P1 P2 P3 : Value} (h : gO w lo hi g P0 P1 P2 P3) : rG.rd w lo hi g (gV g P0 P1 P2 P3) :=
  rG_rd_mk (so_p2 (by rw [pcells_j]; exact h.r0)) (so_p2 (by rw [pcells_s]; exact h.r1)) (so_p2 (by rw [pcells_s]; exact h.r2)) (so_i1 h.r3)
theorem rG_gO {w : World} {lo hi : Nat} {g : gT} {cs : List Value} {F : List Nat} (h : rG.own w lo hi g cs F) (hF : F.Nodup) : ∃ P0 P1 P2 P3, cs = gV g P0 P1 P2 P3 ∧ gO w lo hi g P0 P1 P2 P3 := by
  obtain ⟨P0, P1, P2, P3, F0, F1, F2, F3, rfl, rfl, h0, h1, h2, h3⟩ := rG_own h
  obtain ⟨r0, b0⟩ := p2_so h0
  obtain ⟨r1, b1⟩ := p2_sow h1
  obtain ⟨r2, b2⟩ := p2_sow h2
  obtain ⟨r3, b3⟩ := i1_so h3
  obtain ⟨_, n0, d0⟩ := List.nodup_append.1 hF
  obtain ⟨_, n1, d1⟩ := List.nodup_append.1 n0
  obtain ⟨_, _, d2⟩ := List.nodup_append.1 n1
  rw [pcells_j] at r0
  rw [pcells_s] at r1 r2
  exact ⟨P0, P1, P2, P3, rfl, r0, r1, r2, r3, fun k h h' => d0 k (b0 k h) k (by simp [b1 k h']) rfl, fun k h h' => d0 k (b0 k h) k (by simp [b2 k h']) rfl, fun k h h' => d0 k (b0 k h) k (by simp [b3 k h']) rfl,
    fun k h h' => d1 k (b1 k h) k (by simp [b2 k h']) rfl, fun k h h' => d1 k (b1 k h) k (by simp [b3 k h']) rfl, fun k h h' => d2 k (b2 k h) k (b3 k h') rfl⟩
/-- What a call gives, as the laws' helpers take it. -/
theorem gives_gP {w : World} {g : gT} (e : Ending) (w' : World) (h : Gives rG w g e w') : gP w g e w' := by
  obtain ⟨cs, F, rfl, ho, hF, hb⟩ := h
  obtain ⟨P0, P1, P2, P3, rfl, h4⟩ := rG_gO ho hF
  exact ⟨P0, P1, P2, P3, rfl, h4, hb⟩
theorem gcap_rg {g : gT} (h : gcap g) : rG.cap g :=
  ⟨⟨h.1, fun _ _ => ⟨trivial, trivial⟩⟩, trivial, trivial, ⟨h.2.1, fun _ _ => ⟨trivial, trivial⟩⟩, ⟨h.2.2.1, fun _ _ => ⟨trivial, trivial⟩⟩, ⟨trivial, trivial, trivial⟩, trivial, ⟨trivial, trivial, trivial, trivial⟩, trivial, ⟨h.2.2.2, fun _ _ => trivial⟩⟩
/-- A guest as an object of a law: its memory is some of lo .. hi - 1. -/
def gI (lo hi : Nat) (g : gT) (P0 P1 P2 P3 : Value) : Res where
  says w := gO w lo hi g P0 P1 P2 P3
  foot k := lo ≤ k ∧ k < hi
  lo := lo
  hi := hi
  inn k h := h
  kept h hk := h.kept fun k h1 h2 => hk k ⟨h1, h2⟩
section
variable {w0 w w' : World} {L : List Res} {g : gT} {P0 P1 P2 P3 : Value}
theorem St.gotG (S : St w0 w L) (hb : Below w.heap.size w w') (h : gO w' w.heap.size w'.heap.size g P0 P1 P2 P3) : St w0 w' (gI w.heap.size w'.heap.size g P0 P1 P2 P3 :: L) :=
  S.add hb (gI w.heap.size w'.heap.size g P0 P1 P2 P3) h (Nat.le_refl _) (Nat.le_refl _)
theorem St.rgG (S : St w0 w L) (i : Nat) {lo hi : Nat} (h : L[i]? = some (gI lo hi g P0 P1 P2 P3)) : rG.rd w 0 w.heap.size g (gV g P0 P1 P2 P3) :=
  rG.wide (gO.rg (S.at_ i h)) (Nat.zero_le _) (S.hi i _ h)
theorem St.gRG (S : St w0 w L) (i : Nat) {lo hi : Nat} (h : L[i]? = some (gI lo hi g P0 P1 P2 P3)) : gR w lo hi g P0 P1 P2 P3 := (show gO w lo hi g P0 P1 P2 P3 from S.at_ i h).reads
theorem St.hiG (S : St w0 w L) (i : Nat) {lo hi : Nat} (h : L[i]? = some (gI lo hi g P0 P1 P2 P3)) : hi ≤ w.heap.size := S.hi i _ h
theorem St.markG {g' : gT} (S : St w0 w L) (i : Nat) {lo hi : Nat} (h : L[i]? = some (gI lo hi g P0 P1 P2 P3)) (ht : Turned lo hi w w') (ho : gO w' lo hi g' P0 P1 P2 P3) : St w0 w' (L.set i (gI lo hi g' P0 P1 P2 P3)) :=
  S.turn i h (gI lo hi g' P0 P1 P2 P3) (Only.of_turned ht fun k h1 h2 => ⟨h1, h2⟩) ho (fun k hk => .inl hk) (S.lo i (gI lo hi g P0 P1 P2 P3) h) (Nat.le_trans (S.hi i (gI lo hi g P0 P1 P2 P3) h) ht.size)
theorem St.oldG (S : St w0 w L) (h : gR w0 0 w0.heap.size g P0 P1 P2 P3) : gR w 0 w.heap.size g P0 P1 P2 P3 := (h.below S.below (Nat.le_refl _)).wide (Nat.le_refl _) S.below.size
end
end Go.Proofs.Ytdbhfadiinmgiaa.Guests
namespace Go.Proofs.Ytdbhfadiinmgiaa.Sx
set_option maxRecDepth 100000
open Go.ChangeShapes Go.WideShapes Go.ChangeAt Go.RowKit Go.Deep
open Go.Proofs.Ytdbhfadiinmgiaa.Base Go.Proofs.Ytdbhfadiinmgiaa.Mem Go.Proofs.Ytdbhfadiinmgiaa.Data Go.Proofs.Ytdbhfadiinmgiaa.Stt
set_option linter.unusedVariables false
set_option linter.unusedSimpArgs false

def resRun (tmps : Array Value) : ResultVar → Sem Value
  | .tmp t => pure (tmps.getD t undef)
  | .cell a t => do loadVar t (← asAddr (tmps.getD a undef))
def IsRes (P : Program) (n : Nat) (w0 : World) (T : Tl) (L : List Res) (r : ResultVar) (v : Value) : Prop := ∀ a w, Ag n T a → St w0 w L → (resRun a.tmps r).run P w = .ok v w
section
variable {P : Program} {n : Nat} {Q : Exit → Act → World → Prop} {w0 : World} {T : Tl} {L : List Res} {fn : Func} {R : Ending → World → Prop}
theorem IsRes.slot {t : Tmp} {v : Value} (ht : look T t = some v) : IsRes P n w0 T L (.tmp t) v := fun a w hA S => by
  simp only [resRun, Sem.run_pure]
  rw [Array.getD_eq_getD_getElem?, hA.at_ t v ht]; rfl
theorem IsRes.row {t : Tmp} {ty : TypeId} (b i : Nat) (vs : List Value) (ht : look T t = some (.pointer (some ⟨b, 0, none⟩))) (hL : L[i]? = some (vr b vs)) (hrow : isRow P ty = true) (hi : (P.info? ty).map (·.size) = some vs.length) : IsRes P n w0 T L (.cell t ty) (.agg vs.toArray) := fun a w hA S => by
  obtain ⟨d, hu, hd⟩ := isRow_spec hrow
  have hl := run_loadVar_mid (P := P) w b 0 ty vs d (S.range i hL) hu hd hi
  have hg : a.tmps.getD t undef = .pointer (some ⟨b, 0, none⟩) := by rw [Array.getD_eq_getD_getElem?, hA.at_ t _ ht]; rfl
  simp only [resRun, hg, asAddr, Sem.run_bind, Sem.run_pure, Result.andThen_ok, hl]
theorem IsRes.one {t : Tmp} {ty : TypeId} (b i : Nat) (v : Value) (ht : look T t = some (.pointer (some ⟨b, 0, none⟩))) (hL : L[i]? = some (vr b [v])) (hr : isCell P ty = true) : IsRes P n w0 T L (.cell t ty) v := fun a w hA S => by
  obtain ⟨d, hu, hd⟩ := isCell_spec hr
  have hcell := S.cell i hL 0 (v := v) rfl
  have hagg : (isAgg ty).run P w = .ok false w := by
    unfold isAgg
    rw [Sem.run_bind, run_underlying hu w]
    cases d <;> simp_all
  have hg : a.tmps.getD t undef = .pointer (some ⟨b, 0, none⟩) := by rw [Array.getD_eq_getD_getElem?, hA.at_ t _ ht]; rfl
  simp only [resRun, hg, asAddr, loadVar, Sem.run_bind, Sem.run_pure, Result.andThen_ok, hagg, Bool.false_eq_true, if_false, run_load, hcell]
theorem results_map (fn : Func) (tmps : Array Value) : results fn tmps = (do let vs ← fn.results.mapM (resRun tmps); pure (if h : vs.size = 1 then vs[0] else .tuple vs)) := by
  have e : (resRun tmps) = (fun | .tmp t => pure (tmps.getD t undef) | .cell a t => do loadVar t (← asAddr (tmps.getD a undef))) := by funext r; cases r <;> rfl
  rw [e]; rfl
theorem results_one {r : ResultVar} {u : Value} {tmps : Array Value} {w : World} (hr : fn.results = #[r]) (h1 : (resRun tmps r).run P w = .ok u w) : (results fn tmps).run P w = .ok u w := by
  rw [results_map, hr]; simp [h1]
theorem results_two {r s : ResultVar} {u v : Value} {tmps : Array Value} {w : World} (hr : fn.results = #[r, s]) (h1 : (resRun tmps r).run P w = .ok u w) (h2 : (resRun tmps s).run P w = .ok v w) : (results fn tmps).run P w = .ok (.tuple #[u, v]) w := by
  rw [results_map, hr]; simp [h1, h2]
theorem results_three {r s q : ResultVar} {u v x : Value} {tmps : Array Value} {w : World} (hr : fn.results = #[r, s, q]) (h1 : (resRun tmps r).run P w = .ok u w) (h2 : (resRun tmps s).run P w = .ok v w) (h3 : (resRun tmps q).run P w = .ok x w) : (results fn tmps).run P w = .ok (.tuple #[u, v, x]) w := by
  rw [results_map, hr]; simp [h1, h2, h3]
theorem E.retg1 {r : ResultVar} (u : Value) (hr : fn.results = #[r]) (h1 : IsRes P n w0 T L r u) (h : ∀ w, St w0 w L → R (.returned u) w) : E n (bodyPost P fn R) w0 T L .ret := fun a w hA S =>
  bodyPost_ret (results_one hr (h1 a w hA S)) hA.defers (h w S)
theorem E.retg2 {r s : ResultVar} (u v : Value) (hr : fn.results = #[r, s]) (h1 : IsRes P n w0 T L r u) (h2 : IsRes P n w0 T L s v) (h : ∀ w, St w0 w L → R (.returned (.tuple #[u, v])) w) : E n (bodyPost P fn R) w0 T L .ret := fun a w hA S =>
  bodyPost_ret (results_two hr (h1 a w hA S) (h2 a w hA S)) hA.defers (h w S)
theorem E.retg3 {r s q : ResultVar} (u v x : Value) (hr : fn.results = #[r, s, q]) (h1 : IsRes P n w0 T L r u) (h2 : IsRes P n w0 T L s v) (h3 : IsRes P n w0 T L q x) (h : ∀ w, St w0 w L → R (.returned (.tuple #[u, v, x])) w) : E n (bodyPost P fn R) w0 T L .ret := fun a w hA S =>
  bodyPost_ret (results_three hr (h1 a w hA S) (h2 a w hA S) (h3 a w hA S)) hA.defers (h w S)
end
end Go.Proofs.Ytdbhfadiinmgiaa.Sx
namespace Go.Proofs.Ytdbhfadiinmgiaa.Sx
set_option maxRecDepth 100000
open Go.ChangeShapes Go.WideShapes Go.ChangeAt Go.RowKit Go.Deep
open Go.Proofs.Ytdbhfadiinmgiaa.Base Go.Proofs.Ytdbhfadiinmgiaa.Mem Go.Proofs.Ytdbhfadiinmgiaa.Data Go.Proofs.Ytdbhfadiinmgiaa.Stt Go.Proofs.Ytdbhfadiinmgiaa.Draw
set_option linter.unusedVariables false

/-- A call that begins in the middle of its caller's memory. -/
theorem enterS {P : Program} {f : FuncId} {fn : Func} {c : Code} {args : List Value} {w0 w : World} {L : List Res} {R : Ending → World → Prop} {n : Nat} (S : St w0 w L) (hf : P.funcs[f]? = some fn) (hb : fn.body = some c) (hn : fn.ntmps = n) (hl : Nat.ble args.length n = true)
    (h : C P n (bodyPost P fn R) w0 (slots 0 args) L c) : Calls P f args.toArray w R :=
  calls_of_wp hf hb (h _ w ⟨by
    have := Nat.le_of_ble_eq_true hl
    simp [hn]; omega, rfl, fun s v hs => by
    obtain ⟨_, h2⟩ := look_slots args 0 s v hs
    have hlt : s < args.length := by have := (List.getElem?_eq_some_iff.1 h2).1; simpa using this
    rw [Array.getElem?_append_left (by simpa using hlt)]
    simpa using h2⟩ S)
/-- The cursor. -/
def cu (A : Option Addr) (n c g : Nat) : Res where
  says w := ∃ (i : Nat) (h : Int), i ≤ n ∧ w.heap[g]? = some (.cells #[.slice A n c, .int .i64 i, .int .i64 h] 98 (0, 0))
  foot k := k = g
  lo := g
  hi := g + 1
  inn k h := by omega
  kept h hk := by
    obtain ⟨i, x, hi, hb⟩ := h
    exact ⟨i, x, hi, (hk g rfl).trans hb⟩
/-- All other blocks that were there when the call began. -/
def frm (w0 w : World) (g : Nat) : Res where
  says w' := ∀ k, w0.heap.size ≤ k → k < w.heap.size → k ≠ g → w'.heap[k]? = w.heap[k]?
  foot k := w0.heap.size ≤ k ∧ k < w.heap.size ∧ k ≠ g
  lo := w0.heap.size
  hi := w.heap.size
  inn k h := ⟨h.1, h.2.1⟩
  kept h hk := fun k h1 h2 h3 => (hk k ⟨h1, h2, h3⟩).trans (h k h1 h2 h3)
section
variable {w0 w w' : World} {L : List Res} {A : Option Addr} {n c g : Nat} {r : Res}
theorem st_cur (h : Cur w0 A n c w g) : St w0 w [cu A n c g, frm w0 w g] := by
  have hlt := h.lt
  obtain ⟨hb, hg, hs⟩ := h
  refine ⟨hb, fun i r hr => ?_, fun i r hr => ?_, fun i r hr => ?_, fun i j r s h1 h2 hne k hk hk' => ?_⟩
  · match i, hr with
    | 0, hr => cases hr; exact hs
    | 1, hr => cases hr; exact fun k _ _ _ => rfl
    | i + 2, hr => simp at hr
  · match i, hr with
    | 0, hr => cases hr; exact hg
    | 1, hr => cases hr; exact Nat.le_refl _
    | i + 2, hr => simp at hr
  · match i, hr with
    | 0, hr => cases hr; exact hlt
    | 1, hr => cases hr; exact Nat.le_refl _
    | i + 2, hr => simp at hr
  · match i, j, h1, h2 with
    | 0, 0, _, _ => exact hne rfl
    | 1, 1, _, _ => exact hne rfl
    | 0, 1, h1, h2 => cases h1; cases h2; exact hk'.2.2 hk
    | 1, 0, h1, h2 => cases h1; cases h2; exact hk.2.2 hk'
    | i + 2, _, h1, _ => simp at h1
    | _, j + 2, _, h2 => simp at h2
theorem St.cur (S : St w0 w L) (i : Nat) (h : L[i]? = some (cu A n c g)) : Cur w0 A n c w g := ⟨S.below, S.lo i _ h, S.at_ i h⟩
/-- A draw: the cursor has moved. -/
theorem St.moved (S : St w0 w L) (i : Nat) (h : L[i]? = some (cu A n c g)) (hc : Cur w0 A n c w' g) (hg : w.grownBy w' (some g)) : St w0 w' L := by
  have T := S.turn i h (cu A n c g) (Only.of_grown hg fun k hk => by cases hk; rfl) hc.2.2 (fun k hk => .inl hk) (S.lo i (cu A n c g) h) (Nat.le_trans (S.hi i (cu A n c g) h) hg.size)
  have e : L.set i (cu A n c g) = L := by
    obtain ⟨hi, he⟩ := List.getElem?_eq_some_iff.1 h
    rw [← he]
    exact List.set_getElem_self hi
  rwa [e] at T
/-- .. and something new has come. -/
theorem St.plus (S : St w0 w L) (T : St w0 w' L) (r : Res) (hs : r.says w') (hl : w.heap.size ≤ r.lo) (hh : r.hi ≤ w'.heap.size) : St w0 w' (r :: L) := by
  refine ⟨T.below, fun i s h => ?_, fun i s h => ?_, fun i s h => ?_, fun i j s t h1 h2 hne k hk hk' => ?_⟩
  · cases i with
    | zero => cases h; exact hs
    | succ i => exact T.says i s h
  · cases i with
    | zero => cases h; exact Nat.le_trans S.below.size hl
    | succ i => exact T.lo i s h
  · cases i with
    | zero => cases h; exact hh
    | succ i => exact T.hi i s h
  · cases i with
    | zero =>
      cases h1
      cases j with
      | zero => exact hne rfl
      | succ j => have h3 := (S.footlt h2 hk').2; have h4 := (r.inn k hk).1; omega
    | succ i =>
      cases j with
      | zero => cases h2; have h3 := (S.footlt h1 hk).2; have h4 := (r.inn k hk').1; omega
      | succ j => exact S.apart i j s t h1 h2 (by omega) k hk hk'
/-- What the whole call has left alone. -/
theorem St.grown (S : St w0 w' L) (i : Nat) (h : L[i]? = some (frm w0 w g)) (hb : Below w0.heap.size w0 w) : w.grownBy w' (some g) :=
  ⟨S.below.os.trans hb.os.symm, S.below.tape.trans hb.tape.symm, S.below.output.trans hb.output.symm, S.hi i _ h, fun k hk hne => by
    by_cases h0 : k < w0.heap.size
    · exact (S.below.block k h0).trans (hb.block k h0).symm
    · exact S.at_ i h k (by omega) hk (fun e => hne (by rw [e]))⟩
/-- What a draw has made. -/
structure Fresh (w0 w w' : World) (M : List Res) : Prop where
  says : ∀ (i : Nat) (r : Res), M[i]? = some r → r.says w'
  lo : ∀ (i : Nat) (r : Res), M[i]? = some r → w0.heap.size ≤ r.lo
  hi : ∀ (i : Nat) (r : Res), M[i]? = some r → r.hi ≤ w'.heap.size
  new : ∀ (i : Nat) (r : Res), M[i]? = some r → ∀ k, r.foot k → w.heap.size ≤ k
  apart : ∀ (i j : Nat) (r s : Res), M[i]? = some r → M[j]? = some s → i ≠ j → ∀ k, r.foot k → ¬ s.foot k
/-- At a draw's end. -/
theorem St.made {M : List Res} (S : St w0 w' (cu A n c g :: frm w0 w g :: M)) : Fresh w0 w w' M := by
  have at2 : ∀ {i : Nat} {r : Res}, M[i]? = some r → (cu A n c g :: frm w0 w g :: M)[i + 2]? = some r := fun h => h
  refine ⟨fun i r h => S.says _ r (at2 h), fun i r h => S.lo _ r (at2 h), fun i r h => S.hi _ r (at2 h), fun i r h k hk => ?_, fun i j r s h1 h2 hne => S.apart _ _ r s (at2 h1) (at2 h2) (by omega)⟩
  rcases Nat.lt_or_ge k w.heap.size with hlt | hge
  · have h0 := (S.footlt (at2 h) hk).1
    by_cases e : k = g
    · exact absurd e (S.apart (i + 2) 0 r (cu A n c g) (at2 h) rfl (by omega) k hk)
    · exact absurd ⟨h0, hlt, e⟩ (S.apart (i + 2) 1 r (frm w0 w g) (at2 h) rfl (by omega) k hk)
  · exact hge
theorem St.joinD {M : List Res} (S : St w0 w L) (T : St w0 w' L) (H : Fresh w0 w w' M) : St w0 w' (M ++ L) := by
  have key : ∀ (i : Nat) (s : Res), (M ++ L)[i]? = some s → (i < M.length ∧ M[i]? = some s) ∨ (M.length ≤ i ∧ L[i - M.length]? = some s) := fun i s h => by
    by_cases hi : i < M.length
    · rw [List.getElem?_append_left hi] at h; exact .inl ⟨hi, h⟩
    · rw [List.getElem?_append_right (by omega)] at h; exact .inr ⟨by omega, h⟩
  refine ⟨T.below, fun i s h => ?_, fun i s h => ?_, fun i s h => ?_, fun i j s t h1 h2 hne k hk hk' => ?_⟩
  · rcases key i s h with ⟨_, h⟩ | ⟨_, h⟩
    · exact H.says i s h
    · exact T.says _ s h
  · rcases key i s h with ⟨_, h⟩ | ⟨_, h⟩
    · exact H.lo i s h
    · exact T.lo _ s h
  · rcases key i s h with ⟨_, h⟩ | ⟨_, h⟩
    · exact H.hi i s h
    · exact T.hi _ s h
  · rcases key i s h1 with ⟨a1, h1⟩ | ⟨a1, h1⟩
    · rcases key j t h2 with ⟨a2, h2⟩ | ⟨a2, h2⟩
      · exact H.apart i j s t h1 h2 hne k hk hk'
      · have e1 := H.new i s h1 k hk; have e2 := (S.footlt h2 hk').2; omega
    · rcases key j t h2 with ⟨a2, h2⟩ | ⟨a2, h2⟩
      · have e1 := H.new j t h2 k hk'; have e2 := (S.footlt h1 hk).2; omega
      · exact T.apart _ _ s t h1 h2 (by omega) k hk hk'
/-- A slice of pairs that is read only, with its block. -/
def rp (lo hi : Nat) (l : List (Int × Int)) (A : Option Addr) (cap : Nat) : Res where
  says w := l.length ≤ cap ∧ Lies w lo hi A (pcells l)
  foot k := k ∈ blks A (pcells l) ∧ lo ≤ k ∧ k < hi
  lo := lo
  hi := hi
  inn k h := h.2
  kept h hk := ⟨h.1, fun j u hu => by
    obtain ⟨b, off, e, h1, h2, h3⟩ := h.2 j u hu
    have hne : pcells l ≠ [] := fun e => by rw [e] at hu; cases hu
    have hb : b ∈ blks A (pcells l) := by unfold blks; rw [if_neg hne, e]; simp
    exact ⟨b, off, e, h1, h2, (World.cell?_of_block (hk b ⟨hb, h1, h2⟩)).trans h3⟩⟩
theorem rp_rd {lo hi cap : Nat} {l : List (Int × Int)} (h : (rp lo hi l A cap).says w) : rdLst (rPair rInt rInt) w lo hi l [.slice A l.length cap] := ⟨A, cap, pcells l, rfl, h.1, p2_all w lo hi l, h.2⟩
theorem St.rp_rd (S : St w0 w L) (i : Nat) {lo hi cap : Nat} {l : List (Int × Int)} (h : L[i]? = some (rp lo hi l A cap)) : rdLst (rPair rInt rInt) w 0 w.heap.size l [.slice A l.length cap] := (Sx.rp_rd (S.at_ i h)).wide (Nat.zero_le _) (S.hi i _ h)
theorem wf_small {x : Int} (h0 : 0 ≤ x) (h1 : x < 4294967296) : (Lit.int .i64 x).wf = true := by
  simp [Lit.wf]
  have e1 : IntKind.i64.min = -9223372036854775808 := by decide
  have e2 : IntKind.i64.max = 9223372036854775807 := by decide
  omega
/-- A row of pairs that a draw hands back. -/
theorem row_pairs {e : TypeId} {b m cap : Nat} {l : List (Int × Int)} (hl : l.length = m) (h : w'.ownsRow w.heap.size e 2 (.slice (some ⟨b, 0, none⟩) m cap) m (pcells l)) : (ow (rLst e (rPair rInt rInt)) w.heap.size w'.heap.size l [.slice (some ⟨b, 0, none⟩) m cap] [b]).says w' := by
  subst hl
  refine ⟨⟨_, pcells l, [], rfl, by simp [Value.ownBlock], ?_, h, fun k hk => (h.lt k hk).2⟩, by simp⟩
  exact flat_all flat_P2 w' w.heap.size w'.heap.size (p2_all w' 0 0 l)
theorem lies_pairs {A : Option Addr} {m cap : Nat} {l : List (Int × Int)} {lo hi : Nat} (hl : l.length = m) (hc : m ≤ cap) (h : Owned w' lo hi A (pcells l)) : (ow (rLsw (rPair rInt rInt)) lo hi l [.slice A m cap] (blks A (pcells l))).says w' := by
  subst hl
  exact p2_own hc h
/-- A row that is only read from now on. -/
theorem St.toRp (S : St w0 w L) (i : Nat) {e : TypeId} {lo hi m cap : Nat} {A : Option Addr} {F : List Nat} {l : List (Int × Int)} (h : L[i]? = some (ow (rLst e (rPair rInt rInt)) lo hi l [.slice A m cap] F)) : m = l.length ∧ St w0 w (L.set i (rp lo hi l A cap)) := by
  obtain ⟨⟨v, ds, F1, e1, hF, hall, hrow, hhi⟩, hnd⟩ := S.at_ i h
  cases e1
  obtain ⟨A', c', e2, hc⟩ := row_form hrow
  cases e2
  have hd := p2_cells (ownAll_reads hall)
  subst hd
  refine ⟨rfl, S.turn i h (rp lo hi l A cap) (Only.refl _ _) ⟨hc, (row_lies hrow hhi).1⟩ (fun k hk => .inl ⟨?_, hk.2⟩) (S.lo i (ow (rLst e (rPair rInt rInt)) lo hi l [.slice A l.length cap] F) h) (S.hi i (ow (rLst e (rPair rInt rInt)) lo hi l [.slice A l.length cap] F) h)⟩
  have hk1 := hk.1
  unfold blks at hk1
  split at hk1
  · cases hk1
  · cases A with
    | none => cases hk1
    | some a =>
      have : k = a.block := by simpa using hk1
      rw [hF, this]
      simp [Value.ownBlock]
theorem lies_rp {lo hi m cap : Nat} {A : Option Addr} {l : List (Int × Int)} (hl : l.length = m) (hc : m ≤ cap) (h : Lies w lo hi A (pcells l)) : (rp lo hi l A cap).says w := ⟨by omega, h⟩
/-- A block as it was made. -/
def bk (b : Nat) (cs : List Value) (t : TypeId) : Res where
  says w := w.heap[b]? = some (.cells cs.toArray t (0, 0))
  foot k := k = b
  lo := b
  hi := b + 1
  inn k h := by omega
  kept h hk := (hk b rfl).trans h
theorem G.block {P : Program} {n : Nat} {ops : Array Oper} {Q : Exit → Act → World → Prop} {T : Tl} {rest : List Oper} {o : Oper} (e : TypeId) (vs : List Value) (m : Nat) (hc : chk n T ops o = true) (hr : ∀ w : World, (execOp (ev T) o).run P w = .ok (.value (.slice (some ⟨w.heap.size, 0, none⟩) m m)) (w.alloc (.cells vs.toArray e)))
    (k : ∀ b, G P n ops Q w0 (up o.dst (.slice (some ⟨b, 0, none⟩) m m) T) (bk b vs e :: L) rest) : G P n ops Q w0 T L (o :: rest) :=
  G.turns hc fun w S => ⟨_, _, _, hr w, S.add ((Below.refl _ _).alloc (Nat.le_refl _) _) (bk w.heap.size vs e) (heap_alloc_new w _) (Nat.le_refl _) (by simp [bk]), k _⟩
theorem St.bk_ne (S : St w0 w L) (i j : Nat) {b : Nat} {cs : List Value} {t : TypeId} (h : L[i]? = some (bk b cs t)) (h' : L[j]? = some (cu A n c g)) (hij : i ≠ j) : b ≠ g := fun e => S.apart i j _ _ h h' hij b rfl e
end
end Go.Proofs.Ytdbhfadiinmgiaa.Sx
namespace Go.Proofs.Ytdbhfadiinmgiaa.Sx
set_option maxRecDepth 100000
open Go.ChangeShapes Go.WideShapes Go.ChangeAt Go.RowKit Go.Deep
open Go.Proofs.Ytdbhfadiinmgiaa.Base Go.Proofs.Ytdbhfadiinmgiaa.Mem Go.Proofs.Ytdbhfadiinmgiaa.Data Go.Proofs.Ytdbhfadiinmgiaa.Stt
set_option linter.unusedVariables false
section
variable {P : Program} {n : Nat} {w0 : World} {T : Tl} {L : List Res} {fn : Func} {R : Ending → World → Prop}
theorem results_none {tmps : Array Value} {w : World} (hr : fn.results = #[]) : (results fn tmps).run P w = .ok (.tuple #[]) w := by
  rw [results_map, hr]; simp
theorem E.ret0 (hr : fn.results = #[]) (h : ∀ w, St w0 w L → R (.returned (.tuple #[])) w) : E n (bodyPost P fn R) w0 T L .ret := fun a w hA S =>
  bodyPost_ret (results_none hr) hA.defers (h w S)
end
section
variable {P : Program} {n : Nat} {Q : Exit → Act → World → Prop} {Z : World → Prop} {w0 : World} {T : Tl} {L : List Res} {l : List Oper} {o : Oper} {r : Ord.Ot}
theorem Alone.box {i : Nat} (t : TypeId) (x : Operand) (vs : List Value) (ho : l[i]? = some o) (hop : o.op = .box t x) (hc : chk n T l.toArray o = true) (hx : (ev T x).cells = vs.toArray) (hZ : ∀ w, St w0 w L → Z w)
    (k : ∀ b, GT P n l.toArray Q Z w0 (up o.dst (.pointer (some ⟨b, 0, none⟩)) T) (vr b vs :: L) r) : Alone P n l.toArray Q Z w0 T L i r :=
  Alone.turns ho hc fun w S => ⟨_, _, _, by
    unfold execOp
    simp only [hop, Sem.run_bind, Instr.box, newVar, newRow, run_newObj_alloc, Sem.run_pure, Result.andThen_ok, hx], S.alloc vs t, fun w S => hZ w (St.tail S), k _⟩
end
theorem lies_nothing {w : World} {lo hi : Nat} {cs : List Value} (h : Lies w lo hi none cs) : cs = [] := by
  rcases cs with _ | ⟨u, r⟩
  · rfl
  · obtain ⟨b, off, e, _⟩ := h 0 u rfl
    cases e
theorem p2_nothing {w : World} {lo hi n c : Nat} {l : List (Int × Int)} (h : rdLst (rPair rInt rInt) w lo hi l [.slice none n c]) : l = [] := by
  have := lies_nothing (p2_lies h)
  cases l with
  | nil => rfl
  | cons s l => simp [pcells] at this
theorem i1_nothing {w : World} {lo hi n c : Nat} {l : List Int} (h : rdLst rInt w lo hi l [.slice none n c]) : l = [] := by
  have := lies_nothing (i1_lies h)
  cases l with
  | nil => rfl
  | cons s l => simp [icells] at this
end Go.Proofs.Ytdbhfadiinmgiaa.Sx
