/-
  The texts that FnBare wants, part 2: GuestOkX BareX BareS Ro Cut GuestB SI Pick SlotDraw SlotTab SlotDraws InsDraws InsDraw2 DrawCap IrqDraws CtlDraws. No condition.
-/
import Derived.Test.YtldgadmpclgfhaaGreatFnBareB1
namespace Go.Proofs.YtldgadmpclgfhaaGreat.Guests
set_option maxHeartbeats 8000000
set_option maxRecDepth 100000
set_option maxRecDepth 100000
open Go.ChangeShapes Go.WideShapes Go.ChangeAt Go.RowKit
open Go.Proofs.YtldgadmpclgfhaaGreat.Base Go.Proofs.YtldgadmpclgfhaaGreat.Mem Go.Proofs.YtldgadmpclgfhaaGreat.Data Go.Proofs.YtldgadmpclgfhaaGreat.Slots Go.Proofs.YtldgadmpclgfhaaGreat.Ints Go.Proofs.YtldgadmpclgfhaaGreat.Ctls Go.Proofs.YtldgadmpclgfhaaGreat.Exits Go.Proofs.YtldgadmpclgfhaaGreat.Stt Go.Proofs.YtldgadmpclgfhaaGreat.Irqs Go.Proofs.YtldgadmpclgfhaaGreat.Inss
set_option linter.unusedVariables false
set_option linter.unusedSimpArgs false
theorem eqv_Ctl_eql (a0 : Int) (a1 : Int) (a2 : Bool) (b0 : Int) (b1 : Int) (b2 : Bool) (W : World) : (binOp .eql 35 (.agg #[.int .i64 a0, .int .i64 a1, .bool a2]) (.agg #[.int .i64 b0, .int .i64 b1, .bool b2])).run Tryz.prog W = .ok (.bool (a0 == b0 && a1 == b1 && a2 == b2)) W := by
 have ku3 := Tryz.underlying3
 have ka3 := Tryz.isAgg3
 have kz3 := Tryz.sizeOf3
 have ku4 := Tryz.underlying4
 have ka4 := Tryz.isAgg4
 have kz4 := Tryz.sizeOf4
 have hS : Tryz.prog.underlying 35 = some (.struct (Tryz.prog.fieldsOf 35)) := by kernel_rfl
 have hp : Tryz.prog.stoodInHeld 35 = false := by kernel_rfl
 rw [run_eql_struct, show (10000 : Nat) = 9999 + 1 from rfl, run_equalIn_agg W 9999 35 _ _ hS hp]
 simp only [Program.fieldsOf, Tryz.underlying35]
 go_simp
 by_cases h0 : a0 = b0 <;> by_cases h1 : a1 = b1 <;> cases a2 <;> cases b2 <;> simp [h0, h1]
theorem eqv_Exit_eql (a0 : Int) (a1 : Int) (a2 : Bool) (a3 : Int) (b0 : Int) (b1 : Int) (b2 : Bool) (b3 : Int) (W : World) : (binOp .eql 37 (.agg #[.int .i64 a0, .int .i64 a1, .bool a2, .int .i64 a3]) (.agg #[.int .i64 b0, .int .i64 b1, .bool b2, .int .i64 b3])).run Tryz.prog W = .ok (.bool (a0 == b0 && a1 == b1 && a2 == b2 && a3 == b3)) W := by
 have ku3 := Tryz.underlying3
 have ka3 := Tryz.isAgg3
 have kz3 := Tryz.sizeOf3
 have ku4 := Tryz.underlying4
 have ka4 := Tryz.isAgg4
 have kz4 := Tryz.sizeOf4
 have hS : Tryz.prog.underlying 37 = some (.struct (Tryz.prog.fieldsOf 37)) := by kernel_rfl
 have hp : Tryz.prog.stoodInHeld 37 = false := by kernel_rfl
 rw [run_eql_struct, show (10000 : Nat) = 9999 + 1 from rfl, run_equalIn_agg W 9999 37 _ _ hS hp]
 simp only [Program.fieldsOf, Tryz.underlying37]
 go_simp
 by_cases h0 : a0 = b0 <;> by_cases h1 : a1 = b1 <;> cases a2 <;> cases b2 <;> by_cases h3 : a3 = b3 <;> simp [h0, h1, h3]
theorem drew_below {w w' : World} (h : ∃ q, w' = w.drewN q) : Below w.heap.size w w' := by
 obtain ⟨q, rfl⟩ := h
 exact below_drewN (Below.refl _ _) q
def guestOk (g : gT) : Bool := progOk g.prog && inB g.a 0 99 && inB g.pc 0 12 && okTab g.wr 4 8 && okTab g.lv 4 8 && ctlOk g.t && pend g.pd && exitOk g.x && decide ((g.seen.length : Int) ≤ 40)
def sameG (g k : gT) : Bool := decide (g.prog = k.prog) && (g.a == k.a) && (g.pc == k.pc) && decide (g.wr = k.wr) && decide (g.lv = k.lv) && ((g.t.1 == k.t.1) && (g.t.2.1 == k.t.2.1) && (g.t.2.2 == k.t.2.2)) && (g.pd == k.pd) && ((g.x.1 == k.x.1) && (g.x.2.1 == k.x.2.1) && (g.x.2.2.1 == k.x.2.2.1) && (g.x.2.2.2 == k.x.2.2.2)) && (g.hl == k.hl) && decide (g.seen = k.seen)
theorem sameG_refl (g : gT) : sameG g g = true := by simp [sameG]
theorem specx_ok (g : gT) (cs : List Value) (w : World) (hc : rG.cap g) (h : rG.rd w 0 w.heap.size g cs) : Calls Tryz.prog 58 #[.agg cs.toArray] w (fun e w' => e = .returned (.bool (guestOk g)) ∧ Below w.heap.size w w') := by
 obtain ⟨q0, q1, q2, q3⟩ := rG_len hc
 have hr := h
 obtain ⟨P0, P1, P2, P3, rfl, h0, h1, h2, h3⟩ := rG_rd h
 obtain ⟨PA0, Pc0, e0, hP0⟩ := lst_val h0
 subst e0
 obtain ⟨PA1, Pc1, e1, hP1⟩ := lst_val h1
 subst e1
 obtain ⟨PA2, Pc2, e2, hP2⟩ := lst_val h2
 subst e2
 obtain ⟨PA3, Pc3, e3, hP3⟩ := lst_val h3
 subst e3
 refine Sx.enter (args := [.agg #[.slice PA0 g.prog.length Pc0, .int .i64 g.a, .int .i64 g.pc, .slice PA1 g.wr.length Pc1, .slice PA2 g.lv.length Pc2, .int .i64 g.t.1, .int .i64 g.t.2.1, .bool g.t.2.2, .int .i64 g.pd, .int .i64 g.x.1, .int .i64 g.x.2.1, .bool g.x.2.2.1, .int .i64 g.x.2.2.2, .bool g.hl, .slice PA3 g.seen.length Pc3]]) Tryz.func58 rfl Tryz.ntmps58 rfl ?_
 refine Sx.C.seq (Sx.C.region ?_)
 refine Sx.G.b [.slice PA0 g.prog.length Pc0, .int .i64 g.a, .int .i64 g.pc, .slice PA1 g.wr.length Pc1, .slice PA2 g.lv.length Pc2, .int .i64 g.t.1, .int .i64 g.t.2.1, .bool g.t.2.2, .int .i64 g.pd, .int .i64 g.x.1, .int .i64 g.x.2.1, .bool g.x.2.2.1, .int .i64 g.x.2.2.2, .bool g.hl, .slice PA3 g.seen.length Pc3] (fun b1 => ?_)
 refine Sx.G.p (.bool false) ?_
 refine Sx.G.nil (Sx.E.next (Sx.C.seq (Sx.C.region ?_)))
 refine Sx.G.p (.pointer (some ⟨b1, 0, none⟩)) ?_
 refine Sx.G.g (.slice PA0 g.prog.length Pc0) .m0 .m0 ?_
 refine Sx.G.cp 92 #[.slice PA0 g.prog.length Pc0] (.bool (progOk g.prog)) (fun w S => by exact spec_progOk PA0 g.prog.length Pc0 0 g.prog _ q0 rfl (by rw [← pcells_j]; exact p2_lies (St.old S h0))) ?_
 refine Sx.G.p (.bool (progOk g.prog)) ?_
 cases hc2 : (progOk g.prog)
 ·
  have hb2 := hc2
  refine Sx.G.k ?_
  refine Sx.G.k ?_
  refine Sx.G.k ?_
  refine Sx.G.p (.bool false) ?_
  refine Sx.G.p (.bool false) ?_
  refine Sx.G.k ?_
  refine Sx.G.k ?_
  refine Sx.G.k ?_
  refine Sx.G.p (.bool false) ?_
  refine Sx.G.p (.bool false) ?_
  refine Sx.G.k ?_
  refine Sx.G.k ?_
  refine Sx.G.k ?_
  refine Sx.G.p (.bool false) ?_
  refine Sx.G.p (.bool false) ?_
  refine Sx.G.k ?_
  refine Sx.G.k ?_
  refine Sx.G.k ?_
  refine Sx.G.p (.bool false) ?_
  refine Sx.G.p (.bool false) ?_
  refine Sx.G.k ?_
  refine Sx.G.k ?_
  refine Sx.G.k ?_
  refine Sx.G.p (.bool false) ?_
  refine Sx.G.p (.bool false) ?_
  refine Sx.G.k ?_
  refine Sx.G.k ?_
  refine Sx.G.k ?_
  refine Sx.G.p (.bool false) ?_
  refine Sx.G.p (.bool false) ?_
  refine Sx.G.k ?_
  refine Sx.G.k ?_
  refine Sx.G.k ?_
  refine Sx.G.p (.bool false) ?_
  refine Sx.G.p (.bool false) ?_
  refine Sx.G.k ?_
  refine Sx.G.k ?_
  refine Sx.G.k ?_
  refine Sx.G.k ?_
  refine Sx.G.p (.bool false) ?_
  refine Sx.G.p (.bool false) ?_
  refine Sx.G.nil (Sx.E.next (Sx.C.ret ?_))
  refine Sx.E.ret1 (.bool false) rfl (by kernel_rfl) (fun w S => ?_)
  exact ⟨congrArg Ending.returned (congrArg Value.bool (by simp only [guestOk, hb2, Bool.and_true, Bool.and_false, Bool.false_and, Bool.true_and])), S.below⟩
 ·
  have hb2 := hc2
  refine Sx.G.p (.pointer (some ⟨b1, 1, none⟩)) ?_
  refine Sx.G.g (.int .i64 g.a) .m0 .m1 ?_
  refine Sx.G.cp 37 #[.int .i64 g.a, .int .i64 0, .int .i64 99] (.bool (inB g.a 0 99)) (fun w S => by exact ((spec_in g.a 0 99 _).mono fun e w' h => And.intro h.1 (below_same h.2))) ?_
  refine Sx.G.p (.bool (inB g.a 0 99)) ?_
  refine Sx.G.p (.bool (inB g.a 0 99)) ?_
  cases hc3 : (inB g.a 0 99)
  ·
   have hb3 := hc3
   refine Sx.G.k ?_
   refine Sx.G.k ?_
   refine Sx.G.k ?_
   refine Sx.G.p (.bool false) ?_
   refine Sx.G.p (.bool false) ?_
   refine Sx.G.k ?_
   refine Sx.G.k ?_
   refine Sx.G.k ?_
   refine Sx.G.p (.bool false) ?_
   refine Sx.G.p (.bool false) ?_
   refine Sx.G.k ?_
   refine Sx.G.k ?_
   refine Sx.G.k ?_
   refine Sx.G.p (.bool false) ?_
   refine Sx.G.p (.bool false) ?_
   refine Sx.G.k ?_
   refine Sx.G.k ?_
   refine Sx.G.k ?_
   refine Sx.G.p (.bool false) ?_
   refine Sx.G.p (.bool false) ?_
   refine Sx.G.k ?_
   refine Sx.G.k ?_
   refine Sx.G.k ?_
   refine Sx.G.p (.bool false) ?_
   refine Sx.G.p (.bool false) ?_
   refine Sx.G.k ?_
   refine Sx.G.k ?_
   refine Sx.G.k ?_
   refine Sx.G.p (.bool false) ?_
   refine Sx.G.p (.bool false) ?_
   refine Sx.G.k ?_
   refine Sx.G.k ?_
   refine Sx.G.k ?_
   refine Sx.G.k ?_
   refine Sx.G.p (.bool false) ?_
   refine Sx.G.p (.bool false) ?_
   refine Sx.G.nil (Sx.E.next (Sx.C.ret ?_))
   refine Sx.E.ret1 (.bool false) rfl (by kernel_rfl) (fun w S => ?_)
   exact ⟨congrArg Ending.returned (congrArg Value.bool (by simp only [guestOk, hb2, hb3, Bool.and_true, Bool.and_false, Bool.false_and, Bool.true_and])), S.below⟩
  ·
   have hb3 := hc3
   refine Sx.G.p (.pointer (some ⟨b1, 2, none⟩)) ?_
   refine Sx.G.g (.int .i64 g.pc) .m0 .m2 ?_
   refine Sx.G.cp 37 #[.int .i64 g.pc, .int .i64 0, .int .i64 12] (.bool (inB g.pc 0 12)) (fun w S => by exact ((spec_in g.pc 0 12 _).mono fun e w' h => And.intro h.1 (below_same h.2))) ?_
   refine Sx.G.p (.bool (inB g.pc 0 12)) ?_
   refine Sx.G.p (.bool (inB g.pc 0 12)) ?_
   cases hc4 : (inB g.pc 0 12)
   ·
    have hb4 := hc4
    refine Sx.G.k ?_
    refine Sx.G.k ?_
    refine Sx.G.k ?_
    refine Sx.G.p (.bool false) ?_
    refine Sx.G.p (.bool false) ?_
    refine Sx.G.k ?_
    refine Sx.G.k ?_
    refine Sx.G.k ?_
    refine Sx.G.p (.bool false) ?_
    refine Sx.G.p (.bool false) ?_
    refine Sx.G.k ?_
    refine Sx.G.k ?_
    refine Sx.G.k ?_
    refine Sx.G.p (.bool false) ?_
    refine Sx.G.p (.bool false) ?_
    refine Sx.G.k ?_
    refine Sx.G.k ?_
    refine Sx.G.k ?_
    refine Sx.G.p (.bool false) ?_
    refine Sx.G.p (.bool false) ?_
    refine Sx.G.k ?_
    refine Sx.G.k ?_
    refine Sx.G.k ?_
    refine Sx.G.p (.bool false) ?_
    refine Sx.G.p (.bool false) ?_
    refine Sx.G.k ?_
    refine Sx.G.k ?_
    refine Sx.G.k ?_
    refine Sx.G.k ?_
    refine Sx.G.p (.bool false) ?_
    refine Sx.G.p (.bool false) ?_
    refine Sx.G.nil (Sx.E.next (Sx.C.ret ?_))
    refine Sx.E.ret1 (.bool false) rfl (by kernel_rfl) (fun w S => ?_)
    exact ⟨congrArg Ending.returned (congrArg Value.bool (by simp only [guestOk, hb2, hb3, hb4, Bool.and_true, Bool.and_false, Bool.false_and, Bool.true_and])), S.below⟩
   ·
    have hb4 := hc4
    refine Sx.G.p (.pointer (some ⟨b1, 3, none⟩)) ?_
    refine Sx.G.g (.slice PA1 g.wr.length Pc1) .m0 .m3 ?_
    refine Sx.G.cp 93 #[.slice PA1 g.wr.length Pc1, .int .i64 4, .int .i64 8] (.bool (okTab g.wr 4 8)) (fun w S => by exact spec_tabOk PA1 g.wr.length Pc1 0 4 8 g.wr _ q1 rfl (by decide) (by rw [← pcells_s]; exact p2_lies (St.old S h1))) ?_
    refine Sx.G.p (.bool (okTab g.wr 4 8)) ?_
    refine Sx.G.p (.bool (okTab g.wr 4 8)) ?_
    cases hc5 : (okTab g.wr 4 8)
    ·
     have hb5 := hc5
     refine Sx.G.k ?_
     refine Sx.G.k ?_
     refine Sx.G.k ?_
     refine Sx.G.p (.bool false) ?_
     refine Sx.G.p (.bool false) ?_
     refine Sx.G.k ?_
     refine Sx.G.k ?_
     refine Sx.G.k ?_
     refine Sx.G.p (.bool false) ?_
     refine Sx.G.p (.bool false) ?_
     refine Sx.G.k ?_
     refine Sx.G.k ?_
     refine Sx.G.k ?_
     refine Sx.G.p (.bool false) ?_
     refine Sx.G.p (.bool false) ?_
     refine Sx.G.k ?_
     refine Sx.G.k ?_
     refine Sx.G.k ?_
     refine Sx.G.p (.bool false) ?_
     refine Sx.G.p (.bool false) ?_
     refine Sx.G.k ?_
     refine Sx.G.k ?_
     refine Sx.G.k ?_
     refine Sx.G.k ?_
     refine Sx.G.p (.bool false) ?_
     refine Sx.G.p (.bool false) ?_
     refine Sx.G.nil (Sx.E.next (Sx.C.ret ?_))
     refine Sx.E.ret1 (.bool false) rfl (by kernel_rfl) (fun w S => ?_)
     exact ⟨congrArg Ending.returned (congrArg Value.bool (by simp only [guestOk, hb2, hb3, hb4, hb5, Bool.and_true, Bool.and_false, Bool.false_and, Bool.true_and])), S.below⟩
    ·
     have hb5 := hc5
     refine Sx.G.p (.pointer (some ⟨b1, 4, none⟩)) ?_
     refine Sx.G.g (.slice PA2 g.lv.length Pc2) .m0 .m4 ?_
     refine Sx.G.cp 93 #[.slice PA2 g.lv.length Pc2, .int .i64 4, .int .i64 8] (.bool (okTab g.lv 4 8)) (fun w S => by exact spec_tabOk PA2 g.lv.length Pc2 0 4 8 g.lv _ q2 rfl (by decide) (by rw [← pcells_s]; exact p2_lies (St.old S h2))) ?_
     refine Sx.G.p (.bool (okTab g.lv 4 8)) ?_
     refine Sx.G.p (.bool (okTab g.lv 4 8)) ?_
     cases hc6 : (okTab g.lv 4 8)
     ·
      have hb6 := hc6
      refine Sx.G.k ?_
      refine Sx.G.k ?_
      refine Sx.G.k ?_
      refine Sx.G.p (.bool false) ?_
      refine Sx.G.p (.bool false) ?_
      refine Sx.G.k ?_
      refine Sx.G.k ?_
      refine Sx.G.k ?_
      refine Sx.G.p (.bool false) ?_
      refine Sx.G.p (.bool false) ?_
      refine Sx.G.k ?_
      refine Sx.G.k ?_
      refine Sx.G.k ?_
      refine Sx.G.p (.bool false) ?_
      refine Sx.G.p (.bool false) ?_
      refine Sx.G.k ?_
      refine Sx.G.k ?_
      refine Sx.G.k ?_
      refine Sx.G.k ?_
      refine Sx.G.p (.bool false) ?_
      refine Sx.G.p (.bool false) ?_
      refine Sx.G.nil (Sx.E.next (Sx.C.ret ?_))
      refine Sx.E.ret1 (.bool false) rfl (by kernel_rfl) (fun w S => ?_)
      exact ⟨congrArg Ending.returned (congrArg Value.bool (by simp only [guestOk, hb2, hb3, hb4, hb5, hb6, Bool.and_true, Bool.and_false, Bool.false_and, Bool.true_and])), S.below⟩
     ·
      have hb6 := hc6
      refine Sx.G.p (.pointer (some ⟨b1, 5, none⟩)) ?_
      refine Sx.G.lp 5 [.int .i64 g.t.1, .int .i64 g.t.2.1, .bool g.t.2.2] .m0 ?_
      refine Sx.G.cp 94 #[.agg #[.int .i64 g.t.1, .int .i64 g.t.2.1, .bool g.t.2.2]] (.bool (ctlOk (g.t.1, g.t.2.1, g.t.2.2))) (fun w S => by exact spec_ctlOk g.t.1 g.t.2.1 g.t.2.2 _) ?_
      refine Sx.G.p (.bool (ctlOk (g.t.1, g.t.2.1, g.t.2.2))) ?_
      refine Sx.G.p (.bool (ctlOk (g.t.1, g.t.2.1, g.t.2.2))) ?_
      cases hc7 : (ctlOk (g.t.1, g.t.2.1, g.t.2.2))
      ·
       have hb7 := hc7
       refine Sx.G.k ?_
       refine Sx.G.k ?_
       refine Sx.G.k ?_
       refine Sx.G.p (.bool false) ?_
       refine Sx.G.p (.bool false) ?_
       refine Sx.G.k ?_
       refine Sx.G.k ?_
       refine Sx.G.k ?_
       refine Sx.G.p (.bool false) ?_
       refine Sx.G.p (.bool false) ?_
       refine Sx.G.k ?_
       refine Sx.G.k ?_
       refine Sx.G.k ?_
       refine Sx.G.k ?_
       refine Sx.G.p (.bool false) ?_
       refine Sx.G.p (.bool false) ?_
       refine Sx.G.nil (Sx.E.next (Sx.C.ret ?_))
       refine Sx.E.ret1 (.bool false) rfl (by kernel_rfl) (fun w S => ?_)
       exact ⟨congrArg Ending.returned (congrArg Value.bool (by simp only [guestOk, hb2, hb3, hb4, hb5, hb6, hb7, Bool.and_true, Bool.and_false, Bool.false_and, Bool.true_and])), S.below⟩
      ·
       have hb7 := hc7
       refine Sx.G.p (.pointer (some ⟨b1, 8, none⟩)) ?_
       refine Sx.G.g (.int .i64 g.pd) .m0 .m8 ?_
       refine Sx.G.cp 60 #[.int .i64 g.pd] (.bool (pend g.pd)) (fun w S => by exact ((spec_pend g.pd _).mono fun e w' h => And.intro h.1 (below_same h.2))) ?_
       refine Sx.G.p (.bool (pend g.pd)) ?_
       refine Sx.G.p (.bool (pend g.pd)) ?_
       cases hc8 : (pend g.pd)
       ·
        have hb8 := hc8
        refine Sx.G.k ?_
        refine Sx.G.k ?_
        refine Sx.G.k ?_
        refine Sx.G.p (.bool false) ?_
        refine Sx.G.p (.bool false) ?_
        refine Sx.G.k ?_
        refine Sx.G.k ?_
        refine Sx.G.k ?_
        refine Sx.G.k ?_
        refine Sx.G.p (.bool false) ?_
        refine Sx.G.p (.bool false) ?_
        refine Sx.G.nil (Sx.E.next (Sx.C.ret ?_))
        refine Sx.E.ret1 (.bool false) rfl (by kernel_rfl) (fun w S => ?_)
        exact ⟨congrArg Ending.returned (congrArg Value.bool (by simp only [guestOk, hb2, hb3, hb4, hb5, hb6, hb7, hb8, Bool.and_true, Bool.and_false, Bool.false_and, Bool.true_and])), S.below⟩
       ·
        have hb8 := hc8
        refine Sx.G.p (.pointer (some ⟨b1, 9, none⟩)) ?_
        refine Sx.G.lp 9 [.int .i64 g.x.1, .int .i64 g.x.2.1, .bool g.x.2.2.1, .int .i64 g.x.2.2.2] .m0 ?_
        refine Sx.G.cp 95 #[.agg #[.int .i64 g.x.1, .int .i64 g.x.2.1, .bool g.x.2.2.1, .int .i64 g.x.2.2.2]] (.bool (exitOk (g.x.1, g.x.2.1, g.x.2.2.1, g.x.2.2.2))) (fun w S => by exact spec_exitOk g.x.1 g.x.2.1 g.x.2.2.1 g.x.2.2.2 _) ?_
        refine Sx.G.p (.bool (exitOk (g.x.1, g.x.2.1, g.x.2.2.1, g.x.2.2.2))) ?_
        refine Sx.G.p (.bool (exitOk (g.x.1, g.x.2.1, g.x.2.2.1, g.x.2.2.2))) ?_
        cases hc9 : (exitOk (g.x.1, g.x.2.1, g.x.2.2.1, g.x.2.2.2))
        ·
         have hb9 := hc9
         refine Sx.G.k ?_
         refine Sx.G.k ?_
         refine Sx.G.k ?_
         refine Sx.G.k ?_
         refine Sx.G.p (.bool false) ?_
         refine Sx.G.p (.bool false) ?_
         refine Sx.G.nil (Sx.E.next (Sx.C.ret ?_))
         refine Sx.E.ret1 (.bool false) rfl (by kernel_rfl) (fun w S => ?_)
         exact ⟨congrArg Ending.returned (congrArg Value.bool (by simp only [guestOk, hb2, hb3, hb4, hb5, hb6, hb7, hb8, hb9, Bool.and_true, Bool.and_false, Bool.false_and, Bool.true_and])), S.below⟩
        ·
         have hb9 := hc9
         refine Sx.G.p (.pointer (some ⟨b1, 14, none⟩)) ?_
         refine Sx.G.g (.slice PA3 g.seen.length Pc3) .m0 .m14 ?_
         refine Sx.G.p (.int .i64 ((g.seen.length : Nat) : Int)) ?_
         refine Sx.G.p (.bool (decide (((g.seen.length : Nat) : Int) ≤ 40))) ?_
         refine Sx.G.p (.bool (decide (((g.seen.length : Nat) : Int) ≤ 40))) ?_
         refine Sx.G.p (.bool (decide (((g.seen.length : Nat) : Int) ≤ 40))) ?_
         refine Sx.G.nil (Sx.E.next (Sx.C.ret ?_))
         refine Sx.E.ret1 (.bool (decide (((g.seen.length : Nat) : Int) ≤ 40))) rfl (by kernel_rfl) (fun w S => ?_)
         exact ⟨congrArg Ending.returned (congrArg Value.bool (by simp only [guestOk, hb2, hb3, hb4, hb5, hb6, hb7, hb8, hb9, Bool.and_true, Bool.and_false, Bool.false_and, Bool.true_and])), S.below⟩
theorem law_sameG (g k : gT) (cs ds : List Value) (w : World) (hc : rG.cap g) (hd : rG.cap k) (h : rG.rd w 0 w.heap.size g cs) (j : rG.rd w 0 w.heap.size k ds) : Calls Tryz.prog 18 #[.agg cs.toArray, .agg ds.toArray] w (fun e w' => e = .returned (.bool (sameG g k)) ∧ Below w.heap.size w w') := by
 obtain ⟨q0, q1, q2, q3⟩ := rG_len hc
 obtain ⟨p0, p1, p2, p3⟩ := rG_len hd
 have hr := h
 obtain ⟨P0, P1, P2, P3, rfl, h0, h1, h2, h3⟩ := rG_rd h
 obtain ⟨PA0, Pc0, e0, hP0⟩ := lst_val h0
 subst e0
 obtain ⟨PA1, Pc1, e1, hP1⟩ := lst_val h1
 subst e1
 obtain ⟨PA2, Pc2, e2, hP2⟩ := lst_val h2
 subst e2
 obtain ⟨PA3, Pc3, e3, hP3⟩ := lst_val h3
 subst e3
 have jr := j
 obtain ⟨R0, R1, R2, R3, rfl, j0, j1, j2, j3⟩ := rG_rd j
 obtain ⟨RA0, Rc0, e0, hR0⟩ := lst_val j0
 subst e0
 obtain ⟨RA1, Rc1, e1, hR1⟩ := lst_val j1
 subst e1
 obtain ⟨RA2, Rc2, e2, hR2⟩ := lst_val j2
 subst e2
 obtain ⟨RA3, Rc3, e3, hR3⟩ := lst_val j3
 subst e3
 refine Sx.enter (args := [.agg #[.slice PA0 g.prog.length Pc0, .int .i64 g.a, .int .i64 g.pc, .slice PA1 g.wr.length Pc1, .slice PA2 g.lv.length Pc2, .int .i64 g.t.1, .int .i64 g.t.2.1, .bool g.t.2.2, .int .i64 g.pd, .int .i64 g.x.1, .int .i64 g.x.2.1, .bool g.x.2.2.1, .int .i64 g.x.2.2.2, .bool g.hl, .slice PA3 g.seen.length Pc3], .agg #[.slice RA0 k.prog.length Rc0, .int .i64 k.a, .int .i64 k.pc, .slice RA1 k.wr.length Rc1, .slice RA2 k.lv.length Rc2, .int .i64 k.t.1, .int .i64 k.t.2.1, .bool k.t.2.2, .int .i64 k.pd, .int .i64 k.x.1, .int .i64 k.x.2.1, .bool k.x.2.2.1, .int .i64 k.x.2.2.2, .bool k.hl, .slice RA3 k.seen.length Rc3]]) Tryz.func18 rfl Tryz.ntmps18 rfl ?_
 refine Sx.C.seq (Sx.C.region ?_)
 refine Sx.G.b [.slice PA0 g.prog.length Pc0, .int .i64 g.a, .int .i64 g.pc, .slice PA1 g.wr.length Pc1, .slice PA2 g.lv.length Pc2, .int .i64 g.t.1, .int .i64 g.t.2.1, .bool g.t.2.2, .int .i64 g.pd, .int .i64 g.x.1, .int .i64 g.x.2.1, .bool g.x.2.2.1, .int .i64 g.x.2.2.2, .bool g.hl, .slice PA3 g.seen.length Pc3] (fun b1 => ?_)
 refine Sx.G.b [.slice RA0 k.prog.length Rc0, .int .i64 k.a, .int .i64 k.pc, .slice RA1 k.wr.length Rc1, .slice RA2 k.lv.length Rc2, .int .i64 k.t.1, .int .i64 k.t.2.1, .bool k.t.2.2, .int .i64 k.pd, .int .i64 k.x.1, .int .i64 k.x.2.1, .bool k.x.2.2.1, .int .i64 k.x.2.2.2, .bool k.hl, .slice RA3 k.seen.length Rc3] (fun b2 => ?_)
 refine Sx.G.p (.bool false) ?_
 refine Sx.G.nil (Sx.E.next (Sx.C.seq (Sx.C.region ?_)))
 refine Sx.G.p (.pointer (some ⟨b1, 0, none⟩)) ?_
 refine Sx.G.g (.slice PA0 g.prog.length Pc0) .m1 .m0 ?_
 refine Sx.G.p (.pointer (some ⟨b2, 0, none⟩)) ?_
 refine Sx.G.g (.slice RA0 k.prog.length Rc0) .m0 .m0 ?_
 refine Sx.G.cp 46 #[.slice PA0 g.prog.length Pc0, .slice RA0 k.prog.length Rc0] (.bool (decide (g.prog = k.prog))) (fun w S => by exact ((Inss.law_same PA0 RA0 g.prog.length k.prog.length Pc0 Rc0 0 0 _ _ g.prog k.prog _ q0 p0 rfl rfl (by rw [← pcells_j]; exact p2_lies (St.old S h0)) (by rw [← pcells_j]; exact p2_lies (St.old S j0))).mono fun e w' h => And.intro h.1 (drew_below h.2))) ?_
 refine Sx.G.p (.bool (decide (g.prog = k.prog))) ?_
 cases hc3 : (decide (g.prog = k.prog))
 ·
  have hb3 := hc3
  replace hc3 := of_decide_eq_false hc3
  refine Sx.G.k ?_
  refine Sx.G.k ?_
  refine Sx.G.k ?_
  refine Sx.G.k ?_
  refine Sx.G.k ?_
  refine Sx.G.p (.bool false) ?_
  refine Sx.G.p (.bool false) ?_
  refine Sx.G.k ?_
  refine Sx.G.k ?_
  refine Sx.G.k ?_
  refine Sx.G.k ?_
  refine Sx.G.k ?_
  refine Sx.G.p (.bool false) ?_
  refine Sx.G.p (.bool false) ?_
  refine Sx.G.k ?_
  refine Sx.G.k ?_
  refine Sx.G.k ?_
  refine Sx.G.k ?_
  refine Sx.G.k ?_
  refine Sx.G.p (.bool false) ?_
  refine Sx.G.p (.bool false) ?_
  refine Sx.G.k ?_
  refine Sx.G.k ?_
  refine Sx.G.k ?_
  refine Sx.G.k ?_
  refine Sx.G.k ?_
  refine Sx.G.p (.bool false) ?_
  refine Sx.G.p (.bool false) ?_
  refine Sx.G.k ?_
  refine Sx.G.k ?_
  refine Sx.G.k ?_
  refine Sx.G.k ?_
  refine Sx.G.k ?_
  refine Sx.G.p (.bool false) ?_
  refine Sx.G.p (.bool false) ?_
  refine Sx.G.k ?_
  refine Sx.G.k ?_
  refine Sx.G.k ?_
  refine Sx.G.k ?_
  refine Sx.G.k ?_
  refine Sx.G.p (.bool false) ?_
  refine Sx.G.p (.bool false) ?_
  refine Sx.G.k ?_
  refine Sx.G.k ?_
  refine Sx.G.k ?_
  refine Sx.G.k ?_
  refine Sx.G.k ?_
  refine Sx.G.p (.bool false) ?_
  refine Sx.G.p (.bool false) ?_
  refine Sx.G.k ?_
  refine Sx.G.k ?_
  refine Sx.G.k ?_
  refine Sx.G.k ?_
  refine Sx.G.k ?_
  refine Sx.G.p (.bool false) ?_
  refine Sx.G.p (.bool false) ?_
  refine Sx.G.k ?_
  refine Sx.G.k ?_
  refine Sx.G.k ?_
  refine Sx.G.k ?_
  refine Sx.G.k ?_
  refine Sx.G.p (.bool false) ?_
  refine Sx.G.p (.bool false) ?_
  refine Sx.G.nil (Sx.E.next (Sx.C.ret ?_))
  refine Sx.E.ret1 (.bool false) rfl (by kernel_rfl) (fun w S => ?_)
  exact ⟨congrArg Ending.returned (congrArg Value.bool (by simp only [sameG, hb3, Bool.and_true, Bool.and_false, Bool.false_and, Bool.true_and])), S.below⟩
 ·
  have hb3 := hc3
  replace hc3 := of_decide_eq_true hc3
  refine Sx.G.p (.pointer (some ⟨b1, 1, none⟩)) ?_
  refine Sx.G.g (.int .i64 g.a) .m1 .m1 ?_
  refine Sx.G.p (.pointer (some ⟨b2, 1, none⟩)) ?_
  refine Sx.G.g (.int .i64 k.a) .m0 .m1 ?_
  refine Sx.G.p (.bool (g.a == k.a)) ?_
  refine Sx.G.p (.bool (g.a == k.a)) ?_
  refine Sx.G.p (.bool (g.a == k.a)) ?_
  cases hc4 : (g.a == k.a)
  ·
   have hb4 := hc4
   refine Sx.G.k ?_
   refine Sx.G.k ?_
   refine Sx.G.k ?_
   refine Sx.G.k ?_
   refine Sx.G.k ?_
   refine Sx.G.p (.bool false) ?_
   refine Sx.G.p (.bool false) ?_
   refine Sx.G.k ?_
   refine Sx.G.k ?_
   refine Sx.G.k ?_
   refine Sx.G.k ?_
   refine Sx.G.k ?_
   refine Sx.G.p (.bool false) ?_
   refine Sx.G.p (.bool false) ?_
   refine Sx.G.k ?_
   refine Sx.G.k ?_
   refine Sx.G.k ?_
   refine Sx.G.k ?_
   refine Sx.G.k ?_
   refine Sx.G.p (.bool false) ?_
   refine Sx.G.p (.bool false) ?_
   refine Sx.G.k ?_
   refine Sx.G.k ?_
   refine Sx.G.k ?_
   refine Sx.G.k ?_
   refine Sx.G.k ?_
   refine Sx.G.p (.bool false) ?_
   refine Sx.G.p (.bool false) ?_
   refine Sx.G.k ?_
   refine Sx.G.k ?_
   refine Sx.G.k ?_
   refine Sx.G.k ?_
   refine Sx.G.k ?_
   refine Sx.G.p (.bool false) ?_
   refine Sx.G.p (.bool false) ?_
   refine Sx.G.k ?_
   refine Sx.G.k ?_
   refine Sx.G.k ?_
   refine Sx.G.k ?_
   refine Sx.G.k ?_
   refine Sx.G.p (.bool false) ?_
   refine Sx.G.p (.bool false) ?_
   refine Sx.G.k ?_
   refine Sx.G.k ?_
   refine Sx.G.k ?_
   refine Sx.G.k ?_
   refine Sx.G.k ?_
   refine Sx.G.p (.bool false) ?_
   refine Sx.G.p (.bool false) ?_
   refine Sx.G.k ?_
   refine Sx.G.k ?_
   refine Sx.G.k ?_
   refine Sx.G.k ?_
   refine Sx.G.k ?_
   refine Sx.G.p (.bool false) ?_
   refine Sx.G.p (.bool false) ?_
   refine Sx.G.nil (Sx.E.next (Sx.C.ret ?_))
   refine Sx.E.ret1 (.bool false) rfl (by kernel_rfl) (fun w S => ?_)
   exact ⟨congrArg Ending.returned (congrArg Value.bool (by simp only [sameG, hb3, hb4, Bool.and_true, Bool.and_false, Bool.false_and, Bool.true_and])), S.below⟩
  ·
   have hb4 := hc4
   refine Sx.G.p (.pointer (some ⟨b1, 2, none⟩)) ?_
   refine Sx.G.g (.int .i64 g.pc) .m1 .m2 ?_
   refine Sx.G.p (.pointer (some ⟨b2, 2, none⟩)) ?_
   refine Sx.G.g (.int .i64 k.pc) .m0 .m2 ?_
   refine Sx.G.p (.bool (g.pc == k.pc)) ?_
   refine Sx.G.p (.bool (g.pc == k.pc)) ?_
   refine Sx.G.p (.bool (g.pc == k.pc)) ?_
   cases hc5 : (g.pc == k.pc)
   ·
    have hb5 := hc5
    refine Sx.G.k ?_
    refine Sx.G.k ?_
    refine Sx.G.k ?_
    refine Sx.G.k ?_
    refine Sx.G.k ?_
    refine Sx.G.p (.bool false) ?_
    refine Sx.G.p (.bool false) ?_
    refine Sx.G.k ?_
    refine Sx.G.k ?_
    refine Sx.G.k ?_
    refine Sx.G.k ?_
    refine Sx.G.k ?_
    refine Sx.G.p (.bool false) ?_
    refine Sx.G.p (.bool false) ?_
    refine Sx.G.k ?_
    refine Sx.G.k ?_
    refine Sx.G.k ?_
    refine Sx.G.k ?_
    refine Sx.G.k ?_
    refine Sx.G.p (.bool false) ?_
    refine Sx.G.p (.bool false) ?_
    refine Sx.G.k ?_
    refine Sx.G.k ?_
    refine Sx.G.k ?_
    refine Sx.G.k ?_
    refine Sx.G.k ?_
    refine Sx.G.p (.bool false) ?_
    refine Sx.G.p (.bool false) ?_
    refine Sx.G.k ?_
    refine Sx.G.k ?_
    refine Sx.G.k ?_
    refine Sx.G.k ?_
    refine Sx.G.k ?_
    refine Sx.G.p (.bool false) ?_
    refine Sx.G.p (.bool false) ?_
    refine Sx.G.k ?_
    refine Sx.G.k ?_
    refine Sx.G.k ?_
    refine Sx.G.k ?_
    refine Sx.G.k ?_
    refine Sx.G.p (.bool false) ?_
    refine Sx.G.p (.bool false) ?_
    refine Sx.G.k ?_
    refine Sx.G.k ?_
    refine Sx.G.k ?_
    refine Sx.G.k ?_
    refine Sx.G.k ?_
    refine Sx.G.p (.bool false) ?_
    refine Sx.G.p (.bool false) ?_
    refine Sx.G.nil (Sx.E.next (Sx.C.ret ?_))
    refine Sx.E.ret1 (.bool false) rfl (by kernel_rfl) (fun w S => ?_)
    exact ⟨congrArg Ending.returned (congrArg Value.bool (by simp only [sameG, hb3, hb4, hb5, Bool.and_true, Bool.and_false, Bool.false_and, Bool.true_and])), S.below⟩
   ·
    have hb5 := hc5
    refine Sx.G.p (.pointer (some ⟨b1, 3, none⟩)) ?_
    refine Sx.G.g (.slice PA1 g.wr.length Pc1) .m1 .m3 ?_
    refine Sx.G.p (.pointer (some ⟨b2, 3, none⟩)) ?_
    refine Sx.G.g (.slice RA1 k.wr.length Rc1) .m0 .m3 ?_
    refine Sx.G.cp 47 #[.slice PA1 g.wr.length Pc1, .slice RA1 k.wr.length Rc1] (.bool (decide (g.wr = k.wr))) (fun w S => by exact ((Slots.law_same PA1 RA1 g.wr.length k.wr.length Pc1 Rc1 0 0 _ _ g.wr k.wr _ q1 p1 rfl rfl (by rw [← pcells_s]; exact p2_lies (St.old S h1)) (by rw [← pcells_s]; exact p2_lies (St.old S j1))).mono fun e w' h => And.intro h.1 (drew_below h.2))) ?_
    refine Sx.G.p (.bool (decide (g.wr = k.wr))) ?_
    refine Sx.G.p (.bool (decide (g.wr = k.wr))) ?_
    cases hc6 : (decide (g.wr = k.wr))
    ·
     have hb6 := hc6
     replace hc6 := of_decide_eq_false hc6
     refine Sx.G.k ?_
     refine Sx.G.k ?_
     refine Sx.G.k ?_
     refine Sx.G.k ?_
     refine Sx.G.k ?_
     refine Sx.G.p (.bool false) ?_
     refine Sx.G.p (.bool false) ?_
     refine Sx.G.k ?_
     refine Sx.G.k ?_
     refine Sx.G.k ?_
     refine Sx.G.k ?_
     refine Sx.G.k ?_
     refine Sx.G.p (.bool false) ?_
     refine Sx.G.p (.bool false) ?_
     refine Sx.G.k ?_
     refine Sx.G.k ?_
     refine Sx.G.k ?_
     refine Sx.G.k ?_
     refine Sx.G.k ?_
     refine Sx.G.p (.bool false) ?_
     refine Sx.G.p (.bool false) ?_
     refine Sx.G.k ?_
     refine Sx.G.k ?_
     refine Sx.G.k ?_
     refine Sx.G.k ?_
     refine Sx.G.k ?_
     refine Sx.G.p (.bool false) ?_
     refine Sx.G.p (.bool false) ?_
     refine Sx.G.k ?_
     refine Sx.G.k ?_
     refine Sx.G.k ?_
     refine Sx.G.k ?_
     refine Sx.G.k ?_
     refine Sx.G.p (.bool false) ?_
     refine Sx.G.p (.bool false) ?_
     refine Sx.G.k ?_
     refine Sx.G.k ?_
     refine Sx.G.k ?_
     refine Sx.G.k ?_
     refine Sx.G.k ?_
     refine Sx.G.p (.bool false) ?_
     refine Sx.G.p (.bool false) ?_
     refine Sx.G.nil (Sx.E.next (Sx.C.ret ?_))
     refine Sx.E.ret1 (.bool false) rfl (by kernel_rfl) (fun w S => ?_)
     exact ⟨congrArg Ending.returned (congrArg Value.bool (by simp only [sameG, hb3, hb4, hb5, hb6, Bool.and_true, Bool.and_false, Bool.false_and, Bool.true_and])), S.below⟩
    ·
     have hb6 := hc6
     replace hc6 := of_decide_eq_true hc6
     refine Sx.G.p (.pointer (some ⟨b1, 4, none⟩)) ?_
     refine Sx.G.g (.slice PA2 g.lv.length Pc2) .m1 .m4 ?_
     refine Sx.G.p (.pointer (some ⟨b2, 4, none⟩)) ?_
     refine Sx.G.g (.slice RA2 k.lv.length Rc2) .m0 .m4 ?_
     refine Sx.G.cp 47 #[.slice PA2 g.lv.length Pc2, .slice RA2 k.lv.length Rc2] (.bool (decide (g.lv = k.lv))) (fun w S => by exact ((Slots.law_same PA2 RA2 g.lv.length k.lv.length Pc2 Rc2 0 0 _ _ g.lv k.lv _ q2 p2 rfl rfl (by rw [← pcells_s]; exact p2_lies (St.old S h2)) (by rw [← pcells_s]; exact p2_lies (St.old S j2))).mono fun e w' h => And.intro h.1 (drew_below h.2))) ?_
     refine Sx.G.p (.bool (decide (g.lv = k.lv))) ?_
     refine Sx.G.p (.bool (decide (g.lv = k.lv))) ?_
     cases hc7 : (decide (g.lv = k.lv))
     ·
      have hb7 := hc7
      replace hc7 := of_decide_eq_false hc7
      refine Sx.G.k ?_
      refine Sx.G.k ?_
      refine Sx.G.k ?_
      refine Sx.G.k ?_
      refine Sx.G.k ?_
      refine Sx.G.p (.bool false) ?_
      refine Sx.G.p (.bool false) ?_
      refine Sx.G.k ?_
      refine Sx.G.k ?_
      refine Sx.G.k ?_
      refine Sx.G.k ?_
      refine Sx.G.k ?_
      refine Sx.G.p (.bool false) ?_
      refine Sx.G.p (.bool false) ?_
      refine Sx.G.k ?_
      refine Sx.G.k ?_
      refine Sx.G.k ?_
      refine Sx.G.k ?_
      refine Sx.G.k ?_
      refine Sx.G.p (.bool false) ?_
      refine Sx.G.p (.bool false) ?_
      refine Sx.G.k ?_
      refine Sx.G.k ?_
      refine Sx.G.k ?_
      refine Sx.G.k ?_
      refine Sx.G.k ?_
      refine Sx.G.p (.bool false) ?_
      refine Sx.G.p (.bool false) ?_
      refine Sx.G.k ?_
      refine Sx.G.k ?_
      refine Sx.G.k ?_
      refine Sx.G.k ?_
      refine Sx.G.k ?_
      refine Sx.G.p (.bool false) ?_
      refine Sx.G.p (.bool false) ?_
      refine Sx.G.nil (Sx.E.next (Sx.C.ret ?_))
      refine Sx.E.ret1 (.bool false) rfl (by kernel_rfl) (fun w S => ?_)
      exact ⟨congrArg Ending.returned (congrArg Value.bool (by simp only [sameG, hb3, hb4, hb5, hb6, hb7, Bool.and_true, Bool.and_false, Bool.false_and, Bool.true_and])), S.below⟩
     ·
      have hb7 := hc7
      replace hc7 := of_decide_eq_true hc7
      refine Sx.G.p (.pointer (some ⟨b1, 5, none⟩)) ?_
      refine Sx.G.lp 5 [.int .i64 g.t.1, .int .i64 g.t.2.1, .bool g.t.2.2] .m1 ?_
      refine Sx.G.p (.pointer (some ⟨b2, 5, none⟩)) ?_
      refine Sx.G.lp 5 [.int .i64 k.t.1, .int .i64 k.t.2.1, .bool k.t.2.2] .m0 ?_
      refine Sx.G.pure (.bool ((g.t.1 == k.t.1 && g.t.2.1 == k.t.2.1 && g.t.2.2 == k.t.2.2))) (by kernel_rfl) (fun w => Sx.run_eqs rfl rfl rfl (by kernel_rfl) (fun w => eqv_Ctl_eql g.t.1 g.t.2.1 g.t.2.2 k.t.1 k.t.2.1 k.t.2.2 w) w) ?_
      refine Sx.G.p (.bool ((g.t.1 == k.t.1 && g.t.2.1 == k.t.2.1 && g.t.2.2 == k.t.2.2))) ?_
      refine Sx.G.p (.bool ((g.t.1 == k.t.1 && g.t.2.1 == k.t.2.1 && g.t.2.2 == k.t.2.2))) ?_
      cases hc8 : ((g.t.1 == k.t.1 && g.t.2.1 == k.t.2.1 && g.t.2.2 == k.t.2.2))
      ·
       have hb8 := hc8
       refine Sx.G.k ?_
       refine Sx.G.k ?_
       refine Sx.G.k ?_
       refine Sx.G.k ?_
       refine Sx.G.k ?_
       refine Sx.G.p (.bool false) ?_
       refine Sx.G.p (.bool false) ?_
       refine Sx.G.k ?_
       refine Sx.G.k ?_
       refine Sx.G.k ?_
       refine Sx.G.k ?_
       refine Sx.G.k ?_
       refine Sx.G.p (.bool false) ?_
       refine Sx.G.p (.bool false) ?_
       refine Sx.G.k ?_
       refine Sx.G.k ?_
       refine Sx.G.k ?_
       refine Sx.G.k ?_
       refine Sx.G.k ?_
       refine Sx.G.p (.bool false) ?_
       refine Sx.G.p (.bool false) ?_
       refine Sx.G.k ?_
       refine Sx.G.k ?_
       refine Sx.G.k ?_
       refine Sx.G.k ?_
       refine Sx.G.k ?_
       refine Sx.G.p (.bool false) ?_
       refine Sx.G.p (.bool false) ?_
       refine Sx.G.nil (Sx.E.next (Sx.C.ret ?_))
       refine Sx.E.ret1 (.bool false) rfl (by kernel_rfl) (fun w S => ?_)
       exact ⟨congrArg Ending.returned (congrArg Value.bool (by simp only [sameG, hb3, hb4, hb5, hb6, hb7, hb8, Bool.and_true, Bool.and_false, Bool.false_and, Bool.true_and])), S.below⟩
      ·
       have hb8 := hc8
       refine Sx.G.p (.pointer (some ⟨b1, 8, none⟩)) ?_
       refine Sx.G.g (.int .i64 g.pd) .m1 .m8 ?_
       refine Sx.G.p (.pointer (some ⟨b2, 8, none⟩)) ?_
       refine Sx.G.g (.int .i64 k.pd) .m0 .m8 ?_
       refine Sx.G.p (.bool (g.pd == k.pd)) ?_
       refine Sx.G.p (.bool (g.pd == k.pd)) ?_
       refine Sx.G.p (.bool (g.pd == k.pd)) ?_
       cases hc9 : (g.pd == k.pd)
       ·
        have hb9 := hc9
        refine Sx.G.k ?_
        refine Sx.G.k ?_
        refine Sx.G.k ?_
        refine Sx.G.k ?_
        refine Sx.G.k ?_
        refine Sx.G.p (.bool false) ?_
        refine Sx.G.p (.bool false) ?_
        refine Sx.G.k ?_
        refine Sx.G.k ?_
        refine Sx.G.k ?_
        refine Sx.G.k ?_
        refine Sx.G.k ?_
        refine Sx.G.p (.bool false) ?_
        refine Sx.G.p (.bool false) ?_
        refine Sx.G.k ?_
        refine Sx.G.k ?_
        refine Sx.G.k ?_
        refine Sx.G.k ?_
        refine Sx.G.k ?_
        refine Sx.G.p (.bool false) ?_
        refine Sx.G.p (.bool false) ?_
        refine Sx.G.nil (Sx.E.next (Sx.C.ret ?_))
        refine Sx.E.ret1 (.bool false) rfl (by kernel_rfl) (fun w S => ?_)
        exact ⟨congrArg Ending.returned (congrArg Value.bool (by simp only [sameG, hb3, hb4, hb5, hb6, hb7, hb8, hb9, Bool.and_true, Bool.and_false, Bool.false_and, Bool.true_and])), S.below⟩
       ·
        have hb9 := hc9
        refine Sx.G.p (.pointer (some ⟨b1, 9, none⟩)) ?_
        refine Sx.G.lp 9 [.int .i64 g.x.1, .int .i64 g.x.2.1, .bool g.x.2.2.1, .int .i64 g.x.2.2.2] .m1 ?_
        refine Sx.G.p (.pointer (some ⟨b2, 9, none⟩)) ?_
        refine Sx.G.lp 9 [.int .i64 k.x.1, .int .i64 k.x.2.1, .bool k.x.2.2.1, .int .i64 k.x.2.2.2] .m0 ?_
        refine Sx.G.pure (.bool ((g.x.1 == k.x.1 && g.x.2.1 == k.x.2.1 && g.x.2.2.1 == k.x.2.2.1 && g.x.2.2.2 == k.x.2.2.2))) (by kernel_rfl) (fun w => Sx.run_eqs rfl rfl rfl (by kernel_rfl) (fun w => eqv_Exit_eql g.x.1 g.x.2.1 g.x.2.2.1 g.x.2.2.2 k.x.1 k.x.2.1 k.x.2.2.1 k.x.2.2.2 w) w) ?_
        refine Sx.G.p (.bool ((g.x.1 == k.x.1 && g.x.2.1 == k.x.2.1 && g.x.2.2.1 == k.x.2.2.1 && g.x.2.2.2 == k.x.2.2.2))) ?_
        refine Sx.G.p (.bool ((g.x.1 == k.x.1 && g.x.2.1 == k.x.2.1 && g.x.2.2.1 == k.x.2.2.1 && g.x.2.2.2 == k.x.2.2.2))) ?_
        cases hc10 : ((g.x.1 == k.x.1 && g.x.2.1 == k.x.2.1 && g.x.2.2.1 == k.x.2.2.1 && g.x.2.2.2 == k.x.2.2.2))
        ·
         have hb10 := hc10
         refine Sx.G.k ?_
         refine Sx.G.k ?_
         refine Sx.G.k ?_
         refine Sx.G.k ?_
         refine Sx.G.k ?_
         refine Sx.G.p (.bool false) ?_
         refine Sx.G.p (.bool false) ?_
         refine Sx.G.k ?_
         refine Sx.G.k ?_
         refine Sx.G.k ?_
         refine Sx.G.k ?_
         refine Sx.G.k ?_
         refine Sx.G.p (.bool false) ?_
         refine Sx.G.p (.bool false) ?_
         refine Sx.G.nil (Sx.E.next (Sx.C.ret ?_))
         refine Sx.E.ret1 (.bool false) rfl (by kernel_rfl) (fun w S => ?_)
         exact ⟨congrArg Ending.returned (congrArg Value.bool (by simp only [sameG, hb3, hb4, hb5, hb6, hb7, hb8, hb9, hb10, Bool.and_true, Bool.and_false, Bool.false_and, Bool.true_and])), S.below⟩
        ·
         have hb10 := hc10
         refine Sx.G.p (.pointer (some ⟨b1, 13, none⟩)) ?_
         refine Sx.G.g (.bool g.hl) .m1 .m13 ?_
         refine Sx.G.p (.pointer (some ⟨b2, 13, none⟩)) ?_
         refine Sx.G.g (.bool k.hl) .m0 .m13 ?_
         refine Sx.G.p (.bool (g.hl == k.hl)) ?_
         refine Sx.G.p (.bool (g.hl == k.hl)) ?_
         refine Sx.G.p (.bool (g.hl == k.hl)) ?_
         cases hc11 : (g.hl == k.hl)
         ·
          have hb11 := hc11
          refine Sx.G.k ?_
          refine Sx.G.k ?_
          refine Sx.G.k ?_
          refine Sx.G.k ?_
          refine Sx.G.k ?_
          refine Sx.G.p (.bool false) ?_
          refine Sx.G.p (.bool false) ?_
          refine Sx.G.nil (Sx.E.next (Sx.C.ret ?_))
          refine Sx.E.ret1 (.bool false) rfl (by kernel_rfl) (fun w S => ?_)
          exact ⟨congrArg Ending.returned (congrArg Value.bool (by simp only [sameG, hb3, hb4, hb5, hb6, hb7, hb8, hb9, hb10, hb11, Bool.and_true, Bool.and_false, Bool.false_and, Bool.true_and])), S.below⟩
         ·
          have hb11 := hc11
          refine Sx.G.p (.pointer (some ⟨b1, 14, none⟩)) ?_
          refine Sx.G.g (.slice PA3 g.seen.length Pc3) .m1 .m14 ?_
          refine Sx.G.p (.pointer (some ⟨b2, 14, none⟩)) ?_
          refine Sx.G.g (.slice RA3 k.seen.length Rc3) .m0 .m14 ?_
          refine Sx.G.cp 43 #[.slice PA3 g.seen.length Pc3, .slice RA3 k.seen.length Rc3] (.bool (decide (g.seen = k.seen))) (fun w S => by exact ((Grid.law_ints PA3 RA3 g.seen.length k.seen.length Pc3 Rc3 0 0 _ _ g.seen k.seen _ q3 p3 rfl rfl (i1_lies (St.old S h3)) (i1_lies (St.old S j3))).mono fun e w' h => And.intro h.1 (drew_below h.2))) ?_
          refine Sx.G.p (.bool (decide (g.seen = k.seen))) ?_
          refine Sx.G.p (.bool (decide (g.seen = k.seen))) ?_
          refine Sx.G.nil (Sx.E.next (Sx.C.ret ?_))
          refine Sx.E.ret1 (.bool (decide (g.seen = k.seen))) rfl (by kernel_rfl) (fun w S => ?_)
          exact ⟨congrArg Ending.returned (congrArg Value.bool (by simp only [sameG, hb3, hb4, hb5, hb6, hb7, hb8, hb9, hb10, hb11, Bool.and_true, Bool.and_false, Bool.false_and, Bool.true_and])), S.below⟩
end Go.Proofs.YtldgadmpclgfhaaGreat.Guests
namespace Go.Proofs.YtldgadmpclgfhaaGreat.Kit
set_option maxHeartbeats 8000000
set_option maxRecDepth 100000
set_option maxRecDepth 100000
open Go.ChangeShapes Go.WideShapes Go.ChangeAt Go.RowKit Go.Deep
open Go.Proofs.YtldgadmpclgfhaaGreat.Base Go.Proofs.YtldgadmpclgfhaaGreat.Mem Go.Proofs.YtldgadmpclgfhaaGreat.Data Go.Proofs.YtldgadmpclgfhaaGreat.Stt Go.Proofs.YtldgadmpclgfhaaGreat.Guests Go.Proofs.YtldgadmpclgfhaaGreat.Ctls Go.Proofs.YtldgadmpclgfhaaGreat.Exits Go.Proofs.YtldgadmpclgfhaaGreat.Irqs
set_option linter.unusedVariables false
set_option linter.unusedSimpArgs false
theorem specx_mcopy (xs : (List (List Int))) (A : Option Addr) (c : Nat) (w : World) (hc : (rLsw (rLsw rInt)).cap xs) (h : rdLst (rLsw rInt) w 0 w.heap.size xs [.slice A xs.length c]) : Calls Tryz.prog 81 #[.slice A xs.length c] w (Gives (rLst 28 (rLsw rInt)) w xs) := by
 obtain ⟨hl, hce⟩ := hc
 refine Sx.enter (args := [.slice A xs.length c]) Tryz.func81 rfl Tryz.ntmps81 rfl ?_
 refine Sx.C.seq (Sx.C.region ?_)
 refine Sx.G.p (.slice none 0 0) ?_
 refine Sx.G.nil (Sx.E.next (Sx.C.seq (Sx.C.region ?_)))
 refine Sx.G.fresh 28 (rLsw rInt) (by kernel_rfl) (fun w => by kernel_rfl) (fun b1 hi1 => ?_)
 refine Sx.G.p (.slice (some ⟨b1, 0, none⟩) 0 0) ?_
 refine Sx.G.nil (Sx.E.next (Sx.C.seq (Sx.C.seq (Sx.C.region ?_))))
 refine Sx.G.p (.int .i64 0) ?_
 refine Sx.G.nil (Sx.E.next (Sx.C.block ?_))
 refine Sx.C.loop (α := Nat × Option Addr × Nat × Nat × List Nat) (fun x => x.1 ≤ xs.length) (fun x => [(4, .int .i64 (x.1 : Int)), (3, .slice x.2.1 x.1 x.2.2.1), (0, .slice A xs.length c), (2, .slice none 0 0)]) (fun x => [ow (rLst 28 (rLsw rInt)) w.heap.size x.2.2.2.1 (xs.take x.1) [.slice x.2.1 x.1 x.2.2.1] x.2.2.2.2]) (fun x => xs.length - x.1) (0, (some ⟨b1, 0, none⟩), 0, hi1, [b1]) (Nat.zero_le _) (fun a hA => (Sx.Ag.and hA (Sx.Ag.and hA (Sx.Ag.and hA (Sx.Ag.and hA (Sx.Ag.none hA) _ _ (by kernel_rfl)) _ _ (by kernel_rfl)) _ _ (by kernel_rfl)) _ _ (by kernel_rfl))) (fun w' S => by have S2 := Sx.St.widen S 0 rfl (Nat.le_refl _) (S.hi 0 _ rfl); exact S2) (fun x hx => ?_)
 obtain ⟨i, xA, xc, xh, xF⟩ := x
 dsimp only at hx
 refine Sx.C.seq (Sx.C.seq (Sx.C.region ?_))
 refine Sx.G.p (.int .i64 (i : Int)) ?_
 refine Sx.G.p (.slice A xs.length c) ?_
 refine Sx.G.p (.int .i64 ((xs.length : Nat) : Int)) ?_
 refine Sx.G.p (.bool (decide ((i : Int) < ((xs.length : Nat) : Int)))) ?_
 refine Sx.G.nil (Sx.E.next ?_)
 cases hc2 : (decide ((i : Int) < ((xs.length : Nat) : Int)))
 ·
  have hb2 := hc2
  replace hc2 := of_decide_eq_false hc2
  refine Sx.C.no (by kernel_rfl) (by kernel_rfl) ?_
  refine Sx.C.exit (Sx.E.then_exit (Sx.E.then_exit (Sx.E.block_hit (Sx.E.next (Sx.C.seq (Sx.C.region ?_))))))
  refine Sx.G.p (.slice xA i xc) ?_
  refine Sx.G.p (.slice xA i xc) ?_
  refine Sx.G.nil (Sx.E.next (Sx.C.ret ?_))
  refine Sx.E.ret1 (.slice xA i xc) rfl (by kernel_rfl) (fun w S => ?_)
  have h2' : xs.take i = xs := List.take_of_length_le (by omega)
  obtain rfl : i = xs.length := by omega
  rw [h2'] at S
  exact ⟨[_], _, rfl, S.own 0 rfl, S.nodup 0 rfl, S.below⟩
 ·
  have hb2 := hc2
  replace hc2 := of_decide_eq_true hc2
  refine Sx.C.yes (by kernel_rfl) (by kernel_rfl) ?_
  refine Sx.C.skip (Sx.E.next (Sx.C.seq (Sx.C.block (Sx.C.region ?_))))
  refine Sx.G.p (.slice xA i xc) ?_
  refine Sx.G.fresh 3 rInt (by kernel_rfl) (fun w => by kernel_rfl) (fun b3 hi3 => ?_)
  refine Sx.G.p (.slice A xs.length c) ?_
  refine Sx.G.p (.int .i64 (i : Int)) ?_
  obtain ⟨b4, f4, es4, eA4, hr4, hl4, hm4⟩ := Sx.old_elem (by decide) h i (by omega)
  subst eA4
  obtain ⟨x4, hx4⟩ : ∃ z_, z_ = (xs[i]'(by omega)) := ⟨_, rfl⟩
  rw [← hx4] at hr4
  have hle4 : x4.length ≤ 1048576 := (hce _ (hx4 ▸ List.getElem_mem _)).1
  replace hr4 : rdLst rInt w 0 w.heap.size x4 es4 := hr4
  obtain ⟨P4, rfl⟩ := lst_rd hr4
  obtain ⟨A4, c4, e4, -⟩ := lst_val hr4
  subst e4
  refine Sx.G.elem 26 28 (.tmp 14) (.tmp 15) 1 24 b4 f4 xs.length c i rfl (by kernel_rfl) (by kernel_rfl) (by kernel_rfl) (by kernel_rfl) (by omega) ?_
  refine Sx.G.ldr1 28 (.tmp 16) b4 ((f4 + i * 1) + 0) (.slice A4 x4.length c4) rfl (by kernel_rfl) (by kernel_rfl) (fun w S => hm4 w _ S 0 _ rfl) (by kernel_rfl) ?_
  refine Sx.G.apps 0 rfl x4 (fun w S => St.old (r := (rLsw rInt)) S hr4) (List.nil_append _) x4.length (by simp) flat_int (.tmp 13) (.tmp 17) 28 1 8 rfl rfl (by kernel_rfl) (by kernel_rfl) rfl (by kernel_rfl) (by kernel_rfl) (by simp only [maxLen, List.length_nil, List.length_cons]; omega) (by simp only [List.length_nil, List.length_cons]; omega) (fun A5 c5 F5 hi5 hm5 => ?_)
  refine Sx.G.made 28 [.slice A5 x4.length c5] 1 (by kernel_rfl) (fun w => by kernel_rfl) (fun b6 => ?_)
  refine Sx.G.turn (ι := List Nat) (p := fun _ => True) (fun F7 => [vr b6 [.slice A5 x4.length c5], ow (rLsw rInt) w.heap.size hi5 x4 [.slice A5 x4.length c5] F7, ow (rLst 28 (rLsw rInt)) w.heap.size xh (xs.take i) [.slice xA i xc] xF]) (fun w S => by obtain ⟨F', S⟩ := St.weak S 1 rfl; exact ⟨F', trivial, S⟩) (fun F7 _ => ?_)
  refine Sx.G.claims (L' := [ow (rLst 28 (rLsw rInt)) w.heap.size xh (xs.take i) [.slice xA i xc] xF, ow (rLsw rInt) w.heap.size hi5 x4 [.slice A5 x4.length c5] F7, vr b6 [.slice A5 x4.length c5]]) (fun w S => St.pick S [2, 1, 0] _ rfl (by decide)) ?_
  refine Sx.G.appr (.tmp 12) (.tmp 19) 26 1 24 1 rfl (by kernel_rfl) (by kernel_rfl) rfl (by kernel_rfl) (by kernel_rfl) (by kernel_rfl) (by rw [List.length_take]; simp only [maxLen]; omega) (by rw [List.length_take]; omega) (xs.take (i + 1)) (by rw [hx4]; exact (Kit.take_step (by omega)).symm) (i + 1) (by rw [List.length_take]; omega) (fun A8 c8 F8 hi8 hm8 => ?_)
  refine Sx.G.p (.slice A8 (i + 1) c8) ?_
  refine Sx.G.nil (Sx.E.block_normal (Sx.E.next (Sx.C.region ?_)))
  refine Sx.G.p (.int .i64 (i : Int)) ?_
  refine Sx.G.q (.int .i64 (IntKind.i64.wrap ((i : Int) + 1))) (.int .i64 ((i + 1 : Nat) : Int)) (congrArg (Value.int .i64) (Sx.wrap_up i (by omega))) ?_
  refine Sx.G.p (.int .i64 ((i + 1 : Nat) : Int)) ?_
  refine Sx.G.nil ?_
  exact Sx.E.again (i + 1, A8, c8, hi8, F8) (by show i + 1 ≤ xs.length; omega) (by show xs.length - (i + 1) < xs.length - i; omega) (fun a hA => (Sx.Ag.and hA (Sx.Ag.and hA (Sx.Ag.and hA (Sx.Ag.and hA (Sx.Ag.none hA) _ _ (by kernel_rfl)) _ _ (by kernel_rfl)) _ _ (by kernel_rfl)) _ _ (by kernel_rfl))) (fun w' S => St.pick S [0] _ rfl (by decide))
theorem specx_gscopy (xs : (List gT)) (A : Option Addr) (c : Nat) (w : World) (hc : (rLsw wG).cap xs) (h : rdLst wG w 0 w.heap.size xs [.slice A xs.length c]) : Calls Tryz.prog 82 #[.slice A xs.length c] w (Gives (rLst 39 wG) w xs) := by
 obtain ⟨hl, hce⟩ := hc
 refine Sx.enter (args := [.slice A xs.length c]) Tryz.func82 rfl Tryz.ntmps82 rfl ?_
 refine Sx.C.seq (Sx.C.region ?_)
 refine Sx.G.p (.slice none 0 0) ?_
 refine Sx.G.nil (Sx.E.next (Sx.C.seq (Sx.C.region ?_)))
 refine Sx.G.fresh 39 wG (by kernel_rfl) (fun w => by kernel_rfl) (fun b1 hi1 => ?_)
 refine Sx.G.p (.slice (some ⟨b1, 0, none⟩) 0 0) ?_
 refine Sx.G.nil (Sx.E.next (Sx.C.seq (Sx.C.seq (Sx.C.region ?_))))
 refine Sx.G.p (.int .i64 0) ?_
 refine Sx.G.nil (Sx.E.next (Sx.C.block ?_))
 refine Sx.C.loop (α := Nat × Option Addr × Nat × Nat × List Nat) (fun x => x.1 ≤ xs.length) (fun x => [(4, .int .i64 (x.1 : Int)), (3, .slice x.2.1 x.1 x.2.2.1), (0, .slice A xs.length c), (2, .slice none 0 0)]) (fun x => [ow (rLst 39 wG) w.heap.size x.2.2.2.1 (xs.take x.1) [.slice x.2.1 x.1 x.2.2.1] x.2.2.2.2]) (fun x => xs.length - x.1) (0, (some ⟨b1, 0, none⟩), 0, hi1, [b1]) (Nat.zero_le _) (fun a hA => (Sx.Ag.and hA (Sx.Ag.and hA (Sx.Ag.and hA (Sx.Ag.and hA (Sx.Ag.none hA) _ _ (by kernel_rfl)) _ _ (by kernel_rfl)) _ _ (by kernel_rfl)) _ _ (by kernel_rfl))) (fun w' S => by have S2 := Sx.St.widen S 0 rfl (Nat.le_refl _) (S.hi 0 _ rfl); exact S2) (fun x hx => ?_)
 obtain ⟨i, xA, xc, xh, xF⟩ := x
 dsimp only at hx
 refine Sx.C.seq (Sx.C.seq (Sx.C.region ?_))
 refine Sx.G.p (.int .i64 (i : Int)) ?_
 refine Sx.G.p (.slice A xs.length c) ?_
 refine Sx.G.p (.int .i64 ((xs.length : Nat) : Int)) ?_
 refine Sx.G.p (.bool (decide ((i : Int) < ((xs.length : Nat) : Int)))) ?_
 refine Sx.G.nil (Sx.E.next ?_)
 cases hc2 : (decide ((i : Int) < ((xs.length : Nat) : Int)))
 ·
  have hb2 := hc2
  replace hc2 := of_decide_eq_false hc2
  refine Sx.C.no (by kernel_rfl) (by kernel_rfl) ?_
  refine Sx.C.exit (Sx.E.then_exit (Sx.E.then_exit (Sx.E.block_hit (Sx.E.next (Sx.C.seq (Sx.C.region ?_))))))
  refine Sx.G.p (.slice xA i xc) ?_
  refine Sx.G.p (.slice xA i xc) ?_
  refine Sx.G.nil (Sx.E.next (Sx.C.ret ?_))
  refine Sx.E.ret1 (.slice xA i xc) rfl (by kernel_rfl) (fun w S => ?_)
  have h2' : xs.take i = xs := List.take_of_length_le (by omega)
  obtain rfl : i = xs.length := by omega
  rw [h2'] at S
  exact ⟨[_], _, rfl, S.own 0 rfl, S.nodup 0 rfl, S.below⟩
 ·
  have hb2 := hc2
  replace hc2 := of_decide_eq_true hc2
  refine Sx.C.yes (by kernel_rfl) (by kernel_rfl) ?_
  refine Sx.C.skip (Sx.E.next (Sx.C.seq (Sx.C.block (Sx.C.region ?_))))
  refine Sx.G.p (.slice xA i xc) ?_
  refine Sx.G.p (.slice A xs.length c) ?_
  refine Sx.G.p (.int .i64 (i : Int)) ?_
  obtain ⟨b3, f3, es3, eA3, hr3, hl3, hm3⟩ := Sx.old_elem (by decide) h i (by omega)
  subst eA3
  obtain ⟨x3, hx3⟩ : ∃ z_, z_ = (xs[i]'(by omega)) := ⟨_, rfl⟩
  rw [← hx3] at hr3
  have hR3 := hr3
  obtain ⟨P3_0, P3_1, P3_2, P3_3, rfl, hf3_0, hf3_1, hf3_2, hf3_3⟩ := wG_rd hr3
  obtain ⟨A3_0, c3_0, e3_0, -⟩ := lst_val hf3_0
  subst e3_0
  obtain ⟨A3_1, c3_1, e3_1, -⟩ := lst_val hf3_1
  subst e3_1
  obtain ⟨A3_2, c3_2, e3_2, -⟩ := lst_val hf3_2
  subst e3_2
  obtain ⟨A3_3, c3_3, e3_3, -⟩ := lst_val hf3_3
  subst e3_3
  refine Sx.G.elem 27 39 (.tmp 13) (.tmp 14) 15 184 b3 f3 xs.length c i rfl (by kernel_rfl) (by kernel_rfl) (by kernel_rfl) (by kernel_rfl) (by omega) ?_
  refine Sx.G.ldr 39 (.tmp 15) b3 (f3 + i * 15) [.slice A3_0 x3.prog.length c3_0, .int .i64 x3.a, .int .i64 x3.pc, .slice A3_1 x3.wr.length c3_1, .slice A3_2 x3.lv.length c3_2, .int .i64 x3.t.1, .int .i64 x3.t.2.1, .bool x3.t.2.2, .int .i64 x3.pd, .int .i64 x3.x.1, .int .i64 x3.x.2.1, .bool x3.x.2.2.1, .int .i64 x3.x.2.2.2, .bool x3.hl, .slice A3_3 x3.seen.length c3_3] rfl (by kernel_rfl) (by kernel_rfl) (fun w S => hm3 w _ S) (by kernel_rfl) (by kernel_rfl) ?_
  refine Sx.G.c 38 #[.agg #[.slice A3_0 x3.prog.length c3_0, .int .i64 x3.a, .int .i64 x3.pc, .slice A3_1 x3.wr.length c3_1, .slice A3_2 x3.lv.length c3_2, .int .i64 x3.t.1, .int .i64 x3.t.2.1, .bool x3.t.2.2, .int .i64 x3.pd, .int .i64 x3.x.1, .int .i64 x3.x.2.1, .bool x3.x.2.2.1, .int .i64 x3.x.2.2.2, .bool x3.hl, .slice A3_3 x3.seen.length c3_3]] (fun w4 S => (((Guests.specx_copy x3 _ _ (cap_G (hce _ (hx3 ▸ List.getElem_mem _))) (rd_G (St.old S hR3))).mono weak_G)).mono fun e w4' hp => ?_)
  obtain ⟨cs, F, rfl, ho, hF, hb⟩ := hp
  obtain ⟨P4_0, P4_1, P4_2, P4_3, rfl, f4_0, f4_1, f4_2, f4_3⟩ := wG_rd (wG.reads ho)
  obtain ⟨A4_0, c4_0, e4_0, -⟩ := lst_val f4_0
  subst e4_0
  obtain ⟨A4_1, c4_1, e4_1, -⟩ := lst_val f4_1
  subst e4_1
  obtain ⟨A4_2, c4_2, e4_2, -⟩ := lst_val f4_2
  subst e4_2
  obtain ⟨A4_3, c4_3, e4_3, -⟩ := lst_val f4_3
  subst e4_3
  generalize F = F4 at ho hF
  refine ⟨_, _, rfl, (St.got S hb ho hF), ?_⟩
  clear S hb ho hF f4_0 f4_1 f4_2 f4_3
  refine Sx.G.made 39 [.slice A4_0 x3.prog.length c4_0, .int .i64 x3.a, .int .i64 x3.pc, .slice A4_1 x3.wr.length c4_1, .slice A4_2 x3.lv.length c4_2, .int .i64 x3.t.1, .int .i64 x3.t.2.1, .bool x3.t.2.2, .int .i64 x3.pd, .int .i64 x3.x.1, .int .i64 x3.x.2.1, .bool x3.x.2.2.1, .int .i64 x3.x.2.2.2, .bool x3.hl, .slice A4_3 x3.seen.length c4_3] 1 (by kernel_rfl) (fun w => by kernel_rfl) (fun b5 => ?_)
  refine Sx.G.claims (L' := [ow (rLst 39 wG) w.heap.size xh (xs.take i) [.slice xA i xc] xF, ow wG w4.heap.size w4'.heap.size x3 [.slice A4_0 x3.prog.length c4_0, .int .i64 x3.a, .int .i64 x3.pc, .slice A4_1 x3.wr.length c4_1, .slice A4_2 x3.lv.length c4_2, .int .i64 x3.t.1, .int .i64 x3.t.2.1, .bool x3.t.2.2, .int .i64 x3.pd, .int .i64 x3.x.1, .int .i64 x3.x.2.1, .bool x3.x.2.2.1, .int .i64 x3.x.2.2.2, .bool x3.hl, .slice A4_3 x3.seen.length c4_3] F4, vr b5 [.slice A4_0 x3.prog.length c4_0, .int .i64 x3.a, .int .i64 x3.pc, .slice A4_1 x3.wr.length c4_1, .slice A4_2 x3.lv.length c4_2, .int .i64 x3.t.1, .int .i64 x3.t.2.1, .bool x3.t.2.2, .int .i64 x3.pd, .int .i64 x3.x.1, .int .i64 x3.x.2.1, .bool x3.x.2.2.1, .int .i64 x3.x.2.2.2, .bool x3.hl, .slice A4_3 x3.seen.length c4_3]]) (fun w S => St.pick S [2, 1, 0] _ rfl (by decide)) ?_
  refine Sx.G.appr (.tmp 12) (.tmp 18) 27 15 184 1 rfl (by kernel_rfl) (by kernel_rfl) rfl (by kernel_rfl) (by kernel_rfl) (by kernel_rfl) (by rw [List.length_take]; simp only [maxLen]; omega) (by rw [List.length_take]; omega) (xs.take (i + 1)) (by rw [hx3]; exact (Kit.take_step (by omega)).symm) (i + 1) (by rw [List.length_take]; omega) (fun A6 c6 F6 hi6 hm6 => ?_)
  refine Sx.G.p (.slice A6 (i + 1) c6) ?_
  refine Sx.G.nil (Sx.E.block_normal (Sx.E.next (Sx.C.region ?_)))
  refine Sx.G.p (.int .i64 (i : Int)) ?_
  refine Sx.G.q (.int .i64 (IntKind.i64.wrap ((i : Int) + 1))) (.int .i64 ((i + 1 : Nat) : Int)) (congrArg (Value.int .i64) (Sx.wrap_up i (by omega))) ?_
  refine Sx.G.p (.int .i64 ((i + 1 : Nat) : Int)) ?_
  refine Sx.G.nil ?_
  exact Sx.E.again (i + 1, A6, c6, hi6, F6) (by show i + 1 ≤ xs.length; omega) (by show xs.length - (i + 1) < xs.length - i; omega) (fun a hA => (Sx.Ag.and hA (Sx.Ag.and hA (Sx.Ag.and hA (Sx.Ag.and hA (Sx.Ag.none hA) _ _ (by kernel_rfl)) _ _ (by kernel_rfl)) _ _ (by kernel_rfl)) _ _ (by kernel_rfl))) (fun w' S => St.pick S [0] _ rfl (by decide))
def putB (b : bT) (n : Int) : bT := if b.outs.length < 40 then { b with outs := b.outs ++ [n] } else b
def bareOk (b : bT) : Bool := b.gs.all guestOk && Grid.memB b.mem 8 && inB ((b.gs.length : Nat) : Int) 1 2 && decide (((b.outs.length : Nat) : Int) ≤ 40) && Irqs.pend b.pd
def zeroG : gT := { prog := [], a := 0, pc := 0, wr := [], lv := [], t := (0, 0, false), pd := 0, x := (0, 0, false, 0), hl := false, seen := [] }
def guestAt (b : bT) (g : Int) : gT × Bool := if inB g 0 ((b.gs.length : Int) - 1) = true then (b.gs.getD g.toNat zeroG, true) else (zeroG, false)
def withG (b : bT) (g : Int) (x : gT) : bT := if inB g 0 ((b.gs.length : Int) - 1) = true then { b with gs := b.gs.set g.toNat x } else b
def Gives2 {α : Type} (r : Rp α) (w : World) (x : α × Bool) (e : Ending) (w' : World) : Prop := ∃ cs F, e = .returned (.tuple #[.agg (cs : List Value).toArray, .bool x.2]) ∧ r.own w' w.heap.size w'.heap.size x.1 cs F ∧ F.Nodup ∧ Below w.heap.size w w'
def newB (progs : List (List (Int × Int))) : bT := { mem := List.replicate 8 ([0, 0, 0, 0] : List Int), gs := (progs.take 2).map newG, outs := [], pd := 0 }
theorem set_at {α : Type} {xs : List α} {j : Nat} {y : α} (h : j < xs.length) : xs.set j y = xs.take j ++ y :: xs.drop (j + 1) := by
 rw [List.set_eq_take_append_cons_drop, if_pos h]
theorem specx_bcopy (x : bT) (cs : List Value) (w : World) (hc : wB.cap x) (h : wB.rd w 0 w.heap.size x cs) : Calls Tryz.prog 40 #[.agg cs.toArray] w (Gives rB w x) := by
 obtain ⟨hcap0, hcap1, hcap2, hcap3⟩ := hc
 have hlo : x.outs.length ≤ 1048576 := hcap2.1
 have hR := h
 obtain ⟨hP0, hP1, hP2, rfl, hf0, hf1, hf2⟩ := wB_rd h
 obtain ⟨hA0, hK0, he0, -⟩ := lst_val hf0
 subst he0
 obtain ⟨hA1, hK1, he1, -⟩ := lst_val hf1
 subst he1
 obtain ⟨hA2, hK2, he2, -⟩ := lst_val hf2
 subst he2
 refine Sx.enter (args := [.agg #[.slice hA0 x.mem.length hK0, .slice hA1 x.gs.length hK1, .slice hA2 x.outs.length hK2, .int .i64 x.pd]]) Tryz.func40 rfl Tryz.ntmps40 rfl ?_
 refine Sx.C.seq (Sx.C.region ?_)
 refine Sx.G.b [.slice hA0 x.mem.length hK0, .slice hA1 x.gs.length hK1, .slice hA2 x.outs.length hK2, .int .i64 x.pd] (fun b1 => ?_)
 refine Sx.G.ar [.slice none 0 0, .slice none 0 0, .slice none 0 0, .int .i64 0] (fun b2 => ?_)
 refine Sx.G.nil (Sx.E.next (Sx.C.seq ?_))
 refine Sx.C.cut (fun e a w' => e = .normal ∧ ∃ (Y0 : Option Addr) (Y1 : Nat) (Y2 : List Nat) (Y3 : Nat) (Y4 : Nat) (Y5 : Option Addr) (Y6 : Nat) (Y7 : List Nat) (Y8 : Nat) (Y9 : Nat) (Y10 : Nat) (Y11 : Nat) (Y12 : Option Addr) (Y13 : Nat) (Y14 : List Nat) (Y15 : Nat), Sx.Ag 16 [(2, .pointer (some ⟨b2, 0, none⟩))] a ∧ St w w' [ow (rLst 3 rInt) w.heap.size Y15 x.outs [.slice Y12 x.outs.length Y13] Y14, ow (rLsw wG) Y8 Y9 x.gs [.slice Y5 x.gs.length Y6] Y7, ow (rLsw (rLsw rInt)) Y3 Y4 x.mem [.slice Y0 x.mem.length Y1] Y2, vr b2 [.slice Y0 x.mem.length Y1, .slice Y5 x.gs.length Y6, .slice Y12 x.outs.length Y13, .int .i64 x.pd], vr b1 [.slice hA0 x.mem.length hK0, .slice hA1 x.gs.length hK1, .slice hA2 x.outs.length hK2, .int .i64 x.pd]]) ?_ ?_
 ·
  refine Sx.C.draw (.take 0 (.take 1 (.take 3 (.take 4 (.take 7 (.take 8 (.take 10 (.take 11 (.two 2 (.two 5 (.alone 6 (.alone 9 (.take 12 (.alone 13 .nil)))) 6 (.alone 5 (.alone 9 (.take 12 (.alone 13 .nil))))) 6 (.alone 2 (.alone 5 (.alone 9 (.take 12 (.alone 13 .nil)))))))))))))) [vr b1 [.slice hA0 x.mem.length hK0, .slice hA1 x.gs.length hK1, .slice hA2 x.outs.length hK2, .int .i64 x.pd]] (fun w S => St.pick S [1] _ rfl (by decide)) (by kernel_rfl) (by kernel_rfl) (by kernel_rfl) ?_
  refine Sx.GT.p (.pointer (some ⟨b1, 0, none⟩)) ?_
  refine Sx.GT.g (.slice hA0 x.mem.length hK0) .m0 .m0 ?_
  refine Sx.GT.p (.pointer (some ⟨b1, 1, none⟩)) ?_
  refine Sx.GT.g (.slice hA1 x.gs.length hK1) .m0 .m1 ?_
  refine Sx.GT.p (.pointer (some ⟨b1, 2, none⟩)) ?_
  refine Sx.GT.g (.slice hA2 x.outs.length hK2) .m0 .m2 ?_
  refine Sx.GT.p (.pointer (some ⟨b1, 3, none⟩)) ?_
  refine Sx.GT.g (.int .i64 x.pd) .m0 .m3 ?_
  refine Sx.GT.two ?_ ?_
  ·
   refine Sx.Alone.c 81 #[.slice hA0 x.mem.length hK0] (fun w3 S => (specx_mcopy x.mem hA0 hK0 _ hcap0 (St.old (r := (rLsw (rLsw rInt))) S hf0)).mono fun e w3' hp => ?_)
   obtain ⟨cs, F, rfl, ho, hF, hb⟩ := hp
   obtain ⟨u3, rfl⟩ := lst_own ho
   obtain ⟨A3, c3, e3, -⟩ := lst_val ((rLst _ _).reads ho)
   subst e3
   obtain ⟨F3, S'⟩ := St.weak (St.got S hb ho hF) 0 rfl
   refine ⟨_, _, rfl, S', (fun w S => St.pick S [2] _ rfl (by decide)), ?_⟩
   clear S S' hb ho hF
   refine Sx.GT.two ?_ ?_
   ·
    refine Sx.Alone.c 82 #[.slice hA1 x.gs.length hK1] (fun w4 S => (specx_gscopy x.gs hA1 hK1 _ hcap1 (St.old (r := (rLsw wG)) S hf1)).mono fun e w4' hp => ?_)
    obtain ⟨cs, F, rfl, ho, hF, hb⟩ := hp
    obtain ⟨u4, rfl⟩ := lst_own ho
    obtain ⟨A4, c4, e4, -⟩ := lst_val ((rLst _ _).reads ho)
    subst e4
    obtain ⟨F4, S'⟩ := St.weak (St.got S hb ho hF) 0 rfl
    refine ⟨_, _, rfl, S', (fun w S => St.pick S [3] _ rfl (by decide)), ?_⟩
    clear S S' hb ho hF
    refine Sx.GT.alone (Sx.Alone.fresh 3 rInt (by rfl) (by kernel_rfl) (fun w => by kernel_rfl) (fun w S => St.pick S [3] _ rfl (by decide)) (fun b5 hi5 => ?_))
    refine Sx.GT.alone (Sx.Alone.apps 0 (by rfl) x.outs (fun w S => St.old (r := (rLsw rInt)) S hf2) (List.nil_append _) x.outs.length (by simp) flat_int (.tmp 9) (.tmp 11) 28 1 8 (by rfl) (by rfl) (by kernel_rfl) (by kernel_rfl) (by rfl) (by kernel_rfl) (by kernel_rfl) (by simp only [maxLen, List.length_nil, List.length_cons]; omega) (by simp only [List.length_nil, List.length_cons]; omega) (fun _ _ _ _ w S => St.pick S [4] _ rfl (by decide)) (fun A6 c6 F6 hi6 hm6 => ?_))
    refine Sx.GT.p (.agg #[.slice A3 x.mem.length c3, .slice A4 x.gs.length c4, .slice A6 x.outs.length c6, .int .i64 x.pd]) ?_
    refine Sx.GT.alone (Sx.Alone.sw [.slice A3 x.mem.length c3, .slice A4 x.gs.length c4, .slice A6 x.outs.length c6, .int .i64 x.pd] .a3 (fun w S => St.pick S [4] _ rfl (by decide)) ?_)
    exact Sx.GT.nil (fun a w' hA S => ⟨rfl, A3, c3, F3, w3.heap.size, w3'.heap.size, A4, c4, F4, w4.heap.size, w4'.heap.size, 0, 0, A6, c6, F6, hi6, (Sx.Ag.and hA (Sx.Ag.none hA) _ _ (by kernel_rfl)), St.pick S [0, 1, 2, 3, 4] _ rfl (by decide)⟩)
   ·
    refine Sx.Alone.fresh 3 rInt (by rfl) (by kernel_rfl) (fun w => by kernel_rfl) (fun w S => St.pick S [2] _ rfl (by decide)) (fun b7 hi7 => ?_)
    refine Sx.GT.alone (Sx.Alone.c 82 #[.slice hA1 x.gs.length hK1] (fun w8 S => (specx_gscopy x.gs hA1 hK1 _ hcap1 (St.old (r := (rLsw wG)) S hf1)).mono fun e w8' hp => ?_))
    obtain ⟨cs, F, rfl, ho, hF, hb⟩ := hp
    obtain ⟨u8, rfl⟩ := lst_own ho
    obtain ⟨A8, c8, e8, -⟩ := lst_val ((rLst _ _).reads ho)
    subst e8
    obtain ⟨F8, S'⟩ := St.weak (St.got S hb ho hF) 0 rfl
    refine ⟨_, _, rfl, S', (fun w S => St.pick S [4] _ rfl (by decide)), ?_⟩
    clear S S' hb ho hF
    refine Sx.GT.alone (Sx.Alone.apps 1 (by rfl) x.outs (fun w S => St.old (r := (rLsw rInt)) S hf2) (List.nil_append _) x.outs.length (by simp) flat_int (.tmp 9) (.tmp 11) 28 1 8 (by rfl) (by rfl) (by kernel_rfl) (by kernel_rfl) (by rfl) (by kernel_rfl) (by kernel_rfl) (by simp only [maxLen, List.length_nil, List.length_cons]; omega) (by simp only [List.length_nil, List.length_cons]; omega) (fun _ _ _ _ w S => St.pick S [4] _ rfl (by decide)) (fun A9 c9 F9 hi9 hm9 => ?_))
    refine Sx.GT.p (.agg #[.slice A3 x.mem.length c3, .slice A8 x.gs.length c8, .slice A9 x.outs.length c9, .int .i64 x.pd]) ?_
    refine Sx.GT.alone (Sx.Alone.sw [.slice A3 x.mem.length c3, .slice A8 x.gs.length c8, .slice A9 x.outs.length c9, .int .i64 x.pd] .a3 (fun w S => St.pick S [4] _ rfl (by decide)) ?_)
    exact Sx.GT.nil (fun a w' hA S => ⟨rfl, A3, c3, F3, w3.heap.size, w3'.heap.size, A8, c8, F8, w8.heap.size, w8'.heap.size, 0, 0, A9, c9, F9, hi9, (Sx.Ag.and hA (Sx.Ag.none hA) _ _ (by kernel_rfl)), St.pick S [1, 0, 2, 3, 4] _ rfl (by decide)⟩)
  ·
   refine Sx.Alone.fresh 3 rInt (by rfl) (by kernel_rfl) (fun w => by kernel_rfl) (fun w S => St.pick S [1] _ rfl (by decide)) (fun b10 hi10 => ?_)
   refine Sx.GT.alone (Sx.Alone.c 81 #[.slice hA0 x.mem.length hK0] (fun w11 S => (specx_mcopy x.mem hA0 hK0 _ hcap0 (St.old (r := (rLsw (rLsw rInt))) S hf0)).mono fun e w11' hp => ?_))
   obtain ⟨cs, F, rfl, ho, hF, hb⟩ := hp
   obtain ⟨u11, rfl⟩ := lst_own ho
   obtain ⟨A11, c11, e11, -⟩ := lst_val ((rLst _ _).reads ho)
   subst e11
   obtain ⟨F11, S'⟩ := St.weak (St.got S hb ho hF) 0 rfl
   refine ⟨_, _, rfl, S', (fun w S => St.pick S [3] _ rfl (by decide)), ?_⟩
   clear S S' hb ho hF
   refine Sx.GT.alone (Sx.Alone.c 82 #[.slice hA1 x.gs.length hK1] (fun w12 S => (specx_gscopy x.gs hA1 hK1 _ hcap1 (St.old (r := (rLsw wG)) S hf1)).mono fun e w12' hp => ?_))
   obtain ⟨cs, F, rfl, ho, hF, hb⟩ := hp
   obtain ⟨u12, rfl⟩ := lst_own ho
   obtain ⟨A12, c12, e12, -⟩ := lst_val ((rLst _ _).reads ho)
   subst e12
   obtain ⟨F12, S'⟩ := St.weak (St.got S hb ho hF) 0 rfl
   refine ⟨_, _, rfl, S', (fun w S => St.pick S [4] _ rfl (by decide)), ?_⟩
   clear S S' hb ho hF
   refine Sx.GT.alone (Sx.Alone.apps 2 (by rfl) x.outs (fun w S => St.old (r := (rLsw rInt)) S hf2) (List.nil_append _) x.outs.length (by simp) flat_int (.tmp 9) (.tmp 11) 28 1 8 (by rfl) (by rfl) (by kernel_rfl) (by kernel_rfl) (by rfl) (by kernel_rfl) (by kernel_rfl) (by simp only [maxLen, List.length_nil, List.length_cons]; omega) (by simp only [List.length_nil, List.length_cons]; omega) (fun _ _ _ _ w S => St.pick S [4] _ rfl (by decide)) (fun A13 c13 F13 hi13 hm13 => ?_))
   refine Sx.GT.p (.agg #[.slice A11 x.mem.length c11, .slice A12 x.gs.length c12, .slice A13 x.outs.length c13, .int .i64 x.pd]) ?_
   refine Sx.GT.alone (Sx.Alone.sw [.slice A11 x.mem.length c11, .slice A12 x.gs.length c12, .slice A13 x.outs.length c13, .int .i64 x.pd] .a3 (fun w S => St.pick S [4] _ rfl (by decide)) ?_)
   exact Sx.GT.nil (fun a w' hA S => ⟨rfl, A11, c11, F11, w11.heap.size, w11'.heap.size, A12, c12, F12, w12.heap.size, w12'.heap.size, 0, 0, A13, c13, F13, hi13, (Sx.Ag.and hA (Sx.Ag.none hA) _ _ (by kernel_rfl)), St.pick S [2, 0, 1, 3, 4] _ rfl (by decide)⟩)
 rintro e a w' ⟨rfl, y14_0, y14_1, y14_2, y14_3, y14_4, y14_5, y14_6, y14_7, y14_8, y14_9, y14_10, y14_11, y14_12, y14_13, y14_14, y14_15, hA, S⟩
 refine Sx.E.out ?_ hA S
 clear hA S a w'
 refine Sx.E.next (Sx.C.ret ?_)
 refine Sx.E.retc b2 3 [.slice y14_0 x.mem.length y14_1, .slice y14_5 x.gs.length y14_6, .slice y14_12 x.outs.length y14_13, .int .i64 x.pd] rfl (by kernel_rfl) rfl (by kernel_rfl) (by kernel_rfl) (fun w S => ?_)
 obtain ⟨ho, hF⟩ := rB_shut (g := x) S 2 rfl 1 rfl 0 rfl (by decide) (by decide) (by decide)
 exact ⟨_, _, rfl, ho, hF, S.below⟩
theorem specx_putout (x : bT) (cs : List Value) (n : Int) (w : World) (hc : wB.cap x) (h : wB.rd w 0 w.heap.size x cs) : Calls Tryz.prog 20 #[.agg cs.toArray, .int .i64 n] w (Gives rB w (putB x n)) := by
 have hlo : x.outs.length ≤ 1048576 := hc.2.2.1.1
 have hR := h
 obtain ⟨hP0, hP1, hP2, rfl, hf0, hf1, hf2⟩ := wB_rd h
 obtain ⟨hA0, hK0, he0, -⟩ := lst_val hf0
 subst he0
 obtain ⟨hA1, hK1, he1, -⟩ := lst_val hf1
 subst he1
 obtain ⟨hA2, hK2, he2, -⟩ := lst_val hf2
 subst he2
 refine Sx.enter (args := [.agg #[.slice hA0 x.mem.length hK0, .slice hA1 x.gs.length hK1, .slice hA2 x.outs.length hK2, .int .i64 x.pd], .int .i64 n]) Tryz.func20 rfl Tryz.ntmps20 rfl ?_
 refine Sx.C.seq (Sx.C.region ?_)
 refine Sx.G.b [.slice hA0 x.mem.length hK0, .slice hA1 x.gs.length hK1, .slice hA2 x.outs.length hK2, .int .i64 x.pd] (fun b1 => ?_)
 refine Sx.G.ar [.slice none 0 0, .slice none 0 0, .slice none 0 0, .int .i64 0] (fun b2 => ?_)
 refine Sx.G.nil (Sx.E.next (Sx.C.seq (Sx.C.region ?_)))
 refine Sx.G.lw .m1 ?_
 refine Sx.G.c 40 #[.agg #[.slice hA0 x.mem.length hK0, .slice hA1 x.gs.length hK1, .slice hA2 x.outs.length hK2, .int .i64 x.pd]] (fun w3 S => (specx_bcopy x _ _ hc (St.old S hR)).mono fun e w3' hp => ?_)
 obtain ⟨cs, F, rfl, ho, hF, hb⟩ := hp
 obtain ⟨P3_0, P3_1, P3_2, G3_0, G3_1, G3_2, rfl, S'⟩ := rB_open (St.got S hb ho hF)
 obtain ⟨A3_0, c3_0, e3_0, -⟩ := lst_val (S'.reads 0 rfl)
 subst e3_0
 obtain ⟨A3_1, c3_1, e3_1, -⟩ := lst_val (S'.reads 1 rfl)
 subst e3_1
 obtain ⟨A3_2, c3_2, e3_2, -⟩ := lst_val (S'.reads 2 rfl)
 subst e3_2
 refine ⟨_, _, rfl, S', ?_⟩
 clear S S' ho hF hb
 refine Sx.G.sw [.slice A3_0 x.mem.length c3_0, .slice A3_1 x.gs.length c3_1, .slice A3_2 x.outs.length c3_2, .int .i64 x.pd] .a4 ?_
 refine Sx.G.nil (Sx.E.next (Sx.C.seq (Sx.C.seq (Sx.C.region ?_))))
 refine Sx.G.p (.pointer (some ⟨b1, 2, none⟩)) ?_
 refine Sx.G.g (.slice A3_2 x.outs.length c3_2) .m4 .m2 ?_
 refine Sx.G.p (.int .i64 ((x.outs.length : Nat) : Int)) ?_
 refine Sx.G.p (.bool (decide (((x.outs.length : Nat) : Int) < 40))) ?_
 refine Sx.G.nil (Sx.E.next ?_)
 cases hc4 : (decide (((x.outs.length : Nat) : Int) < 40))
 ·
  have hb4 := hc4
  replace hc4 := of_decide_eq_false hc4
  refine Sx.C.no (by kernel_rfl) (by kernel_rfl) ?_
  refine Sx.C.skip (Sx.E.next (Sx.C.seq (Sx.C.region ?_)))
  refine Sx.G.lw .m4 ?_
  refine Sx.G.sw [.slice A3_0 x.mem.length c3_0, .slice A3_1 x.gs.length c3_1, .slice A3_2 x.outs.length c3_2, .int .i64 x.pd] .a3 ?_
  refine Sx.G.nil (Sx.E.next (Sx.C.ret ?_))
  refine Sx.E.retc b2 3 [.slice A3_0 x.mem.length c3_0, .slice A3_1 x.gs.length c3_1, .slice A3_2 x.outs.length c3_2, .int .i64 x.pd] rfl (by kernel_rfl) rfl (by kernel_rfl) (by kernel_rfl) (fun w S => ?_)
  rw [show putB x n = x from if_neg (by omega)]
  obtain ⟨ho, hF⟩ := rB_shut (g := x) S 0 rfl 1 rfl 2 rfl (by decide) (by decide) (by decide)
  exact ⟨_, _, rfl, ho, hF, S.below⟩
 ·
  have hb4 := hc4
  replace hc4 := of_decide_eq_true hc4
  refine Sx.C.yes (by kernel_rfl) (by kernel_rfl) ?_
  refine Sx.C.region ?_
  refine Sx.G.p (.pointer (some ⟨b1, 2, none⟩)) ?_
  refine Sx.G.g (.slice A3_2 x.outs.length c3_2) .m4 .m2 ?_
  refine Sx.G.p (.int .i64 n) ?_
  refine Sx.G.made 3 [.int .i64 n] 1 (by kernel_rfl) (fun w => by kernel_rfl) (fun b5 => ?_)
  refine Sx.G.apps 3 rfl (x.outs ++ [n]) (fun w S => S.box 0 rfl rfl 1 (Nat.le_refl _)) rfl (x.outs.length + 1) (by simp) flat_int (.tmp 12) (.tmp 14) 28 1 8 rfl rfl (by kernel_rfl) (by kernel_rfl) rfl (by kernel_rfl) (by kernel_rfl) (by simp only [maxLen, List.length_nil, List.length_cons]; omega) (by simp only [List.length_nil, List.length_cons]; omega) (fun A6 c6 F6 hi6 hm6 => ?_)
  refine Sx.G.p (.pointer (some ⟨b1, 2, none⟩)) ?_
  refine Sx.G.s (.slice A6 (x.outs.length + 1) c6) .a5 .a2 ?_
  refine Sx.G.nil (Sx.E.next (Sx.C.seq (Sx.C.region ?_)))
  refine Sx.G.lw .m5 ?_
  refine Sx.G.sw [.slice A3_0 x.mem.length c3_0, .slice A3_1 x.gs.length c3_1, .slice A6 (x.outs.length + 1) c6, .int .i64 x.pd] .a4 ?_
  refine Sx.G.nil (Sx.E.next (Sx.C.ret ?_))
  refine Sx.E.retc b2 4 [.slice A3_0 x.mem.length c3_0, .slice A3_1 x.gs.length c3_1, .slice A6 (x.outs.length + 1) c6, .int .i64 x.pd] rfl (by kernel_rfl) rfl (by kernel_rfl) (by kernel_rfl) (fun w S => ?_)
  rw [show putB x n = { x with outs := x.outs ++ [n] } from if_pos (by omega)]
  obtain ⟨ho, hF⟩ := rB_shut (g := ({ x with outs := x.outs ++ [n] } : bT)) S 1 rfl 2 rfl 3 rfl (by decide) (by decide) (by decide)
  exact ⟨_, _, rfl, ho, hF, S.below⟩
theorem specx_gat (x : bT) (cs : List Value) (g : Int) (w : World) (hc : wB.cap x) (h : wB.rd w 0 w.heap.size x cs) : Calls Tryz.prog 11 #[.agg cs.toArray, .int .i64 g] w (Gives2 wG w (guestAt x g)) := by
 obtain ⟨hcap0, hcap1, hcap2, hcap3⟩ := hc
 have hgl : x.gs.length ≤ 1048576 := hcap1.1
 have hR := h
 obtain ⟨hP0, hP1, hP2, rfl, hf0, hf1, hf2⟩ := wB_rd h
 obtain ⟨hA0, hK0, he0, -⟩ := lst_val hf0
 subst he0
 obtain ⟨hA1, hK1, he1, -⟩ := lst_val hf1
 subst he1
 obtain ⟨hA2, hK2, he2, -⟩ := lst_val hf2
 subst he2
 refine Sx.enter (args := [.agg #[.slice hA0 x.mem.length hK0, .slice hA1 x.gs.length hK1, .slice hA2 x.outs.length hK2, .int .i64 x.pd], .int .i64 g]) Tryz.func11 rfl Tryz.ntmps11 rfl ?_
 refine Sx.C.seq (Sx.C.region ?_)
 refine Sx.G.b [.slice hA0 x.mem.length hK0, .slice hA1 x.gs.length hK1, .slice hA2 x.outs.length hK2, .int .i64 x.pd] (fun b1 => ?_)
 refine Sx.G.ar [.slice none 0 0, .int .i64 0, .int .i64 0, .slice none 0 0, .slice none 0 0, .int .i64 0, .int .i64 0, .bool false, .int .i64 0, .int .i64 0, .int .i64 0, .bool false, .int .i64 0, .bool false, .slice none 0 0] (fun b2 => ?_)
 refine Sx.G.p (.bool false) ?_
 refine Sx.G.nil (Sx.E.next (Sx.C.seq (Sx.C.seq (Sx.C.region ?_))))
 refine Sx.G.p (.int .i64 g) ?_
 refine Sx.G.p (.pointer (some ⟨b1, 1, none⟩)) ?_
 refine Sx.G.g (.slice hA1 x.gs.length hK1) .m1 .m1 ?_
 refine Sx.G.p (.int .i64 ((x.gs.length : Nat) : Int)) ?_
 refine Sx.G.q (.int .i64 (IntKind.i64.wrap (((x.gs.length : Nat) : Int) - 1))) (.int .i64 (((x.gs.length : Nat) : Int) - 1)) (congrArg (Value.int .i64) (by rw [IntKind.wrap_i64]; omega)) ?_
 refine Sx.G.cp 37 #[.int .i64 g, .int .i64 0, .int .i64 (((x.gs.length : Nat) : Int) - 1)] (.bool (inB g 0 (((x.gs.length : Nat) : Int) - 1))) (fun w S => by exact ((spec_in g 0 (((x.gs.length : Nat) : Int) - 1) _).mono fun e w' h => And.intro h.1 (Guests.below_same h.2))) ?_
 refine Sx.G.p (.bool (!(inB g 0 (((x.gs.length : Nat) : Int) - 1)))) ?_
 refine Sx.G.nil (Sx.E.next ?_)
 cases hc3 : (inB g 0 (((x.gs.length : Nat) : Int) - 1))
 ·
  have hb3 := hc3
  refine Sx.C.yes (by kernel_rfl) (by kernel_rfl) ?_
  refine Sx.C.seq (Sx.C.region ?_)
  refine Sx.G.p (.agg #[.slice none 0 0, .int .i64 0, .int .i64 0, .slice none 0 0, .slice none 0 0, .int .i64 0, .int .i64 0, .bool false, .int .i64 0, .int .i64 0, .int .i64 0, .bool false, .int .i64 0, .bool false, .slice none 0 0]) ?_
  refine Sx.G.sw [.slice none 0 0, .int .i64 0, .int .i64 0, .slice none 0 0, .slice none 0 0, .int .i64 0, .int .i64 0, .bool false, .int .i64 0, .int .i64 0, .int .i64 0, .bool false, .int .i64 0, .bool false, .slice none 0 0] .a0 ?_
  refine Sx.G.p (.bool false) ?_
  refine Sx.G.nil (Sx.E.next (Sx.C.ret (Sx.E.then_ret ?_)))
  refine Sx.E.retg2 (.agg #[.slice none 0 0, .int .i64 0, .int .i64 0, .slice none 0 0, .slice none 0 0, .int .i64 0, .int .i64 0, .bool false, .int .i64 0, .int .i64 0, .int .i64 0, .bool false, .int .i64 0, .bool false, .slice none 0 0]) (.bool false) rfl (Sx.IsRes.row b2 0 [.slice none 0 0, .int .i64 0, .int .i64 0, .slice none 0 0, .slice none 0 0, .int .i64 0, .int .i64 0, .bool false, .int .i64 0, .int .i64 0, .int .i64 0, .bool false, .int .i64 0, .bool false, .slice none 0 0] (by kernel_rfl) rfl (by kernel_rfl) (by kernel_rfl)) (Sx.IsRes.slot (by kernel_rfl)) (fun w S => ?_)
  rw [show guestAt x g = (zeroG, false) from if_neg (by rw [hc3]; decide)]
  exact ⟨_, [], rfl, own_zero_Guest _ _ _, List.nodup_nil, S.below⟩
 ·
  have hb3 := hc3
  have hin := inB_iff.1 hc3
  obtain ⟨j, hj⟩ : ∃ j : Nat, g = (j : Int) := ⟨g.toNat, by omega⟩
  subst hj
  have hjl : j < x.gs.length := by omega
  refine Sx.C.no (by kernel_rfl) (by kernel_rfl) ?_
  refine Sx.C.skip (Sx.E.next (Sx.C.seq (Sx.C.region ?_)))
  refine Sx.G.p (.pointer (some ⟨b1, 1, none⟩)) ?_
  refine Sx.G.g (.slice hA1 x.gs.length hK1) .m1 .m1 ?_
  refine Sx.G.p (.int .i64 (j : Int)) ?_
  obtain ⟨b4, f4, es4, eA4, hr4, hl4, hm4⟩ := Sx.old_elem (by decide) hf1 j (by omega)
  subst eA4
  obtain ⟨x4, hx4⟩ : ∃ z_, z_ = (x.gs[j]'(by omega)) := ⟨_, rfl⟩
  rw [← hx4] at hr4
  have hR4 := hr4
  obtain ⟨P4_0, P4_1, P4_2, P4_3, rfl, hf4_0, hf4_1, hf4_2, hf4_3⟩ := wG_rd hr4
  obtain ⟨A4_0, c4_0, e4_0, -⟩ := lst_val hf4_0
  subst e4_0
  obtain ⟨A4_1, c4_1, e4_1, -⟩ := lst_val hf4_1
  subst e4_1
  obtain ⟨A4_2, c4_2, e4_2, -⟩ := lst_val hf4_2
  subst e4_2
  obtain ⟨A4_3, c4_3, e4_3, -⟩ := lst_val hf4_3
  subst e4_3
  refine Sx.G.elem 27 39 (.tmp 15) (.tmp 16) 15 184 b4 f4 x.gs.length hK1 j rfl (by kernel_rfl) (by kernel_rfl) (by kernel_rfl) (by kernel_rfl) (by omega) ?_
  refine Sx.G.ldr 39 (.tmp 17) b4 (f4 + j * 15) [.slice A4_0 x4.prog.length c4_0, .int .i64 x4.a, .int .i64 x4.pc, .slice A4_1 x4.wr.length c4_1, .slice A4_2 x4.lv.length c4_2, .int .i64 x4.t.1, .int .i64 x4.t.2.1, .bool x4.t.2.2, .int .i64 x4.pd, .int .i64 x4.x.1, .int .i64 x4.x.2.1, .bool x4.x.2.2.1, .int .i64 x4.x.2.2.2, .bool x4.hl, .slice A4_3 x4.seen.length c4_3] rfl (by kernel_rfl) (by kernel_rfl) (fun w S => hm4 w _ S) (by kernel_rfl) (by kernel_rfl) ?_
  refine Sx.G.c 38 #[.agg #[.slice A4_0 x4.prog.length c4_0, .int .i64 x4.a, .int .i64 x4.pc, .slice A4_1 x4.wr.length c4_1, .slice A4_2 x4.lv.length c4_2, .int .i64 x4.t.1, .int .i64 x4.t.2.1, .bool x4.t.2.2, .int .i64 x4.pd, .int .i64 x4.x.1, .int .i64 x4.x.2.1, .bool x4.x.2.2.1, .int .i64 x4.x.2.2.2, .bool x4.hl, .slice A4_3 x4.seen.length c4_3]] (fun w5 S => (((Guests.specx_copy x4 _ _ (cap_G (hcap1.2 _ (hx4 ▸ List.getElem_mem _))) (rd_G (St.old S hR4))).mono weak_G)).mono fun e w5' hp => ?_)
  obtain ⟨cs, F, rfl, ho, hF, hb⟩ := hp
  obtain ⟨P5_0, P5_1, P5_2, P5_3, rfl, f5_0, f5_1, f5_2, f5_3⟩ := wG_rd (wG.reads ho)
  obtain ⟨A5_0, c5_0, e5_0, -⟩ := lst_val f5_0
  subst e5_0
  obtain ⟨A5_1, c5_1, e5_1, -⟩ := lst_val f5_1
  subst e5_1
  obtain ⟨A5_2, c5_2, e5_2, -⟩ := lst_val f5_2
  subst e5_2
  obtain ⟨A5_3, c5_3, e5_3, -⟩ := lst_val f5_3
  subst e5_3
  generalize F = F5 at ho hF
  refine ⟨_, _, rfl, (St.got S hb ho hF), ?_⟩
  clear S hb ho hF f5_0 f5_1 f5_2 f5_3
  refine Sx.G.sw [.slice A5_0 x4.prog.length c5_0, .int .i64 x4.a, .int .i64 x4.pc, .slice A5_1 x4.wr.length c5_1, .slice A5_2 x4.lv.length c5_2, .int .i64 x4.t.1, .int .i64 x4.t.2.1, .bool x4.t.2.2, .int .i64 x4.pd, .int .i64 x4.x.1, .int .i64 x4.x.2.1, .bool x4.x.2.2.1, .int .i64 x4.x.2.2.2, .bool x4.hl, .slice A5_3 x4.seen.length c5_3] .a1 ?_
  refine Sx.G.p (.bool true) ?_
  refine Sx.G.nil (Sx.E.next (Sx.C.ret ?_))
  refine Sx.E.retg2 (.agg #[.slice A5_0 x4.prog.length c5_0, .int .i64 x4.a, .int .i64 x4.pc, .slice A5_1 x4.wr.length c5_1, .slice A5_2 x4.lv.length c5_2, .int .i64 x4.t.1, .int .i64 x4.t.2.1, .bool x4.t.2.2, .int .i64 x4.pd, .int .i64 x4.x.1, .int .i64 x4.x.2.1, .bool x4.x.2.2.1, .int .i64 x4.x.2.2.2, .bool x4.hl, .slice A5_3 x4.seen.length c5_3]) (.bool true) rfl (Sx.IsRes.row b2 1 [.slice A5_0 x4.prog.length c5_0, .int .i64 x4.a, .int .i64 x4.pc, .slice A5_1 x4.wr.length c5_1, .slice A5_2 x4.lv.length c5_2, .int .i64 x4.t.1, .int .i64 x4.t.2.1, .bool x4.t.2.2, .int .i64 x4.pd, .int .i64 x4.x.1, .int .i64 x4.x.2.1, .bool x4.x.2.2.1, .int .i64 x4.x.2.2.2, .bool x4.hl, .slice A5_3 x4.seen.length c5_3] (by kernel_rfl) rfl (by kernel_rfl) (by kernel_rfl)) (Sx.IsRes.slot (by kernel_rfl)) (fun w S => ?_)
  rw [show guestAt x (j : Int) = (x4, true) from by rw [hx4]; unfold guestAt; rw [hc3, if_pos rfl]; simp [List.getD_eq_getElem?_getD, hjl]]
  exact ⟨_, _, rfl, S.own 0 rfl, S.nodup 0 rfl, S.below⟩
theorem specx_withg (x : bT) (cs : List Value) (g : Int) (y : gT) (ds : List Value) (w : World) (hc : wB.cap x) (hy : wG.cap y) (h : wB.rd w 0 w.heap.size x cs) (k : wG.rd w 0 w.heap.size y ds) : Calls Tryz.prog 17 #[.agg cs.toArray, .int .i64 g, .agg ds.toArray] w (Gives rB w (withG x g y)) := by
 have hgl : x.gs.length ≤ 1048576 := hc.2.1.1
 have hR := h
 obtain ⟨hP0, hP1, hP2, rfl, hf0, hf1, hf2⟩ := wB_rd h
 obtain ⟨hA0, hK0, he0, -⟩ := lst_val hf0
 subst he0
 obtain ⟨hA1, hK1, he1, -⟩ := lst_val hf1
 subst he1
 obtain ⟨hA2, hK2, he2, -⟩ := lst_val hf2
 subst he2
 have kR := k
 obtain ⟨kP0, kP1, kP2, kP3, rfl, kf0, kf1, kf2, kf3⟩ := wG_rd k
 obtain ⟨kA0, kK0, ke0, -⟩ := lst_val kf0
 subst ke0
 obtain ⟨kA1, kK1, ke1, -⟩ := lst_val kf1
 subst ke1
 obtain ⟨kA2, kK2, ke2, -⟩ := lst_val kf2
 subst ke2
 obtain ⟨kA3, kK3, ke3, -⟩ := lst_val kf3
 subst ke3
 refine Sx.enter (args := [.agg #[.slice hA0 x.mem.length hK0, .slice hA1 x.gs.length hK1, .slice hA2 x.outs.length hK2, .int .i64 x.pd], .int .i64 g, .agg #[.slice kA0 y.prog.length kK0, .int .i64 y.a, .int .i64 y.pc, .slice kA1 y.wr.length kK1, .slice kA2 y.lv.length kK2, .int .i64 y.t.1, .int .i64 y.t.2.1, .bool y.t.2.2, .int .i64 y.pd, .int .i64 y.x.1, .int .i64 y.x.2.1, .bool y.x.2.2.1, .int .i64 y.x.2.2.2, .bool y.hl, .slice kA3 y.seen.length kK3]]) Tryz.func17 rfl Tryz.ntmps17 rfl ?_
 refine Sx.C.seq (Sx.C.region ?_)
 refine Sx.G.b [.slice hA0 x.mem.length hK0, .slice hA1 x.gs.length hK1, .slice hA2 x.outs.length hK2, .int .i64 x.pd] (fun b1 => ?_)
 refine Sx.G.b [.slice kA0 y.prog.length kK0, .int .i64 y.a, .int .i64 y.pc, .slice kA1 y.wr.length kK1, .slice kA2 y.lv.length kK2, .int .i64 y.t.1, .int .i64 y.t.2.1, .bool y.t.2.2, .int .i64 y.pd, .int .i64 y.x.1, .int .i64 y.x.2.1, .bool y.x.2.2.1, .int .i64 y.x.2.2.2, .bool y.hl, .slice kA3 y.seen.length kK3] (fun b2 => ?_)
 refine Sx.G.ar [.slice none 0 0, .slice none 0 0, .slice none 0 0, .int .i64 0] (fun b3 => ?_)
 refine Sx.G.nil (Sx.E.next (Sx.C.seq (Sx.C.region ?_)))
 refine Sx.G.lw .m2 ?_
 refine Sx.G.c 40 #[.agg #[.slice hA0 x.mem.length hK0, .slice hA1 x.gs.length hK1, .slice hA2 x.outs.length hK2, .int .i64 x.pd]] (fun w4 S => (specx_bcopy x _ _ hc (St.old S hR)).mono fun e w4' hp => ?_)
 obtain ⟨cs, F, rfl, ho, hF, hb⟩ := hp
 obtain ⟨P4_0, P4_1, P4_2, G4_0, G4_1, G4_2, rfl, S'⟩ := rB_open (St.got S hb ho hF)
 obtain ⟨A4_0, c4_0, e4_0, -⟩ := lst_val (S'.reads 0 rfl)
 subst e4_0
 obtain ⟨A4_1, c4_1, e4_1, -⟩ := lst_val (S'.reads 1 rfl)
 subst e4_1
 obtain ⟨A4_2, c4_2, e4_2, -⟩ := lst_val (S'.reads 2 rfl)
 subst e4_2
 refine ⟨_, _, rfl, S', ?_⟩
 clear S S' ho hF hb
 refine Sx.G.sw [.slice A4_0 x.mem.length c4_0, .slice A4_1 x.gs.length c4_1, .slice A4_2 x.outs.length c4_2, .int .i64 x.pd] .a5 ?_
 refine Sx.G.nil (Sx.E.next (Sx.C.seq (Sx.C.seq (Sx.C.region ?_))))
 refine Sx.G.p (.int .i64 g) ?_
 refine Sx.G.p (.pointer (some ⟨b1, 1, none⟩)) ?_
 refine Sx.G.g (.slice A4_1 x.gs.length c4_1) .m5 .m1 ?_
 refine Sx.G.p (.int .i64 ((x.gs.length : Nat) : Int)) ?_
 refine Sx.G.q (.int .i64 (IntKind.i64.wrap (((x.gs.length : Nat) : Int) - 1))) (.int .i64 (((x.gs.length : Nat) : Int) - 1)) (congrArg (Value.int .i64) (by rw [IntKind.wrap_i64]; omega)) ?_
 refine Sx.G.cp 37 #[.int .i64 g, .int .i64 0, .int .i64 (((x.gs.length : Nat) : Int) - 1)] (.bool (inB g 0 (((x.gs.length : Nat) : Int) - 1))) (fun w S => by exact ((spec_in g 0 (((x.gs.length : Nat) : Int) - 1) _).mono fun e w' h => And.intro h.1 (Guests.below_same h.2))) ?_
 refine Sx.G.nil (Sx.E.next ?_)
 cases hc5 : (inB g 0 (((x.gs.length : Nat) : Int) - 1))
 ·
  have hb5 := hc5
  refine Sx.C.no (by kernel_rfl) (by kernel_rfl) ?_
  refine Sx.C.skip (Sx.E.next (Sx.C.seq (Sx.C.region ?_)))
  refine Sx.G.lw .m5 ?_
  refine Sx.G.sw [.slice A4_0 x.mem.length c4_0, .slice A4_1 x.gs.length c4_1, .slice A4_2 x.outs.length c4_2, .int .i64 x.pd] .a3 ?_
  refine Sx.G.nil (Sx.E.next (Sx.C.ret ?_))
  refine Sx.E.retc b3 3 [.slice A4_0 x.mem.length c4_0, .slice A4_1 x.gs.length c4_1, .slice A4_2 x.outs.length c4_2, .int .i64 x.pd] rfl (by kernel_rfl) rfl (by kernel_rfl) (by kernel_rfl) (fun w S => ?_)
  rw [show withG x g y = x from if_neg (by rw [hc5]; decide)]
  obtain ⟨ho, hF⟩ := rB_shut (g := x) S 0 rfl 1 rfl 2 rfl (by decide) (by decide) (by decide)
  exact ⟨_, _, rfl, ho, hF, S.below⟩
 ·
  have hb5 := hc5
  have hin := inB_iff.1 hc5
  obtain ⟨j, hj⟩ : ∃ j : Nat, g = (j : Int) := ⟨g.toNat, by omega⟩
  subst hj
  have hjl : j < x.gs.length := by omega
  refine Sx.C.yes (by kernel_rfl) (by kernel_rfl) ?_
  refine Sx.C.pk (.c .m1 (.c .m0 (.c .m2 (.c .m3 (.c .m4 (.c .m5 .n)))))) ?_
  refine Sx.C.open (r := wG) (pre := x.gs.take j) (x := x.gs[j]) (post := x.gs.drop (j + 1)) (by rw [← Kit.drop_step hjl, List.take_append_drop]) (by decide) (fun b off es F1 F2' F2 eA eF hes hm hmc => ?_)
  subst eA eF
  refine Sx.C.know (p := ∃ P0 P1 P2 P3, es = [P0, .int .i64 (x.gs[j]).a, .int .i64 (x.gs[j]).pc, P1, P2, .int .i64 (x.gs[j]).t.1, .int .i64 (x.gs[j]).t.2.1, .bool (x.gs[j]).t.2.2, .int .i64 (x.gs[j]).pd, .int .i64 (x.gs[j]).x.1, .int .i64 (x.gs[j]).x.2.1, .bool (x.gs[j]).x.2.2.1, .int .i64 (x.gs[j]).x.2.2.2, .bool (x.gs[j]).hl, P3]) (fun w S => by obtain ⟨P0, P1, P2, P3, -, -, -, -, e, -⟩ := wG_own (St.at_ S 1 rfl).1; exact ⟨P0, P1, P2, P3, e⟩) ?_
  rintro ⟨P0, P1, P2, P3, rfl⟩
  refine Sx.C.draw (.take 0 (.take 1 (.take 2 (.take 3 (.alone 4 (.take 5 (.alone 6 .nil))))))) [vr b2 [.slice kA0 y.prog.length kK0, .int .i64 y.a, .int .i64 y.pc, .slice kA1 y.wr.length kK1, .slice kA2 y.lv.length kK2, .int .i64 y.t.1, .int .i64 y.t.2.1, .bool y.t.2.2, .int .i64 y.pd, .int .i64 y.x.1, .int .i64 y.x.2.1, .bool y.x.2.2.1, .int .i64 y.x.2.2.2, .bool y.hl, .slice kA3 y.seen.length kK3], vr b1 [.slice A4_0 x.mem.length c4_0, .slice (some ⟨b, off, none⟩) x.gs.length c4_1, .slice A4_2 x.outs.length c4_2, .int .i64 x.pd]] (fun w S => St.pick S [5, 6] _ rfl (by decide)) (by kernel_rfl) (by kernel_rfl) (by kernel_rfl) ?_
  refine Sx.GT.p (.pointer (some ⟨b1, 1, none⟩)) ?_
  refine Sx.GT.g (.slice (some ⟨b, off, none⟩) x.gs.length c4_1) .m1 .m1 ?_
  refine Sx.GT.p (.int .i64 (j : Int)) ?_
  refine Sx.GT.lw .m0 ?_
  refine Sx.GT.alone (Sx.Alone.c 38 #[.agg #[.slice kA0 y.prog.length kK0, .int .i64 y.a, .int .i64 y.pc, .slice kA1 y.wr.length kK1, .slice kA2 y.lv.length kK2, .int .i64 y.t.1, .int .i64 y.t.2.1, .bool y.t.2.2, .int .i64 y.pd, .int .i64 y.x.1, .int .i64 y.x.2.1, .bool y.x.2.2.1, .int .i64 y.x.2.2.2, .bool y.hl, .slice kA3 y.seen.length kK3]] (fun w6 S => (((Guests.specx_copy y _ _ (cap_G hy) (rd_G (St.old S kR))).mono weak_G)).mono fun e w6' hp => ?_))
  obtain ⟨cs, F, rfl, ho, hF, hb⟩ := hp
  obtain ⟨P6_0, P6_1, P6_2, P6_3, rfl, f6_0, f6_1, f6_2, f6_3⟩ := wG_rd (wG.reads ho)
  obtain ⟨A6_0, c6_0, e6_0, -⟩ := lst_val f6_0
  subst e6_0
  obtain ⟨A6_1, c6_1, e6_1, -⟩ := lst_val f6_1
  subst e6_1
  obtain ⟨A6_2, c6_2, e6_2, -⟩ := lst_val f6_2
  subst e6_2
  obtain ⟨A6_3, c6_3, e6_3, -⟩ := lst_val f6_3
  subst e6_3
  generalize F = F6 at ho hF
  refine ⟨_, _, rfl, (St.got S hb ho hF), (fun w S => St.pick S [6, 7] _ rfl (by decide)), ?_⟩
  clear S hb ho hF f6_0 f6_1 f6_2 f6_3
  refine Sx.GT.elem 27 39 (.tmp 16) (.tmp 17) 15 184 b off x.gs.length c4_1 j 5 (by rfl) (by rfl) (by kernel_rfl) (by kernel_rfl) (by kernel_rfl) (by kernel_rfl) (by omega) ?_
  refine Sx.GT.alone (Sx.Alone.hsto (k := j) (size := 15) 39 (.tmp 20) (.tmp 19) b ((off + j * 15) + 0) 0 1 [.slice A6_0 y.prog.length c6_0, .int .i64 y.a, .int .i64 y.pc, .slice A6_1 y.wr.length c6_1, .slice A6_2 y.lv.length c6_2, .int .i64 y.t.1, .int .i64 y.t.2.1, .bool y.t.2.2, .int .i64 y.pd, .int .i64 y.x.1, .int .i64 y.x.2.1, .bool y.x.2.2.1, .int .i64 y.x.2.2.2, .bool y.hl, .slice A6_3 y.seen.length c6_3] [.slice A6_0 y.prog.length c6_0, .int .i64 y.a, .int .i64 y.pc, .slice A6_1 y.wr.length c6_1, .slice A6_2 y.lv.length c6_2, .int .i64 y.t.1, .int .i64 y.t.2.1, .bool y.t.2.2, .int .i64 y.pd, .int .i64 y.x.1, .int .i64 y.x.2.1, .bool y.x.2.2.1, .int .i64 y.x.2.2.2, .bool y.hl, .slice A6_3 y.seen.length c6_3] [ow wG w6.heap.size w6'.heap.size y [.slice A6_0 y.prog.length c6_0, .int .i64 y.a, .int .i64 y.pc, .slice A6_1 y.wr.length c6_1, .slice A6_2 y.lv.length c6_2, .int .i64 y.t.1, .int .i64 y.t.2.1, .bool y.t.2.2, .int .i64 y.pd, .int .i64 y.x.1, .int .i64 y.x.2.1, .bool y.x.2.2.1, .int .i64 y.x.2.2.2, .bool y.hl, .slice A6_3 y.seen.length c6_3] F6, Sx.hole wG b off w4.heap.size w4'.heap.size (x.gs.take j) (x.gs.drop (j + 1)) [.slice A6_0 y.prog.length c6_0, .int .i64 y.a, .int .i64 y.pc, .slice A6_1 y.wr.length c6_1, .slice A6_2 y.lv.length c6_2, .int .i64 y.t.1, .int .i64 y.t.2.1, .bool y.t.2.2, .int .i64 y.pd, .int .i64 y.x.1, .int .i64 y.x.2.1, .bool y.x.2.2.1, .int .i64 y.x.2.2.2, .bool y.hl, .slice A6_3 y.seen.length c6_3] F1 F2, ow wG w4.heap.size w4'.heap.size (x.gs[j]) [P0, .int .i64 (x.gs[j]).a, .int .i64 (x.gs[j]).pc, P1, P2, .int .i64 (x.gs[j]).t.1, .int .i64 (x.gs[j]).t.2.1, .bool (x.gs[j]).t.2.2, .int .i64 (x.gs[j]).pd, .int .i64 (x.gs[j]).x.1, .int .i64 (x.gs[j]).x.2.1, .bool (x.gs[j]).x.2.2.1, .int .i64 (x.gs[j]).x.2.2.2, .bool (x.gs[j]).hl, P3] F2', ow (rLsw (rLsw rInt)) w4.heap.size w4'.heap.size x.mem [.slice A4_0 x.mem.length c4_0] G4_0, ow (rLst 3 rInt) w4.heap.size (w4'.heap.size) x.outs [.slice A4_2 x.outs.length c4_2] G4_2, vr b3 [.slice none 0 0, .slice none 0 0, .slice none 0 0, .int .i64 0], vr b2 [.slice kA0 y.prog.length kK0, .int .i64 y.a, .int .i64 y.pc, .slice kA1 y.wr.length kK1, .slice kA2 y.lv.length kK2, .int .i64 y.t.1, .int .i64 y.t.2.1, .bool y.t.2.2, .int .i64 y.pd, .int .i64 y.x.1, .int .i64 y.x.2.1, .bool y.x.2.2.1, .int .i64 y.x.2.2.2, .bool y.hl, .slice kA3 y.seen.length kK3], vr b1 [.slice A4_0 x.mem.length c4_0, .slice (some ⟨b, off, none⟩) x.gs.length c4_1, .slice A4_2 x.outs.length c4_2, .int .i64 x.pd]] (by rfl) (by rfl) (by kernel_rfl) (by kernel_rfl) (by kernel_rfl) (by rfl) (by rw [List.length_take]; omega) (by rfl) (by rfl) (by rfl) (by rfl) (by kernel_rfl) (by kernel_rfl) (by kernel_rfl) (fun w S => St.pick S [6, 7] _ rfl (by decide)) ?_)
  refine Sx.GT.nil (Sx.E.next (Sx.C.seq ?_))
  refine Sx.C.claims (L' := [ow (rLsw wG) w.heap.size (max w4'.heap.size w6'.heap.size) (x.gs.set j y) [.slice (some ⟨b, off, none⟩) x.gs.length c4_1] (b :: (F1 ++ (F6 ++ F2))), ow (rLsw (rLsw rInt)) w4.heap.size w4'.heap.size x.mem [.slice A4_0 x.mem.length c4_0] G4_0, ow (rLst 3 rInt) w4.heap.size (w4'.heap.size) x.outs [.slice A4_2 x.outs.length c4_2] G4_2, vr b3 [.slice none 0 0, .slice none 0 0, .slice none 0 0, .int .i64 0], vr b2 [.slice kA0 y.prog.length kK0, .int .i64 y.a, .int .i64 y.pc, .slice kA1 y.wr.length kK1, .slice kA2 y.lv.length kK2, .int .i64 y.t.1, .int .i64 y.t.2.1, .bool y.t.2.2, .int .i64 y.pd, .int .i64 y.x.1, .int .i64 y.x.2.1, .bool y.x.2.2.1, .int .i64 y.x.2.2.2, .bool y.hl, .slice kA3 y.seen.length kK3], vr b1 [.slice A4_0 x.mem.length c4_0, .slice (some ⟨b, off, none⟩) x.gs.length c4_1, .slice A4_2 x.outs.length c4_2, .int .i64 x.pd]]) (fun w' S => by
   have S2 := St.pick S [1, 0, 3, 4, 5, 6, 7] (_ :: _ :: [ow (rLsw (rLsw rInt)) w4.heap.size w4'.heap.size x.mem [.slice A4_0 x.mem.length c4_0] G4_0, ow (rLst 3 rInt) w4.heap.size (w4'.heap.size) x.outs [.slice A4_2 x.outs.length c4_2] G4_2, vr b3 [.slice none 0 0, .slice none 0 0, .slice none 0 0, .int .i64 0], vr b2 [.slice kA0 y.prog.length kK0, .int .i64 y.a, .int .i64 y.pc, .slice kA1 y.wr.length kK1, .slice kA2 y.lv.length kK2, .int .i64 y.t.1, .int .i64 y.t.2.1, .bool y.t.2.2, .int .i64 y.pd, .int .i64 y.x.1, .int .i64 y.x.2.1, .bool y.x.2.2.1, .int .i64 y.x.2.2.2, .bool y.hl, .slice kA3 y.seen.length kK3], vr b1 [.slice A4_0 x.mem.length c4_0, .slice (some ⟨b, off, none⟩) x.gs.length c4_1, .slice A4_2 x.outs.length c4_2, .int .i64 x.pd]]) rfl (by decide)
   have S3 := Sx.St.closeW S2 (by decide) x.gs.length _ (by rw [List.length_append, List.length_cons, List.length_take, List.length_drop]; omega) hmc
   rw [← set_at hjl] at S3
   exact S3) ?_
  refine Sx.C.region ?_
  refine Sx.G.lw .m5 ?_
  refine Sx.G.sw [.slice A4_0 x.mem.length c4_0, .slice (some ⟨b, off, none⟩) x.gs.length c4_1, .slice A4_2 x.outs.length c4_2, .int .i64 x.pd] .a3 ?_
  refine Sx.G.nil (Sx.E.next (Sx.C.ret ?_))
  refine Sx.E.retc b3 3 [.slice A4_0 x.mem.length c4_0, .slice (some ⟨b, off, none⟩) x.gs.length c4_1, .slice A4_2 x.outs.length c4_2, .int .i64 x.pd] rfl (by kernel_rfl) rfl (by kernel_rfl) (by kernel_rfl) (fun w S => ?_)
  rw [show withG x (j : Int) y = ({ x with gs := x.gs.set j y } : bT) from by unfold withG; rw [hc5, if_pos rfl]; rfl]
  have hll : x.gs.length = (x.gs.set j y).length := by rw [List.length_set]
  skip
  obtain ⟨ho, hF⟩ := rB_shut (g := ({ x with gs := x.gs.set j y } : bT)) S 1 rfl 0 rfl 2 rfl (by decide) (by decide) (by decide)
  exact ⟨_, _, rfl, ho, hF, S.below⟩
theorem specx_memnew (p : Int) (w : World)  : Calls Tryz.prog 44 #[.int .i64 p] w (Gives (rLst 28 (rLsw rInt)) w (List.replicate (Grid.newN p) ([0, 0, 0, 0] : List Int))) := by
 obtain ⟨m, hm, hm24⟩ : ∃ m : Nat, BroughtW.brought p 0 24 = (m : Int) ∧ m ≤ 24 := ⟨Grid.newN p, Grid.newN_eq p, Grid.newN_le p⟩
 have hmm : Grid.newN p = m := by have := Grid.newN_eq p; omega
 refine Sx.enter (args := [.int .i64 p]) Tryz.func44 rfl Tryz.ntmps44 rfl ?_
 refine Sx.C.seq (Sx.C.region ?_)
 refine Sx.G.p (.slice none 0 0) ?_
 refine Sx.G.nil (Sx.E.next (Sx.C.seq (Sx.C.region ?_)))
 refine Sx.G.fresh 28 (rLsw rInt) (by kernel_rfl) (fun w => by kernel_rfl) (fun b1 hi1 => ?_)
 refine Sx.G.p (.slice (some ⟨b1, 0, none⟩) 0 0) ?_
 refine Sx.G.nil (Sx.E.next (Sx.C.seq (Sx.C.seq (Sx.C.region ?_))))
 refine Sx.G.p (.int .i64 p) ?_
 refine Sx.G.cp 83 #[.int .i64 p, .int .i64 0, .int .i64 24] (.int .i64 ((m : Nat) : Int)) (fun w S => by exact ((Grid.spec_brought p 0 24 _).mono fun e w' h => And.intro (h.1.trans (by rw [hm])) (Guests.below_same h.2))) ?_
 refine Sx.G.p (.int .i64 ((m : Nat) : Int)) ?_
 refine Sx.G.nil (Sx.E.next (Sx.C.block ?_))
 refine Sx.C.loop (α := Nat × Option Addr × Nat × Nat × List Nat) (fun x => x.1 ≤ m) (fun x => [(4, .int .i64 (((m - x.1 : Nat)) : Int)), (3, .slice x.2.1 x.1 x.2.2.1), (2, .slice none 0 0)]) (fun x => [ow (rLst 28 (rLsw rInt)) w.heap.size x.2.2.2.1 (List.replicate x.1 ([0, 0, 0, 0] : List Int)) [.slice x.2.1 x.1 x.2.2.1] x.2.2.2.2]) (fun x => m - x.1) (0, (some ⟨b1, 0, none⟩), 0, hi1, [b1]) (Nat.zero_le _) (fun a hA => (Sx.Ag.and hA (Sx.Ag.and hA (Sx.Ag.and hA (Sx.Ag.none hA) _ _ (by kernel_rfl)) _ _ (by kernel_rfl)) _ _ (by kernel_rfl))) (fun w' S => by have S2 := Sx.St.widen S 0 rfl (Nat.le_refl _) (S.hi 0 _ rfl); exact S2) (fun x hx => ?_)
 obtain ⟨i, xA, xc, xh, xF⟩ := x
 dsimp only at hx
 refine Sx.C.seq (Sx.C.seq (Sx.C.region ?_))
 refine Sx.G.p (.int .i64 (((m - i : Nat)) : Int)) ?_
 refine Sx.G.p (.bool (decide ((((m - i : Nat)) : Int) > 0))) ?_
 refine Sx.G.nil (Sx.E.next ?_)
 cases hc2 : (decide ((((m - i : Nat)) : Int) > 0))
 ·
  have hb2 := hc2
  replace hc2 := of_decide_eq_false hc2
  refine Sx.C.no (by kernel_rfl) (by kernel_rfl) ?_
  refine Sx.C.exit (Sx.E.then_exit (Sx.E.then_exit (Sx.E.block_hit (Sx.E.next (Sx.C.seq (Sx.C.region ?_))))))
  refine Sx.G.p (.slice xA i xc) ?_
  refine Sx.G.p (.slice xA i xc) ?_
  refine Sx.G.nil (Sx.E.next (Sx.C.ret ?_))
  refine Sx.E.ret1 (.slice xA i xc) rfl (by kernel_rfl) (fun w S => ?_)
  obtain rfl : i = m := by omega
  rw [hmm]
  exact ⟨[_], _, rfl, S.own 0 rfl, S.nodup 0 rfl, S.below⟩
 ·
  have hb2 := hc2
  replace hc2 := of_decide_eq_true hc2
  refine Sx.C.yes (by kernel_rfl) (by kernel_rfl) ?_
  refine Sx.C.skip (Sx.E.next (Sx.C.seq (Sx.C.block (Sx.C.region ?_))))
  refine Sx.G.p (.slice xA i xc) ?_
  refine Sx.G.mks (r := rInt) (0 : Int) [.int .i64 0] 28 3 (.const (.int .i64 4)) (.const (.int .i64 4)) 1 8 4 rfl (by kernel_rfl) (by kernel_rfl) (by kernel_rfl) rfl rfl (fun w lo hi => Kit.own_mk_Int w lo hi 0) (by kernel_rfl) (by kernel_rfl) (by decide) (by decide) (fun b3 hi3 F3 => ?_)
  refine Sx.G.made 28 [.slice (some ⟨b3, 0, none⟩) 4 4] 1 (by kernel_rfl) (fun w => by kernel_rfl) (fun b4 => ?_)
  refine Sx.G.claims (L' := [ow (rLst 28 (rLsw rInt)) w.heap.size xh (List.replicate i ([0, 0, 0, 0] : List Int)) [.slice xA i xc] xF, ow (rLsw rInt) b3 hi3 ([0, 0, 0, 0] : List Int) [.slice (some ⟨b3, 0, none⟩) 4 4] F3, vr b4 [.slice (some ⟨b3, 0, none⟩) 4 4]]) (fun w S => St.pick S [2, 1, 0] _ rfl (by decide)) ?_
  refine Sx.G.appr (.tmp 12) (.tmp 14) 26 1 24 1 rfl (by kernel_rfl) (by kernel_rfl) rfl (by kernel_rfl) (by kernel_rfl) (by kernel_rfl) (by rw [List.length_replicate]; simp only [maxLen]; omega) (by rw [List.length_replicate]; omega) (List.replicate (i + 1) ([0, 0, 0, 0] : List Int)) (by rw [List.replicate_succ']) (i + 1) (by rw [List.length_replicate]) (fun A5 c5 F5 hi5 hm5 => ?_)
  refine Sx.G.p (.slice A5 (i + 1) c5) ?_
  refine Sx.G.nil (Sx.E.block_normal (Sx.E.next (Sx.C.region ?_)))
  refine Sx.G.p (.int .i64 (((m - i : Nat)) : Int)) ?_
  refine Sx.G.q (.int .i64 (IntKind.i64.wrap ((((m - i : Nat)) : Int) - 1))) (.int .i64 (((m - (i + 1) : Nat)) : Int)) (congrArg (Value.int .i64) (by rw [IntKind.wrap_i64]; omega)) ?_
  refine Sx.G.p (.int .i64 (((m - (i + 1) : Nat)) : Int)) ?_
  refine Sx.G.nil ?_
  exact Sx.E.again (i + 1, A5, c5, hi5, F5) (by show i + 1 ≤ m; omega) (by show m - (i + 1) < m - i; omega) (fun a hA => (Sx.Ag.and hA (Sx.Ag.and hA (Sx.Ag.and hA (Sx.Ag.none hA) _ _ (by kernel_rfl)) _ _ (by kernel_rfl)) _ _ (by kernel_rfl))) (fun w' S => St.pick S [0] _ rfl (by decide))
theorem specx_bnew (xs : List (List (Int × Int))) (A : Option Addr) (c : Nat) (w : World) (hc : (rLsw (rLsw (rPair rInt rInt))).cap xs) (h : rdLst (rLsw (rPair rInt rInt)) w 0 w.heap.size xs [.slice A xs.length c]) : Calls Tryz.prog 16 #[.slice A xs.length c] w (Gives rB w (newB xs)) := by
 obtain ⟨hl, hce⟩ := hc
 refine Sx.enter (args := [.slice A xs.length c]) Tryz.func16 rfl Tryz.ntmps16 rfl ?_
 refine Sx.C.seq (Sx.C.region ?_)
 refine Sx.G.ar [.slice none 0 0, .slice none 0 0, .slice none 0 0, .int .i64 0] (fun b1 => ?_)
 refine Sx.G.nil (Sx.E.next (Sx.C.seq (Sx.C.region ?_)))
 refine Sx.G.c 44 #[.int .i64 8] (fun w2 S => (specx_memnew 8 _).mono fun e w2' hp => ?_)
 rw [show Grid.newN 8 = 8 by decide] at hp
 obtain ⟨cs, F, rfl, ho, hF, hb⟩ := hp
 obtain ⟨u2, rfl⟩ := lst_own ho
 obtain ⟨A2, c2, e2, -⟩ := lst_val ((rLst _ _).reads ho)
 rw [show (List.replicate 8 ([0, 0, 0, 0] : List Int)).length = 8 from rfl] at e2
 subst e2
 obtain ⟨F2, S'⟩ := St.weak (St.got S hb ho hF) 0 rfl
 refine ⟨_, _, rfl, S', ?_⟩
 clear S S' hb ho hF
 refine Sx.G.p (.agg #[.slice A2 8 c2, .slice none 0 0, .slice none 0 0, .int .i64 0]) ?_
 refine Sx.G.ar [.slice none 0 0, .slice none 0 0, .slice none 0 0, .int .i64 0] (fun b3 => ?_)
 refine Sx.G.sw [.slice A2 8 c2, .slice none 0 0, .slice none 0 0, .int .i64 0] .a0 ?_
 refine Sx.G.nil (Sx.E.next (Sx.C.seq (Sx.C.seq (Sx.C.region ?_))))
 refine Sx.G.p (.int .i64 0) ?_
 refine Sx.G.nil (Sx.E.next (Sx.C.block ?_))
 refine Sx.C.loop (α := Nat × Option Addr × Nat × Nat × List Nat) (fun x => x.1 ≤ xs.length ∧ x.1 ≤ 2) (fun x => [(4, .int .i64 (x.1 : Int)), (0, .slice A xs.length c), (2, .pointer (some ⟨b1, 0, none⟩)), (3, .pointer (some ⟨b3, 0, none⟩))]) (fun x => [ow (rLst 39 wG) w.heap.size x.2.2.2.1 ((xs.take x.1).map newG) [.slice x.2.1 x.1 x.2.2.1] x.2.2.2.2, vr b3 [.slice A2 8 c2, .slice x.2.1 x.1 x.2.2.1, .slice none 0 0, .int .i64 0], ow (rLsw (rLsw rInt)) w2.heap.size w2'.heap.size (List.replicate 8 ([0, 0, 0, 0] : List Int)) [.slice A2 8 c2] F2, vr b1 [.slice none 0 0, .slice none 0 0, .slice none 0 0, .int .i64 0]]) (fun x => 2 - x.1) (0, none, 0, w.heap.size, []) ⟨Nat.zero_le _, Nat.zero_le _⟩ (fun a hA => (Sx.Ag.and hA (Sx.Ag.and hA (Sx.Ag.and hA (Sx.Ag.and hA (Sx.Ag.none hA) _ _ (by kernel_rfl)) _ _ (by kernel_rfl)) _ _ (by kernel_rfl)) _ _ (by kernel_rfl))) (fun w' S => by have S2 := Sx.St.nil0 (St.pick S [0, 1, 2] [vr b3 [.slice A2 8 c2, .slice none 0 0, .slice none 0 0, .int .i64 0], ow (rLsw (rLsw rInt)) w2.heap.size w2'.heap.size (List.replicate 8 ([0, 0, 0, 0] : List Int)) [.slice A2 8 c2] F2, vr b1 [.slice none 0 0, .slice none 0 0, .slice none 0 0, .int .i64 0]] rfl (by decide)) 39 wG; exact S2) (fun x hx => ?_)
 obtain ⟨i, xA, xc, xh, xF⟩ := x
 dsimp only at hx
 refine Sx.C.seq (Sx.C.seq (Sx.C.region ?_))
 refine Sx.G.p (.int .i64 (i : Int)) ?_
 refine Sx.G.p (.slice A xs.length c) ?_
 refine Sx.G.p (.int .i64 ((xs.length : Nat) : Int)) ?_
 refine Sx.G.p (.bool (decide ((i : Int) < ((xs.length : Nat) : Int)))) ?_
 refine Sx.G.p (.bool (decide ((i : Int) < ((xs.length : Nat) : Int)))) ?_
 cases hc4 : (decide ((i : Int) < ((xs.length : Nat) : Int)))
 ·
  have hb4 := hc4
  replace hc4 := of_decide_eq_false hc4
  refine Sx.G.k ?_
  refine Sx.G.k ?_
  refine Sx.G.p (.bool false) ?_
  refine Sx.G.nil (Sx.E.next ?_)
  refine Sx.C.no (by kernel_rfl) (by kernel_rfl) ?_
  refine Sx.C.exit (Sx.E.then_exit (Sx.E.then_exit (Sx.E.block_hit (Sx.E.next (Sx.C.seq (Sx.C.region ?_))))))
  refine Sx.G.lw .m1 ?_
  refine Sx.G.sw [.slice A2 8 c2, .slice xA i xc, .slice none 0 0, .int .i64 0] .a3 ?_
  refine Sx.G.nil (Sx.E.next (Sx.C.ret ?_))
  refine Sx.E.retc b1 3 [.slice A2 8 c2, .slice xA i xc, .slice none 0 0, .int .i64 0] rfl (by kernel_rfl) rfl (by kernel_rfl) (by kernel_rfl) (fun w S => ?_)
  have htk : xs.take i = xs.take 2 := by
   rcases Nat.lt_or_ge i 2 with h2 | h2
   ·
    rw [List.take_of_length_le (by omega), List.take_of_length_le (by omega)]
   ·
    rw [show i = 2 by omega]
  rw [htk] at S
  have hlen : ((xs.take 2).map newG).length = i := by rw [List.length_map, ← htk, List.length_take]; omega
  subst hlen
  obtain ⟨GW, S⟩ := S.weak 0 rfl
  replace S := St.nil S 3 rInt
  obtain ⟨ho, hF⟩ := rB_shut (g := newB xs) S 3 rfl 1 rfl 0 rfl (by decide) (by decide) (by decide)
  exact ⟨_, _, rfl, ho, hF, S.below⟩
 ·
  have hb4 := hc4
  replace hc4 := of_decide_eq_true hc4
  refine Sx.G.p (.int .i64 (i : Int)) ?_
  refine Sx.G.p (.bool (decide ((i : Int) < 2))) ?_
  refine Sx.G.p (.bool (decide ((i : Int) < 2))) ?_
  refine Sx.G.nil (Sx.E.next ?_)
  cases hc5 : (decide ((i : Int) < 2))
  ·
   have hb5 := hc5
   replace hc5 := of_decide_eq_false hc5
   refine Sx.C.no (by kernel_rfl) (by kernel_rfl) ?_
   refine Sx.C.exit (Sx.E.then_exit (Sx.E.then_exit (Sx.E.block_hit (Sx.E.next (Sx.C.seq (Sx.C.region ?_))))))
   refine Sx.G.lw .m1 ?_
   refine Sx.G.sw [.slice A2 8 c2, .slice xA i xc, .slice none 0 0, .int .i64 0] .a3 ?_
   refine Sx.G.nil (Sx.E.next (Sx.C.ret ?_))
   refine Sx.E.retc b1 3 [.slice A2 8 c2, .slice xA i xc, .slice none 0 0, .int .i64 0] rfl (by kernel_rfl) rfl (by kernel_rfl) (by kernel_rfl) (fun w S => ?_)
   have htk : xs.take i = xs.take 2 := by
    rcases Nat.lt_or_ge i 2 with h2 | h2
    ·
     rw [List.take_of_length_le (by omega), List.take_of_length_le (by omega)]
    ·
     rw [show i = 2 by omega]
   rw [htk] at S
   have hlen : ((xs.take 2).map newG).length = i := by rw [List.length_map, ← htk, List.length_take]; omega
   subst hlen
   obtain ⟨GW, S⟩ := S.weak 0 rfl
   replace S := St.nil S 3 rInt
   obtain ⟨ho, hF⟩ := rB_shut (g := newB xs) S 3 rfl 1 rfl 0 rfl (by decide) (by decide) (by decide)
   exact ⟨_, _, rfl, ho, hF, S.below⟩
  ·
   have hb5 := hc5
   replace hc5 := of_decide_eq_true hc5
   refine Sx.C.yes (by kernel_rfl) (by kernel_rfl) ?_
   refine Sx.C.skip (Sx.E.next (Sx.C.seq (Sx.C.block ?_)))
   obtain ⟨b6, f6, es6, eA6, hr6, hl6, hm6⟩ := Sx.old_elem (by decide) h i (by omega)
   subst eA6
   obtain ⟨x6, hx6⟩ : ∃ z_, z_ = (xs[i]'(by omega)) := ⟨_, rfl⟩
   rw [← hx6] at hr6
   replace hr6 : rdLst (rPair rInt rInt) w 0 w.heap.size x6 es6 := hr6
   obtain ⟨P6, rfl⟩ := lst_rd hr6
   obtain ⟨A6, c6, e6, -⟩ := lst_val hr6
   subst e6
   refine Sx.C.cut (fun e a w' => e = .normal ∧ ∃ (Y0 : Option Addr) (Y1 : Nat) (Y2 : Option Addr) (Y3 : Nat) (Y4 : Option Addr) (Y5 : Nat) (Y6 : Option Addr) (Y7 : Nat) (Y8 : List Nat) (Y9 : Nat) (Y10 : Nat) (Y11 : Nat) (Y12 : Option Addr) (Y13 : Nat) (Y14 : List Nat) (Y15 : Nat), Sx.Ag 28 [(0, .slice (some ⟨b6, f6, none⟩) xs.length c), (2, .pointer (some ⟨b1, 0, none⟩)), (3, .pointer (some ⟨b3, 0, none⟩)), (4, .int .i64 (i : Int))] a ∧ St w w' [ow (rLst 39 wG) w.heap.size Y15 (((xs.take (i + 1)).map newG)) [.slice Y12 (i + 1) Y13] Y14, vr b3 [.slice A2 8 c2, .slice Y12 (i + 1) Y13, .slice none 0 0, .int .i64 0], ow (rLsw (rLsw rInt)) w2.heap.size w2'.heap.size (List.replicate 8 ([0, 0, 0, 0] : List Int)) [.slice A2 8 c2] F2, vr b1 [.slice none 0 0, .slice none 0 0, .slice none 0 0, .int .i64 0]]) ?_ ?_
   ·
    refine Sx.C.draw (.take 0 (.take 2 (.take 3 (.take 4 (.take 5 (.two 1 (.alone 6 (.alone 7 (.alone 8 (.take 9 (.alone 10 .nil))))) 6 (.two 1 (.alone 7 (.alone 8 (.take 9 (.alone 10 .nil)))) 7 (.alone 1 (.alone 8 (.take 9 (.alone 10 .nil))))))))))) [] (fun w S => St.pick S [] _ rfl (by decide)) (by kernel_rfl) (by kernel_rfl) (by kernel_rfl) ?_
    refine Sx.GT.p (.pointer (some ⟨b3, 1, none⟩)) ?_
    refine Sx.GT.p (.slice (some ⟨b6, f6, none⟩) xs.length c) ?_
    refine Sx.GT.p (.int .i64 (i : Int)) ?_
    refine Sx.GT.elem 24 32 (.tmp 19) (.tmp 20) 1 24 b6 f6 xs.length c i 4 (by rfl) (by rfl) (by kernel_rfl) (by kernel_rfl) (by kernel_rfl) (by kernel_rfl) (by omega) ?_
    refine Sx.GT.ldr1 32 (.tmp 21) b6 ((f6 + i * 1) + 0) (.slice A6 x6.length c6) 5 (by rfl) (by rfl) (by kernel_rfl) (by kernel_rfl) (fun w S => hm6 w _ S 0 _ rfl) (by kernel_rfl) ?_
    refine Sx.GT.two ?_ ?_
    ·
     refine Sx.Alone.g (.slice xA i xc) .m1 .m1 (fun w S => St.pick S [] _ rfl (by decide)) ?_
     refine Sx.GT.alone (Sx.Alone.c 45 #[.slice A6 x6.length c6] (fun w7 S => (((Guests.specx_new x6 A6 c6 _ (hce _ (hx6 ▸ List.getElem_mem _)).1 (St.old (r := (rLsw (rPair rInt rInt))) S hr6)).mono weak_G)).mono fun e w7' hp => ?_))
     obtain ⟨cs, F, rfl, ho, hF, hb⟩ := hp
     obtain ⟨P7_0, P7_1, P7_2, P7_3, rfl, f7_0, f7_1, f7_2, f7_3⟩ := wG_rd (wG.reads ho)
     obtain ⟨A7_0, c7_0, e7_0, -⟩ := lst_val f7_0
     subst e7_0
     obtain ⟨A7_1, c7_1, e7_1, -⟩ := lst_val f7_1
     subst e7_1
     obtain ⟨A7_2, c7_2, e7_2, -⟩ := lst_val f7_2
     subst e7_2
     obtain ⟨A7_3, c7_3, e7_3, -⟩ := lst_val f7_3
     subst e7_3
     generalize F = F7 at ho hF
     refine ⟨_, _, rfl, (St.got S hb ho hF), (fun w S => St.pick S [] _ rfl (by decide)), ?_⟩
     clear S hb ho hF f7_0 f7_1 f7_2 f7_3
     refine Sx.GT.alone (Sx.Alone.made 39 [.slice A7_0 (newG x6).prog.length c7_0, .int .i64 (newG x6).a, .int .i64 (newG x6).pc, .slice A7_1 (newG x6).wr.length c7_1, .slice A7_2 (newG x6).lv.length c7_2, .int .i64 (newG x6).t.1, .int .i64 (newG x6).t.2.1, .bool (newG x6).t.2.2, .int .i64 (newG x6).pd, .int .i64 (newG x6).x.1, .int .i64 (newG x6).x.2.1, .bool (newG x6).x.2.2.1, .int .i64 (newG x6).x.2.2.2, .bool (newG x6).hl, .slice A7_3 (newG x6).seen.length c7_3] 1 (by rfl) (by kernel_rfl) (fun w => by kernel_rfl) (fun w S => St.pick S [] _ rfl (by decide)) (fun b8 => ?_))
     refine Sx.GT.claims (L' := [ow (rLst 39 wG) w.heap.size xh ((xs.take i).map newG) [.slice xA i xc] xF, ow wG w7.heap.size w7'.heap.size (newG x6) [.slice A7_0 (newG x6).prog.length c7_0, .int .i64 (newG x6).a, .int .i64 (newG x6).pc, .slice A7_1 (newG x6).wr.length c7_1, .slice A7_2 (newG x6).lv.length c7_2, .int .i64 (newG x6).t.1, .int .i64 (newG x6).t.2.1, .bool (newG x6).t.2.2, .int .i64 (newG x6).pd, .int .i64 (newG x6).x.1, .int .i64 (newG x6).x.2.1, .bool (newG x6).x.2.2.1, .int .i64 (newG x6).x.2.2.2, .bool (newG x6).hl, .slice A7_3 (newG x6).seen.length c7_3] F7, vr b8 [.slice A7_0 (newG x6).prog.length c7_0, .int .i64 (newG x6).a, .int .i64 (newG x6).pc, .slice A7_1 (newG x6).wr.length c7_1, .slice A7_2 (newG x6).lv.length c7_2, .int .i64 (newG x6).t.1, .int .i64 (newG x6).t.2.1, .bool (newG x6).t.2.2, .int .i64 (newG x6).pd, .int .i64 (newG x6).x.1, .int .i64 (newG x6).x.2.1, .bool (newG x6).x.2.2.1, .int .i64 (newG x6).x.2.2.2, .bool (newG x6).hl, .slice A7_3 (newG x6).seen.length c7_3], vr b3 [.slice A2 8 c2, .slice xA i xc, .slice none 0 0, .int .i64 0], ow (rLsw (rLsw rInt)) w2.heap.size w2'.heap.size (List.replicate 8 ([0, 0, 0, 0] : List Int)) [.slice A2 8 c2] F2, vr b1 [.slice none 0 0, .slice none 0 0, .slice none 0 0, .int .i64 0]]) (fun w S => St.pick S [2, 1, 0, 3, 4, 5] _ rfl (by decide)) ?_
     refine Sx.GT.alone (Sx.Alone.appr (.tmp 18) (.tmp 24) 27 15 184 1 (by rfl) (by rfl) (by kernel_rfl) (by kernel_rfl) (by rfl) (by kernel_rfl) (by kernel_rfl) (by kernel_rfl) (by rw [List.length_map, List.length_take]; simp only [maxLen]; omega) (by rw [List.length_map, List.length_take]; omega) ((xs.take (i + 1)).map newG) (by rw [Kit.take_step (show i < xs.length by omega), List.map_append, hx6]; rfl) (i + 1) (by rw [List.length_map, List.length_take]; omega) (fun A9 c9 F9 hi9 w S => St.pick S [] _ rfl (by decide)) (fun A9 c9 F9 hi9 hm9 => ?_))
     refine Sx.GT.p (.pointer (some ⟨b3, 1, none⟩)) ?_
     refine Sx.GT.alone (Sx.Alone.s (.slice A9 (i + 1) c9) .a1 .a1 (fun w S => St.pick S [] _ rfl (by decide)) ?_)
     exact Sx.GT.nil (fun a w' hA S => ⟨rfl, none, 0, none, 0, none, 0, none, 0, [], 0, 0, 0, A9, c9, F9, hi9, (Sx.Ag.and hA (Sx.Ag.and hA (Sx.Ag.and hA (Sx.Ag.and hA (Sx.Ag.none hA) _ _ (by kernel_rfl)) _ _ (by kernel_rfl)) _ _ (by kernel_rfl)) _ _ (by kernel_rfl)), St.pick S [0, 1, 2, 3] _ rfl (by decide)⟩)
    ·
     refine Sx.Alone.c 45 #[.slice A6 x6.length c6] (fun w10 S => (((Guests.specx_new x6 A6 c6 _ (hce _ (hx6 ▸ List.getElem_mem _)).1 (St.old (r := (rLsw (rPair rInt rInt))) S hr6)).mono weak_G)).mono fun e w10' hp => ?_)
     obtain ⟨cs, F, rfl, ho, hF, hb⟩ := hp
     obtain ⟨P10_0, P10_1, P10_2, P10_3, rfl, f10_0, f10_1, f10_2, f10_3⟩ := wG_rd (wG.reads ho)
     obtain ⟨A10_0, c10_0, e10_0, -⟩ := lst_val f10_0
     subst e10_0
     obtain ⟨A10_1, c10_1, e10_1, -⟩ := lst_val f10_1
     subst e10_1
     obtain ⟨A10_2, c10_2, e10_2, -⟩ := lst_val f10_2
     subst e10_2
     obtain ⟨A10_3, c10_3, e10_3, -⟩ := lst_val f10_3
     subst e10_3
     generalize F = F10 at ho hF
     refine ⟨_, _, rfl, (St.got S hb ho hF), (fun w S => St.pick S [] _ rfl (by decide)), ?_⟩
     clear S hb ho hF f10_0 f10_1 f10_2 f10_3
     refine Sx.GT.two ?_ ?_
     ·
      refine Sx.Alone.g (.slice xA i xc) .m2 .m1 (fun w S => St.pick S [] _ rfl (by decide)) ?_
      refine Sx.GT.alone (Sx.Alone.made 39 [.slice A10_0 (newG x6).prog.length c10_0, .int .i64 (newG x6).a, .int .i64 (newG x6).pc, .slice A10_1 (newG x6).wr.length c10_1, .slice A10_2 (newG x6).lv.length c10_2, .int .i64 (newG x6).t.1, .int .i64 (newG x6).t.2.1, .bool (newG x6).t.2.2, .int .i64 (newG x6).pd, .int .i64 (newG x6).x.1, .int .i64 (newG x6).x.2.1, .bool (newG x6).x.2.2.1, .int .i64 (newG x6).x.2.2.2, .bool (newG x6).hl, .slice A10_3 (newG x6).seen.length c10_3] 1 (by rfl) (by kernel_rfl) (fun w => by kernel_rfl) (fun w S => St.pick S [] _ rfl (by decide)) (fun b11 => ?_))
      refine Sx.GT.claims (L' := [ow (rLst 39 wG) w.heap.size xh ((xs.take i).map newG) [.slice xA i xc] xF, ow wG w10.heap.size w10'.heap.size (newG x6) [.slice A10_0 (newG x6).prog.length c10_0, .int .i64 (newG x6).a, .int .i64 (newG x6).pc, .slice A10_1 (newG x6).wr.length c10_1, .slice A10_2 (newG x6).lv.length c10_2, .int .i64 (newG x6).t.1, .int .i64 (newG x6).t.2.1, .bool (newG x6).t.2.2, .int .i64 (newG x6).pd, .int .i64 (newG x6).x.1, .int .i64 (newG x6).x.2.1, .bool (newG x6).x.2.2.1, .int .i64 (newG x6).x.2.2.2, .bool (newG x6).hl, .slice A10_3 (newG x6).seen.length c10_3] F10, vr b11 [.slice A10_0 (newG x6).prog.length c10_0, .int .i64 (newG x6).a, .int .i64 (newG x6).pc, .slice A10_1 (newG x6).wr.length c10_1, .slice A10_2 (newG x6).lv.length c10_2, .int .i64 (newG x6).t.1, .int .i64 (newG x6).t.2.1, .bool (newG x6).t.2.2, .int .i64 (newG x6).pd, .int .i64 (newG x6).x.1, .int .i64 (newG x6).x.2.1, .bool (newG x6).x.2.2.1, .int .i64 (newG x6).x.2.2.2, .bool (newG x6).hl, .slice A10_3 (newG x6).seen.length c10_3], vr b3 [.slice A2 8 c2, .slice xA i xc, .slice none 0 0, .int .i64 0], ow (rLsw (rLsw rInt)) w2.heap.size w2'.heap.size (List.replicate 8 ([0, 0, 0, 0] : List Int)) [.slice A2 8 c2] F2, vr b1 [.slice none 0 0, .slice none 0 0, .slice none 0 0, .int .i64 0]]) (fun w S => St.pick S [2, 1, 0, 3, 4, 5] _ rfl (by decide)) ?_
      refine Sx.GT.alone (Sx.Alone.appr (.tmp 18) (.tmp 24) 27 15 184 1 (by rfl) (by rfl) (by kernel_rfl) (by kernel_rfl) (by rfl) (by kernel_rfl) (by kernel_rfl) (by kernel_rfl) (by rw [List.length_map, List.length_take]; simp only [maxLen]; omega) (by rw [List.length_map, List.length_take]; omega) ((xs.take (i + 1)).map newG) (by rw [Kit.take_step (show i < xs.length by omega), List.map_append, hx6]; rfl) (i + 1) (by rw [List.length_map, List.length_take]; omega) (fun A12 c12 F12 hi12 w S => St.pick S [] _ rfl (by decide)) (fun A12 c12 F12 hi12 hm12 => ?_))
      refine Sx.GT.p (.pointer (some ⟨b3, 1, none⟩)) ?_
      refine Sx.GT.alone (Sx.Alone.s (.slice A12 (i + 1) c12) .a1 .a1 (fun w S => St.pick S [] _ rfl (by decide)) ?_)
      exact Sx.GT.nil (fun a w' hA S => ⟨rfl, none, 0, none, 0, none, 0, none, 0, [], 0, 0, 0, A12, c12, F12, hi12, (Sx.Ag.and hA (Sx.Ag.and hA (Sx.Ag.and hA (Sx.Ag.and hA (Sx.Ag.none hA) _ _ (by kernel_rfl)) _ _ (by kernel_rfl)) _ _ (by kernel_rfl)) _ _ (by kernel_rfl)), St.pick S [0, 1, 2, 3] _ rfl (by decide)⟩)
     ·
      refine Sx.Alone.made 39 [.slice A10_0 (newG x6).prog.length c10_0, .int .i64 (newG x6).a, .int .i64 (newG x6).pc, .slice A10_1 (newG x6).wr.length c10_1, .slice A10_2 (newG x6).lv.length c10_2, .int .i64 (newG x6).t.1, .int .i64 (newG x6).t.2.1, .bool (newG x6).t.2.2, .int .i64 (newG x6).pd, .int .i64 (newG x6).x.1, .int .i64 (newG x6).x.2.1, .bool (newG x6).x.2.2.1, .int .i64 (newG x6).x.2.2.2, .bool (newG x6).hl, .slice A10_3 (newG x6).seen.length c10_3] 1 (by rfl) (by kernel_rfl) (fun w => by kernel_rfl) (fun w S => St.pick S [] _ rfl (by decide)) (fun b13 => ?_)
      refine Sx.GT.alone (Sx.Alone.g (.slice xA i xc) .m3 .m1 (fun w S => St.pick S [] _ rfl (by decide)) ?_)
      refine Sx.GT.claims (L' := [ow (rLst 39 wG) w.heap.size xh ((xs.take i).map newG) [.slice xA i xc] xF, ow wG w10.heap.size w10'.heap.size (newG x6) [.slice A10_0 (newG x6).prog.length c10_0, .int .i64 (newG x6).a, .int .i64 (newG x6).pc, .slice A10_1 (newG x6).wr.length c10_1, .slice A10_2 (newG x6).lv.length c10_2, .int .i64 (newG x6).t.1, .int .i64 (newG x6).t.2.1, .bool (newG x6).t.2.2, .int .i64 (newG x6).pd, .int .i64 (newG x6).x.1, .int .i64 (newG x6).x.2.1, .bool (newG x6).x.2.2.1, .int .i64 (newG x6).x.2.2.2, .bool (newG x6).hl, .slice A10_3 (newG x6).seen.length c10_3] F10, vr b13 [.slice A10_0 (newG x6).prog.length c10_0, .int .i64 (newG x6).a, .int .i64 (newG x6).pc, .slice A10_1 (newG x6).wr.length c10_1, .slice A10_2 (newG x6).lv.length c10_2, .int .i64 (newG x6).t.1, .int .i64 (newG x6).t.2.1, .bool (newG x6).t.2.2, .int .i64 (newG x6).pd, .int .i64 (newG x6).x.1, .int .i64 (newG x6).x.2.1, .bool (newG x6).x.2.2.1, .int .i64 (newG x6).x.2.2.2, .bool (newG x6).hl, .slice A10_3 (newG x6).seen.length c10_3], vr b3 [.slice A2 8 c2, .slice xA i xc, .slice none 0 0, .int .i64 0], ow (rLsw (rLsw rInt)) w2.heap.size w2'.heap.size (List.replicate 8 ([0, 0, 0, 0] : List Int)) [.slice A2 8 c2] F2, vr b1 [.slice none 0 0, .slice none 0 0, .slice none 0 0, .int .i64 0]]) (fun w S => St.pick S [2, 1, 0, 3, 4, 5] _ rfl (by decide)) ?_
      refine Sx.GT.alone (Sx.Alone.appr (.tmp 18) (.tmp 24) 27 15 184 1 (by rfl) (by rfl) (by kernel_rfl) (by kernel_rfl) (by rfl) (by kernel_rfl) (by kernel_rfl) (by kernel_rfl) (by rw [List.length_map, List.length_take]; simp only [maxLen]; omega) (by rw [List.length_map, List.length_take]; omega) ((xs.take (i + 1)).map newG) (by rw [Kit.take_step (show i < xs.length by omega), List.map_append, hx6]; rfl) (i + 1) (by rw [List.length_map, List.length_take]; omega) (fun A14 c14 F14 hi14 w S => St.pick S [] _ rfl (by decide)) (fun A14 c14 F14 hi14 hm14 => ?_))
      refine Sx.GT.p (.pointer (some ⟨b3, 1, none⟩)) ?_
      refine Sx.GT.alone (Sx.Alone.s (.slice A14 (i + 1) c14) .a1 .a1 (fun w S => St.pick S [] _ rfl (by decide)) ?_)
      exact Sx.GT.nil (fun a w' hA S => ⟨rfl, none, 0, none, 0, none, 0, none, 0, [], 0, 0, 0, A14, c14, F14, hi14, (Sx.Ag.and hA (Sx.Ag.and hA (Sx.Ag.and hA (Sx.Ag.and hA (Sx.Ag.none hA) _ _ (by kernel_rfl)) _ _ (by kernel_rfl)) _ _ (by kernel_rfl)) _ _ (by kernel_rfl)), St.pick S [0, 1, 2, 3] _ rfl (by decide)⟩)
   rintro e a w' ⟨rfl, y15_0, y15_1, y15_2, y15_3, y15_4, y15_5, y15_6, y15_7, y15_8, y15_9, y15_10, y15_11, y15_12, y15_13, y15_14, y15_15, hA, S⟩
   refine Sx.E.out ?_ hA S
   clear hA S a w'
   refine Sx.E.block_normal (Sx.E.next (Sx.C.region ?_))
   refine Sx.G.p (.int .i64 (i : Int)) ?_
   refine Sx.G.q (.int .i64 (IntKind.i64.wrap ((i : Int) + 1))) (.int .i64 ((i + 1 : Nat) : Int)) (congrArg (Value.int .i64) (Sx.wrap_up i (by omega))) ?_
   refine Sx.G.p (.int .i64 ((i + 1 : Nat) : Int)) ?_
   refine Sx.G.nil ?_
   exact Sx.E.again (i + 1, y15_12, y15_13, y15_15, y15_14) ⟨by show i + 1 ≤ xs.length; omega, by show i + 1 ≤ 2; omega⟩ (by show 2 - (i + 1) < 2 - i; omega) (fun a hA => (Sx.Ag.and hA (Sx.Ag.and hA (Sx.Ag.and hA (Sx.Ag.and hA (Sx.Ag.none hA) _ _ (by kernel_rfl)) _ _ (by kernel_rfl)) _ _ (by kernel_rfl)) _ _ (by kernel_rfl))) (fun w' S => St.pick S [0, 1, 2, 3] _ rfl (by decide))
end Go.Proofs.YtldgadmpclgfhaaGreat.Kit
namespace Go.Proofs.YtldgadmpclgfhaaGreat.Kit
set_option maxHeartbeats 8000000
set_option maxRecDepth 100000
set_option maxRecDepth 100000
open Go.ChangeShapes Go.WideShapes Go.ChangeAt Go.RowKit Go.Deep
open Go.Proofs.YtldgadmpclgfhaaGreat.Base Go.Proofs.YtldgadmpclgfhaaGreat.Mem Go.Proofs.YtldgadmpclgfhaaGreat.Data Go.Proofs.YtldgadmpclgfhaaGreat.Stt Go.Proofs.YtldgadmpclgfhaaGreat.Guests Go.Proofs.YtldgadmpclgfhaaGreat.Ctls Go.Proofs.YtldgadmpclgfhaaGreat.Exits Go.Proofs.YtldgadmpclgfhaaGreat.Irqs Go.Proofs.YtldgadmpclgfhaaGreat.Inss
set_option linter.unusedVariables false
set_option linter.unusedSimpArgs false
noncomputable def eqv {α : Type} (x y : α) : Bool := @decide (x = y) (Classical.propDecidable _)
theorem eqv_true {α : Type} {x y : α} (h : x = y) : eqv x y = true := @decide_eq_true _ (Classical.propDecidable _) h
theorem eqv_false {α : Type} {x y : α} (h : x ≠ y) : eqv x y = false := @decide_eq_false _ (Classical.propDecidable _) h
theorem eqv_iff {α : Type} {x y : α} : eqv x y = true ↔ x = y := ⟨fun h => @of_decide_eq_true _ (Classical.propDecidable _) h, eqv_true⟩
theorem ne_of_eqv {α : Type} {x y : α} (h : eqv x y = false) : x ≠ y := fun e => by rw [eqv_true e] at h; cases h
theorem sameG_eqv (x y : gT) : sameG x y = eqv x y := by
 rw [Bool.eq_iff_iff, eqv_iff]
 constructor
 ·
  intro h
  unfold sameG at h
  simp only [Bool.and_eq_true, decide_eq_true_eq, beq_iff_eq] at h
  obtain ⟨x1, x2, x3, x4, x5, ⟨x61, x62, x63⟩, x7, ⟨x81, x82, x83, x84⟩, x9, x10⟩ := x
  obtain ⟨y1, y2, y3, y4, y5, ⟨y61, y62, y63⟩, y7, ⟨y81, y82, y83, y84⟩, y9, y10⟩ := y
  simp only at h
  simp only [h]
 ·
  rintro rfl
  exact sameG_refl x
theorem take_ne {α : Type} {xs ys : List α} {i : Nat} (hi : i < xs.length) (hj : i < ys.length) (h : xs[i] ≠ ys[i]) : xs ≠ ys := fun e => by subst e; exact h rfl
theorem take_up {α : Type} {xs ys : List α} {i : Nat} (hi : i < xs.length) (hj : i < ys.length) (h : xs.take i = ys.take i) (h2 : xs[i] = ys[i]) : xs.take (i + 1) = ys.take (i + 1) := by rw [Kit.take_step hi, Kit.take_step hj, h, h2]
theorem eqv_B (x y : bT) : eqv x y = (eqv x.mem y.mem && eqv x.gs y.gs && eqv x.outs y.outs && (x.pd == y.pd)) := by
 rw [Bool.eq_iff_iff, eqv_iff]
 simp only [Bool.and_eq_true, eqv_iff, beq_iff_eq]
 obtain ⟨a, b, c, d⟩ := x
 obtain ⟨a', b', c', d'⟩ := y
 simp only [bT.mk.injEq, and_assoc]
theorem beq_dec (a b : Int) : (a == b) = decide (a = b) := rfl
theorem specx_memok (xs : List (List Int)) (A : Option Addr) (c : Nat) (p : Int) (w : World) (hc : (rLsw (rLsw rInt)).cap xs) (h : rdLst (rLsw rInt) w 0 w.heap.size xs [.slice A xs.length c]) : Calls Tryz.prog 59 #[.slice A xs.length c, .int .i64 p] w (fun e w' => e = .returned (.bool (Grid.memB xs p)) ∧ Below w.heap.size w w') := by
 obtain ⟨hl, hce⟩ := hc
 refine Sx.enter (args := [.slice A xs.length c, .int .i64 p]) Tryz.func59 rfl Tryz.ntmps59 rfl ?_
 refine Sx.C.seq (Sx.C.region ?_)
 refine Sx.G.p (.bool false) ?_
 refine Sx.G.nil (Sx.E.next (Sx.C.seq (Sx.C.seq (Sx.C.region ?_))))
 refine Sx.G.p (.int .i64 0) ?_
 refine Sx.G.nil (Sx.E.next (Sx.C.block ?_))
 refine Sx.C.loop (α := Nat) (fun i => i ≤ xs.length ∧ (xs.take i).all Grid.pageB = true) (fun i => [(5, .int .i64 (i : Int)), (0, .slice A xs.length c), (1, .int .i64 p), (4, .bool false)]) (fun i => []) (fun i => xs.length - i) 0 ⟨Nat.zero_le _, rfl⟩ (fun a hA => (Sx.Ag.and hA (Sx.Ag.and hA (Sx.Ag.and hA (Sx.Ag.and hA (Sx.Ag.none hA) _ _ (by kernel_rfl)) _ _ (by kernel_rfl)) _ _ (by kernel_rfl)) _ _ (by kernel_rfl))) (fun w S => S) (fun i hx => ?_)
 have hxi := hx.1
 refine Sx.C.seq (Sx.C.seq (Sx.C.region ?_))
 refine Sx.G.p (.int .i64 (i : Int)) ?_
 refine Sx.G.p (.slice A xs.length c) ?_
 refine Sx.G.p (.int .i64 ((xs.length : Nat) : Int)) ?_
 refine Sx.G.p (.bool (decide ((i : Int) < ((xs.length : Nat) : Int)))) ?_
 refine Sx.G.nil (Sx.E.next ?_)
 cases hc1 : (decide ((i : Int) < ((xs.length : Nat) : Int)))
 ·
  have hb1 := hc1
  replace hc1 := of_decide_eq_false hc1
  refine Sx.C.no (by kernel_rfl) (by kernel_rfl) ?_
  refine Sx.C.exit (Sx.E.then_exit (Sx.E.then_exit (Sx.E.block_hit (Sx.E.next (Sx.C.seq (Sx.C.region ?_))))))
  refine Sx.G.p (.slice A xs.length c) ?_
  refine Sx.G.p (.int .i64 ((xs.length : Nat) : Int)) ?_
  refine Sx.G.p (.int .i64 p) ?_
  refine Sx.G.p (.bool (((xs.length : Nat) : Int) == p)) ?_
  refine Sx.G.p (.bool (((xs.length : Nat) : Int) == p)) ?_
  refine Sx.G.nil (Sx.E.next (Sx.C.ret ?_))
  refine Sx.E.ret1 (.bool (((xs.length : Nat) : Int) == p)) rfl (by kernel_rfl) (fun w S => ?_)
  have hall : xs.all Grid.pageB = true := by have h2 := hx.2; rwa [List.take_of_length_le (by omega)] at h2
  exact ⟨by unfold Grid.memB Grid.pagesB; rw [hall, Bool.true_and, ← beq_dec], S.below⟩
 ·
  have hb1 := hc1
  replace hc1 := of_decide_eq_true hc1
  refine Sx.C.yes (by kernel_rfl) (by kernel_rfl) ?_
  refine Sx.C.skip (Sx.E.next (Sx.C.seq (Sx.C.block (Sx.C.seq (Sx.C.region ?_)))))
  refine Sx.G.p (.slice A xs.length c) ?_
  refine Sx.G.p (.int .i64 (i : Int)) ?_
  obtain ⟨b2, f2, es2, eA2, hr2, hl2, hm2⟩ := Sx.old_elem (by decide) h i (by omega)
  subst eA2
  obtain ⟨x2, hx2⟩ : ∃ z_, z_ = (xs[i]'(by omega)) := ⟨_, rfl⟩
  rw [← hx2] at hr2
  have hle2 : x2.length ≤ 1048576 := (hce _ (hx2 ▸ List.getElem_mem _)).1
  replace hr2 : rdLst rInt w 0 w.heap.size x2 es2 := hr2
  obtain ⟨P2, rfl⟩ := lst_rd hr2
  obtain ⟨A2, c2, e2, -⟩ := lst_val hr2
  subst e2
  refine Sx.G.elem 26 28 (.tmp 12) (.tmp 13) 1 24 b2 f2 xs.length c i rfl (by kernel_rfl) (by kernel_rfl) (by kernel_rfl) (by kernel_rfl) (by omega) ?_
  refine Sx.G.ldr1 28 (.tmp 14) b2 ((f2 + i * 1) + 0) (.slice A2 x2.length c2) rfl (by kernel_rfl) (by kernel_rfl) (fun w S => hm2 w _ S 0 _ rfl) (by kernel_rfl) ?_
  refine Sx.G.cp 96 #[.slice A2 x2.length c2] (.bool (Grid.pageB x2)) (fun w S => by exact ((Grid.spec_pageOk A2 x2.length c2 0 _ x2 _ hle2 rfl (i1_lies (St.old (r := (rLsw rInt)) S hr2))).mono fun e w' h => And.intro h.1 (Guests.below_same h.2))) ?_
  refine Sx.G.p (.bool (!(Grid.pageB x2))) ?_
  refine Sx.G.nil (Sx.E.next ?_)
  cases hc3 : (Grid.pageB x2)
  ·
   have hb3 := hc3
   refine Sx.C.yes (by kernel_rfl) (by kernel_rfl) ?_
   refine Sx.C.seq (Sx.C.region ?_)
   refine Sx.G.p (.bool false) ?_
   refine Sx.G.nil (Sx.E.next (Sx.C.ret (Sx.E.block_ret (Sx.E.then_ret (Sx.E.then_ret (Sx.E.block_ret (Sx.E.then_ret ?_)))))))
   refine Sx.E.ret1 (.bool false) rfl (by kernel_rfl) (fun w S => ?_)
   have hall : xs.all Grid.pageB = false := by rw [Bool.eq_false_iff]; intro h2; have h3 := List.all_eq_true.1 h2 _ (List.getElem_mem (show i < xs.length by omega)); rw [← hx2, hc3] at h3; cases h3
   exact ⟨by unfold Grid.memB Grid.pagesB; rw [hall]; rfl, S.below⟩
  ·
   have hb3 := hc3
   refine Sx.C.no (by kernel_rfl) (by kernel_rfl) ?_
   refine Sx.C.skip (Sx.E.block_normal (Sx.E.next (Sx.C.region ?_)))
   refine Sx.G.p (.int .i64 (i : Int)) ?_
   refine Sx.G.q (.int .i64 (IntKind.i64.wrap ((i : Int) + 1))) (.int .i64 ((i + 1 : Nat) : Int)) (congrArg (Value.int .i64) (Sx.wrap_up i (by omega))) ?_
   refine Sx.G.p (.int .i64 ((i + 1 : Nat) : Int)) ?_
   refine Sx.G.nil ?_
   have hup : (xs.take (i + 1)).all Grid.pageB = true := by rw [Kit.take_step (by omega), List.all_append, hx.2, ← hx2]; simp [hc3]
   exact Sx.E.again (i + 1) ⟨by omega, hup⟩ (by omega) (fun a hA => (Sx.Ag.and hA (Sx.Ag.and hA (Sx.Ag.and hA (Sx.Ag.and hA (Sx.Ag.none hA) _ _ (by kernel_rfl)) _ _ (by kernel_rfl)) _ _ (by kernel_rfl)) _ _ (by kernel_rfl))) (fun w S => S)
theorem specx_bok (x : bT) (cs : List Value) (w : World) (hc : wB.cap x) (h : wB.rd w 0 w.heap.size x cs) : Calls Tryz.prog 23 #[.agg cs.toArray] w (fun e w' => e = .returned (.bool (bareOk x)) ∧ Below w.heap.size w w') := by
 obtain ⟨hcap0, hcap1, hcap2, hcap3⟩ := hc
 have hgl : x.gs.length ≤ 1048576 := hcap1.1
 have hR := h
 obtain ⟨hP0, hP1, hP2, rfl, hf0, hf1, hf2⟩ := wB_rd h
 obtain ⟨hA0, hK0, he0, -⟩ := lst_val hf0
 subst he0
 obtain ⟨hA1, hK1, he1, -⟩ := lst_val hf1
 subst he1
 obtain ⟨hA2, hK2, he2, -⟩ := lst_val hf2
 subst he2
 refine Sx.enter (args := [.agg #[.slice hA0 x.mem.length hK0, .slice hA1 x.gs.length hK1, .slice hA2 x.outs.length hK2, .int .i64 x.pd]]) Tryz.func23 rfl Tryz.ntmps23 rfl ?_
 refine Sx.C.seq (Sx.C.region ?_)
 refine Sx.G.b [.slice hA0 x.mem.length hK0, .slice hA1 x.gs.length hK1, .slice hA2 x.outs.length hK2, .int .i64 x.pd] (fun b1 => ?_)
 refine Sx.G.p (.bool false) ?_
 refine Sx.G.nil (Sx.E.next (Sx.C.seq (Sx.C.seq (Sx.C.region ?_))))
 refine Sx.G.p (.int .i64 0) ?_
 refine Sx.G.nil (Sx.E.next (Sx.C.block ?_))
 refine Sx.C.loop (α := Nat) (fun i => i ≤ x.gs.length ∧ (x.gs.take i).all guestOk = true) (fun i => [(3, .int .i64 (i : Int)), (1, .pointer (some ⟨b1, 0, none⟩)), (2, .bool false)]) (fun i => [vr b1 [.slice hA0 x.mem.length hK0, .slice hA1 x.gs.length hK1, .slice hA2 x.outs.length hK2, .int .i64 x.pd]]) (fun i => x.gs.length - i) 0 ⟨Nat.zero_le _, rfl⟩ (fun a hA => (Sx.Ag.and hA (Sx.Ag.and hA (Sx.Ag.and hA (Sx.Ag.none hA) _ _ (by kernel_rfl)) _ _ (by kernel_rfl)) _ _ (by kernel_rfl))) (fun w S => S) (fun i hx => ?_)
 have hxi := hx.1
 refine Sx.C.seq (Sx.C.seq (Sx.C.region ?_))
 refine Sx.G.p (.int .i64 (i : Int)) ?_
 refine Sx.G.p (.pointer (some ⟨b1, 1, none⟩)) ?_
 refine Sx.G.g (.slice hA1 x.gs.length hK1) .m0 .m1 ?_
 refine Sx.G.p (.int .i64 ((x.gs.length : Nat) : Int)) ?_
 refine Sx.G.p (.bool (decide ((i : Int) < ((x.gs.length : Nat) : Int)))) ?_
 refine Sx.G.nil (Sx.E.next ?_)
 cases hc2 : (decide ((i : Int) < ((x.gs.length : Nat) : Int)))
 ·
  have hb2 := hc2
  replace hc2 := of_decide_eq_false hc2
  refine Sx.C.no (by kernel_rfl) (by kernel_rfl) ?_
  refine Sx.C.exit (Sx.E.then_exit (Sx.E.then_exit (Sx.E.block_hit (Sx.E.next (Sx.C.seq (Sx.C.region ?_))))))
  refine Sx.G.p (.pointer (some ⟨b1, 0, none⟩)) ?_
  refine Sx.G.g (.slice hA0 x.mem.length hK0) .m0 .m0 ?_
  refine Sx.G.cp 59 #[.slice hA0 x.mem.length hK0, .int .i64 8] (.bool (Grid.memB x.mem 8)) (fun w S => by exact specx_memok x.mem hA0 hK0 8 _ hcap0 (St.old (r := (rLsw (rLsw rInt))) S hf0)) ?_
  refine Sx.G.p (.bool (Grid.memB x.mem 8)) ?_
  cases hc3 : (Grid.memB x.mem 8)
  ·
   have hb3 := hc3
   refine Sx.G.k ?_
   refine Sx.G.k ?_
   refine Sx.G.k ?_
   refine Sx.G.k ?_
   refine Sx.G.p (.bool false) ?_
   refine Sx.G.p (.bool false) ?_
   refine Sx.G.k ?_
   refine Sx.G.k ?_
   refine Sx.G.k ?_
   refine Sx.G.k ?_
   refine Sx.G.p (.bool false) ?_
   refine Sx.G.p (.bool false) ?_
   refine Sx.G.k ?_
   refine Sx.G.k ?_
   refine Sx.G.k ?_
   refine Sx.G.p (.bool false) ?_
   refine Sx.G.p (.bool false) ?_
   refine Sx.G.nil (Sx.E.next (Sx.C.ret ?_))
   refine Sx.E.ret1 (.bool false) rfl (by kernel_rfl) (fun w S => ?_)
   have hall : x.gs.all guestOk = true := by have h2 := hx.2; rwa [List.take_of_length_le (by omega)] at h2
   have hall' : bareOk x = (Grid.memB x.mem 8 && inB ((x.gs.length : Nat) : Int) 1 2 && decide (((x.outs.length : Nat) : Int) ≤ 40) && Irqs.pend x.pd) := by unfold bareOk; rw [hall]; simp only [Bool.true_and]
   exact ⟨congrArg Ending.returned (congrArg Value.bool (by simp only [hall', hb2, hb3, Bool.and_true, Bool.and_false, Bool.false_and, Bool.true_and])), S.below⟩
  ·
   have hb3 := hc3
   refine Sx.G.p (.pointer (some ⟨b1, 1, none⟩)) ?_
   refine Sx.G.g (.slice hA1 x.gs.length hK1) .m0 .m1 ?_
   refine Sx.G.p (.int .i64 ((x.gs.length : Nat) : Int)) ?_
   refine Sx.G.cp 37 #[.int .i64 ((x.gs.length : Nat) : Int), .int .i64 1, .int .i64 2] (.bool (inB ((x.gs.length : Nat) : Int) 1 2)) (fun w S => by exact ((spec_in ((x.gs.length : Nat) : Int) 1 2 _).mono fun e w' h => And.intro h.1 (Guests.below_same h.2))) ?_
   refine Sx.G.p (.bool (inB ((x.gs.length : Nat) : Int) 1 2)) ?_
   refine Sx.G.p (.bool (inB ((x.gs.length : Nat) : Int) 1 2)) ?_
   cases hc4 : (inB ((x.gs.length : Nat) : Int) 1 2)
   ·
    have hb4 := hc4
    refine Sx.G.k ?_
    refine Sx.G.k ?_
    refine Sx.G.k ?_
    refine Sx.G.k ?_
    refine Sx.G.p (.bool false) ?_
    refine Sx.G.p (.bool false) ?_
    refine Sx.G.k ?_
    refine Sx.G.k ?_
    refine Sx.G.k ?_
    refine Sx.G.p (.bool false) ?_
    refine Sx.G.p (.bool false) ?_
    refine Sx.G.nil (Sx.E.next (Sx.C.ret ?_))
    refine Sx.E.ret1 (.bool false) rfl (by kernel_rfl) (fun w S => ?_)
    have hall : x.gs.all guestOk = true := by have h2 := hx.2; rwa [List.take_of_length_le (by omega)] at h2
    have hall' : bareOk x = (Grid.memB x.mem 8 && inB ((x.gs.length : Nat) : Int) 1 2 && decide (((x.outs.length : Nat) : Int) ≤ 40) && Irqs.pend x.pd) := by unfold bareOk; rw [hall]; simp only [Bool.true_and]
    exact ⟨congrArg Ending.returned (congrArg Value.bool (by simp only [hall', hb2, hb3, hb4, Bool.and_true, Bool.and_false, Bool.false_and, Bool.true_and])), S.below⟩
   ·
    have hb4 := hc4
    refine Sx.G.p (.pointer (some ⟨b1, 2, none⟩)) ?_
    refine Sx.G.g (.slice hA2 x.outs.length hK2) .m0 .m2 ?_
    refine Sx.G.p (.int .i64 ((x.outs.length : Nat) : Int)) ?_
    refine Sx.G.p (.bool (decide (((x.outs.length : Nat) : Int) ≤ 40))) ?_
    refine Sx.G.p (.bool (decide (((x.outs.length : Nat) : Int) ≤ 40))) ?_
    refine Sx.G.p (.bool (decide (((x.outs.length : Nat) : Int) ≤ 40))) ?_
    cases hc5 : (decide (((x.outs.length : Nat) : Int) ≤ 40))
    ·
     have hb5 := hc5
     replace hc5 := of_decide_eq_false hc5
     refine Sx.G.k ?_
     refine Sx.G.k ?_
     refine Sx.G.k ?_
     refine Sx.G.p (.bool false) ?_
     refine Sx.G.p (.bool false) ?_
     refine Sx.G.nil (Sx.E.next (Sx.C.ret ?_))
     refine Sx.E.ret1 (.bool false) rfl (by kernel_rfl) (fun w S => ?_)
     have hall : x.gs.all guestOk = true := by have h2 := hx.2; rwa [List.take_of_length_le (by omega)] at h2
     have hall' : bareOk x = (Grid.memB x.mem 8 && inB ((x.gs.length : Nat) : Int) 1 2 && decide (((x.outs.length : Nat) : Int) ≤ 40) && Irqs.pend x.pd) := by unfold bareOk; rw [hall]; simp only [Bool.true_and]
     exact ⟨congrArg Ending.returned (congrArg Value.bool (by simp only [hall', hb2, hb3, hb4, hb5, Bool.and_true, Bool.and_false, Bool.false_and, Bool.true_and])), S.below⟩
    ·
     have hb5 := hc5
     replace hc5 := of_decide_eq_true hc5
     refine Sx.G.p (.pointer (some ⟨b1, 3, none⟩)) ?_
     refine Sx.G.g (.int .i64 x.pd) .m0 .m3 ?_
     refine Sx.G.cp 60 #[.int .i64 x.pd] (.bool (Irqs.pend x.pd)) (fun w S => by exact ((Irqs.spec_pend x.pd _).mono fun e w' h => And.intro h.1 (Guests.below_same h.2))) ?_
     refine Sx.G.p (.bool (Irqs.pend x.pd)) ?_
     refine Sx.G.p (.bool (Irqs.pend x.pd)) ?_
     refine Sx.G.nil (Sx.E.next (Sx.C.ret ?_))
     refine Sx.E.ret1 (.bool (Irqs.pend x.pd)) rfl (by kernel_rfl) (fun w S => ?_)
     have hall : x.gs.all guestOk = true := by have h2 := hx.2; rwa [List.take_of_length_le (by omega)] at h2
     have hall' : bareOk x = (Grid.memB x.mem 8 && inB ((x.gs.length : Nat) : Int) 1 2 && decide (((x.outs.length : Nat) : Int) ≤ 40) && Irqs.pend x.pd) := by unfold bareOk; rw [hall]; simp only [Bool.true_and]
     exact ⟨congrArg Ending.returned (congrArg Value.bool (by simp only [hall', hb2, hb3, hb4, hb5, Bool.and_true, Bool.and_false, Bool.false_and, Bool.true_and])), S.below⟩
 ·
  have hb2 := hc2
  replace hc2 := of_decide_eq_true hc2
  refine Sx.C.yes (by kernel_rfl) (by kernel_rfl) ?_
  refine Sx.C.skip (Sx.E.next (Sx.C.seq (Sx.C.block (Sx.C.seq (Sx.C.region ?_)))))
  refine Sx.G.p (.pointer (some ⟨b1, 1, none⟩)) ?_
  refine Sx.G.g (.slice hA1 x.gs.length hK1) .m0 .m1 ?_
  refine Sx.G.p (.int .i64 (i : Int)) ?_
  obtain ⟨b6, f6, es6, eA6, hr6, hl6, hm6⟩ := Sx.old_elem (by decide) hf1 i (by omega)
  subst eA6
  obtain ⟨x6, hx6⟩ : ∃ z_, z_ = (x.gs[i]'(by omega)) := ⟨_, rfl⟩
  rw [← hx6] at hr6
  have hR6 := hr6
  obtain ⟨P6_0, P6_1, P6_2, P6_3, rfl, hf6_0, hf6_1, hf6_2, hf6_3⟩ := wG_rd hr6
  obtain ⟨A6_0, c6_0, e6_0, -⟩ := lst_val hf6_0
  subst e6_0
  obtain ⟨A6_1, c6_1, e6_1, -⟩ := lst_val hf6_1
  subst e6_1
  obtain ⟨A6_2, c6_2, e6_2, -⟩ := lst_val hf6_2
  subst e6_2
  obtain ⟨A6_3, c6_3, e6_3, -⟩ := lst_val hf6_3
  subst e6_3
  refine Sx.G.elem 27 39 (.tmp 12) (.tmp 13) 15 184 b6 f6 x.gs.length hK1 i rfl (by kernel_rfl) (by kernel_rfl) (by kernel_rfl) (by kernel_rfl) (by omega) ?_
  refine Sx.G.ldr 39 (.tmp 14) b6 (f6 + i * 15) [.slice A6_0 x6.prog.length c6_0, .int .i64 x6.a, .int .i64 x6.pc, .slice A6_1 x6.wr.length c6_1, .slice A6_2 x6.lv.length c6_2, .int .i64 x6.t.1, .int .i64 x6.t.2.1, .bool x6.t.2.2, .int .i64 x6.pd, .int .i64 x6.x.1, .int .i64 x6.x.2.1, .bool x6.x.2.2.1, .int .i64 x6.x.2.2.2, .bool x6.hl, .slice A6_3 x6.seen.length c6_3] rfl (by kernel_rfl) (by kernel_rfl) (fun w S => hm6 w _ S) (by kernel_rfl) (by kernel_rfl) ?_
  refine Sx.G.cp 58 #[.agg #[.slice A6_0 x6.prog.length c6_0, .int .i64 x6.a, .int .i64 x6.pc, .slice A6_1 x6.wr.length c6_1, .slice A6_2 x6.lv.length c6_2, .int .i64 x6.t.1, .int .i64 x6.t.2.1, .bool x6.t.2.2, .int .i64 x6.pd, .int .i64 x6.x.1, .int .i64 x6.x.2.1, .bool x6.x.2.2.1, .int .i64 x6.x.2.2.2, .bool x6.hl, .slice A6_3 x6.seen.length c6_3]] (.bool (guestOk x6)) (fun w S => by exact Guests.specx_ok x6 _ _ (cap_G (hcap1.2 _ (hx6 ▸ List.getElem_mem _))) (rd_G (St.old S hR6))) ?_
  refine Sx.G.p (.bool (!(guestOk x6))) ?_
  refine Sx.G.nil (Sx.E.next ?_)
  cases hc7 : (guestOk x6)
  ·
   have hb7 := hc7
   refine Sx.C.yes (by kernel_rfl) (by kernel_rfl) ?_
   refine Sx.C.seq (Sx.C.region ?_)
   refine Sx.G.p (.bool false) ?_
   refine Sx.G.nil (Sx.E.next (Sx.C.ret (Sx.E.block_ret (Sx.E.then_ret (Sx.E.then_ret (Sx.E.block_ret (Sx.E.then_ret ?_)))))))
   refine Sx.E.ret1 (.bool false) rfl (by kernel_rfl) (fun w S => ?_)
   have hall : x.gs.all guestOk = false := by rw [Bool.eq_false_iff]; intro h2; have h3 := List.all_eq_true.1 h2 _ (List.getElem_mem (show i < x.gs.length by omega)); rw [← hx6, hc7] at h3; cases h3
   exact ⟨by unfold bareOk; rw [hall]; rfl, S.below⟩
  ·
   have hb7 := hc7
   refine Sx.C.no (by kernel_rfl) (by kernel_rfl) ?_
   refine Sx.C.skip (Sx.E.block_normal (Sx.E.next (Sx.C.region ?_)))
   refine Sx.G.p (.int .i64 (i : Int)) ?_
   refine Sx.G.q (.int .i64 (IntKind.i64.wrap ((i : Int) + 1))) (.int .i64 ((i + 1 : Nat) : Int)) (congrArg (Value.int .i64) (Sx.wrap_up i (by omega))) ?_
   refine Sx.G.p (.int .i64 ((i + 1 : Nat) : Int)) ?_
   refine Sx.G.nil ?_
   have hup : (x.gs.take (i + 1)).all guestOk = true := by rw [Kit.take_step (by omega), List.all_append, hx.2, ← hx6]; simp [hc7]
   exact Sx.E.again (i + 1) ⟨by omega, hup⟩ (by omega) (fun a hA => (Sx.Ag.and hA (Sx.Ag.and hA (Sx.Ag.and hA (Sx.Ag.none hA) _ _ (by kernel_rfl)) _ _ (by kernel_rfl)) _ _ (by kernel_rfl))) (fun w S => S)
end Go.Proofs.YtldgadmpclgfhaaGreat.Kit
namespace Go.Proofs.YtldgadmpclgfhaaGreat.Sx
set_option maxHeartbeats 8000000
set_option maxRecDepth 100000
set_option maxRecDepth 100000
open Go.ChangeShapes Go.WideShapes Go.ChangeAt Go.RowKit Go.Deep
open Go.Proofs.YtldgadmpclgfhaaGreat.Base Go.Proofs.YtldgadmpclgfhaaGreat.Mem Go.Proofs.YtldgadmpclgfhaaGreat.Data Go.Proofs.YtldgadmpclgfhaaGreat.Stt Go.Proofs.YtldgadmpclgfhaaGreat.Draw
set_option linter.unusedVariables false
set_option linter.unusedSimpArgs false
def rRo {α : Type} (r : Rp α) : Rp α where
 sz := r.sz
 val := r.val
 rd := r.rd
 own w lo hi x cs F := (∀ k ∈ F, lo ≤ k ∧ k < hi) ∧ ∀ w' : World, (∀ k ∈ F, w'.heap[k]? = w.heap[k]?) → r.rd w' lo hi x cs
 wf := r.wf
 cap := r.cap
 size := r.size
 cnt := r.cnt
 mark := r.mark
 tcnt := r.tcnt
 top := r.top
 len := r.len
 kept := r.kept
 wide := r.wide
 reads h := h.2 _ fun _ _ => rfl
 okept h hk := ⟨h.1, fun w' hw => h.2 w' fun k hF => (hw k hF).trans (hk k hF)⟩
 owide h a b := ⟨fun k hk => ⟨Nat.le_trans a (h.1 k hk).1, Nat.lt_of_lt_of_le (h.1 k hk).2 b⟩, fun w' hw => r.wide (h.2 w' hw) a b⟩
 inF h := h.1
theorem rdAll_of {α : Type} {r q : Rp α} (h : ∀ (v : World) (a b : Nat) (y : α) (ds : List Value), r.rd v a b y ds → q.rd v a b y ds) {w : World} {lo hi : Nat} : ∀ {xs : List α} {ds : List Value}, rdAll r w lo hi xs ds → rdAll q w lo hi xs ds
 | [], _, k => k
 | _ :: _, _, k => by
  obtain ⟨c1, c2, e, h1, h2⟩ := k
  exact ⟨c1, c2, e, h _ _ _ _ _ h1, rdAll_of h h2⟩
theorem rdLst_of {α : Type} {r q : Rp α} (h : ∀ (v : World) (a b : Nat) (y : α) (ds : List Value), r.rd v a b y ds → q.rd v a b y ds) (hz : r.sz = q.sz) {w : World} {lo hi : Nat} {xs : List α} {cs : List Value} (k : rdLst r w lo hi xs cs) : rdLst q w lo hi xs cs := by
 obtain ⟨A, c, ds, e, hc, h1, h2⟩ := k
 exact ⟨A, c, ds, e, hc, rdAll_of h h1, h2⟩
section
variable {α β : Type} {r : Rp α} {P : Program} {n : Nat} {ops : Array Oper} {Q : Exit → Act → World → Prop} {Z : World → Prop} {w0 : World} {T : Tl} {L L' M : List Res} {rest : List Oper} {l : List Oper} {o : Oper} {t : Ord.Ot} {w : World} {x : α} {cs : List Value}
theorem C.slots {T' : Tl} {c : Code} (h : ∀ a, Ag n T a → Ag n T' a) (k : C P n Q w0 T' L c) : C P n Q w0 T L c := fun a w hA S => k a w (h a hA) S
theorem St.toRoQ {q : Rp α} (hq : ∀ (v : World) (a b : Nat) (y : α) (ds : List Value), r.rd v a b y ds → q.rd v a b y ds) (S : St w0 w L) (i : Nat) {lo hi : Nat} {F : List Nat} (h : L[i]? = some (ow r lo hi x cs F)) : St w0 w (L.set i (ow (rRo q) lo hi x cs F)) :=
 S.turn i h (ow (rRo q) lo hi x cs F) (Only.refl _ _) ⟨⟨r.inF (S.at_ i h).1, fun w' hw => hq _ _ _ _ _ (r.reads (r.okept (S.at_ i h).1 hw))⟩, (S.at_ i h).2⟩ (fun k hk => .inl hk) (S.lo i (ow r lo hi x cs F) h) (S.hi i (ow r lo hi x cs F) h)
open Classical in
theorem St.ro {rs : List Res} (S : St w0 w (rs ++ M)) (h : ∀ w' : World, (∀ s ∈ rs, s.says w') → r.rd w' w0.heap.size w.heap.size x cs) : ∃ F, St w0 w (ow (rRo r) w0.heap.size w.heap.size x cs F :: M) := by
 have key : ∀ s ∈ rs, ∃ i, (rs ++ M)[i]? = some s := fun s hs => by
  obtain ⟨i, hi⟩ := List.mem_iff_getElem?.1 hs
  exact ⟨i, by rw [List.getElem?_append_left (List.getElem?_eq_some_iff.1 hi).1]; exact hi⟩
 refine ⟨(List.range w.heap.size).filter (fun k => decide (∃ s ∈ rs, s.foot k)), St.merge (rs := rs) S _ ⟨⟨fun k hk => ?_, fun w' hw => h w' fun s hs => ?_⟩, (List.nodup_range).filter _⟩ (fun k hk => ?_) (Nat.le_refl _) (Nat.le_refl _)⟩
 ·
  rw [List.mem_filter] at hk
  obtain ⟨s, hs, hf⟩ := of_decide_eq_true hk.2
  obtain ⟨i, hi⟩ := key s hs
  exact S.footlt hi hf
 ·
  obtain ⟨i, hi⟩ := key s hs
  exact s.kept (S.says i s hi) fun k hk => hw k (List.mem_filter.2 ⟨List.mem_range.2 (S.footlt hi hk).2, decide_eq_true ⟨s, hs, hk⟩⟩)
 ·
  obtain ⟨hk, -⟩ := hk
  rw [List.mem_filter] at hk
  exact of_decide_eq_true hk.2
theorem St.pair {q : Rp β} {y : β} {ds : List Value} {lo hi lo2 hi2 : Nat} {F G : List Nat} (S : St w0 w (ow r lo hi x cs F :: ow q lo2 hi2 y ds G :: M)) : St w0 w (ow (rPair r q) w0.heap.size w.heap.size (x, y) (cs ++ ds) (F ++ G) :: M) := by
 have hFG := S.disj 0 1 rfl rfl (by decide)
 refine St.merge (rs := [_, _]) S _ ⟨⟨cs, ds, F, G, rfl, rfl, r.owide (S.at_ 0 rfl).1 (S.lo 0 _ rfl) (S.hi 0 _ rfl), q.owide (S.at_ 1 rfl).1 (S.lo 1 _ rfl) (S.hi 1 _ rfl)⟩, nodup_app (S.at_ 0 rfl).2 (S.at_ 1 rfl).2 hFG⟩ (fun k hk => ?_) (Nat.le_refl _) (Nat.le_refl _)
 obtain ⟨hk, -⟩ := hk
 rcases List.mem_append.1 hk with hk | hk
 ·
  exact ⟨_, List.mem_cons_self, hk, r.inF (S.at_ 0 rfl).1 k hk⟩
 ·
  exact ⟨_, List.mem_cons_of_mem _ List.mem_cons_self, hk, q.inF (S.at_ 1 rfl).1 k hk⟩
theorem pair_all {w : World} {lo hi : Nat} {y : α × α} {cs : List Value} {F : List Nat} (h : (rPair r r).own w lo hi y cs F) : ownAll r w lo hi [y.1, y.2] cs F := by
 obtain ⟨c1, c2, F1, F2, rfl, rfl, h1, h2⟩ := h
 exact ownAll_append (ownAll_one h1) (ownAll_one h2)
theorem appr2_run {e : TypeId} {ρ : Operand → Value} {lo hi lo2 hi2 : Nat} {xs : List α} {v : Value} {F F2 : List Nat} {y : α × α} {cs : List Value} {bn : Nat}
  (S : St w0 w (ow (rLst e r) lo hi xs [v] F :: ow (rPair r r) lo2 hi2 y cs F2 :: vr bn cs :: M)) (s x : Operand) (ty : TypeId) (ho : o.op = .call { callee := .builtin .append, args := #[s, x], argTypes := #[ty, ty] })
  (i : TypeInfo) (z : Value) (size bytes : Nat) (ht : P.underlying ty = some (.slice e)) (hi' : P.info? e = some i) (hz : i.zero = some z) (hsize : i.size = size) (hby : i.bytes = bytes) (hzs : z.cells.size = size) (hsz : 0 < size) (hr : r.sz = size)
  (hs : ρ s = v) (c : Nat) (hx : ρ x = .slice (some ⟨bn, 0, none⟩) 2 c) (h1 : cs.all (·.oneCell') = true) (h63 : xs.length + 2 ≤ maxLen) (hbytes : (xs.length + 2) * bytes ≤ 140737488355328) :
  ∃ A c F' w', xs.length + 2 ≤ c ∧ (execOp ρ o).run P w = .ok (.value (.slice A (xs.length + 2) c)) w' ∧ St w0 w' (ow (rLst e r) w0.heap.size w'.heap.size (xs ++ [y.1, y.2]) [.slice A (xs.length + 2) c] F' :: M) := by
 obtain ⟨⟨v', ds0, F1, e1, hF, hall, hrow, hhi⟩, hnd⟩ := S.at_ 0 rfl
 cases e1
 have hlo' : w0.heap.size ≤ lo := S.lo 0 _ rfl
 have hhi' : hi ≤ w.heap.size := S.hi 0 _ rfl
 have hlo2 : w0.heap.size ≤ lo2 := S.lo 1 _ rfl
 have hhi2 : hi2 ≤ w.heap.size := S.hi 1 _ rfl
 obtain ⟨hy, hG⟩ := S.at_ 1 rfl
 have hV := S.at_ 2 rfl
 have hlen : cs.length = 2 * r.sz := by rw [(rPair r r).len ((rPair r r).reads hy)]; show r.sz + r.sz = _; omega
 have hFG := S.disj 0 1 rfl rfl (by decide)
 subst hr
 obtain ⟨v', w', hrun, hown, hgr, hat⟩ := run_app (P := P) w w0.heap.size ty o.type e i z r.sz bytes ht hi' hz hsize hby hzs hsz v xs.length ds0 (ownsRow_low hrow hlo') (some ⟨bn, 0, none⟩) 2 c cs hlen (fun q u hu => ⟨_, rfl, by rw [Addr.add_lit, Nat.zero_add]; exact hV.cell q hu⟩) (fun u hu => List.all_eq_true.1 h1 u hu) h63 hbytes S.below.size
 have hx1 : (execOp ρ o).run P w = .ok (.value v') w' := by
  unfold execOp
  simp only [ho, resolve, invoke, builtin, Sem.run_bind, Sem.run_pure, Result.andThen_ok, List.map_toArray, List.map_cons, List.map_nil, hs, hx, hrun]
 have hcl := app_claim (b0 := w0.heap.size) hnd hlo' hhi' hF hall hrow (pair_all hy) hG hFG hlo2 hhi2 hown hgr hat
 obtain ⟨A', c', rfl, hc'⟩ := row_form hown
 have hfoot : ∀ q, v.ownBlock = some q → (ow (rLst e r) lo hi xs [v] F).foot q := fun q hq => ⟨by rw [hF]; simp [hq], (hrow.lt q hq).1, hhi q hq⟩
 let big : Res := ⟨fun _ => True, fun q => (ow (rLst e r) lo hi xs [v] F).foot q ∨ (ow (rPair r r) lo2 hi2 y cs F2).foot q, w0.heap.size, w.heap.size, fun q hq => by
  rcases hq with hq | hq
  ·
   exact S.footlt (i := 0) rfl hq
  ·
   exact S.footlt (i := 1) rfl hq, fun _ _ => trivial⟩
 have S1 : St w0 w (big :: vr bn cs :: M) := St.merge (rs := [_, _]) S big trivial (fun q hq => hq.elim (fun h => ⟨_, List.mem_cons_self, h⟩) (fun h => ⟨_, List.mem_cons_of_mem _ List.mem_cons_self, h⟩)) (Nat.le_refl _) (Nat.le_refl _)
 have S2 := S1.turn 0 rfl (ow (rLst e r) w0.heap.size w'.heap.size (xs ++ [y.1, y.2]) [.slice A' (xs.length + 2) c'] ((Value.slice A' (xs.length + 2) c').ownBlock.toList ++ (F1 ++ F2))) (Only.of_grown hgr fun q hq => .inl (hfoot q hq)) hcl (fun q hq => by
  obtain ⟨hq, _, hq2⟩ := hq
  rcases List.mem_append.1 hq with hq | hq
  ·
   have hq' : (Value.slice A' (xs.length + 2) c').ownBlock = some q := by simpa using hq
   rcases hat with h5 | h5
   ·
    exact .inl (.inl (hfoot q (h5.symm.trans hq')))
   ·
    have h6 := h5.symm.trans hq'
    cases h6; right; exact Nat.le_refl _
  ·
   rcases List.mem_append.1 hq with hq | hq
   ·
    have := ownAll_inF hall q hq
    exact .inl (.inl ⟨by rw [hF]; simp [hq], this⟩)
   ·
    have := (rPair r r).inF hy q hq
    exact .inl (.inr ⟨hq, this⟩)) (Nat.le_refl _) (Nat.le_refl _)
 exact ⟨A', c', _, w', hc', hx1, St.tail (St.front S2 1 rfl)⟩
theorem G.appr2 {e : TypeId} {lo hi lo2 hi2 : Nat} {xs : List α} {v : Value} {F F2 : List Nat} {y : α × α} {cs : List Value} {bn : Nat} (s x : Operand) (ty : TypeId) (size bytes c : Nat) (hop : o.op = .call { callee := .builtin .append, args := #[s, x], argTypes := #[ty, ty] })
  (hc : chk n T ops o = true) (he : elemB P ty e size bytes = true) (hr : r.sz = size) (hs : ev T s = v) (hx : ev T x = .slice (some ⟨bn, 0, none⟩) 2 c) (h1 : cs.all (·.oneCell') = true) (h63 : xs.length + 2 ≤ maxLen) (hbytes : (xs.length + 2) * bytes ≤ 140737488355328)
  (zs : List α) (hzz : xs ++ [y.1, y.2] = zs) (m : Nat) (hm : xs.length + 2 = m)
  (k : ∀ A c F' hi', m ≤ c → G P n ops Q w0 (up o.dst (.slice A m c) T) (ow (rLst e r) w0.heap.size hi' zs [.slice A m c] F' :: M) rest) :
  G P n ops Q w0 T (ow (rLst e r) lo hi xs [v] F :: ow (rPair r r) lo2 hi2 y cs F2 :: vr bn cs :: M) (o :: rest) :=
 G.turns hc fun w S => by
  subst hzz hm
  obtain ⟨ht, hsz, i, z, hi', hz, hsize, hby, hzs⟩ := elemB_spec he
  obtain ⟨A, c', F', w', h2, h3, h4⟩ := appr2_run (P := P) (o := o) (ρ := ev T) S s x ty hop i z size bytes ht hi' hz hsize hby hzs hsz hr hs c hx h1 h63 hbytes
  exact ⟨_, w', _, h3, h4, k A c' F' _ h2⟩
theorem Alone.appr2 {j : Nat} {e : TypeId} {lo hi lo2 hi2 : Nat} {xs : List α} {v : Value} {F F2 : List Nat} {y : α × α} {cs : List Value} {bn : Nat} (s x : Operand) (ty : TypeId) (size bytes c : Nat) (hj : l[j]? = some o) (hop : o.op = .call { callee := .builtin .append, args := #[s, x], argTypes := #[ty, ty] })
  (hc : chk n T l.toArray o = true) (he : elemB P ty e size bytes = true) (hr : r.sz = size) (hs : ev T s = v) (hx : ev T x = .slice (some ⟨bn, 0, none⟩) 2 c) (h1 : cs.all (·.oneCell') = true) (h63 : xs.length + 2 ≤ maxLen) (hbytes : (xs.length + 2) * bytes ≤ 140737488355328)
  (zs : List α) (hzz : xs ++ [y.1, y.2] = zs) (m : Nat) (hm : xs.length + 2 = m) (hZ : ∀ A c F' hi' w, St w0 w (ow (rLst e r) w0.heap.size hi' zs [.slice A m c] F' :: M) → Z w)
  (k : ∀ A c F' hi', m ≤ c → GT P n l.toArray Q Z w0 (up o.dst (.slice A m c) T) (ow (rLst e r) w0.heap.size hi' zs [.slice A m c] F' :: M) t) :
  Alone P n l.toArray Q Z w0 T (ow (rLst e r) lo hi xs [v] F :: ow (rPair r r) lo2 hi2 y cs F2 :: vr bn cs :: M) j t :=
 Alone.turns hj hc fun w S => by
  subst hzz hm
  obtain ⟨ht, hsz, i, z, hi', hz, hsize, hby, hzs⟩ := elemB_spec he
  obtain ⟨A, c', F', w', h2, h3, h4⟩ := appr2_run (P := P) (o := o) (ρ := ev T) S s x ty hop i z size bytes ht hi' hz hsize hby hzs hsz hr hs c hx h1 h63 hbytes
  exact ⟨_, w', _, h3, h4, fun w S => hZ A c' F' _ w S, k A c' F' _ h2⟩
theorem Fresh.rdIn {q : Rp β} {y : β} {ds : List Value} {lo hi : Nat} {G : List Nat} {w' : World} {rs : List Res} (H : Fresh w0 w w' rs) (i : Nat) (h : rs[i]? = some (ow q lo hi y ds G)) {v : World} (hv : ∀ s ∈ rs, s.says v) : q.rd v w0.heap.size w'.heap.size y ds :=
 q.wide (q.reads (hv _ (List.mem_of_getElem? h)).1) (H.lo i (ow q lo hi y ds G) h) (H.hi i (ow q lo hi y ds G) h)
theorem Fresh.rpIn {lo hi cap : Nat} {k : List (Int × Int)} {A : Option Addr} {w' : World} {rs : List Res} (H : Fresh w0 w w' rs) (i : Nat) (h : rs[i]? = some (rp lo hi k A cap)) {v : World} (hv : ∀ s ∈ rs, s.says v) : rdLst (rPair rInt rInt) v w0.heap.size w'.heap.size k [.slice A k.length cap] :=
 (Sx.rp_rd (hv _ (List.mem_of_getElem? h))).wide (H.lo i (rp lo hi k A cap) h) (H.hi i (rp lo hi k A cap) h)
theorem St.rdIn {q : Rp β} {y : β} {ds : List Value} {lo hi : Nat} {G : List Nat} {rs : List Res} (S : St w0 w (rs ++ M)) (i : Nat) (h : rs[i]? = some (ow q lo hi y ds G)) {v : World} (hv : ∀ s ∈ rs, s.says v) : q.rd v w0.heap.size w.heap.size y ds := by
 have h' : (rs ++ M)[i]? = some (ow q lo hi y ds G) := by rw [List.getElem?_append_left (List.getElem?_eq_some_iff.1 h).1]; exact h
 exact q.wide (q.reads (hv _ (List.mem_of_getElem? h)).1) (S.lo i (ow q lo hi y ds G) h') (S.hi i (ow q lo hi y ds G) h')
theorem rd_nil {q : Rp β} (v : World) (lo hi c : Nat) : rdLst q v lo hi [] [.slice none 0 c] := ⟨none, c, [], rfl, Nat.zero_le _, rfl, Lies.nil⟩
open Classical in
theorem Fresh.ro {w' : World} {rs : List Res} (H : Fresh w0 w w' rs) (h : ∀ v : World, (∀ s ∈ rs, s.says v) → r.rd v w0.heap.size w'.heap.size x cs) : ∃ F, Fresh w0 w w' [ow (rRo r) w0.heap.size w'.heap.size x cs F] := by
 have key : ∀ s ∈ rs, ∃ i, rs[i]? = some s := fun s hs => List.mem_iff_getElem?.1 hs
 have ft : ∀ s ∈ rs, ∀ k, s.foot k → w0.heap.size ≤ k ∧ k < w'.heap.size := fun s hs k hk => by
  obtain ⟨i, hi⟩ := key s hs
  have h1 := s.inn k hk
  have h2 := H.lo i s hi
  have h3 := H.hi i s hi
  omega
 have hm : ∀ k, k ∈ (List.range w'.heap.size).filter (fun k => decide (∃ s ∈ rs, s.foot k)) → ∃ s ∈ rs, s.foot k := fun k hk => of_decide_eq_true (List.mem_filter.1 hk).2
 refine ⟨(List.range w'.heap.size).filter (fun k => decide (∃ s ∈ rs, s.foot k)), fun i s hs => ?_, fun i s hs => ?_, fun i s hs => ?_, fun i s hs k hk => ?_, fun i j s t h1 h2 hne => ?_⟩
 ·
  match i, hs with
  | 0, hs =>
   cases hs
   refine ⟨⟨fun k hk => ?_, fun v hv => h v fun s hs => ?_⟩, (List.nodup_range).filter _⟩
   ·
    obtain ⟨s, hs, hf⟩ := hm k hk
    exact ft s hs k hf
   ·
    obtain ⟨i, hi⟩ := key s hs
    exact s.kept (H.says i s hi) fun k hk => hv k (List.mem_filter.2 ⟨List.mem_range.2 (ft s hs k hk).2, decide_eq_true ⟨s, hs, hk⟩⟩)
  | i + 1, hs => simp at hs
 ·
  match i, hs with
  | 0, hs => cases hs; exact Nat.le_refl _
  | i + 1, hs => simp at hs
 ·
  match i, hs with
  | 0, hs => cases hs; exact Nat.le_refl _
  | i + 1, hs => simp at hs
 ·
  match i, hs with
  | 0, hs =>
   cases hs
   obtain ⟨s, hs, hf⟩ := hm k hk.1
   obtain ⟨i, hi⟩ := key s hs
   exact H.new i s hi k hf
  | i + 1, hs => simp at hs
 ·
  match i, j, h1, h2 with
  | 0, 0, _, _ => exact absurd rfl hne
  | 0, j + 1, _, h2 => simp at h2
  | i + 1, _, h1, _ => simp at h1
def Drawn (w0 : World) (A : Option Addr) (n c : Nat) (w : World) (g : Nat) (V : Value) (M : List Res) (e : Ending) (w' : World) : Prop := e = .returned V ∧ Cur w0 A n c w' g ∧ w.grownBy w' (some g) ∧ Fresh w0 w w' M
theorem Fresh.one {w' : World} (q : Res) (hs : q.says w') (h0 : w0.heap.size ≤ w.heap.size) (hl : w.heap.size ≤ q.lo) (hh : q.hi ≤ w'.heap.size) : Fresh w0 w w' [q] :=
 ⟨fun i r h => by
  match i, h with
  | 0, h => cases h; exact hs
  | i + 1, h => simp at h, fun i r h => by
  match i, h with
  | 0, h => cases h; exact Nat.le_trans h0 hl
  | i + 1, h => simp at h, fun i r h => by
  match i, h with
  | 0, h => cases h; exact hh
  | i + 1, h => simp at h, fun i r h k hk => by
  match i, h with
  | 0, h => cases h; exact Nat.le_trans hl (q.inn k hk).1
  | i + 1, h => simp at h, fun i j r s h1 h2 hne => by
  match i, j, h1, h2 with
  | 0, 0, _, _ => exact absurd rfl hne
  | 0, j + 1, _, h2 => simp at h2
  | i + 1, _, h1, _ => simp at h1⟩
theorem Fresh.nil (w0 w w' : World) : Fresh w0 w w' [] := ⟨fun i r h => by simp at h, fun i r h => by simp at h, fun i r h => by simp at h, fun i r h => by simp at h, fun i j r s h => by simp at h⟩
theorem Drawn.made {A : Option Addr} {c g : Nat} {w' : World} {V : Value} (hb : Below w0.heap.size w0 w) (S : St w0 w' (cu A n c g :: frm w0 w g :: M)) : Drawn w0 A n c w g V M (.returned V) w' :=
 ⟨rfl, Sx.St.cur S 0 rfl, Sx.St.grown S 1 rfl hb, Sx.St.made S⟩
end
end Go.Proofs.YtldgadmpclgfhaaGreat.Sx
namespace Go.Proofs.YtldgadmpclgfhaaGreat.Sx
set_option maxHeartbeats 8000000
set_option maxRecDepth 100000
set_option maxRecDepth 100000
open Go.ChangeShapes Go.WideShapes Go.ChangeAt Go.RowKit Go.Deep
open Go.Proofs.YtldgadmpclgfhaaGreat.Base Go.Proofs.YtldgadmpclgfhaaGreat.Mem Go.Proofs.YtldgadmpclgfhaaGreat.Data Go.Proofs.YtldgadmpclgfhaaGreat.Stt Go.Proofs.YtldgadmpclgfhaaGreat.Draw
set_option linter.unusedVariables false
set_option linter.unusedSimpArgs false
theorem run_cut {P : Program} {ρ : Operand → Value} {o : Oper} {t e : TypeId} {z y : Operand} (size bytes b off len cap k : Nat) (hop : o.op = .slice t z none (some y) none) (he : elemB P t e size bytes = true) (hx : ρ z = .slice (some ⟨b, off, none⟩) len cap) (hy : ρ y = .int .i64 (k : Int)) (hk : k ≤ cap) (w : World) :
  (execOp ρ o).run P w = .ok (.value (.slice (some ⟨b, off, none⟩) k cap)) w := by
 obtain ⟨ht, hsz, i, zz, hi', hz, hsize, hby, hzs⟩ := elemB_spec he
 have hE : P.elem t = e := by simp [Program.elem, ht]
 have ht' : P.underlying t = some (.slice (P.elem t)) := by rw [hE]; exact ht
 have hs : (sizeOf (P.elem t)).run P w = .ok size w := by rw [hE]; simp [sizeOf, typeInfo, hi', hsize]
 unfold execOp
 simp only [hop, Option.map, hx, hy, Sem.run_bind, run_sliceAt_slice w t _ _ _ _ ht', run_slice_h w t _ len cap ht' .i64 (k : Int) (by omega) (by omega), hs, Result.andThen_ok, Sem.run_pure]
 simp [sliced, Addr.add_mid]
theorem all_take {α : Type} {r : Rp α} {w : World} {lo hi : Nat} : ∀ {xs : List α} {ds : List Value} (k : Nat), rdAll r w lo hi xs ds → rdAll r w lo hi (xs.take k) (ds.take (k * r.sz))
 | [], ds, k, h => by
  have : ds = [] := h
  subst this
  rw [List.take_nil, List.take_nil]
  exact rfl
 | x :: xs, ds, 0, h => by rw [Nat.zero_mul]; exact rfl
 | x :: xs, ds, k + 1, h => by
  obtain ⟨c1, c2, rfl, h1, h2⟩ := h
  have hl := r.len h1
  refine ⟨c1, c2.take (k * r.sz), ?_, h1, all_take k h2⟩
  rw [List.take_append, List.take_of_length_le (by rw [hl, Nat.succ_mul]; omega)]
  congr 2
  rw [hl, Nat.succ_mul]; omega
theorem vr_rd {α : Type} {r : Rp α} {w : World} {lo hi b c : Nat} {vs ds : List Value} {xs : List α} (hV : Var w b vs) (hd : ∀ (i : Nat) (u : Value), ds[i]? = some u → vs[i]? = some u) (ha : rdAll r w lo hi xs ds) (hb : lo ≤ b ∧ b < hi) (hc : xs.length ≤ c) : rdLst r w lo hi xs [.slice (some ⟨b, 0, none⟩) xs.length c] :=
 ⟨_, _, ds, rfl, hc, ha, fun j u hu => ⟨b, 0, rfl, hb.1, hb.2, by rw [Nat.zero_add]; exact (hV.1 j u (hd j u hu)).1⟩⟩
theorem vr_pre {α : Type} {r : Rp α} {w : World} {lo hi b c k : Nat} {vs ds : List Value} {xs : List α} (hV : Var w b vs) (hd : ∀ (i : Nat) (u : Value), ds[i]? = some u → vs[i]? = some u) (ha : rdAll r w lo hi xs ds) (hb : lo ≤ b ∧ b < hi) (hc : k ≤ c) (hl : xs.length = k) : rdLst r w lo hi xs [.slice (some ⟨b, 0, none⟩) k c] := by
 subst hl; exact vr_rd hV hd ha hb hc
theorem row_var {w : World} {base g m cap size : Nat} {e : TypeId} {vs : List Value} (h : w.ownsRow base e size (.slice (some ⟨g, 0, none⟩) m cap) m vs) : Var w g vs ∧ base ≤ g ∧ g < w.heap.size := by
 obtain ⟨h1, h2⟩ := h.lt g rfl
 exact ⟨⟨fun i v hv => by
  have hi := (List.getElem?_eq_some_iff.1 hv).1
  exact ⟨(h.cellAt i (by have := h.1; omega)).trans hv, h.frozenAt i⟩, h2⟩, h1, h2⟩
theorem row_some {w : World} {base size n : Nat} {e : TypeId} {v : Value} {vs : List Value} (h : w.ownsRow base e size v n vs) (hn : 0 < n) : ∃ g cap, v = .slice (some ⟨g, 0, none⟩) n cap ∧ n ≤ cap := by
 rcases h.2 with ⟨_, h2⟩ | ⟨g1, cap1, cur, h', _, _, hnc, _⟩
 ·
  first | omega | (rw [h2] at hn; omega) | (have h3 := h.1; simp_all; omega)
 ·
  exact ⟨g1, cap1, h', hnc⟩
theorem page_pre {w : World} {lo hi b c k : Nat} {l : List Int} (V : Var w b (icells l)) (hk : k ≤ l.length) (hb : lo ≤ b ∧ b < hi) (hc : k ≤ c) : rdLst rInt w lo hi (l.take k) [.slice (some ⟨b, 0, none⟩) k c] :=
 vr_pre (ds := icells (l.take k)) V (fun i u h => by
  unfold icells at h ⊢
  rw [List.getElem?_map, List.getElem?_take] at h
  rw [List.getElem?_map]
  split at h
  ·
   exact h
  ·
   simp at h) (i1_all w lo hi _) hb hc (by rw [List.length_take]; omega)
theorem mem3_rd {w : World} {lo hi B c : Nat} {q0 q1 q2 : List Int} {P0 P1 P2 : Value} (V : Var w B [P0, P1, P2]) (h0 : rdLst rInt w lo hi q0 [P0]) (h1 : rdLst rInt w lo hi q1 [P1]) (h2 : rdLst rInt w lo hi q2 [P2]) (hb : lo ≤ B ∧ B < hi) (hc : 3 ≤ c) : rdLst (rLsw rInt) w lo hi [q0, q1, q2] [.slice (some ⟨B, 0, none⟩) 3 c] :=
 vr_rd (ds := [P0, P1, P2]) V (fun _ _ h => h) ⟨[P0], [P1, P2], rfl, h0, [P1], [P2], rfl, h1, [P2], [], rfl, h2, rfl⟩ hb hc
theorem mem_take {α : Type} {w : World} {lo hi b c : Nat} {r : Rp α} {xs : List α} {n : Nat} (k : Nat) (h : rdLst r w lo hi xs [.slice (some ⟨b, 0, none⟩) n c]) (hk : k ≤ xs.length) : rdLst r w lo hi (xs.take k) [.slice (some ⟨b, 0, none⟩) k c] := by
 obtain ⟨A, c', ds, e, hc, h1, h2⟩ := h
 cases e
 have hl : (xs.take k).length = k := by rw [List.length_take]; omega
 refine ⟨_, c, ds.take (k * r.sz), by rw [hl], by omega, all_take k h1, fun j u hu => ?_⟩
 rw [List.getElem?_take] at hu
 split at hu
 ·
  exact h2 j u hu
 ·
  cases hu
theorem own_row4 {w : World} {lo hi : Nat} {e : TypeId} {p : List Int} {cs : List Value} {F : List Nat} (h : (rLst e rInt).own w lo hi p cs F) (hl : p.length = 4) : ∃ b c x0 x1 x2 x3, p = [x0, x1, x2, x3] ∧ cs = [.slice (some ⟨b, 0, none⟩) 4 c] ∧ 4 ≤ c ∧ b ∈ F ∧ Var w b [.int .i64 x0, .int .i64 x1, .int .i64 x2, .int .i64 x3] ∧ lo ≤ b ∧ b < hi := by
 obtain ⟨v, ds, F1, rfl, hF, hall, hrow, hhi⟩ := h
 match p, hl with
 | [x0, x1, x2, x3], _ =>
 obtain ⟨b, c, rfl, hc⟩ := row_some hrow (by simp)
 have hds : ds = [.int .i64 x0, .int .i64 x1, .int .i64 x2, .int .i64 x3] := i1_cells (ownAll_reads hall)
 subst hds
 obtain ⟨h1, h2, h3⟩ := row_var hrow
 exact ⟨b, c, x0, x1, x2, x3, rfl, rfl, hc, by rw [hF]; simp [Value.ownBlock], h1, h2, hhi b rfl⟩
theorem St.rows3 {w0 w : World} {M : List Res} {e e1 : TypeId} {lo hi b : Nat} {l : List (List Int)} {a : Option Addr} {F : List Nat} (S : St w0 w (ow (rLst e (rLst e1 rInt)) lo hi l [.slice a l.length b] F :: M)) (hl : l.length = 3) (hp : ∀ p ∈ l, p.length = 4) :
  ∃ B b0 c0 b1 c1 b2 c2 x0 x1 x2 x3 y0 y1 y2 y3 z0 z1 z2 z3, l = [[x0, x1, x2, x3], [y0, y1, y2, y3], [z0, z1, z2, z3]] ∧ a = some ⟨B, 0, none⟩ ∧ 3 ≤ b ∧ 4 ≤ c0 ∧ 4 ≤ c1 ∧ 4 ≤ c2 ∧
   St w0 w (vr B [.slice (some ⟨b0, 0, none⟩) 4 c0, .slice (some ⟨b1, 0, none⟩) 4 c1, .slice (some ⟨b2, 0, none⟩) 4 c2] :: vr b0 [.int .i64 x0, .int .i64 x1, .int .i64 x2, .int .i64 x3] :: vr b1 [.int .i64 y0, .int .i64 y1, .int .i64 y2, .int .i64 y3] :: vr b2 [.int .i64 z0, .int .i64 z1, .int .i64 z2, .int .i64 z3] :: M) := by
 obtain ⟨⟨v, ds, F1, e2, hF, hall, hrow, hhi⟩, hnd⟩ := S.at_ 0 rfl
 cases e2
 match l, hl with
 | [l0, l1, l2], _ =>
 obtain ⟨d0, r0, G0, H0, rfl, rfl, o0, d1, r1, G1, H1, rfl, rfl, o1, d2, r2, G2, H2, rfl, rfl, o2, q1, q2⟩ := hall
 obtain ⟨b0, c0, x0, x1, x2, x3, rfl, rfl, hc0, m0, V0, k0, j0⟩ := own_row4 o0 (hp _ (by simp))
 obtain ⟨b1, c1, y0, y1, y2, y3, rfl, rfl, hc1, m1, V1, k1, j1⟩ := own_row4 o1 (hp _ (by simp))
 obtain ⟨b2, c2, z0, z1, z2, z3, rfl, rfl, hc2, m2, V2, k2, j2⟩ := own_row4 o2 (hp _ (by simp))
 subst q1 q2
 obtain ⟨B, cB, e3, hcB⟩ := row_some hrow (by simp)
 cases e3
 obtain ⟨VB, kB, jB⟩ := row_var hrow
 have hlo := S.lo 0 _ rfl
 have hhi' := S.hi 0 _ rfl
 have hF' : F = B :: (G0 ++ (G1 ++ G2)) := by rw [hF]; simp [Value.ownBlock]
 have hBhi := hhi B rfl
 clear hF
 subst hF'
 have hn : B ≠ b0 ∧ B ≠ b1 ∧ B ≠ b2 ∧ b0 ≠ b1 ∧ b0 ≠ b2 ∧ b1 ≠ b2 := by
  obtain ⟨n1, n2⟩ := List.nodup_cons.1 hnd
  obtain ⟨-, n3, n4⟩ := List.nodup_append.1 n2
  obtain ⟨-, -, n5⟩ := List.nodup_append.1 n3
  refine ⟨fun h => n1 (h ▸ List.mem_append_left _ m0), fun h => n1 (h ▸ List.mem_append_right _ (List.mem_append_left _ m1)), fun h => n1 (h ▸ List.mem_append_right _ (List.mem_append_right _ m2)), fun h => n4 _ m0 _ (List.mem_append_left _ m1) h, fun h => n4 _ m0 _ (List.mem_append_right _ m2) h, fun h => n5 _ m1 _ m2 h⟩
 refine ⟨B, b0, c0, b1, c1, b2, c2, x0, x1, x2, x3, y0, y1, y2, y3, z0, z1, z2, z3, rfl, rfl, hcB, hc0, hc1, hc2, St.parts S [_, _, _, _] (fun s hs => ?_) ?_⟩
 ·
  have f : ∀ k, k ∈ B :: (G0 ++ (G1 ++ G2)) → lo ≤ k → k < hi → (ow (rLst e (rLst e1 rInt)) lo hi [[x0, x1, x2, x3], [y0, y1, y2, y3], [z0, z1, z2, z3]] [.slice (some ⟨B, 0, none⟩) 3 b] (B :: (G0 ++ (G1 ++ G2)))).foot k := fun k h1 h2 h3 => ⟨h1, h2, h3⟩
  simp only [List.mem_cons, List.not_mem_nil, or_false] at hs
  rcases hs with rfl | rfl | rfl | rfl
  ·
   exact ⟨VB, fun k hk => by obtain rfl : k = B := hk; exact f _ List.mem_cons_self kB hBhi, Nat.le_trans hlo kB, by show B + 1 ≤ _; exact Nat.le_trans hBhi hhi'⟩
  ·
   exact ⟨V0, fun k hk => by obtain rfl : k = b0 := hk; exact f _ (by simp [m0]) k0 j0, Nat.le_trans hlo k0, Nat.le_trans j0 hhi'⟩
  ·
   exact ⟨V1, fun k hk => by obtain rfl : k = b1 := hk; exact f _ (by simp [m1]) k1 j1, Nat.le_trans hlo k1, Nat.le_trans j1 hhi'⟩
  ·
   exact ⟨V2, fun k hk => by obtain rfl : k = b2 := hk; exact f _ (by simp [m2]) k2 j2, Nat.le_trans hlo k2, Nat.le_trans j2 hhi'⟩
 ·
  obtain ⟨n1, n2, n3, n4, n5, n6⟩ := hn
  have ap : ∀ {p q : Nat} {us vs : List Value}, p ≠ q → ∀ k, (vr p us).foot k → ¬ (vr q vs).foot k := fun h k h1 h2 => h ((Eq.symm h1).trans h2)
  refine .cons (fun t ht => ?_) (.cons (fun t ht => ?_) (.cons (fun t ht => ?_) (.cons (fun t ht => by cases ht) .nil)))
  ·
   simp only [List.mem_cons, List.not_mem_nil, or_false] at ht
   rcases ht with rfl | rfl | rfl
   ·
    exact ap n1
   ·
    exact ap n2
   ·
    exact ap n3
  ·
   simp only [List.mem_cons, List.not_mem_nil, or_false] at ht
   rcases ht with rfl | rfl
   ·
    exact ap n4
   ·
    exact ap n5
  ·
   simp only [List.mem_cons, List.not_mem_nil, or_false] at ht
   subst ht
   exact ap n6
theorem Alone.block {P : Program} {n : Nat} {Q : Exit → Act → World → Prop} {Z : World → Prop} {w0 : World} {T : Tl} {L : List Res} {l : List Oper} {o : Oper} {t : Ord.Ot} {i : Nat} (e : TypeId) (vs : List Value) (m : Nat) (ho : l[i]? = some o) (hc : chk n T l.toArray o = true) (hr : ∀ w : World, (execOp (ev T) o).run P w = .ok (.value (.slice (some ⟨w.heap.size, 0, none⟩) m m)) (w.alloc (.cells vs.toArray e))) (hZ : ∀ w, St w0 w L → Z w)
  (k : ∀ b, GT P n l.toArray Q Z w0 (up o.dst (.slice (some ⟨b, 0, none⟩) m m) T) (bk b vs e :: L) t) : Alone P n l.toArray Q Z w0 T L i t :=
 Alone.turns ho hc fun w S => ⟨_, _, _, hr w, S.add ((Below.refl _ _).alloc (Nat.le_refl _) _) (bk w.heap.size vs e) (heap_alloc_new w _) (Nat.le_refl _) (by simp [bk]), fun w S => hZ w (St.tail S), k _⟩
end Go.Proofs.YtldgadmpclgfhaaGreat.Sx
namespace Go.Proofs.YtldgadmpclgfhaaGreat.Guests
set_option maxHeartbeats 8000000
set_option maxRecDepth 100000
set_option maxRecDepth 100000
open Go.ChangeShapes Go.WideShapes Go.ChangeAt Go.RowKit
open Go.Proofs.YtldgadmpclgfhaaGreat.Base Go.Proofs.YtldgadmpclgfhaaGreat.Mem Go.Proofs.YtldgadmpclgfhaaGreat.Data Go.Proofs.YtldgadmpclgfhaaGreat.Slots Go.Proofs.YtldgadmpclgfhaaGreat.Ints Go.Proofs.YtldgadmpclgfhaaGreat.Ctls Go.Proofs.YtldgadmpclgfhaaGreat.Exits Go.Proofs.YtldgadmpclgfhaaGreat.Stt Go.Proofs.YtldgadmpclgfhaaGreat.Part
set_option linter.unusedVariables false
section
variable {w : World} {lo hi : Nat} {P : Value} {F : List Nat}
end
theorem gcap_rg {g : gT} (h : gcap g) : rG.cap g :=
 ⟨⟨h.1, fun _ _ => ⟨trivial, trivial⟩⟩, trivial, trivial, ⟨h.2.1, fun _ _ => ⟨trivial, trivial⟩⟩, ⟨h.2.2.1, fun _ _ => ⟨trivial, trivial⟩⟩, ⟨trivial, trivial, trivial⟩, trivial, ⟨trivial, trivial, trivial, trivial⟩, trivial, ⟨h.2.2.2, fun _ _ => trivial⟩⟩
section
variable {w0 w w' : World} {L : List Res} {g : gT} {P0 P1 P2 P3 : Value}
end
end Go.Proofs.YtldgadmpclgfhaaGreat.Guests
namespace Go.Proofs.YtldgadmpclgfhaaGreat.Guests
set_option maxHeartbeats 8000000
set_option maxRecDepth 100000
set_option maxRecDepth 100000
open Go.ChangeShapes Go.WideShapes Go.ChangeAt Go.RowKit
open Go.Proofs.YtldgadmpclgfhaaGreat.Base Go.Proofs.YtldgadmpclgfhaaGreat.Mem Go.Proofs.YtldgadmpclgfhaaGreat.Data Go.Proofs.YtldgadmpclgfhaaGreat.Slots Go.Proofs.YtldgadmpclgfhaaGreat.Ints Go.Proofs.YtldgadmpclgfhaaGreat.Stt Go.Proofs.YtldgadmpclgfhaaGreat.Part
set_option linter.unusedVariables false
section
variable {w0 w w' : World} {L : List Res} {cs cs' : List Value} {n : Nat} {P : Value}
theorem below_eq {w w' : World} (h : w = w') : Below w.heap.size w w' := h ▸ Below.refl _ _
end
end Go.Proofs.YtldgadmpclgfhaaGreat.Guests
namespace Go.Proofs.YtldgadmpclgfhaaGreat.Draw
set_option maxHeartbeats 8000000
set_option maxRecDepth 100000
set_option maxRecDepth 100000
open Go.ChangeShapes Go.WideShapes Go.ChangeAt Go.RowKit
open Go.Proofs.YtldgadmpclgfhaaGreat.Base
def PickPost (w0 : World) (A : Option Addr) (n c : Nat) (w : World) (g : Nat) (l : List Int) (e : Ending) (w' : World) : Prop :=
 ∃ x : Int, e = .returned (.int .i64 x) ∧ x ∈ l ∧ Cur w0 A n c w' g ∧ w.grownBy w' (some g)
def OncePost (w0 : World) (A : Option Addr) (n c : Nat) (w : World) (g : Nat) (e : Ending) (w' : World) : Prop :=
 ∃ x : Bool, e = .returned (.bool x) ∧ Cur w0 A n c w' g ∧ w.grownBy w' (some g)
theorem pick_any (w0 : World) (A : Option Addr) (n c g : Nat) (w : World) (g' k : Nat) (l : List Int) (hl0 : 0 < k) (hl1 : k ≤ 256) (hn : n ≤ 1048576) (hcode : CodeAt w0 A n) (hcur : Cur w0 A n c w g)
  (hne : g' ≠ g) (hlk : l.length = k) (hblk : w.heap[g']? = some (.cells (l.map (Value.int .i64)).toArray 3 (0, 0))) :
  Calls Tryz.prog 71 #[.pointer (some ⟨g, 0, none⟩), .slice (some ⟨g', 0, none⟩) k k] w (PickPost w0 A n c w g l) := by
 have HC := Lib.hid hcode
 have HU := Lib.hid hcur
 have HB := Lib.hid hblk
 have HL := Lib.hid hlk
 have hg' : g' < w.heap.size := by
  rcases Nat.lt_or_ge g' w.heap.size with h | h
  ·
   exact h
  ·
   rw [Array.getElem?_eq_none h] at hblk; cases hblk
 clear hcode hcur hblk hlk
 go_enter Tryz.func71, Tryz.ntmps71
 go_wp2_with fail
 refine (below_any w0 A n c g _ _ (by omega) (by omega) hn HC.out HU.out).mono ?_
 rintro e w1 ⟨x, rfl, hx0, hx1, hc1, hg1⟩
 obtain ⟨j, rfl⟩ := Int.eq_ofNat_of_zero_le hx0
 have hj : j < k := by omega
 have hjl : j < l.length := by have := HL.out; omega
 have hcell : w1.cell? ⟨g', j, none⟩ = some (.int .i64 l[j]) := by
  have := (hg1.block g' hg' (by simpa using hne)).trans HB.out
  simp [World.cell?, this, List.getElem?_eq_getElem hjl]
 have hmem : l[j] ∈ l := List.getElem_mem hjl
 have HF := Lib.hid (And.intro hc1 (And.intro hg1 hmem))
 generalize l[j] = y at hcell HF
 clear hc1 hg1 hmem
 go_wp2_with fail
 go_ret
 exact ⟨y, rfl, HF.out.2.2, HF.out.1, HF.out.2.1⟩
theorem once_any (w0 : World) (A : Option Addr) (n c g : Nat) (w : World) (m : Int) (hm0 : 0 < m) (hm1 : m ≤ 4294967296) (hn : n ≤ 1048576) (hcode : CodeAt w0 A n) (hcur : Cur w0 A n c w g) :
  Calls Tryz.prog 26 #[.pointer (some ⟨g, 0, none⟩), .int .i64 m] w (OncePost w0 A n c w g) := by
 have HC := Lib.hid hcode
 have HU := Lib.hid hcur
 clear hcode hcur
 go_enter Tryz.func26, Tryz.ntmps26
 go_wp2_with fail
 refine (below_any w0 A n c g _ m hm0 hm1 hn HC.out HU.out).mono ?_
 rintro e w1 ⟨x, rfl, hx0, hx1, hc1, hg1⟩
 go_wp2_with fail
 go_ret
 exact ⟨_, rfl, hc1, hg1⟩
end Go.Proofs.YtldgadmpclgfhaaGreat.Draw
namespace Go.Proofs.YtldgadmpclgfhaaGreat.SDraw
set_option maxHeartbeats 8000000
set_option maxRecDepth 100000
set_option maxRecDepth 100000
open Go.ChangeShapes Go.WideShapes Go.ChangeAt Go.RowKit
open Go.Proofs.YtldgadmpclgfhaaGreat.Base Go.Proofs.YtldgadmpclgfhaaGreat.Mem Go.Proofs.YtldgadmpclgfhaaGreat.Slots Go.Proofs.YtldgadmpclgfhaaGreat.Draw
set_option linter.unusedVariables false
def SlotPost (w0 : World) (A : Option Addr) (n c : Nat) (w : World) (g : Nat) (e : Ending) (w' : World) : Prop :=
 ∃ x y : Int, e = .returned (.agg #[.int .i64 x, .int .i64 y]) ∧ wfS (x, y) ∧ Cur w0 A n c w' g ∧ w.grownBy w' (some g)
def NumPost (w0 : World) (A : Option Addr) (n c : Nat) (w : World) (g : Nat) (e : Ending) (w' : World) : Prop :=
 ∃ x : Int, e = .returned (.int .i64 x) ∧ (Lit.int .i64 x).wf = true ∧ Cur w0 A n c w' g ∧ w.grownBy w' (some g)
section
variable {w w1 w2 : World} {g : Nat} {u v : Value} {T : TypeId}
theorem var_cells (hG : (w.alloc (.cells #[u, v] T)).grownBy w1 (some g)) (hg : g < w.heap.size) :
  w1.cell? ⟨w.heap.size, 0, none⟩ = some u ∧ w1.cell? ⟨w.heap.size, 1, none⟩ = some v ∧ w1.frozen? ⟨w.heap.size, 0, none⟩ = false ∧ w1.frozen? ⟨w.heap.size, 1, none⟩ = false := by
 have hb : w1.heap[w.heap.size]? = some (.cells #[u, v] T (0, 0)) := (hG.block w.heap.size (by simp) (by simp; omega)).trans (heap_alloc_new w _)
 exact ⟨cell_of_row _ _ 0 _ _ _ hb, cell_of_row _ _ 1 _ _ _ hb, frozen_of_row _ _ _ _ _ hb, frozen_of_row _ _ _ _ _ hb⟩
theorem var_grown (o : Obj) (hG : (w.alloc o).grownBy w1 (some g)) (u v : Value) : w.grownBy ((w1.setCell ⟨w.heap.size, 0, none⟩ u).setCell ⟨w.heap.size, 1, none⟩ v) (some g) :=
 ⟨hG.os, hG.tape, hG.output, by have := hG.size; simp at this; simp; omega, fun k hk hne => by
  rw [Below.heap_setCell _ _ _ k (by show k ≠ w.heap.size; omega), Below.heap_setCell _ _ _ k (by show k ≠ w.heap.size; omega)]
  exact (hG.block k (by simp; omega) hne).trans (Below.heap_alloc w o k hk)⟩
theorem var_cur {w0 : World} {A : Option Addr} {n c : Nat} {b : Nat} (h : Cur w0 A n c w1 g) (hg : g < b) (h0 : w0.heap.size ≤ b) (i : Nat) (u : Value) : Cur w0 A n c (w1.setCell ⟨b, i, none⟩ u) g :=
 h.grown (grown_set w1 b i u) (by simp; omega) (fun k hk => by cases hk; exact h0)
theorem grown_new (w : World) (o : Obj) (row : Option Nat) : w.grownBy (w.alloc o) row := World.grownBy_alloc w o row
theorem gtr {a b c : World} {row : Option Nat} (h : a.grownBy b row) (k : b.grownBy c row) : a.grownBy c row := grown_trans h k
theorem of_below (h : Below w.heap.size w w1) (row : Option Nat) : w.grownBy w1 row := Slots.grown_of_below h row
end
def slotList : List Int := [3, 3, 3, 1, 2]
theorem slotList_wf : ∀ x ∈ slotList, (Lit.int .i64 x).wf = true := by decide
theorem wf_small {x m : Int} (h0 : 0 ≤ x) (h1 : x < m) (hm : m ≤ 1048576) : (Lit.int .i64 x).wf = true := by
 simp [Lit.wf]
 have e1 : IntKind.i64.min = -9223372036854775808 := by decide
 have e2 : IntKind.i64.max = 9223372036854775807 := by decide
 omega
theorem slot_any (w0 : World) (A : Option Addr) (n c g : Nat) (w : World) (pages : Int) (hp0 : 0 < pages) (hp1 : pages ≤ 256) (hn : n ≤ 1048576) (hcode : CodeAt w0 A n) (hcur : Cur w0 A n c w g) :
  Calls Tryz.prog 117 #[.pointer (some ⟨g, 0, none⟩), .int .i64 pages] w (SlotPost w0 A n c w g) := by
 have HC := Lib.hid hcode
 have hlt := hcur.lt
 have hs0 := hcur.1.size
 have HU := Lib.hid (hcur.alloc (.cells #[.int .i64 0, .int .i64 0] 108))
 clear hcode hcur
 go_enter Tryz.func117, Tryz.ntmps117
 go_wp2_with fail
 refine (once_any w0 A n c g _ 5 (by omega) (by omega) hn HC.out HU.out).mono ?_
 rintro e w1 ⟨b, rfl, hc1, hg1⟩
 have HU1 := Lib.hid hc1
 have HG1 := Lib.hid hg1
 have hsz1 : w.heap.size < w1.heap.size := by have := hg1.size; simp at this; omega
 clear hc1 hg1 HU
 cases b
 ·
  go_wp2_with fail
  refine (below_any w0 A n c g _ pages hp0 (by omega) hn HC.out HU1.out).mono ?_
  rintro e w2 ⟨x, rfl, hx0, hx1, hc2, hg2⟩
  have HX := Lib.hid (wf_small hx0 hx1 (by omega))
  have HU2 := Lib.hid hc2
  have HG2 := Lib.hid (gtr HG1.out hg2)
  have hsz2 := hg2.size
  clear hx0 hx1 hc2 hg2 HU1 HG1
  go_wp2_with fail
  refine (pick_any w0 A n c g _ w2.heap.size 5 slotList (by decide) (by decide) hn HC.out (HU2.out.alloc _) (by omega) rfl (heap_alloc_new w2 _)).mono ?_
  rintro e w3 ⟨y, rfl, hy, hc3, hg3⟩
  have HY := Lib.hid (slotList_wf y hy)
  have HU3 := Lib.hid hc3
  have HG3 := Lib.hid (gtr (gtr HG2.out (grown_new w2 _ _)) hg3)
  clear hy hc3 hg3 HU2 HG2
  obtain ⟨j0, j1, f0, f1⟩ := var_cells HG3.out hlt
  go_wp2_with fail
  exact bodyPost_ret (v := .agg #[.int .i64 x, .int .i64 y]) (by simp [results, Tryz.results117, go_sem, j0, j1]) rfl ⟨x, y, rfl, ⟨HX.out, HY.out⟩, var_cur (var_cur HU3.out hlt hs0 _ _) hlt hs0 _ _, var_grown _ HG3.out _ _⟩
 ·
  go_wp2_with fail
  refine (spec_no _).mono ?_
  rintro e w2 ⟨rfl, hb2⟩
  have HU2 := Lib.hid (HU1.out.grown (of_below hb2 none) (by simp) (fun k hk => by cases hk))
  have HG2 := Lib.hid (gtr HG1.out (of_below hb2 (some g)))
  clear hb2 HU1 HG1
  obtain ⟨j0, j1, f0, f1⟩ := var_cells HG2.out hlt
  go_wp2_with fail
  exact bodyPost_ret (v := .agg #[.int .i64 (-1), .int .i64 0]) (by simp [results, Tryz.results117, go_sem, j0, j1]) rfl ⟨-1, 0, rfl, ⟨by decide, by decide⟩, var_cur (var_cur HU2.out hlt hs0 _ _) hlt hs0 _ _, var_grown _ HG2.out _ _⟩
def rightsL : List Int := [3, 3, 1, 2, 0, 3, 1, -1, 4, 9223372036854775807]
theorem rightsL_wf : ∀ x ∈ rightsL, (Lit.int .i64 x).wf = true := by decide
theorem rights_any (w0 : World) (A : Option Addr) (n c g : Nat) (w : World) (hn : n ≤ 1048576) (hcode : CodeAt w0 A n) (hcur : Cur w0 A n c w g) :
  Calls Tryz.prog 121 #[.pointer (some ⟨g, 0, none⟩)] w (NumPost w0 A n c w g) := by
 have HC := Lib.hid hcode
 have HU := Lib.hid hcur
 have hlt := hcur.lt
 clear hcode hcur
 go_enter Tryz.func121, Tryz.ntmps121
 go_wp2_with fail
 refine (pick_any w0 A n c g _ w.heap.size 10 rightsL (by decide) (by decide) hn HC.out (HU.out.alloc _) (by omega) rfl (heap_alloc_new w _)).mono ?_
 rintro e w1 ⟨x, rfl, hx, hc1, hg1⟩
 have HF := Lib.hid (And.intro (rightsL_wf x hx) (And.intro hc1 (gtr (grown_new w _ _) hg1)))
 clear hx hc1 hg1
 go_wp2_with fail
 go_ret
 exact ⟨x, rfl, HF.out.1, HF.out.2.1, HF.out.2.2⟩
theorem blk_kept {w w1 : World} {g b : Nat} {o : Obj} (hG : w.grownBy w1 (some g)) (hb : w.heap[b]? = some o) (hne : b ≠ g) : w1.heap[b]? = some o :=
 (hG.block b (by
  rcases Nat.lt_or_ge b w.heap.size with h | h
  ·
   exact h
  ·
   rw [Array.getElem?_eq_none h] at hb; cases hb) (by simpa using hne)).trans hb
theorem two_of_blk {w : World} {b : Nat} {u v : Value} {T : TypeId} (hb : w.heap[b]? = some (.cells #[u, v] T (0, 0))) :
  w.cell? ⟨b, 0, none⟩ = some u ∧ w.cell? ⟨b, 1, none⟩ = some v ∧ w.frozen? ⟨b, 0, none⟩ = false ∧ w.frozen? ⟨b, 1, none⟩ = false :=
 ⟨cell_of_row _ _ 0 _ _ _ hb, cell_of_row _ _ 1 _ _ _ hb, frozen_of_row _ _ _ _ _ hb, frozen_of_row _ _ _ _ _ hb⟩
theorem grown_far {w W : World} {g b : Nat} (hG : w.grownBy W (some g)) (hb : w.heap.size ≤ b) (i : Nat) (u : Value) : w.grownBy (W.setCell ⟨b, i, none⟩ u) (some g) :=
 ⟨hG.os, hG.tape, hG.output, by simpa using hG.size, fun k hk hne => (Below.heap_setCell _ _ _ k (by show k ≠ b; omega)).trans (hG.block k hk hne)⟩
theorem anyList_wf {pages p : Int} (hp : (Lit.int .i64 pages).wf = true) (h : p ∈ [-1, -2, pages, 9223372036854775807, -9223372036854775808]) : (Lit.int .i64 p).wf = true := by
 simp only [List.mem_cons, List.not_mem_nil, or_false] at h
 rcases h with rfl | rfl | rfl | rfl | rfl
 ·
  decide
 ·
  decide
 ·
  exact hp
 ·
  decide
 ·
  decide
theorem any_any (w0 : World) (A : Option Addr) (n c g : Nat) (w : World) (pages : Int) (hp0 : 0 < pages) (hp1 : pages ≤ 256) (hn : n ≤ 1048576) (hcode : CodeAt w0 A n) (hcur : Cur w0 A n c w g) :
  Calls Tryz.prog 103 #[.pointer (some ⟨g, 0, none⟩), .int .i64 pages] w (SlotPost w0 A n c w g) := by
 have HC := Lib.hid hcode
 have hlt := hcur.lt
 have hs0 := hcur.1.size
 have HU := Lib.hid (hcur.alloc (.cells #[.int .i64 0, .int .i64 0] 108))
 clear hcode hcur
 go_enter Tryz.func103, Tryz.ntmps103
 go_wp2_with fail
 refine (slot_any w0 A n c g _ pages hp0 hp1 hn HC.out HU.out).mono ?_
 rintro e w1 ⟨x, y, rfl, hxy, hc1, hg1⟩
 have HXY := Lib.hid hxy
 have HU1 := Lib.hid (hc1.alloc (.cells #[.int .i64 x, .int .i64 y] 108))
 have HG1 := Lib.hid (gtr hg1 (grown_new w1 (.cells #[.int .i64 x, .int .i64 y] 108) _))
 have hsz1 : w.heap.size < w1.heap.size := by have := hg1.size; simp at this; omega
 have HN1 := Lib.hid (heap_alloc_new w1 (.cells #[.int .i64 x, .int .i64 y] 108))
 clear hc1 hg1 HU hxy
 go_wp2_with fail
 refine (below_any w0 A n c g _ 12 (by omega) (by omega) hn HC.out HU1.out).mono ?_
 rintro e w2 ⟨z, rfl, hz0, hz1, hc2, hg2⟩
 have HU2 := Lib.hid hc2
 have HG2 := Lib.hid (gtr HG1.out hg2)
 have HN2 := Lib.hid (blk_kept hg2 HN1.out (by omega))
 have hsz2 : w1.heap.size < w2.heap.size := by have := hg2.size; simp at this; omega
 clear hc2 hg2 HU1 HG1 HN1
 have hne : w1.heap.size ≠ w.heap.size := by omega
 have hne' : w.heap.size ≠ w1.heap.size := by omega
 have hw1 : (w.alloc (.cells #[.int .i64 0, .int .i64 0] 108)).heap.size ≤ w1.heap.size := by simp; omega
 have hs1 : w0.heap.size ≤ w1.heap.size := by omega
 have hg1 : g < w1.heap.size := by omega
 have hgn : w1.heap.size ≠ g := by omega
 by_cases hz : z = 0
 ·
  subst hz
  go_wp2_with fail
  refine (pick_any w0 A n c g _ w2.heap.size 5 [-1, -2, pages, 9223372036854775807, -9223372036854775808] (by decide) (by decide) hn HC.out (HU2.out.alloc _) (by omega) rfl (heap_alloc_new w2 _)).mono ?_
  rintro e w3 ⟨p, rfl, hp, hc3, hg3⟩
  have HP := Lib.hid (anyList_wf (wf_small (Int.le_of_lt hp0) (Int.lt_add_one_of_le (Int.le_refl pages)) (by omega)) hp)
  have HU3 := Lib.hid hc3
  have HG3 := Lib.hid (gtr (gtr HG2.out (grown_new w2 _ _)) hg3)
  have hn3 := blk_kept (gtr (grown_new w2 _ _) hg3) HN2.out hgn
  obtain ⟨j0, j1, f0, f1⟩ := two_of_blk hn3
  obtain ⟨q0, q1, e0, e1⟩ := var_cells HG3.out hlt
  clear hp hc3 hg3 hn3 HU2 HG2
  go_wp2_with fail
  exact bodyPost_ret (v := .agg #[.int .i64 p, .int .i64 y]) (by simp [results, Tryz.results103, go_sem, q0, q1]) rfl ⟨p, y, rfl, ⟨HP.out, HXY.out.2⟩, var_cur (var_cur (var_cur HU3.out hg1 hs1 _ _) hlt hs0 _ _) hlt hs0 _ _, var_grown _ (grown_far HG3.out hw1 _ _) _ _⟩
 ·
  have hz' : (z == 0) = false := by simpa using hz
  by_cases hy1 : z = 1
  ·
   subst hy1
   go_wp2_with fail
   refine (rights_any w0 A n c g _ hn HC.out HU2.out).mono ?_
   rintro e w3 ⟨p, rfl, hp, hc3, hg3⟩
   have HP := Lib.hid hp
   have HU3 := Lib.hid hc3
   have HG3 := Lib.hid (gtr HG2.out hg3)
   have hn3 := blk_kept hg3 HN2.out hgn
   obtain ⟨j0, j1, f0, f1⟩ := two_of_blk hn3
   obtain ⟨q0, q1, e0, e1⟩ := var_cells HG3.out hlt
   clear hp hc3 hg3 hn3 HU2 HG2
   go_wp2_with fail
   exact bodyPost_ret (v := .agg #[.int .i64 x, .int .i64 p]) (by simp [results, Tryz.results103, go_sem, q0, q1]) rfl ⟨x, p, rfl, ⟨HXY.out.1, HP.out⟩, var_cur (var_cur (var_cur HU3.out hg1 hs1 _ _) hlt hs0 _ _) hlt hs0 _ _, var_grown _ (grown_far HG3.out hw1 _ _) _ _⟩
  ·
   have hy' : (z == 1) = false := by simpa using hy1
   obtain ⟨j0, j1, f0, f1⟩ := two_of_blk HN2.out
   obtain ⟨q0, q1, e0, e1⟩ := var_cells HG2.out hlt
   go_wp2_with fail
   exact bodyPost_ret (v := .agg #[.int .i64 x, .int .i64 y]) (by simp [results, Tryz.results103, go_sem, q0, q1]) rfl ⟨x, y, rfl, HXY.out, var_cur (var_cur HU2.out hlt hs0 _ _) hlt hs0 _ _, var_grown _ HG2.out _ _⟩
end Go.Proofs.YtldgadmpclgfhaaGreat.SDraw
namespace Go.Proofs.YtldgadmpclgfhaaGreat.SDraw
set_option maxHeartbeats 8000000
set_option maxRecDepth 100000
set_option maxRecDepth 100000
open Go.ChangeShapes Go.WideShapes Go.ChangeAt Go.RowKit
open Go.Proofs.YtldgadmpclgfhaaGreat.Base Go.Proofs.YtldgadmpclgfhaaGreat.Mem Go.Proofs.YtldgadmpclgfhaaGreat.Slots Go.Proofs.YtldgadmpclgfhaaGreat.Draw
set_option linter.unusedVariables false
theorem Tryz.infoSlot3 : (Tryz.prog.info? 108).map (fun i => (i.zero, i.size, i.bytes)) = some (some (.agg #[.int .i64 0, .int .i64 0]), 2, 16) := by kernel_rfl
def TabOwn (w0 : World) (A : Option Addr) (n c : Nat) (w : World) (g sz : Nat) (e : Ending) (w' : World) : Prop :=
 ∃ b cap l, e = .returned (.slice (some ⟨b, 0, none⟩) sz cap) ∧ l.length = sz ∧ wfL l ∧ w'.ownsRow w.heap.size 108 2 (.slice (some ⟨b, 0, none⟩) sz cap) sz (scells l) ∧ Cur w0 A n c w' g ∧ w.grownBy w' (some g)
theorem grown_own {w a b : World} {g : Nat} {row : Option Nat} (h : w.grownBy a (some g)) (k : a.grownBy b row) (hr : ∀ j, row = some j → w.heap.size ≤ j) : w.grownBy b (some g) :=
 ⟨k.os.trans h.os, k.tape.trans h.tape, k.output.trans h.output, Nat.le_trans h.size k.size, fun i hi hne => (k.block i (Nat.lt_of_lt_of_le hi h.size) (fun e => by have := hr i e.symm; omega)).trans (h.block i hi hne)⟩
theorem wfL_snoc {l : List Sl} {s : Sl} (h : wfL l) (hs : wfS s) : wfL (l ++ [s]) := fun t ht => by
 rcases List.mem_append.1 ht with h1 | h1
 ·
  exact h t h1
 ·
  have : t = s := by simpa using h1
  rw [this]; exact hs
theorem table_any (w0 : World) (A : Option Addr) (n c g sz : Nat) (w : World) (pages : Int) (hp0 : 0 < pages) (hp1 : pages ≤ 256) (hsz : sz ≤ 256) (hn : n ≤ 1048576) (hcode : CodeAt w0 A n) (hcur : Cur w0 A n c w g) :
  Calls Tryz.prog 100 #[.pointer (some ⟨g, 0, none⟩), .int .i64 (sz : Int), .int .i64 pages] w (TabOwn w0 A n c w g sz) := by
 obtain ⟨i0, hi0, hz0, hz1, hz2⟩ := info_parts Tryz.infoSlot3
 have HC := Lib.hid hcode
 have hlt := hcur.lt
 have hs0 := hcur.1.size
 have HU := Lib.hid hcur
 clear hcode hcur
 go_enter Tryz.func100, Tryz.ntmps100
 go_wp2_with fail
 go_loopw [7, 8] (fun v i wr => ∃ (k b cap : Nat) (l : List Sl), k ≤ sz ∧ i = .int .i64 k ∧ v = .slice (some ⟨b, 0, none⟩) k cap ∧ l.length = k ∧ wfL l ∧ wr.ownsRow w.heap.size 108 2 (.slice (some ⟨b, 0, none⟩) k cap) k (scells l) ∧ Cur w0 A n c wr g ∧ w.grownBy wr (some g)) (fun _ i _ => sz - (intOf i).toNat)
 case atStart =>
  exact ⟨0, w.heap.size, 0, [], Nat.zero_le _, rfl, rfl, rfl, (fun _ h => by cases h), World.ownsRow_made w #[] 0 (Nat.le_refl _) (Nat.zero_le _) rfl, HU.out.alloc _, grown_new w _ _⟩
 case round =>
  obtain ⟨k, b, cap, l, hk, rfl, rfl, hl, hall, hown, hcur, hgr⟩ := hrel
  have HL := Lib.hid hl
  have HA := Lib.hid hall
  have HU := Lib.hid hcur
  have HG := Lib.hid hgr
  have hbs := hgr.size
  clear hl hall hcur hgr
  by_cases hk2 : k < sz
  ·
   have hk3 : (k : Int) < (sz : Int) := by omega
   go_wp2_with fail
   refine (slot_any w0 A n c g _ pages hp0 hp1 hn HC.out HU.out).mono ?_
   rintro e w1 ⟨x, y, rfl, hxy, hc1, hg1⟩
   have hbg : b ≠ g := by have := (hown.lt b rfl).1; omega
   have hown1 := hown.kept hg1 (.inr (by simp [Value.ownBlock]; exact hbg))
   have HX := Lib.hid hxy
   have HU1 := Lib.hid hc1
   have HG1 := Lib.hid (gtr HG.out hg1)
   have hbs1 := HG1.out.size
   have hb1 := (hown1.lt b rfl).1
   clear hxy hc1 hg1 HU HG hown
   go_wp2_with (at_builtin; refine wpList_append_lies _ rfl _ _ 33 rfl w.heap.size 108 i0 _ 2 16 Tryz.underlying33 hi0 hz0 hz1 hz2 rfl (by omega) (.slice (some ⟨b, 0, none⟩) k cap) k _ rfl (hown1.alloc _) ⟨w1.heap.size, 0, none⟩ 1 1 [.int .i64 x, .int .i64 y] rfl rfl (World.news_of_block (heap_alloc_new w1 _)) (by simp [Value.oneCell']) (by omega) (by simp only [maxLen]; omega) (by omega) (by simp; omega) (w1.heap.size + 1) (by simp) ?_; intro g' cap' w2 hown2 hgrow hat hg2)
   have hcur2 : Cur w0 A n c w2 g := (HU1.out.alloc _).grown hgrow (by simp [Value.ownBlock]; exact hbg) (fun j hj => by simp [Value.ownBlock] at hj; omega)
   have hgr2 : w.grownBy w2 (some g) := grown_own (gtr HG1.out (grown_new w1 _ _)) hgrow (fun j hj => by simp [Value.ownBlock] at hj; omega)
   have hown3 : w2.ownsRow w.heap.size 108 2 (.slice (some ⟨g', 0, none⟩) (k + 1) cap') (k + 1) (scells (l ++ [(x, y)])) := by rw [scells_append]; exact hown2
   have hlen : (l ++ [(x, y)]).length = k + 1 := by simp [HL.out]
   have HF := Lib.hid (And.intro hcur2 (And.intro hgr2 (And.intro hown3 (And.intro hlen (wfL_snoc HA.out HX.out)))))
   clear hown2 hgrow hat hg2 hcur2 hgr2 hown3 hlen
   go_roundw
   case rel => exact ⟨k + 1, g', cap', l ++ [(x, y)], by omega, by go_num, rfl, HF.out.2.2.2.1, HF.out.2.2.2.2, HF.out.2.2.1, HF.out.1, HF.out.2.1⟩
   case measure => simp [intOf]; omega
  ·
   obtain rfl : k = sz := by omega
   go_wp2_with fail
   go_ret
   exact ⟨b, cap, l, rfl, HL.out, HA.out, hown, HU.out, HG.out⟩
theorem wfL_set {l : List Sl} {k : Nat} {s : Sl} (h : wfL l) (hs : wfS s) : wfL (l.set k s) := fun t ht => by
 rcases List.mem_or_eq_of_mem_set ht with h1 | h1
 ·
  exact h t h1
 ·
  rw [h1]; exact hs
theorem wfL_take {l : List Sl} (k : Nat) (h : wfL l) : wfL (l.take k) := fun t ht => h t (List.mem_of_mem_take ht)
theorem lies_take {w : World} {lo hi : Nat} {A : Option Addr} {l : List Sl} (k : Nat) (h : Lies w lo hi A (scells l)) : Lies w lo hi A (scells (l.take k)) := fun j u hu => by
 refine h j u ?_
 have e : l = l.take k ++ l.drop k := (List.take_append_drop k l).symm
 rw [e, scells_append, List.getElem?_append_left (List.getElem?_eq_some_iff.1 hu).1]
 exact hu
end Go.Proofs.YtldgadmpclgfhaaGreat.SDraw
namespace Go.Proofs.YtldgadmpclgfhaaGreat.SDraw
set_option maxHeartbeats 8000000
set_option maxRecDepth 100000
set_option maxRecDepth 100000
open Go.ChangeShapes Go.WideShapes Go.ChangeAt Go.RowKit
open Go.Proofs.YtldgadmpclgfhaaGreat.Base Go.Proofs.YtldgadmpclgfhaaGreat.Mem Go.Proofs.YtldgadmpclgfhaaGreat.Slots Go.Proofs.YtldgadmpclgfhaaGreat.Draw
set_option linter.unusedVariables false
def Tab (w' : World) (lo sz : Nat) (ad : Addr) (m : Nat) (l : List Sl) : Prop := m ≤ sz ∧ l.length = m ∧ wfL l ∧ Lies w' lo w'.heap.size (some ad) (scells l)
theorem Tab.grown {w w' : World} {lo sz g m : Nat} {ad : Addr} {l : List Sl} (h : Tab w lo sz ad m l) (hg : w.grownBy w' (some g)) (hlo : g < lo) : Tab w' lo sz ad m l :=
 ⟨h.1, h.2.1, h.2.2.1, (h.2.2.2.kept (fun k h1 h2 => hg.block k h2 (by simp; omega))).wide (Nat.le_refl _) hg.size⟩
theorem Tab.below {w w' : World} {lo sz m : Nat} {ad : Addr} {l : List Sl} (h : Tab w lo sz ad m l) (hb : Below w.heap.size w w') : Tab w' lo sz ad m l :=
 ⟨h.1, h.2.1, h.2.2.1, (h.2.2.2.below hb (Nat.le_refl _)).wide (Nat.le_refl _) hb.size⟩
theorem Tab.set {w : World} {lo sz m b i : Nat} {ad : Addr} {l : List Sl} (h : Tab w lo sz ad m l) (hb : b < lo) (u : Value) : Tab (w.setCell ⟨b, i, none⟩ u) lo sz ad m l :=
 ⟨h.1, h.2.1, h.2.2.1, by
  have := h.2.2.2.kept (w' := w.setCell ⟨b, i, none⟩ u) (fun k h1 _ => Below.heap_setCell w ⟨b, i, none⟩ u k (by show k ≠ b; omega))
  simpa using this⟩
end Go.Proofs.YtldgadmpclgfhaaGreat.SDraw
namespace Go.Proofs.YtldgadmpclgfhaaGreat.Inss
set_option maxHeartbeats 8000000
set_option maxRecDepth 100000
set_option maxRecDepth 100000
open Go.ChangeShapes Go.WideShapes Go.ChangeAt Go.RowKit
open Go.Proofs.YtldgadmpclgfhaaGreat.Base Go.Proofs.YtldgadmpclgfhaaGreat.Mem Go.Proofs.YtldgadmpclgfhaaGreat.Data Go.Proofs.YtldgadmpclgfhaaGreat.Draw Go.Proofs.YtldgadmpclgfhaaGreat.SDraw
set_option linter.unusedVariables false
set_option linter.unusedSimpArgs false
theorem wf_of {l : List Int} (h : l.all (fun x => (Lit.int .i64 x).wf) = true) {x : Int} (hx : x ∈ l) : (Lit.int .i64 x).wf = true := List.all_eq_true.1 h x hx
def IPost (w0 : World) (A : Option Addr) (n c : Nat) (w : World) (g : Nat) (e : Ending) (w' : World) : Prop :=
 ∃ x0 x1, e = .returned (.agg #[.int .i64 x0, .int .i64 x1]) ∧ wfJ (x0, x1) ∧ Cur w0 A n c w' g ∧ w.grownBy w' (some g)
theorem cur2 {w0 w1 : World} {A : Option Addr} {n c g b : Nat} (h : Cur w0 A n c w1 g) (hg : g < b) (h0 : w0.heap.size ≤ b) (u v : Value) : Cur w0 A n c ((w1.setCell ⟨b, 0, none⟩ u).setCell ⟨b, 1, none⟩ v) g :=
 var_cur (var_cur h hg h0 _ _) hg h0 _ _
theorem far2 {w W : World} {g b : Nat} (hG : w.grownBy W (some g)) (hb : w.heap.size ≤ b) (u v : Value) : w.grownBy ((W.setCell ⟨b, 0, none⟩ u).setCell ⟨b, 1, none⟩ v) (some g) :=
 grown_far (grown_far hG hb _ _) hb _ _
theorem wf_less {x m : Int} (h0 : 0 ≤ x) (h1 : x < m) (hm : m ≤ 1048576) : (Lit.int .i64 (x - 1)).wf = true := by
 simp [Lit.wf]
 have e1 : IntKind.i64.min = -9223372036854775808 := by decide
 have e2 : IntKind.i64.max = 9223372036854775807 := by decide
 omega
theorem ins_any (w0 : World) (A : Option Addr) (n c g : Nat) (w : World) (hn : n ≤ 1048576) (hcode : CodeAt w0 A n) (hcur : Cur w0 A n c w g) :
  Calls Tryz.prog 61 #[.pointer (some ⟨g, 0, none⟩)] w (IPost w0 A n c w g) := by
 have HC := Lib.hid hcode
 have hlt := hcur.lt
 have hs0 := hcur.1.size
 have t0 := Var.new w [.int .i64 0, .int .i64 0] 55
 change Var (w.alloc (.cells #[.int .i64 0, .int .i64 0] 55)) w.heap.size [.int .i64 0, .int .i64 0] at t0
 have HU := Lib.hid (hcur.alloc (.cells #[.int .i64 0, .int .i64 0] 55))
 have hG0 := grown_new w (.cells #[.int .i64 0, .int .i64 0] 55) (some g)
 have hz0 : w.heap.size < (w.alloc (.cells #[.int .i64 0, .int .i64 0] 55)).heap.size := by simp
 clear hcode hcur
 go_enter Tryz.func61, Tryz.ntmps61
 go_wp2_with fail
 rw [show w.heap.size + 1 = (w.alloc (.cells #[.int .i64 0, .int .i64 0] 55)).heap.size by simp]
 generalize w.alloc (.cells #[.int .i64 0, .int .i64 0] 55) = W0 at t0 HU hG0 hz0 ⊢
 refine (pick_any w0 A n c g _ W0.heap.size 11 [1, 2, 3, 3, 3, 4, 4, 4, 5, 6, 8] (by decide) (by decide) hn HC.out (HU.out.alloc _) (by have := HU.out.lt; omega) rfl (heap_alloc_new W0 _)).mono ?_
 rintro e W1 ⟨x, rfl, hx, hc1, hg1⟩
 have HX := Lib.hid (wf_of (by decide) hx)
 have hG1 := gtr (gtr hG0 (grown_new W0 _ _)) hg1
 have t1 := (Var.below t0 ((Below.refl _ _).alloc (Nat.le_refl _) _) hz0).grown hg1 (by omega)
 have hs1 := hg1.size
 simp at hs1
 have hn1 := Var.new W1 [.int .i64 x, .int .i64 0] 55
 change Var (W1.alloc (.cells #[.int .i64 x, .int .i64 0] 55)) W1.heap.size [.int .i64 x, .int .i64 0] at hn1
 have HU2 := Lib.hid (hc1.alloc (.cells #[.int .i64 x, .int .i64 0] 55))
 have hG2 := gtr hG1 (grown_new W1 (.cells #[.int .i64 x, .int .i64 0] 55) _)
 have t2 := Var.below t1 ((Below.refl _ _).alloc (Nat.le_refl _) (.cells #[.int .i64 x, .int .i64 0] 55)) (by omega)
 have hgW1 := hc1.lt
 clear hx hc1 hg1 HU t0 t1 hG0 hG1
 by_cases h3 : x = 3
 ·
  subst h3
  go_wp2_with fail
  refine (below_any w0 A n c g _ _ (by omega) (by omega) hn HC.out HU2.out).mono ?_
  rintro e W3 ⟨y, rfl, hy0, hy1, hc3, hg3⟩
  have HY := Lib.hid (wf_small hy0 hy1 (by omega))
  have t3 := t2.grown hg3 (by omega)
  have v3 := hn1.grown hg3 (by omega)
  have hG3 := gtr hG2 hg3
  have HU3 := Lib.hid hc3
  have r0 := t3.cell 0 (v := .int .i64 0) rfl
  have r1 := t3.cell 1 (v := .int .i64 0) rfl
  have rf0 := t3.loose 0 (v := .int .i64 0) rfl
  have rf1 := t3.loose 1 (v := .int .i64 0) rfl
  have v0 := v3.cell 0 (v := .int .i64 3) rfl
  have v1 := v3.cell 1 (v := .int .i64 0) rfl
  have vf0 := v3.loose 0 (v := .int .i64 3) rfl
  have vf1 := v3.loose 1 (v := .int .i64 0) rfl
  have hne1 : W1.heap.size ≠ w.heap.size := by omega
  have hne2 : w.heap.size ≠ W1.heap.size := by omega
  clear hc3 hg3 t2 hn1 hG2 HU2 t3 v3
  go_wp2_with fail
  exact bodyPost_ret (v := .agg #[.int .i64 3, .int .i64 y]) (by simp [results, Tryz.results61, go_sem, r0, r1, v0, v1, hne1, hne2]) rfl
   ⟨3, y, rfl, ⟨HX.out, HY.out⟩, cur2 (var_cur HU3.out hgW1 (by omega) _ _) hlt hs0 _ _, far2 (grown_far hG3 (by omega) _ _) (Nat.le_refl _) _ _⟩
 ·
  have h3' : (x == 3) = false := by simpa using h3
  by_cases h4 : x = 4
  ·
   subst h4
   go_wp2_with fail
   refine (below_any w0 A n c g _ _ (by omega) (by omega) hn HC.out HU2.out).mono ?_
   rintro e W3 ⟨y, rfl, hy0, hy1, hc3, hg3⟩
   have HY := Lib.hid (wf_small hy0 hy1 (by omega))
   have t3 := t2.grown hg3 (by omega)
   have v3 := hn1.grown hg3 (by omega)
   have hG3 := gtr hG2 hg3
   have HU3 := Lib.hid hc3
   have r0 := t3.cell 0 (v := .int .i64 0) rfl
   have r1 := t3.cell 1 (v := .int .i64 0) rfl
   have rf0 := t3.loose 0 (v := .int .i64 0) rfl
   have rf1 := t3.loose 1 (v := .int .i64 0) rfl
   have v0 := v3.cell 0 (v := .int .i64 4) rfl
   have v1 := v3.cell 1 (v := .int .i64 0) rfl
   have vf0 := v3.loose 0 (v := .int .i64 4) rfl
   have vf1 := v3.loose 1 (v := .int .i64 0) rfl
   have hne1 : W1.heap.size ≠ w.heap.size := by omega
   have hne2 : w.heap.size ≠ W1.heap.size := by omega
   clear hc3 hg3 t2 hn1 hG2 HU2 t3 v3
   go_wp2_with fail
   exact bodyPost_ret (v := .agg #[.int .i64 4, .int .i64 y]) (by simp [results, Tryz.results61, go_sem, r0, r1, v0, v1, hne1, hne2]) rfl
    ⟨4, y, rfl, ⟨HX.out, HY.out⟩, cur2 (var_cur HU3.out hgW1 (by omega) _ _) hlt hs0 _ _, far2 (grown_far hG3 (by omega) _ _) (Nat.le_refl _) _ _⟩
  ·
   have h4' : (x == 4) = false := by simpa using h4
   by_cases h8 : x = 8
   ·
    subst h8
    go_wp2_with fail
    refine (below_any w0 A n c g _ _ (by omega) (by omega) hn HC.out HU2.out).mono ?_
    rintro e W3 ⟨y, rfl, hy0, hy1, hc3, hg3⟩
    have HY := Lib.hid (wf_small hy0 hy1 (by omega))
    have t3 := t2.grown hg3 (by omega)
    have v3 := hn1.grown hg3 (by omega)
    have hG3 := gtr hG2 hg3
    have HU3 := Lib.hid hc3
    have r0 := t3.cell 0 (v := .int .i64 0) rfl
    have r1 := t3.cell 1 (v := .int .i64 0) rfl
    have rf0 := t3.loose 0 (v := .int .i64 0) rfl
    have rf1 := t3.loose 1 (v := .int .i64 0) rfl
    have v0 := v3.cell 0 (v := .int .i64 8) rfl
    have v1 := v3.cell 1 (v := .int .i64 0) rfl
    have vf0 := v3.loose 0 (v := .int .i64 8) rfl
    have vf1 := v3.loose 1 (v := .int .i64 0) rfl
    have hne1 : W1.heap.size ≠ w.heap.size := by omega
    have hne2 : w.heap.size ≠ W1.heap.size := by omega
    clear hc3 hg3 t2 hn1 hG2 HU2 t3 v3
    go_wp2_with fail
    exact bodyPost_ret (v := .agg #[.int .i64 8, .int .i64 y]) (by simp [results, Tryz.results61, go_sem, r0, r1, v0, v1, hne1, hne2]) rfl
     ⟨8, y, rfl, ⟨HX.out, HY.out⟩, cur2 (var_cur HU3.out hgW1 (by omega) _ _) hlt hs0 _ _, far2 (grown_far hG3 (by omega) _ _) (Nat.le_refl _) _ _⟩
   ·
    have h8' : (x == 8) = false := by simpa using h8
    go_wp2_with fail
    refine (below_any w0 A n c g _ _ (by omega) (by omega) hn HC.out HU2.out).mono ?_
    rintro e W3 ⟨y, rfl, hy0, hy1, hc3, hg3⟩
    have HY := Lib.hid (wf_small hy0 hy1 (by omega))
    have t3 := t2.grown hg3 (by omega)
    have v3 := hn1.grown hg3 (by omega)
    have hG3 := gtr hG2 hg3
    have HU3 := Lib.hid hc3
    have r0 := t3.cell 0 (v := .int .i64 0) rfl
    have r1 := t3.cell 1 (v := .int .i64 0) rfl
    have rf0 := t3.loose 0 (v := .int .i64 0) rfl
    have rf1 := t3.loose 1 (v := .int .i64 0) rfl
    have v0 := v3.cell 0 (v := .int .i64 x) rfl
    have v1 := v3.cell 1 (v := .int .i64 0) rfl
    have vf0 := v3.loose 0 (v := .int .i64 x) rfl
    have vf1 := v3.loose 1 (v := .int .i64 0) rfl
    have hne1 : W1.heap.size ≠ w.heap.size := by omega
    have hne2 : w.heap.size ≠ W1.heap.size := by omega
    clear hc3 hg3 t2 hn1 hG2 HU2 t3 v3
    go_wp2_with fail
    exact bodyPost_ret (v := .agg #[.int .i64 x, .int .i64 y]) (by simp [results, Tryz.results61, go_sem, r0, r1, v0, v1, hne1, hne2]) rfl
     ⟨x, y, rfl, ⟨HX.out, HY.out⟩, cur2 (var_cur HU3.out hgW1 (by omega) _ _) hlt hs0 _ _, far2 (grown_far hG3 (by omega) _ _) (Nat.le_refl _) _ _⟩
theorem anyIns_any (w0 : World) (A : Option Addr) (n c g : Nat) (w : World) (hn : n ≤ 1048576) (hcode : CodeAt w0 A n) (hcur : Cur w0 A n c w g) :
  Calls Tryz.prog 62 #[.pointer (some ⟨g, 0, none⟩)] w (IPost w0 A n c w g) := by
 have HC := Lib.hid hcode
 have hlt := hcur.lt
 have hs0 := hcur.1.size
 have t0 := Var.new w [.int .i64 0, .int .i64 0] 55
 change Var (w.alloc (.cells #[.int .i64 0, .int .i64 0] 55)) w.heap.size [.int .i64 0, .int .i64 0] at t0
 have HU := Lib.hid (hcur.alloc (.cells #[.int .i64 0, .int .i64 0] 55))
 have hG0 := grown_new w (.cells #[.int .i64 0, .int .i64 0] 55) (some g)
 have hz0 : w.heap.size < (w.alloc (.cells #[.int .i64 0, .int .i64 0] 55)).heap.size := by simp
 clear hcode hcur
 go_enter Tryz.func62, Tryz.ntmps62
 go_wp2_with fail
 generalize w.alloc (.cells #[.int .i64 0, .int .i64 0] 55) = W0 at t0 HU hG0 hz0 ⊢
 refine (ins_any w0 A n c g _ hn HC.out HU.out).mono ?_
 rintro e W1 ⟨x, y, rfl, hw, hc1, hg1⟩
 have HW := Lib.hid hw
 have hG1 := gtr hG0 hg1
 have t1 := t0.grown hg1 (by omega)
 have hs1 := hg1.size
 have hn1 := Var.new W1 [.int .i64 x, .int .i64 y] 55
 change Var (W1.alloc (.cells #[.int .i64 x, .int .i64 y] 55)) W1.heap.size [.int .i64 x, .int .i64 y] at hn1
 have HU2 := Lib.hid (hc1.alloc (.cells #[.int .i64 x, .int .i64 y] 55))
 have hG2 := gtr hG1 (grown_new W1 (.cells #[.int .i64 x, .int .i64 y] 55) _)
 have t2 := Var.below t1 ((Below.refl _ _).alloc (Nat.le_refl _) (.cells #[.int .i64 x, .int .i64 y] 55)) (by omega)
 have hgW1 := hc1.lt
 have hz2 : W1.heap.size < (W1.alloc (.cells #[.int .i64 x, .int .i64 y] 55)).heap.size := by simp
 clear hw hc1 hg1 HU t0 t1 hG0 hG1
 go_wp2_with fail
 generalize W1.alloc (.cells #[.int .i64 x, .int .i64 y] 55) = W2 at hn1 HU2 hG2 t2 hz2 ⊢
 refine (below_any w0 A n c g _ 10 (by omega) (by omega) hn HC.out HU2.out).mono ?_
 rintro e W3 ⟨k, rfl, _, _, hc3, hg3⟩
 have t3 := t2.grown hg3 (by omega)
 have v3 := hn1.grown hg3 (by omega)
 have hG3 := gtr hG2 hg3
 have HU3 := Lib.hid hc3
 have hs3 := hg3.size
 have hne1 : W1.heap.size ≠ w.heap.size := by omega
 have hne2 : w.heap.size ≠ W1.heap.size := by omega
 clear hc3 hg3 t2 hn1 hG2 HU2
 by_cases h0 : k = 0
 ·
  subst h0
  go_wp2_with fail
  refine (below_any w0 A n c g _ 11 (by omega) (by omega) hn HC.out HU3.out).mono ?_
  rintro e W4 ⟨z, rfl, hz0, hz1, hc4, hg4⟩
  have HZ := Lib.hid (wf_less hz0 hz1 (by omega))
  have t4 := t3.grown hg4 (by omega)
  have v4 := v3.grown hg4 (by omega)
  have hG4 := gtr hG3 hg4
  have HU4 := Lib.hid hc4
  clear hc4 hg4 t3 v3 hG3 HU3
  have r0 := t4.cell 0 (v := .int .i64 0) rfl
  have r1 := t4.cell 1 (v := .int .i64 0) rfl
  have rf0 := t4.loose 0 (v := .int .i64 0) rfl
  have rf1 := t4.loose 1 (v := .int .i64 0) rfl
  have v0 := v4.cell 0 (v := .int .i64 x) rfl
  have v1 := v4.cell 1 (v := .int .i64 y) rfl
  have vf0 := v4.loose 0 (v := .int .i64 x) rfl
  have vf1 := v4.loose 1 (v := .int .i64 y) rfl
  clear t4 v4
  go_wp2_with fail
  exact bodyPost_ret (v := .agg #[.int .i64 (z - 1), .int .i64 y]) (by simp [results, Tryz.results62, go_sem, r0, r1, v0, v1, hne1, hne2]) rfl
   ⟨z - 1, y, rfl, ⟨HZ.out, HW.out.2⟩, cur2 (var_cur HU4.out hgW1 (by omega) _ _) hlt hs0 _ _, far2 (grown_far hG4 (by omega) _ _) (Nat.le_refl _) _ _⟩
 ·
  by_cases h1 : k = 1
  ·
   subst h1
   go_wp2_with fail
   refine (pick_any w0 A n c g _ W3.heap.size 8 [-1, 0, 12, 15, 16, 99, 100, 9223372036854775807] (by decide) (by decide) hn HC.out (HU3.out.alloc _) (by omega) rfl (heap_alloc_new W3 _)).mono ?_
   rintro e W4 ⟨z, rfl, hz, hc4, hg4⟩
   have HZ := Lib.hid (wf_of (by decide) hz)
   have t4 := (Var.below t3 ((Below.refl _ _).alloc (Nat.le_refl _) _) (by omega)).grown hg4 (by omega)
   have v4 := (Var.below v3 ((Below.refl _ _).alloc (Nat.le_refl _) _) (by omega)).grown hg4 (by omega)
   have hG4 := gtr (gtr hG3 (grown_new W3 _ _)) hg4
   have HU4 := Lib.hid hc4
   clear hz hc4 hg4 t3 v3 hG3 HU3
   have r0 := t4.cell 0 (v := .int .i64 0) rfl
   have r1 := t4.cell 1 (v := .int .i64 0) rfl
   have rf0 := t4.loose 0 (v := .int .i64 0) rfl
   have rf1 := t4.loose 1 (v := .int .i64 0) rfl
   have v0 := v4.cell 0 (v := .int .i64 x) rfl
   have v1 := v4.cell 1 (v := .int .i64 y) rfl
   have vf0 := v4.loose 0 (v := .int .i64 x) rfl
   have vf1 := v4.loose 1 (v := .int .i64 y) rfl
   clear t4 v4
   go_wp2_with fail
   exact bodyPost_ret (v := .agg #[.int .i64 x, .int .i64 z]) (by simp [results, Tryz.results62, go_sem, r0, r1, v0, v1, hne1, hne2]) rfl
    ⟨x, z, rfl, ⟨HW.out.1, HZ.out⟩, cur2 (var_cur HU4.out hgW1 (by omega) _ _) hlt hs0 _ _, far2 (grown_far hG4 (by omega) _ _) (Nat.le_refl _) _ _⟩
  ·
   have h0' : (k == 0) = false := by simpa using h0
   have h1' : (k == 1) = false := by simpa using h1
   have t4 := t3
   have v4 := v3
   clear t3 v3
   have r0 := t4.cell 0 (v := .int .i64 0) rfl
   have r1 := t4.cell 1 (v := .int .i64 0) rfl
   have rf0 := t4.loose 0 (v := .int .i64 0) rfl
   have rf1 := t4.loose 1 (v := .int .i64 0) rfl
   have v0 := v4.cell 0 (v := .int .i64 x) rfl
   have v1 := v4.cell 1 (v := .int .i64 y) rfl
   have vf0 := v4.loose 0 (v := .int .i64 x) rfl
   have vf1 := v4.loose 1 (v := .int .i64 y) rfl
   clear t4 v4
   go_wp2_with fail
   exact bodyPost_ret (v := .agg #[.int .i64 x, .int .i64 y]) (by simp [results, Tryz.results62, go_sem, r0, r1, v0, v1, hne1, hne2]) rfl
    ⟨x, y, rfl, HW.out, cur2 HU3.out hlt hs0 _ _, far2 hG3 (Nat.le_refl _) _ _⟩
end Go.Proofs.YtldgadmpclgfhaaGreat.Inss
namespace Go.Proofs.YtldgadmpclgfhaaGreat.Inss
set_option maxHeartbeats 8000000
set_option maxRecDepth 100000
set_option maxRecDepth 100000
open Go.ChangeShapes Go.WideShapes Go.ChangeAt Go.RowKit
open Go.Proofs.YtldgadmpclgfhaaGreat.Base Go.Proofs.YtldgadmpclgfhaaGreat.Mem Go.Proofs.YtldgadmpclgfhaaGreat.Data Go.Proofs.YtldgadmpclgfhaaGreat.Draw Go.Proofs.YtldgadmpclgfhaaGreat.SDraw
set_option linter.unusedVariables false
set_option linter.unusedSimpArgs false
theorem row_cap {w : World} {base n size g cap : Nat} {e : TypeId} {xs : List Value} (h : w.ownsRow base e size (.slice (some ⟨g, 0, none⟩) n cap) n xs) : n ≤ cap ∧ cap ≤ 9223372036854775807 := by
 rcases h.2 with ⟨h', _⟩ | ⟨g1, cap1, cur, h', _, _, hnc, hm, _⟩
 ·
  simp at h'
 ·
  injection h' with h1 h2 h3; simp only [maxLen] at hm; omega
theorem row_lies {w : World} {base n : Nat} {e : TypeId} {A : Option Addr} {cap : Nat} {cs : List Value} {s : Nat} (h : w.ownsRow base e s (.slice A n cap) n cs) : Lies w base w.heap.size A cs := (Owned.of_row h).1
theorem lies_take {w : World} {lo hi : Nat} {A : Option Addr} {l : List JT} (h : Lies w lo hi A (jcells l)) (j : Nat) (hj : j ≤ l.length) : Lies w lo hi A (jcells (l.take j)) := fun k u hu => by
 refine h k u ?_
 have hk := (List.getElem?_eq_some_iff.1 hu).1
 have e : jcells l = jcells (l.take j) ++ jcells (l.drop j) := by rw [← jcells_append, List.take_append_drop]
 rw [e, List.getElem?_append_left hk]; exact hu
theorem wfJL_nil : wfJL [] := fun _ h => by cases h
theorem wfJL_snoc {l : List JT} {s : JT} (h : wfJL l) (hs : wfJ s) : wfJL (l ++ [s]) := fun x hx => (List.mem_append.1 hx).elim (h x) (fun h1 => by rw [List.mem_singleton.1 h1]; exact hs)
theorem wfJL_set {l : List JT} {k : Nat} {s : JT} (h : wfJL l) (hs : wfJ s) : wfJL (l.set k s) := fun x hx => (List.mem_or_eq_of_mem_set hx).elim (h x) (fun h1 => h1 ▸ hs)
theorem wfJL_take {l : List JT} {k : Nat} (h : wfJL l) : wfJL (l.take k) := fun x hx => h x (List.mem_of_mem_take hx)
theorem wf_halt : wfJ (7, 0) := ⟨by decide, by decide⟩
theorem wf_jump : wfJ (8, 0) := ⟨by decide, by decide⟩
def POwn (w0 : World) (A : Option Addr) (n c : Nat) (w : World) (g : Nat) (e : Ending) (w' : World) : Prop :=
 ∃ b m cap l, e = .returned (.slice (some ⟨b, 0, none⟩) m cap) ∧ l.length = m ∧ 1 ≤ m ∧ m ≤ 20 ∧ wfJL l ∧ w'.ownsRow w.heap.size 55 2 (.slice (some ⟨b, 0, none⟩) m cap) m (jcells l) ∧ Cur w0 A n c w' g ∧ w.grownBy w' (some g)
theorem prog_any (w0 : World) (A : Option Addr) (n c g : Nat) (w : World) (hn : n ≤ 1048576) (hcode : CodeAt w0 A n) (hcur : Cur w0 A n c w g) :
  Calls Tryz.prog 27 #[.pointer (some ⟨g, 0, none⟩)] w (POwn w0 A n c w g) := by
 obtain ⟨i0, hi0, hz0, hz1, hz2⟩ := info_parts Tryz.infoIns
 have HC := Lib.hid hcode
 have hlt := hcur.lt
 have hs0 := hcur.1.size
 have HU := Lib.hid hcur
 clear hcode hcur
 go_enter Tryz.func27, Tryz.ntmps27
 go_wp2_with fail
 go_loopw [3, 4] (fun v i wr => ∃ (k b m cap : Nat) (l : List JT), k ≤ 9 ∧ m ≤ k ∧ i = .int .i64 k ∧ v = .slice (some ⟨b, 0, none⟩) m cap ∧ l.length = m ∧ wfJL l ∧ wr.ownsRow w.heap.size 55 2 (.slice (some ⟨b, 0, none⟩) m cap) m (jcells l) ∧ Cur w0 A n c wr g ∧ w.grownBy wr (some g)) (fun _ i _ => 10 - (intOf i).toNat)
 case atStart =>
  exact ⟨0, w.heap.size, 0, 0, [], Nat.zero_le _, Nat.le_refl _, rfl, rfl, rfl, wfJL_nil, World.ownsRow_made w #[] 0 (Nat.le_refl _) (Nat.zero_le _) rfl, HU.out.alloc _, grown_new w _ _⟩
 case round =>
  obtain ⟨k, b, m, cap, l, hk, hmk, rfl, rfl, hl, hwf, hown, hcur, hgr⟩ := hrel
  have HL := Lib.hid hl
  have HA := Lib.hid hwf
  have HU := Lib.hid hcur
  have HG := Lib.hid hgr
  have hbg : b ≠ g := by have := (hown.lt b rfl).1; omega
  clear hl hwf hcur hgr
  go_wp2_with fail
  refine (below_any w0 A n c g _ 7 (by omega) (by omega) hn HC.out HU.out).mono ?_
  rintro e w1 ⟨x, rfl, hx0, hx1, hc1, hg1⟩
  have hown1 := hown.kept hg1 (.inr (by simp [Value.ownBlock]; exact hbg))
  have HU1 := Lib.hid hc1
  have HG1 := Lib.hid (gtr HG.out hg1)
  clear hc1 hg1 HU HG hown
  by_cases hk2 : (k : Int) < 2 + x
  ·
   go_wp2_with fail
   refine (ins_any w0 A n c g _ hn HC.out HU1.out).mono ?_
   rintro e w2 ⟨x0, x1, rfl, hwx, hc2, hg2⟩
   have hown2 := hown1.kept hg2 (.inr (by simp [Value.ownBlock]; exact hbg))
   have HX := Lib.hid (wfJL_snoc HA.out hwx)
   have HU2 := Lib.hid hc2
   have HG2 := Lib.hid (gtr HG1.out hg2)
   have hsz2 := HG2.out.size
   clear hwx hc2 hg2 HU1 HG1 hown1
   go_wp2_with (at_builtin; refine wpList_append_lies _ rfl _ _ 32 rfl w.heap.size 55 i0 _ 2 16 Tryz.underlying32 hi0 hz0 hz1 hz2 rfl (by omega) (.slice (some ⟨b, 0, none⟩) m cap) m _ rfl (hown2.alloc _) ⟨w2.heap.size, 0, none⟩ 1 1 [.int .i64 x0, .int .i64 x1] rfl rfl (World.news_of_block (heap_alloc_new w2 _)) (by simp [Value.oneCell']) (by omega) (by simp only [maxLen]; omega) (by omega) (by simp; omega) (w2.heap.size + 1) (by simp) ?_; intro b' cap' w3 hownX hgrow hat hgX)
   have hF := (And.intro ((HU2.out.alloc (.cells #[.int .i64 x0, .int .i64 x1] 55)).grown hgrow (by simp [Value.ownBlock]; omega) (fun j hj => by have := (hown2.lt j hj).1; omega))
    (And.intro (grown_own (gtr HG2.out (grown_new w2 (.cells #[.int .i64 x0, .int .i64 x1] 55) _)) hgrow (fun j hj => (hown2.lt j hj).1))
     (show w3.ownsRow w.heap.size 55 2 (.slice (some ⟨b', 0, none⟩) (m + 1) cap') (m + 1) (jcells (l ++ [(x0, x1)])) by rw [jcells_append]; exact hownX)))
   have HF := Lib.hid hF
   clear hF hown2 hownX hgrow hat hgX
   go_wp2_with fail
   go_roundw
   case rel => exact ⟨k + 1, b', m + 1, cap', l ++ [(x0, x1)], by omega, by omega, by go_num, rfl, by rw [List.length_append, HL.out]; rfl, HX.out, HF.out.2.2, HF.out.1, HF.out.2.1⟩
   case measure => simp [intOf]; omega
  ·
   go_wp2_with fail
   refine (once_any w0 A n c g _ 3 (by omega) (by omega) hn HC.out HU1.out).mono ?_
   rintro e w2 ⟨o, rfl, hc2, hg2⟩
   have hown2 := hown1.kept hg2 (.inr (by simp [Value.ownBlock]; exact hbg))
   have HU2 := Lib.hid hc2
   have HG2 := Lib.hid (gtr HG1.out hg2)
   have hsz2 := HG2.out.size
   clear hc2 hg2 HU1 HG1 hown1
   cases o
   ·
    go_wp2_with (at_builtin; refine wpList_append_lies _ rfl _ _ 32 rfl w.heap.size 55 i0 _ 2 16 Tryz.underlying32 hi0 hz0 hz1 hz2 rfl (by omega) (.slice (some ⟨b, 0, none⟩) m cap) m _ rfl (hown2.alloc _) ⟨w2.heap.size, 0, none⟩ 1 1 [.int .i64 8, .int .i64 0] rfl rfl (World.news_of_block (heap_alloc_new w2 _)) (by simp [Value.oneCell']) (by omega) (by simp only [maxLen]; omega) (by omega) (by simp; omega) (w2.heap.size + 1) (by simp) ?_; intro b' cap' w3 hownX hgrow hat hgX)
    have hF := (And.intro ((HU2.out.alloc (.cells #[.int .i64 8, .int .i64 0] 55)).grown hgrow (by simp [Value.ownBlock]; omega) (fun j hj => by have := (hown2.lt j hj).1; omega))
     (And.intro (grown_own (gtr HG2.out (grown_new w2 (.cells #[.int .i64 8, .int .i64 0] 55) _)) hgrow (fun j hj => (hown2.lt j hj).1))
      (show w3.ownsRow w.heap.size 55 2 (.slice (some ⟨b', 0, none⟩) (m + 1) cap') (m + 1) (jcells (l ++ [(8, 0)])) by rw [jcells_append]; exact hownX)))
    have HF := Lib.hid hF
    clear hF hown2 hownX hgrow hat hgX
    go_wp2_with fail
    go_ret
    exact ⟨b', m + 1, cap', l ++ [(8, 0)], rfl, by rw [List.length_append, HL.out]; rfl, by omega, by omega, wfJL_snoc HA.out wf_jump, HF.out.2.2, HF.out.1, HF.out.2.1⟩
   ·
    go_wp2_with (at_builtin; refine wpList_append_lies _ rfl _ _ 32 rfl w.heap.size 55 i0 _ 2 16 Tryz.underlying32 hi0 hz0 hz1 hz2 rfl (by omega) (.slice (some ⟨b, 0, none⟩) m cap) m _ rfl (hown2.alloc _) ⟨w2.heap.size, 0, none⟩ 1 1 [.int .i64 7, .int .i64 0] rfl rfl (World.news_of_block (heap_alloc_new w2 _)) (by simp [Value.oneCell']) (by omega) (by simp only [maxLen]; omega) (by omega) (by simp; omega) (w2.heap.size + 1) (by simp) ?_; intro b' cap' w3 hownX hgrow hat hgX)
    have hF := (And.intro ((HU2.out.alloc (.cells #[.int .i64 7, .int .i64 0] 55)).grown hgrow (by simp [Value.ownBlock]; omega) (fun j hj => by have := (hown2.lt j hj).1; omega))
     (And.intro (grown_own (gtr HG2.out (grown_new w2 (.cells #[.int .i64 7, .int .i64 0] 55) _)) hgrow (fun j hj => (hown2.lt j hj).1))
      (show w3.ownsRow w.heap.size 55 2 (.slice (some ⟨b', 0, none⟩) (m + 1) cap') (m + 1) (jcells (l ++ [(7, 0)])) by rw [jcells_append]; exact hownX)))
    have HF := Lib.hid hF
    clear hF hown2 hownX hgrow hat hgX
    go_wp2_with fail
    go_ret
    exact ⟨b', m + 1, cap', l ++ [(7, 0)], rfl, by rw [List.length_append, HL.out]; rfl, by omega, by omega, wfJL_snoc HA.out wf_halt, HF.out.2.2, HF.out.1, HF.out.2.1⟩
def slen : Value → Nat
 | .slice _ n _ => n
 | _ => 0
end Go.Proofs.YtldgadmpclgfhaaGreat.Inss
namespace Go.Proofs.YtldgadmpclgfhaaGreat.SDraw
set_option maxHeartbeats 8000000
set_option maxRecDepth 100000
set_option maxRecDepth 100000
open Go.ChangeShapes Go.WideShapes Go.ChangeAt Go.RowKit
open Go.Proofs.YtldgadmpclgfhaaGreat.Base Go.Proofs.YtldgadmpclgfhaaGreat.Mem Go.Proofs.YtldgadmpclgfhaaGreat.Slots Go.Proofs.YtldgadmpclgfhaaGreat.Draw
set_option linter.unusedVariables false
set_option linter.unusedSimpArgs false
def TabCap (w0 : World) (A : Option Addr) (n c : Nat) (w : World) (g sz : Nat) (e : Ending) (w' : World) : Prop :=
 ∃ ad m cap l, e = .returned (.slice (some ad) m cap) ∧ m ≤ cap ∧ m ≤ sz ∧ l.length = m ∧ wfL l ∧ Lies w' w.heap.size w'.heap.size (some ad) (scells l) ∧ Cur w0 A n c w' g ∧ w.grownBy w' (some g)
theorem anyTable_cap (w0 : World) (A : Option Addr) (n c g sz : Nat) (w : World) (pages : Int) (hp0 : 0 < pages) (hp1 : pages ≤ 256) (hz : 0 < sz) (hsz : sz ≤ 256) (hn : n ≤ 1048576) (hcode : CodeAt w0 A n) (hcur : Cur w0 A n c w g) :
  Calls Tryz.prog 72 #[.pointer (some ⟨g, 0, none⟩), .int .i64 (sz : Int), .int .i64 pages] w (TabCap w0 A n c w g sz) := by
 have HC := Lib.hid hcode
 have hlt := hcur.lt
 have hs0 := hcur.1.size
 have HU := Lib.hid hcur
 clear hcode hcur
 go_enter Tryz.func72, Tryz.ntmps72
 go_wp2_with fail
 refine (table_any w0 A n c g sz _ pages hp0 hp1 hsz hn HC.out HU.out).mono ?_
 rintro e w1 ⟨b, cap, l, rfl, hl, hwf, hown, hc1, hg1⟩
 have HL := Lib.hid hl
 have HW := Lib.hid hwf
 have HU1 := Lib.hid hc1
 have HG1 := Lib.hid hg1
 have hb1 := (hown.lt b rfl).1
 have hbg : b ≠ g := by omega
 have hcap : sz ≤ cap := by
  rcases hown.2 with ⟨h', _⟩ | ⟨g1, cap1, cur, h', _, _, hnc, _⟩
  ·
   simp at h'
  ·
   injection h' with h1 h2 h3; omega
 have hcm : cap ≤ 9223372036854775807 := by
  rcases hown.2 with ⟨h', _⟩ | ⟨g1, cap1, cur, h', _, _, hnc, hm, _⟩
  ·
   simp at h'
  ·
   injection h' with h1 h2 h3; simp only [maxLen] at hm; omega
 clear hl hwf hc1 hg1 HU
 go_wp2_with fail
 refine (below_any w0 A n c g _ 8 (by omega) (by omega) hn HC.out HU1.out).mono ?_
 rintro e w2 ⟨z, rfl, hz0, hz1, hc2, hg2⟩
 have hown2 := hown.kept hg2 (.inr (by simp [Value.ownBlock]; exact hbg))
 have HU2 := Lib.hid hc2
 have HG2 := Lib.hid (gtr HG1.out hg2)
 clear hc2 hg2 HU1 HG1 hown
 by_cases hzz : z = 0
 ·
  subst hzz
  go_wp2_with fail
  refine (below_any w0 A n c g _ (sz : Int) (by omega) (by omega) hn HC.out HU2.out).mono ?_
  rintro e w3 ⟨q, rfl, hq0, hq1, hc3, hg3⟩
  obtain ⟨k, rfl⟩ := Int.eq_ofNat_of_zero_le hq0
  have hk : k < sz := by omega
  have hown3 := hown2.kept hg3 (.inr (by simp [Value.ownBlock]; exact hbg))
  have HU3 := Lib.hid hc3
  have HG3 := Lib.hid (gtr HG2.out hg3)
  clear hc3 hg3 HU2 HG2 hown2
  go_wp2_with fail
  refine (any_any w0 A n c g _ pages hp0 hp1 hn HC.out HU3.out).mono ?_
  rintro e w4 ⟨x, y, rfl, hxy, hc4, hg4⟩
  have hown4 := hown3.kept hg4 (.inr (by simp [Value.ownBlock]; exact hbg))
  have HX := Lib.hid hxy
  have HU4 := Lib.hid hc4
  have HG4 := Lib.hid (gtr HG3.out hg4)
  clear hxy hc4 hg4 HU3 HG3 hown3
  obtain ⟨⟨u1, e1⟩, ⟨u2, e2⟩, f1, f2⟩ := row_two hown4 hk
  go_wp2_with fail
  go_ret
  have hrow := row_set2 hown4 k (.int .i64 x) (.int .i64 y)
  rw [← scells_set l k (by rw [HL.out]; exact hk) x y] at hrow
  exact ⟨_, _, _, _, rfl, hcap, Nat.le_refl _, by rw [List.length_set]; exact HL.out, wfL_set HW.out HX.out, (Owned.of_row hrow).1, var_cur (var_cur HU4.out (by omega) (by omega) _ _) (by omega) (by omega) _ _, grown_far (grown_far HG4.out hb1 _ _) hb1 _ _⟩
 ·
  have hzz' : (z == 0) = false := by simpa using hzz
  by_cases hz1 : z = 1
  ·
   subst hz1
   go_wp2_with fail
   refine (below_any w0 A n c g _ (sz : Int) (by omega) (by omega) hn HC.out HU2.out).mono ?_
   rintro e w3 ⟨q, rfl, hq0, hq1, hc3, hg3⟩
   obtain ⟨k, rfl⟩ := Int.eq_ofNat_of_zero_le hq0
   have hk : k < sz := by omega
   have hkc : (k : Int) ≤ (cap : Int) := by omega
   have hown3 := hown2.kept hg3 (.inr (by simp [Value.ownBlock]; exact hbg))
   have HU3 := Lib.hid hc3
   have HG3 := Lib.hid (gtr HG2.out hg3)
   clear hc3 hg3 HU2 HG2 hown2
   go_wp2_with fail
   go_ret
   exact ⟨⟨b, 0, none⟩, k, cap, l.take k, by simp, by omega, Nat.le_of_lt hk, by rw [List.length_take, HL.out]; omega, wfL_take k HW.out, lies_take k (Owned.of_row hown3).1, HU3.out, HG3.out⟩
  ·
   have hz1' : (z == 1) = false := by simpa using hz1
   go_wp2_with fail
   go_ret
   exact ⟨_, _, _, _, rfl, hcap, Nat.le_refl _, HL.out, HW.out, (Owned.of_row hown2).1, HU2.out, HG2.out⟩
end Go.Proofs.YtldgadmpclgfhaaGreat.SDraw
namespace Go.Proofs.YtldgadmpclgfhaaGreat.Inss
set_option maxHeartbeats 8000000
set_option maxRecDepth 100000
open Go.ChangeShapes Go.WideShapes Go.ChangeAt Go.RowKit
open Go.Proofs.YtldgadmpclgfhaaGreat.Base Go.Proofs.YtldgadmpclgfhaaGreat.Mem Go.Proofs.YtldgadmpclgfhaaGreat.Data Go.Proofs.YtldgadmpclgfhaaGreat.Draw Go.Proofs.YtldgadmpclgfhaaGreat.SDraw
set_option linter.unusedVariables false
set_option linter.unusedSimpArgs false
def PCap (w0 : World) (A : Option Addr) (n c : Nat) (w : World) (g : Nat) (e : Ending) (w' : World) : Prop :=
 ∃ b m cap l, e = .returned (.slice (some ⟨b, 0, none⟩) m cap) ∧ l.length = m ∧ (m ≤ 20 ∧ m ≤ cap) ∧ wfJL l ∧ Lies w' w.heap.size w'.heap.size (some ⟨b, 0, none⟩) (jcells l) ∧ Cur w0 A n c w' g ∧ w.grownBy w' (some g)
theorem anyProg_cap (w0 : World) (A : Option Addr) (n c g : Nat) (w : World) (hn : n ≤ 1048576) (hcode : CodeAt w0 A n) (hcur : Cur w0 A n c w g) :
  Calls Tryz.prog 28 #[.pointer (some ⟨g, 0, none⟩)] w (PCap w0 A n c w g) := by
 obtain ⟨i0, hi0, hz0, hz1, hz2⟩ := info_parts Tryz.infoIns
 have HC := Lib.hid hcode
 have hlt := hcur.lt
 have hs0 := hcur.1.size
 have HU := Lib.hid hcur
 clear hcode hcur
 go_enter Tryz.func28, Tryz.ntmps28
 go_wp2_with fail
 refine (prog_any w0 A n c g _ hn HC.out HU.out).mono ?_
 rintro e w1 ⟨b, m, cap, l, rfl, hl, hm1, hm2, hwf, hown1, hc1, hg1⟩
 have HL := Lib.hid hl
 have HA := Lib.hid hwf
 have HU1 := Lib.hid hc1
 have HG1 := Lib.hid hg1
 have hb0 := (hown1.lt b rfl).1
 have hbg : b ≠ g := by omega
 clear hl hwf hc1 hg1 HU
 go_wp2_with fail
 refine (below_any w0 A n c g _ 8 (by omega) (by omega) hn HC.out HU1.out).mono ?_
 rintro e w2 ⟨k, rfl, _, _, hc2, hg2⟩
 have hown2 := hown1.kept hg2 (.inr (by simp [Value.ownBlock]; exact hbg))
 have HU2 := Lib.hid hc2
 have HG2 := Lib.hid (gtr HG1.out hg2)
 clear hc2 hg2 HU1 HG1 hown1
 by_cases h0 : k = 0
 ·
  subst h0
  go_wp2_with fail
  refine (anyIns_any w0 A n c g _ hn HC.out HU2.out).mono ?_
  rintro e w3 ⟨x0, x1, rfl, hwx, hc3, hg3⟩
  have hown3 := hown2.kept hg3 (.inr (by simp [Value.ownBlock]; exact hbg))
  have HX := Lib.hid (wfJL_set (k := 0) HA.out hwx)
  have HU3 := Lib.hid hc3
  have HG3 := Lib.hid (gtr HG2.out hg3)
  obtain ⟨⟨u0, q0⟩, ⟨u1, q1⟩, f0, f1⟩ := jrow_some hown3 (k := 0) (by omega)
  have hs := jrow_set hown3 0 (.int .i64 x0) (.int .i64 x1)
  rw [jset (by have := HL.out; omega)] at hs
  simp only [Nat.zero_mul, Nat.zero_add] at q0 q1 f0 f1 hs
  have HS := Lib.hid hs
  have hm0 : (0 : Int) < (m : Int) := by omega
  clear hwx hc3 hg3 HU2 HG2 hown2 hown3 hs
  go_wp2_with fail
  go_ret
  exact ⟨b, m, cap, l.set 0 (x0, x1), rfl, by rw [List.length_set]; exact HL.out, ⟨hm2, (row_cap HS.out).1⟩, HX.out, row_lies HS.out, cur2 HU3.out (by omega) (by omega) _ _, far2 HG3.out hb0 _ _⟩
 ·
  have h0' : (k == 0) = false := by simpa using h0
  by_cases h1 : k = 1
  ·
   subst h1
   go_wp2_with fail
   clear hb0 hbg hm1
   go_loopw [3] (fun v wr => ∃ (b m cap : Nat) (l : List JT), m ≤ 20 ∧ v = .slice (some ⟨b, 0, none⟩) m cap ∧ l.length = m ∧ wfJL l ∧ wr.ownsRow w.heap.size 55 2 (.slice (some ⟨b, 0, none⟩) m cap) m (jcells l) ∧ Cur w0 A n c wr g ∧ w.grownBy wr (some g)) (fun v _ => 20 - slen v)
   case atStart => exact ⟨b, m, cap, l, hm2, rfl, HL.out, HA.out, hown2, HU2.out, HG2.out⟩
   case round =>
    clear hown2 HU2 HG2 HL HA hm2
    obtain ⟨b, m, cap, l, hm, rfl, hl, hwf, hown, hcur, hgr⟩ := hrel
    have HL := Lib.hid hl
    have HA := Lib.hid hwf
    have HU := Lib.hid hcur
    have HG := Lib.hid hgr
    have hbg : b ≠ g := by have := (hown.lt b rfl).1; omega
    clear hl hwf hcur hgr
    go_wp2_with fail
    refine (below_any w0 A n c g _ 2 (by omega) (by omega) hn HC.out HU.out).mono ?_
    rintro e w3 ⟨x, rfl, hx0, hx1, hc3, hg3⟩
    have hown3 := hown.kept hg3 (.inr (by simp [Value.ownBlock]; exact hbg))
    have HU3 := Lib.hid hc3
    have HG3 := Lib.hid (gtr HG.out hg3)
    clear hc3 hg3 HU HG hown
    by_cases hk2 : (m : Int) < 12 + x
    ·
     go_wp2_with fail
     refine (ins_any w0 A n c g _ hn HC.out HU3.out).mono ?_
     rintro e w4 ⟨x0, x1, rfl, hwx, hc4, hg4⟩
     have hown4 := hown3.kept hg4 (.inr (by simp [Value.ownBlock]; exact hbg))
     have HX := Lib.hid (wfJL_snoc HA.out hwx)
     have HU4 := Lib.hid hc4
     have HG4 := Lib.hid (gtr HG3.out hg4)
     have hsz4 := HG4.out.size
     clear hwx hc4 hg4 HU3 HG3 hown3
     go_wp2_with (at_builtin; refine wpList_append_lies _ rfl _ _ 32 rfl w.heap.size 55 i0 _ 2 16 Tryz.underlying32 hi0 hz0 hz1 hz2 rfl (by omega) (.slice (some ⟨b, 0, none⟩) m cap) m _ rfl (hown4.alloc _) ⟨w4.heap.size, 0, none⟩ 1 1 [.int .i64 x0, .int .i64 x1] rfl rfl (World.news_of_block (heap_alloc_new w4 _)) (by simp [Value.oneCell']) (by omega) (by simp only [maxLen]; omega) (by omega) (by simp; omega) (w4.heap.size + 1) (by simp) ?_; intro b' cap' w5 hownX hgrow hat hgX)
     have hF := (And.intro ((HU4.out.alloc (.cells #[.int .i64 x0, .int .i64 x1] 55)).grown hgrow (by simp [Value.ownBlock]; omega) (fun j hj => by have := (hown4.lt j hj).1; omega))
      (And.intro (grown_own (gtr HG4.out (grown_new w4 (.cells #[.int .i64 x0, .int .i64 x1] 55) _)) hgrow (fun j hj => (hown4.lt j hj).1))
       (show w5.ownsRow w.heap.size 55 2 (.slice (some ⟨b', 0, none⟩) (m + 1) cap') (m + 1) (jcells (l ++ [(x0, x1)])) by rw [jcells_append]; exact hownX)))
     have HF := Lib.hid hF
     clear hF hown4 hownX hgrow hat hgX
     go_wp2_with fail
     go_roundw
     case rel => exact ⟨b', m + 1, cap', l ++ [(x0, x1)], by omega, rfl, by rw [List.length_append, HL.out]; rfl, HX.out, HF.out.2.2, HF.out.1, HF.out.2.1⟩
     case measure => simp only [slen]; omega
    ·
     go_wp2_with fail
     go_ret
     exact ⟨b, m, cap, l, rfl, HL.out, ⟨hm, (row_cap hown3).1⟩, HA.out, row_lies hown3, HU3.out, HG3.out⟩
  ·
   have h1' : (k == 1) = false := by simpa using h1
   by_cases h2 : k = 2
   ·
    subst h2
    go_wp2_with fail
    refine (below_any w0 A n c g _ 2 (by omega) (by omega) hn HC.out HU2.out).mono ?_
    rintro e w3 ⟨x, rfl, hx0, hx1, hc3, hg3⟩
    have hown3 := hown2.kept hg3 (.inr (by simp [Value.ownBlock]; exact hbg))
    have HU3 := Lib.hid hc3
    have HG3 := Lib.hid (gtr HG2.out hg3)
    have hcap := row_cap hown3
    have HR := Lib.hid (row_lies hown3)
    obtain ⟨j, rfl⟩ := Int.eq_ofNat_of_zero_le hx0
    have hj1 : (j : Int) ≤ (cap : Int) := by omega
    have hj2 : j ≤ cap := by omega
    have hj3 : j ≤ m := by omega
    clear hc3 hg3 HU2 HG2 hown2 hown3
    go_wp2_with fail
    go_ret
    exact ⟨b, j, cap, l.take j, rfl, by rw [List.length_take, HL.out]; omega, ⟨by omega, hj2⟩, wfJL_take HA.out, lies_take HR.out j (by rw [HL.out]; exact hj3), HU3.out, HG3.out⟩
   ·
    have h2' : (k == 2) = false := by simpa using h2
    go_wp2_with fail
    go_ret
    exact ⟨b, m, cap, l, rfl, HL.out, ⟨hm2, (row_cap hown2).1⟩, HA.out, row_lies hown2, HU2.out, HG2.out⟩
end Go.Proofs.YtldgadmpclgfhaaGreat.Inss
namespace Go.Proofs.YtldgadmpclgfhaaGreat.Irqs
set_option maxHeartbeats 8000000
set_option maxRecDepth 100000
set_option maxRecDepth 100000
open Go.ChangeShapes Go.WideShapes Go.ChangeAt Go.RowKit
open Go.Proofs.YtldgadmpclgfhaaGreat.Base Go.Proofs.YtldgadmpclgfhaaGreat.Mem Go.Proofs.YtldgadmpclgfhaaGreat.Draw Go.Proofs.YtldgadmpclgfhaaGreat.SDraw
set_option linter.unusedVariables false
set_option linter.unusedSimpArgs false
theorem wf_of {l : List Int} (h : l.all (fun x => (Lit.int .i64 x).wf) = true) {x : Int} (hx : x ∈ l) : (Lit.int .i64 x).wf = true := List.all_eq_true.1 h x hx
def NPost (w0 : World) (A : Option Addr) (n c : Nat) (w : World) (g : Nat) (e : Ending) (w' : World) : Prop :=
 ∃ x, e = .returned (.int .i64 x) ∧ (Lit.int .i64 x).wf = true ∧ Cur w0 A n c w' g ∧ w.grownBy w' (some g)
theorem pend_any (w0 : World) (A : Option Addr) (n c g : Nat) (w : World) (hn : n ≤ 1048576) (hcode : CodeAt w0 A n) (hcur : Cur w0 A n c w g) :
  Calls Tryz.prog 70 #[.pointer (some ⟨g, 0, none⟩)] w (NPost w0 A n c w g) := by
 have HC := Lib.hid hcode
 have HU := Lib.hid hcur
 clear hcode hcur
 go_enter Tryz.func70, Tryz.ntmps70
 go_wp2_with fail
 refine (below_any w0 A n c g _ 256 (by omega) (by omega) hn HC.out HU.out).mono ?_
 rintro e w1 ⟨x, rfl, hx0, hx1, hc1, hg1⟩
 have Hx := Lib.hid (wf_small hx0 hx1 (by omega))
 have HU1 := Lib.hid (And.intro hc1 hg1)
 clear hx0 hx1 hc1 hg1 HU
 go_wp2_with fail
 refine (below_any w0 A n c g _ 256 (by omega) (by omega) hn HC.out HU1.out.1).mono ?_
 rintro e w2 ⟨y, rfl, hy0, hy1, hc2, hg2⟩
 have Hy := Lib.hid (wf_small hy0 hy1 (by omega))
 have HU2 := Lib.hid (And.intro hc2 (gtr HU1.out.2 hg2))
 have hlt := hc2.lt
 clear hy0 hy1 hc2 hg2 HU1
 go_wp2_with fail
 refine (pick_any w0 A n c g _ w2.heap.size 9 [0, 1, 128, 255, x, y, -1, 256, 9223372036854775807] (by decide) (by decide) hn HC.out (HU2.out.1.alloc _) (by omega) rfl (heap_alloc_new w2 _)).mono ?_
 rintro e w3 ⟨z, rfl, hz, hc3, hg3⟩
 have HF := Lib.hid (And.intro (wf_of (by simp only [List.all_cons, List.all_nil, Hx.out, Hy.out]; decide) hz) (And.intro hc3 (gtr (gtr HU2.out.2 (grown_new w2 _ _)) hg3)))
 clear hz hc3 hg3 HU2
 go_wp2_with fail
 go_ret
 exact ⟨z, rfl, HF.out.1, HF.out.2.1, HF.out.2.2⟩
end Go.Proofs.YtldgadmpclgfhaaGreat.Irqs
namespace Go.Proofs.YtldgadmpclgfhaaGreat.Ctls
set_option maxHeartbeats 8000000
set_option maxRecDepth 100000
set_option maxRecDepth 100000
open Go.ChangeShapes Go.WideShapes Go.ChangeAt Go.RowKit
open Go.Proofs.YtldgadmpclgfhaaGreat.Base Go.Proofs.YtldgadmpclgfhaaGreat.Mem Go.Proofs.YtldgadmpclgfhaaGreat.Data Go.Proofs.YtldgadmpclgfhaaGreat.Draw Go.Proofs.YtldgadmpclgfhaaGreat.SDraw
set_option linter.unusedVariables false
set_option linter.unusedSimpArgs false
theorem wf_of {l : List Int} (h : l.all (fun x => (Lit.int .i64 x).wf) = true) {x : Int} (hx : x ∈ l) : (Lit.int .i64 x).wf = true := List.all_eq_true.1 h x hx
theorem wf_less {x m : Int} (h0 : 0 ≤ x) (h1 : x < m) (hm : m ≤ 1048576) : (Lit.int .i64 (x - 1)).wf = true := by
 simp [Lit.wf]
 have e1 : IntKind.i64.min = -9223372036854775808 := by decide
 have e2 : IntKind.i64.max = 9223372036854775807 := by decide
 omega
def CPost (w0 : World) (A : Option Addr) (n c : Nat) (w : World) (g : Nat) (e : Ending) (w' : World) : Prop :=
 ∃ a b o, e = .returned (.agg #[.int .i64 a, .int .i64 b, .bool o]) ∧ wfC (a, b, o) ∧ Cur w0 A n c w' g ∧ w.grownBy w' (some g)
theorem cur3 {w0 w1 : World} {A : Option Addr} {n c g b : Nat} (h : Cur w0 A n c w1 g) (hg : g < b) (h0 : w0.heap.size ≤ b) (u v x : Value) : Cur w0 A n c (((w1.setCell ⟨b, 0, none⟩ u).setCell ⟨b, 1, none⟩ v).setCell ⟨b, 2, none⟩ x) g :=
 var_cur (var_cur (var_cur h hg h0 _ _) hg h0 _ _) hg h0 _ _
theorem far3 {w W : World} {g b : Nat} (hG : w.grownBy W (some g)) (hb : w.heap.size ≤ b) (u v x : Value) : w.grownBy (((W.setCell ⟨b, 0, none⟩ u).setCell ⟨b, 1, none⟩ v).setCell ⟨b, 2, none⟩ x) (some g) :=
 grown_far (grown_far (grown_far hG hb _ _) hb _ _) hb _ _
theorem cctl_any (w0 : World) (A : Option Addr) (n c g : Nat) (w : World) (hn : n ≤ 1048576) (hcode : CodeAt w0 A n) (hcur : Cur w0 A n c w g) :
  Calls Tryz.prog 101 #[.pointer (some ⟨g, 0, none⟩)] w (CPost w0 A n c w g) := by
 have HC := Lib.hid hcode
 have hlt := hcur.lt
 have hs0 := hcur.1.size
 have t0 := Var.new w [.int .i64 0, .int .i64 0, .bool false] 35
 change Var (w.alloc (.cells #[.int .i64 0, .int .i64 0, .bool false] 35)) w.heap.size [.int .i64 0, .int .i64 0, .bool false] at t0
 have HU := Lib.hid (hcur.alloc (.cells #[.int .i64 0, .int .i64 0, .bool false] 35))
 have hG0 := grown_new w (.cells #[.int .i64 0, .int .i64 0, .bool false] 35) (some g)
 have hz0 : w.heap.size < (w.alloc (.cells #[.int .i64 0, .int .i64 0, .bool false] 35)).heap.size := by simp
 clear hcode hcur
 go_enter Tryz.func101, Tryz.ntmps101
 go_wp2_with fail
 generalize w.alloc (.cells #[.int .i64 0, .int .i64 0, .bool false] 35) = W0 at t0 HU hG0 hz0 ⊢
 refine (below_any w0 A n c g _ 4 (by omega) (by omega) hn HC.out HU.out).mono ?_
 rintro e W1 ⟨x, rfl, hx0, hx1, hc1, hg1⟩
 have HX := Lib.hid (wf_small hx0 hx1 (by omega))
 have HU1 := Lib.hid hc1
 have hG1 := gtr hG0 hg1
 have t1 := t0.grown hg1 (by omega)
 have hs1 := hg1.size
 clear hc1 hg1 HU t0 hG0
 go_wp2_with fail
 refine (once_any w0 A n c g _ 4 (by omega) (by omega) hn HC.out HU1.out).mono ?_
 rintro e W2 ⟨q, rfl, hc2, hg2⟩
 have hG2 := gtr hG1 hg2
 have t2 := t1.grown hg2 (by omega)
 have hs2 := hg2.size
 have hgW2 := hc2.lt
 have n3 := Var.new W2 [.int .i64 x, .int .i64 0, .bool (!q)] 35
 change Var (W2.alloc (.cells #[.int .i64 x, .int .i64 0, .bool (!q)] 35)) W2.heap.size [.int .i64 x, .int .i64 0, .bool (!q)] at n3
 have HU3 := Lib.hid (hc2.alloc (.cells #[.int .i64 x, .int .i64 0, .bool (!q)] 35))
 have hG3 := gtr hG2 (grown_new W2 (.cells #[.int .i64 x, .int .i64 0, .bool (!q)] 35) _)
 have t3 := Var.below t2 ((Below.refl _ _).alloc (Nat.le_refl _) (.cells #[.int .i64 x, .int .i64 0, .bool (!q)] 35)) (by omega)
 have hz3 : W2.heap.size < (W2.alloc (.cells #[.int .i64 x, .int .i64 0, .bool (!q)] 35)).heap.size := by simp
 clear hc2 hg2 HU1 t1 hG1 hG2 t2
 have hne1 : W2.heap.size ≠ w.heap.size := by omega
 have hne2 : w.heap.size ≠ W2.heap.size := by omega
 cases q
 ·
  by_cases h2 : x = 2
  ·
   subst h2
   simp only [Bool.not_true, Bool.not_false] at n3 HU3 hG3 t3 hz3
   have r := n3
   clear r
   have r0 := t3.cell 0 (v := .int .i64 0) rfl
   have rf0 := t3.loose 0 (v := .int .i64 0) rfl
   have r1 := t3.cell 1 (v := .int .i64 0) rfl
   have rf1 := t3.loose 1 (v := .int .i64 0) rfl
   have r2 := t3.cell 2 (v := .bool false) rfl
   have rf2 := t3.loose 2 (v := .bool false) rfl
   have v0 := n3.cell 0 (v := .int .i64 2) rfl
   have vf0 := n3.loose 0 (v := .int .i64 2) rfl
   have v1 := n3.cell 1 (v := .int .i64 0) rfl
   have vf1 := n3.loose 1 (v := .int .i64 0) rfl
   have v2 := n3.cell 2 (v := .bool true) rfl
   have vf2 := n3.loose 2 (v := .bool true) rfl
   clear t3 n3
   go_wp2_with fail
   exact bodyPost_ret (v := .agg #[.int .i64 2, .int .i64 0, .bool true]) (by simp [results, Tryz.results101, go_sem, r0, r1, r2, v0, v1, v2, hne1, hne2]) rfl
    ⟨2, 0, true, rfl, ⟨HX.out, (by decide : (Lit.int .i64 0).wf = true), trivial⟩, cur3 HU3.out hlt hs0 _ _ _, far3 hG3 (Nat.le_refl _) _ _ _⟩
  ·
   have h2' : (x == 2) = false := by simpa using h2
   have h2'' : (x != 2) = true := by simpa using h2
   simp only [Bool.not_true, Bool.not_false] at n3 HU3 hG3 t3 hz3
   go_wp2_with fail
   generalize W2.alloc (.cells #[.int .i64 x, .int .i64 0, .bool true] 35) = W3 at n3 HU3 hG3 t3 hz3 ⊢
   refine (once_any w0 A n c g _ 2 (by omega) (by omega) hn HC.out HU3.out).mono ?_
   rintro e W4 ⟨p, rfl, hc4, hg4⟩
   have t4 := t3.grown hg4 (by omega)
   have n4 := n3.grown hg4 (by omega)
   have HU4 := Lib.hid hc4
   have hG4 := gtr hG3 hg4
   clear hc4 hg4 t3 n3 hG3 HU3
   cases p
   ·
    have r0 := t4.cell 0 (v := .int .i64 0) rfl
    have rf0 := t4.loose 0 (v := .int .i64 0) rfl
    have r1 := t4.cell 1 (v := .int .i64 0) rfl
    have rf1 := t4.loose 1 (v := .int .i64 0) rfl
    have r2 := t4.cell 2 (v := .bool false) rfl
    have rf2 := t4.loose 2 (v := .bool false) rfl
    have v0 := n4.cell 0 (v := .int .i64 x) rfl
    have vf0 := n4.loose 0 (v := .int .i64 x) rfl
    have v1 := n4.cell 1 (v := .int .i64 0) rfl
    have vf1 := n4.loose 1 (v := .int .i64 0) rfl
    have v2 := n4.cell 2 (v := .bool true) rfl
    have vf2 := n4.loose 2 (v := .bool true) rfl
    clear t4 n4
    go_wp2_with fail
    exact bodyPost_ret (v := .agg #[.int .i64 x, .int .i64 0, .bool true]) (by simp [results, Tryz.results101, go_sem, r0, r1, r2, v0, v1, v2, hne1, hne2]) rfl
     ⟨x, 0, true, rfl, ⟨HX.out, (by decide : (Lit.int .i64 0).wf = true), trivial⟩, cur3 HU4.out hlt hs0 _ _ _, far3 hG4 (Nat.le_refl _) _ _ _⟩
   ·
    go_wp2_with fail
    refine (below_any w0 A n c g _ 256 (by omega) (by omega) hn HC.out HU4.out).mono ?_
    rintro e W5 ⟨y, rfl, hy0, hy1, hc5, hg5⟩
    have HY := Lib.hid (wf_small hy0 hy1 (by omega))
    have t5 := t4.grown hg5 (by omega)
    have n5 := n4.grown hg5 (by omega)
    have HU5 := Lib.hid hc5
    have hG5 := gtr hG4 hg5
    clear hc5 hg5 t4 n4 hG4 HU4
    have r0 := t5.cell 0 (v := .int .i64 0) rfl
    have rf0 := t5.loose 0 (v := .int .i64 0) rfl
    have r1 := t5.cell 1 (v := .int .i64 0) rfl
    have rf1 := t5.loose 1 (v := .int .i64 0) rfl
    have r2 := t5.cell 2 (v := .bool false) rfl
    have rf2 := t5.loose 2 (v := .bool false) rfl
    have v0 := n5.cell 0 (v := .int .i64 x) rfl
    have vf0 := n5.loose 0 (v := .int .i64 x) rfl
    have v1 := n5.cell 1 (v := .int .i64 0) rfl
    have vf1 := n5.loose 1 (v := .int .i64 0) rfl
    have v2 := n5.cell 2 (v := .bool true) rfl
    have vf2 := n5.loose 2 (v := .bool true) rfl
    clear t5 n5
    go_wp2_with fail
    exact bodyPost_ret (v := .agg #[.int .i64 x, .int .i64 y, .bool true]) (by simp [results, Tryz.results101, go_sem, r0, r1, r2, v0, v1, v2, hne1, hne2]) rfl
     ⟨x, y, true, rfl, ⟨HX.out, HY.out, trivial⟩, cur3 (var_cur HU5.out hgW2 (by omega) _ _) hlt hs0 _ _ _, far3 (grown_far hG5 (by omega) _ _) (Nat.le_refl _) _ _ _⟩
 ·
  simp only [Bool.not_true, Bool.not_false] at n3 HU3 hG3 t3 hz3
  have r := n3
  clear r
  have r0 := t3.cell 0 (v := .int .i64 0) rfl
  have rf0 := t3.loose 0 (v := .int .i64 0) rfl
  have r1 := t3.cell 1 (v := .int .i64 0) rfl
  have rf1 := t3.loose 1 (v := .int .i64 0) rfl
  have r2 := t3.cell 2 (v := .bool false) rfl
  have rf2 := t3.loose 2 (v := .bool false) rfl
  have v0 := n3.cell 0 (v := .int .i64 x) rfl
  have vf0 := n3.loose 0 (v := .int .i64 x) rfl
  have v1 := n3.cell 1 (v := .int .i64 0) rfl
  have vf1 := n3.loose 1 (v := .int .i64 0) rfl
  have v2 := n3.cell 2 (v := .bool false) rfl
  have vf2 := n3.loose 2 (v := .bool false) rfl
  clear t3 n3
  go_wp2_with fail
  exact bodyPost_ret (v := .agg #[.int .i64 x, .int .i64 0, .bool false]) (by simp [results, Tryz.results101, go_sem, r0, r1, r2, v0, v1, v2, hne1, hne2]) rfl
   ⟨x, 0, false, rfl, ⟨HX.out, (by decide : (Lit.int .i64 0).wf = true), trivial⟩, cur3 HU3.out hlt hs0 _ _ _, far3 hG3 (Nat.le_refl _) _ _ _⟩
theorem cany_any (w0 : World) (A : Option Addr) (n c g : Nat) (w : World) (hn : n ≤ 1048576) (hcode : CodeAt w0 A n) (hcur : Cur w0 A n c w g) :
  Calls Tryz.prog 73 #[.pointer (some ⟨g, 0, none⟩)] w (CPost w0 A n c w g) := by
 have HC := Lib.hid hcode
 have hlt := hcur.lt
 have hs0 := hcur.1.size
 have t0 := Var.new w [.int .i64 0, .int .i64 0, .bool false] 35
 change Var (w.alloc (.cells #[.int .i64 0, .int .i64 0, .bool false] 35)) w.heap.size [.int .i64 0, .int .i64 0, .bool false] at t0
 have HU := Lib.hid (hcur.alloc (.cells #[.int .i64 0, .int .i64 0, .bool false] 35))
 have hG0 := grown_new w (.cells #[.int .i64 0, .int .i64 0, .bool false] 35) (some g)
 have hz0 : w.heap.size < (w.alloc (.cells #[.int .i64 0, .int .i64 0, .bool false] 35)).heap.size := by simp
 clear hcode hcur
 go_enter Tryz.func73, Tryz.ntmps73
 go_wp2_with fail
 generalize w.alloc (.cells #[.int .i64 0, .int .i64 0, .bool false] 35) = W0 at t0 HU hG0 hz0 ⊢
 refine (cctl_any w0 A n c g _ hn HC.out HU.out).mono ?_
 rintro e W2 ⟨x, y, q, rfl, hw, hc2, hg2⟩
 have HW := Lib.hid hw
 have hG2 := gtr hG0 hg2
 have t2 := t0.grown hg2 (by omega)
 have hs2 := hg2.size
 have hgW2 := hc2.lt
 have n3 := Var.new W2 [.int .i64 x, .int .i64 y, .bool q] 35
 change Var (W2.alloc (.cells #[.int .i64 x, .int .i64 y, .bool q] 35)) W2.heap.size [.int .i64 x, .int .i64 y, .bool q] at n3
 have HU3 := Lib.hid (hc2.alloc (.cells #[.int .i64 x, .int .i64 y, .bool q] 35))
 have hG3 := gtr hG2 (grown_new W2 (.cells #[.int .i64 x, .int .i64 y, .bool q] 35) _)
 have t3 := Var.below t2 ((Below.refl _ _).alloc (Nat.le_refl _) (.cells #[.int .i64 x, .int .i64 y, .bool q] 35)) (by omega)
 have hz3 : W2.heap.size < (W2.alloc (.cells #[.int .i64 x, .int .i64 y, .bool q] 35)).heap.size := by simp
 clear hw hc2 hg2 HU t0 hG0 hG2 t2
 have hne1 : W2.heap.size ≠ w.heap.size := by omega
 have hne2 : w.heap.size ≠ W2.heap.size := by omega
 go_wp2_with fail
 generalize W2.alloc (.cells #[.int .i64 x, .int .i64 y, .bool q] 35) = W3 at n3 HU3 hG3 t3 hz3 ⊢
 refine (below_any w0 A n c g _ 8 (by omega) (by omega) hn HC.out HU3.out).mono ?_
 rintro e W4 ⟨k, rfl, _, _, hc4, hg4⟩
 have t4 := t3.grown hg4 (by omega)
 have n4 := n3.grown hg4 (by omega)
 have HU4 := Lib.hid hc4
 have hG4 := gtr hG3 hg4
 have hs4 := hg4.size
 clear hc4 hg4 t3 n3 hG3 HU3
 by_cases h0 : k = 0
 ·
  subst h0
  go_wp2_with fail
  refine (pick_any w0 A n c g _ W4.heap.size 4 [-1, 2, 3, 4] (by decide) (by decide) hn HC.out (HU4.out.alloc _) (by omega) rfl (heap_alloc_new W4 _)).mono ?_
  rintro e W5 ⟨z, rfl, hz, hc5, hg5⟩
  have HZ := Lib.hid (wf_of (by decide) hz)
  have t5 := (Var.below t4 ((Below.refl _ _).alloc (Nat.le_refl _) _) (by omega)).grown hg5 (by omega)
  have n5 := (Var.below n4 ((Below.refl _ _).alloc (Nat.le_refl _) _) (by omega)).grown hg5 (by omega)
  have hG5 := gtr (gtr hG4 (grown_new W4 _ _)) hg5
  have HU5 := Lib.hid hc5
  clear hz hc5 hg5 t4 n4 hG4 HU4
  have r0 := t5.cell 0 (v := .int .i64 0) rfl
  have rf0 := t5.loose 0 (v := .int .i64 0) rfl
  have r1 := t5.cell 1 (v := .int .i64 0) rfl
  have rf1 := t5.loose 1 (v := .int .i64 0) rfl
  have r2 := t5.cell 2 (v := .bool false) rfl
  have rf2 := t5.loose 2 (v := .bool false) rfl
  have v0 := n5.cell 0 (v := .int .i64 x) rfl
  have vf0 := n5.loose 0 (v := .int .i64 x) rfl
  have v1 := n5.cell 1 (v := .int .i64 y) rfl
  have vf1 := n5.loose 1 (v := .int .i64 y) rfl
  have v2 := n5.cell 2 (v := .bool q) rfl
  have vf2 := n5.loose 2 (v := .bool q) rfl
  clear t5 n5
  go_wp2_with fail
  exact bodyPost_ret (v := .agg #[.int .i64 z, .int .i64 y, .bool q]) (by simp [results, Tryz.results73, go_sem, r0, r1, r2, v0, v1, v2, hne1, hne2]) rfl
   ⟨z, y, q, rfl, ⟨HZ.out, HW.out.2⟩, cur3 (var_cur HU5.out hgW2 (by omega) _ _) hlt hs0 _ _ _, far3 (grown_far hG5 (by omega) _ _) (Nat.le_refl _) _ _ _⟩
 ·
  have h0' : (k == 0) = false := by simpa using h0
  by_cases h1 : k = 1
  ·
   subst h1
   go_wp2_with fail
   refine (pick_any w0 A n c g _ W4.heap.size 4 [-1, 255, 256, 9223372036854775807] (by decide) (by decide) hn HC.out (HU4.out.alloc _) (by omega) rfl (heap_alloc_new W4 _)).mono ?_
   rintro e W5 ⟨z, rfl, hz, hc5, hg5⟩
   have HZ := Lib.hid (wf_of (by decide) hz)
   have t5 := (Var.below t4 ((Below.refl _ _).alloc (Nat.le_refl _) _) (by omega)).grown hg5 (by omega)
   have n5 := (Var.below n4 ((Below.refl _ _).alloc (Nat.le_refl _) _) (by omega)).grown hg5 (by omega)
   have hG5 := gtr (gtr hG4 (grown_new W4 _ _)) hg5
   have HU5 := Lib.hid hc5
   clear hz hc5 hg5 t4 n4 hG4 HU4
   have r0 := t5.cell 0 (v := .int .i64 0) rfl
   have rf0 := t5.loose 0 (v := .int .i64 0) rfl
   have r1 := t5.cell 1 (v := .int .i64 0) rfl
   have rf1 := t5.loose 1 (v := .int .i64 0) rfl
   have r2 := t5.cell 2 (v := .bool false) rfl
   have rf2 := t5.loose 2 (v := .bool false) rfl
   have v0 := n5.cell 0 (v := .int .i64 x) rfl
   have vf0 := n5.loose 0 (v := .int .i64 x) rfl
   have v1 := n5.cell 1 (v := .int .i64 y) rfl
   have vf1 := n5.loose 1 (v := .int .i64 y) rfl
   have v2 := n5.cell 2 (v := .bool q) rfl
   have vf2 := n5.loose 2 (v := .bool q) rfl
   clear t5 n5
   go_wp2_with fail
   exact bodyPost_ret (v := .agg #[.int .i64 x, .int .i64 z, .bool q]) (by simp [results, Tryz.results73, go_sem, r0, r1, r2, v0, v1, v2, hne1, hne2]) rfl
    ⟨x, z, q, rfl, ⟨HW.out.1, HZ.out, trivial⟩, cur3 (var_cur HU5.out hgW2 (by omega) _ _) hlt hs0 _ _ _, far3 (grown_far hG5 (by omega) _ _) (Nat.le_refl _) _ _ _⟩
  ·
   have h1' : (k == 1) = false := by simpa using h1
   by_cases h2 : k = 2
   ·
    subst h2
    have r0 := t4.cell 0 (v := .int .i64 0) rfl
    have rf0 := t4.loose 0 (v := .int .i64 0) rfl
    have r1 := t4.cell 1 (v := .int .i64 0) rfl
    have rf1 := t4.loose 1 (v := .int .i64 0) rfl
    have r2 := t4.cell 2 (v := .bool false) rfl
    have rf2 := t4.loose 2 (v := .bool false) rfl
    have v0 := n4.cell 0 (v := .int .i64 x) rfl
    have vf0 := n4.loose 0 (v := .int .i64 x) rfl
    have v1 := n4.cell 1 (v := .int .i64 y) rfl
    have vf1 := n4.loose 1 (v := .int .i64 y) rfl
    have v2 := n4.cell 2 (v := .bool q) rfl
    have vf2 := n4.loose 2 (v := .bool q) rfl
    clear t4 n4
    go_wp2_with fail
    exact bodyPost_ret (v := .agg #[.int .i64 x, .int .i64 y, .bool (!q)]) (by simp [results, Tryz.results73, go_sem, r0, r1, r2, v0, v1, v2, hne1, hne2]) rfl
     ⟨x, y, !q, rfl, HW.out, cur3 (var_cur HU4.out hgW2 (by omega) _ _) hlt hs0 _ _ _, far3 (grown_far hG4 (by omega) _ _) (Nat.le_refl _) _ _ _⟩
   ·
    have h2' : (k == 2) = false := by simpa using h2
    have r0 := t4.cell 0 (v := .int .i64 0) rfl
    have rf0 := t4.loose 0 (v := .int .i64 0) rfl
    have r1 := t4.cell 1 (v := .int .i64 0) rfl
    have rf1 := t4.loose 1 (v := .int .i64 0) rfl
    have r2 := t4.cell 2 (v := .bool false) rfl
    have rf2 := t4.loose 2 (v := .bool false) rfl
    have v0 := n4.cell 0 (v := .int .i64 x) rfl
    have vf0 := n4.loose 0 (v := .int .i64 x) rfl
    have v1 := n4.cell 1 (v := .int .i64 y) rfl
    have vf1 := n4.loose 1 (v := .int .i64 y) rfl
    have v2 := n4.cell 2 (v := .bool q) rfl
    have vf2 := n4.loose 2 (v := .bool q) rfl
    clear t4 n4
    go_wp2_with fail
    exact bodyPost_ret (v := .agg #[.int .i64 x, .int .i64 y, .bool q]) (by simp [results, Tryz.results73, go_sem, r0, r1, r2, v0, v1, v2, hne1, hne2]) rfl
     ⟨x, y, q, rfl, HW.out, cur3 HU4.out hlt hs0 _ _ _, far3 hG4 (Nat.le_refl _) _ _ _⟩
end Go.Proofs.YtldgadmpclgfhaaGreat.Ctls
