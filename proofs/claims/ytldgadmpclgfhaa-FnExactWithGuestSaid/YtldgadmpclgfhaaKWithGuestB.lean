/-
  At every argument the law FnExactWithGuest returns true: the project's WithGuest answers as the given model's WithGuest, changes no argument, and what it returns is its own. No condition.
-/
import Derived.Test.YtldgadmpclgfhaaKWithGuestB4
namespace Go.Proofs.Ytldgadmpclgfhaa.fnExactWithGuest
set_option maxRecDepth 100000
open Go.ChangeShapes Go.WideShapes Go.ChangeAt Go.RowKit
open Go.Proofs.Ytldgadmpclgfhaa.Base Go.Proofs.Ytldgadmpclgfhaa.Mem Go.Proofs.Ytldgadmpclgfhaa.Data Go.Proofs.Ytldgadmpclgfhaa.Stt Go.Proofs.Ytldgadmpclgfhaa.Kit Go.Proofs.Ytldgadmpclgfhaa.Guests Go.Proofs.Ytldgadmpclgfhaa.Ctls Go.Proofs.Ytldgadmpclgfhaa.Exits
set_option linter.unusedVariables false
set_option linter.unusedSimpArgs false
set_option maxRecDepth 100000 in
set_option maxHeartbeats 8000000 in
theorem walk (w : World) (x0 : bT) (cs0 : List Value) (x1 : Int) (x2 : gT) (cs2 : List Value) (hw0 : wB.wf x0) (h0 : wB.rd w 0 w.heap.size x0 cs0) (hw1 : (Lit.int .i64 x1).wf = true) (hw2 : wG.wf x2) (h2 : wG.rd w 0 w.heap.size x2 cs2) :
    Calls Try.prog 6 #[.agg cs0.toArray, .int .i64 x1, .agg cs2.toArray] w fun e w' => e = .returned (.bool true) ∧ Below w.heap.size w w' := by
  have h0R := h0
  obtain ⟨h0P0, h0P1, h0P2, rfl, h0f0, h0f1, h0f2⟩ := wB_rd h0
  obtain ⟨h0A0, h0K0, h0e0, -⟩ := lst_val h0f0
  subst h0e0
  obtain ⟨h0A1, h0K1, h0e1, -⟩ := lst_val h0f1
  subst h0e1
  obtain ⟨h0A2, h0K2, h0e2, -⟩ := lst_val h0f2
  subst h0e2
  have h2R := h2
  obtain ⟨h2P0, h2P1, h2P2, h2P3, rfl, h2f0, h2f1, h2f2, h2f3⟩ := wG_rd h2
  obtain ⟨h2A0, h2K0, h2e0, -⟩ := lst_val h2f0
  subst h2e0
  obtain ⟨h2A1, h2K1, h2e1, -⟩ := lst_val h2f1
  subst h2e1
  obtain ⟨h2A2, h2K2, h2e2, -⟩ := lst_val h2f2
  subst h2e2
  obtain ⟨h2A3, h2K3, h2e3, -⟩ := lst_val h2f3
  subst h2e3
  refine Sx.enter (args := [.agg #[.slice h0A0 x0.mem.length h0K0, .slice h0A1 x0.gs.length h0K1, .slice h0A2 x0.outs.length h0K2, .int .i64 x0.pd], .int .i64 x1, .agg #[.slice h2A0 x2.prog.length h2K0, .int .i64 x2.a, .int .i64 x2.pc, .slice h2A1 x2.wr.length h2K1, .slice h2A2 x2.lv.length h2K2, .int .i64 x2.t.1, .int .i64 x2.t.2.1, .bool x2.t.2.2, .int .i64 x2.pd, .int .i64 x2.x.1, .int .i64 x2.x.2.1, .bool x2.x.2.2.1, .int .i64 x2.x.2.2.2, .bool x2.hl, .slice h2A3 x2.seen.length h2K3]]) Try.func6 rfl Try.ntmps6 rfl ?_
  refine Sx.C.seq ?_
  refine Sx.C.region ?_
  refine Sx.G.box 39 (.tmp 0) [.slice h0A0 x0.mem.length h0K0, .slice h0A1 x0.gs.length h0K1, .slice h0A2 x0.outs.length h0K2, .int .i64 x0.pd] rfl (by kernel_rfl) (by kernel_rfl) (fun b1 => ?_)
  refine Sx.G.box 62 (.tmp 2) [.slice h2A0 x2.prog.length h2K0, .int .i64 x2.a, .int .i64 x2.pc, .slice h2A1 x2.wr.length h2K1, .slice h2A2 x2.lv.length h2K2, .int .i64 x2.t.1, .int .i64 x2.t.2.1, .bool x2.t.2.2, .int .i64 x2.pd, .int .i64 x2.x.1, .int .i64 x2.x.2.1, .bool x2.x.2.2.1, .int .i64 x2.x.2.2.2, .bool x2.hl, .slice h2A3 x2.seen.length h2K3] rfl (by kernel_rfl) (by kernel_rfl) (fun b2 => ?_)
  refine Sx.G.pure (.bool false) (by kernel_rfl) (fun w => by kernel_rfl) ?_
  refine Sx.G.nil ?_
  refine Sx.E.next ?_
  refine Sx.C.seq ?_
  refine Sx.C.region ?_
  refine Sx.G.pure (.int .i64 1048576) (by kernel_rfl) (fun w => by kernel_rfl) ?_
  refine Sx.G.nil ?_
  refine Sx.E.next ?_
  refine Sx.C.seq ?_
  refine Sx.C.region ?_
  refine Sx.G.ld 39 (.tmp 3) b1 0 1 [.slice h0A0 x0.mem.length h0K0, .slice h0A1 x0.gs.length h0K1, .slice h0A2 x0.outs.length h0K2, .int .i64 x0.pd] [.slice h0A0 x0.mem.length h0K0, .slice h0A1 x0.gs.length h0K1, .slice h0A2 x0.outs.length h0K2, .int .i64 x0.pd] rfl (by kernel_rfl) (by kernel_rfl) rfl (by kernel_rfl) (by kernel_rfl) (by kernel_rfl) ?_
  refine Sx.G.pure (.int .i64 1048576) (by kernel_rfl) (fun w => by kernel_rfl) ?_
  refine Sx.G.call 18 #[.agg #[.slice h0A0 x0.mem.length h0K0, .slice h0A1 x0.gs.length h0K1, .slice h0A2 x0.outs.length h0K2, .int .i64 x0.pd], .int .i64 1048576] (by kernel_rfl) (fun w => by kernel_rfl) (fun w3 S => (Kit.ksz_Bare x0 _ 1048576 _ hw0 (by omega) (by omega) (St.old S h0R)).mono fun e w3' hp => ?_)
  obtain ⟨l3, rfl, hs0, hb⟩ := hp
  unfold Kit.Sz at hs0
  refine ⟨_, _, rfl, (S.call hb), ?_⟩
  clear S hb
  refine Sx.G.pure (.int .i64 l3) (by kernel_rfl) (fun w => by kernel_rfl) ?_
  refine Sx.G.nil ?_
  refine Sx.E.next ?_
  refine Sx.C.seq ?_
  refine Sx.C.seq ?_
  refine Sx.C.region ?_
  refine Sx.G.pure (.int .i64 l3) (by kernel_rfl) (fun w => by kernel_rfl) ?_
  refine Sx.G.pure (.bool (decide (l3 < 0))) (by kernel_rfl) (fun w => by kernel_rfl) ?_
  refine Sx.G.nil ?_
  refine Sx.E.next ?_
  cases hc4 : (decide (l3 < 0))
  · have hb4 := hc4
    replace hc4 := of_decide_eq_false hc4
    refine Sx.C.no (by kernel_rfl) (by kernel_rfl) ?_
    refine Sx.C.skip ?_
    refine Sx.E.next ?_
    refine Sx.C.seq ?_
    refine Sx.C.region ?_
    refine Sx.G.ld 62 (.tmp 5) b2 0 0 [.slice h2A0 x2.prog.length h2K0, .int .i64 x2.a, .int .i64 x2.pc, .slice h2A1 x2.wr.length h2K1, .slice h2A2 x2.lv.length h2K2, .int .i64 x2.t.1, .int .i64 x2.t.2.1, .bool x2.t.2.2, .int .i64 x2.pd, .int .i64 x2.x.1, .int .i64 x2.x.2.1, .bool x2.x.2.2.1, .int .i64 x2.x.2.2.2, .bool x2.hl, .slice h2A3 x2.seen.length h2K3] [.slice h2A0 x2.prog.length h2K0, .int .i64 x2.a, .int .i64 x2.pc, .slice h2A1 x2.wr.length h2K1, .slice h2A2 x2.lv.length h2K2, .int .i64 x2.t.1, .int .i64 x2.t.2.1, .bool x2.t.2.2, .int .i64 x2.pd, .int .i64 x2.x.1, .int .i64 x2.x.2.1, .bool x2.x.2.2.1, .int .i64 x2.x.2.2.2, .bool x2.hl, .slice h2A3 x2.seen.length h2K3] rfl (by kernel_rfl) (by kernel_rfl) rfl (by kernel_rfl) (by kernel_rfl) (by kernel_rfl) ?_
    refine Sx.G.pure (.int .i64 l3) (by kernel_rfl) (fun w => by kernel_rfl) ?_
    refine Sx.G.call 27 #[.agg #[.slice h2A0 x2.prog.length h2K0, .int .i64 x2.a, .int .i64 x2.pc, .slice h2A1 x2.wr.length h2K1, .slice h2A2 x2.lv.length h2K2, .int .i64 x2.t.1, .int .i64 x2.t.2.1, .bool x2.t.2.2, .int .i64 x2.pd, .int .i64 x2.x.1, .int .i64 x2.x.2.1, .bool x2.x.2.2.1, .int .i64 x2.x.2.2.2, .bool x2.hl, .slice h2A3 x2.seen.length h2K3], .int .i64 l3] (by kernel_rfl) (fun w => by kernel_rfl) (fun w5 S => (Kit.ksz_Guest x2 _ l3 _ hw2 (by omega) (by omega) (St.old S h2R)).mono fun e w5' hp => ?_)
    obtain ⟨l5, rfl, hs2, hb⟩ := hp
    unfold Kit.Sz at hs2
    refine ⟨_, _, rfl, (S.call hb), ?_⟩
    clear S hb
    refine Sx.G.pure (.int .i64 l5) (by kernel_rfl) (fun w => by kernel_rfl) ?_
    refine Sx.G.nil ?_
    refine Sx.E.next ?_
    refine Sx.C.seq ?_
    refine Sx.C.seq ?_
    refine Sx.C.region ?_
    refine Sx.G.pure (.int .i64 l5) (by kernel_rfl) (fun w => by kernel_rfl) ?_
    refine Sx.G.pure (.bool (decide (l5 < 0))) (by kernel_rfl) (fun w => by kernel_rfl) ?_
    refine Sx.G.nil ?_
    refine Sx.E.next ?_
    cases hc6 : (decide (l5 < 0))
    · have hb6 := hc6
      replace hc6 := of_decide_eq_false hc6
      have hc0 := Kit.capz_Bare x0 (by omega)
      have hz0 := Kit.tcntz_Bare x0
      have hc2 := Kit.capz_Guest x2 (by omega)
      have hz2 := Kit.tcntz_Guest x2
      have hcapr0 : wB.cap (withG x0 x1 x2) := cap_withG x1 hc0 hc2
      have hres0 : wB.size (withG x0 x1 x2) ≤ 4000000 := by have h1 := size_withG x0 x1 x2; omega
      obtain ⟨y0, hy0⟩ : ∃ y, y = withG x0 x1 x2 := ⟨_, rfl⟩
      rw [← hy0] at hres0 hcapr0
      have hd0 := hcapr0
      have hzr0 := Kit.tcntz_Bare y0
      refine Sx.C.no (by kernel_rfl) (by kernel_rfl) ?_
      refine Sx.C.skip ?_
      refine Sx.E.next ?_
      refine Sx.C.seq ?_
      refine Sx.C.cut (fun e a w' => e = .normal ∧ ∃ (Y0 : Option Addr) (Y1 : Nat) (Y2 : Option Addr) (Y3 : Nat) (Y4 : Option Addr) (Y5 : Nat) (Y6 : List Nat) (Y7 : Nat) (Y8 : Nat) (Y9 : Option Addr) (Y10 : Nat) (Y11 : Option Addr) (Y12 : Nat) (Y13 : Option Addr) (Y14 : Nat) (Y15 : Option Addr) (Y16 : Nat) (Y17 : List Nat) (Y18 : Nat) (Y19 : Nat) (Y20 : Option Addr) (Y21 : Nat) (Y22 : Option Addr) (Y23 : Nat) (Y24 : Option Addr) (Y25 : Nat) (Y26 : List Nat) (Y27 : Nat) (Y28 : Nat) (Y29 : Nat), Sx.Ag 97 [(1, .int .i64 x1), (3, .pointer (some ⟨b1, 0, none⟩)), (5, .pointer (some ⟨b2, 0, none⟩)), (6, .bool false), (8, .pointer (some ⟨Y29, 0, none⟩))] a ∧ St w w' [vr Y29 [.slice Y20 y0.mem.length Y21, .slice Y22 y0.gs.length Y23, .slice Y24 y0.outs.length Y25, .int .i64 y0.pd], ow wB Y27 Y28 y0 [.slice Y20 y0.mem.length Y21, .slice Y22 y0.gs.length Y23, .slice Y24 y0.outs.length Y25, .int .i64 y0.pd] Y26, ow wG Y18 Y19 x2 [.slice Y9 x2.prog.length Y10, .int .i64 x2.a, .int .i64 x2.pc, .slice Y11 x2.wr.length Y12, .slice Y13 x2.lv.length Y14, .int .i64 x2.t.1, .int .i64 x2.t.2.1, .bool x2.t.2.2, .int .i64 x2.pd, .int .i64 x2.x.1, .int .i64 x2.x.2.1, .bool x2.x.2.2.1, .int .i64 x2.x.2.2.2, .bool x2.hl, .slice Y15 x2.seen.length Y16] Y17, ow wB Y7 Y8 x0 [.slice Y0 x0.mem.length Y1, .slice Y2 x0.gs.length Y3, .slice Y4 x0.outs.length Y5, .int .i64 x0.pd] Y6, vr b2 [.slice h2A0 x2.prog.length h2K0, .int .i64 x2.a, .int .i64 x2.pc, .slice h2A1 x2.wr.length h2K1, .slice h2A2 x2.lv.length h2K2, .int .i64 x2.t.1, .int .i64 x2.t.2.1, .bool x2.t.2.2, .int .i64 x2.pd, .int .i64 x2.x.1, .int .i64 x2.x.2.1, .bool x2.x.2.2.1, .int .i64 x2.x.2.2.2, .bool x2.hl, .slice h2A3 x2.seen.length h2K3], vr b1 [.slice h0A0 x0.mem.length h0K0, .slice h0A1 x0.gs.length h0K1, .slice h0A2 x0.outs.length h0K2, .int .i64 x0.pd]]) ?_ ?_
      · refine Sx.C.draw (.take 0 (.take 2 (.take 3 (.two 1 (.two 4 (.two 5 (.alone 6 (.alone 7 .nil)) 6 (.alone 5 (.alone 7 .nil))) 6 (.alone 4 (.alone 5 (.alone 7 .nil)))) 6 (.alone 1 (.alone 4 (.alone 5 (.alone 7 .nil)))))))) [vr b2 [.slice h2A0 x2.prog.length h2K0, .int .i64 x2.a, .int .i64 x2.pc, .slice h2A1 x2.wr.length h2K1, .slice h2A2 x2.lv.length h2K2, .int .i64 x2.t.1, .int .i64 x2.t.2.1, .bool x2.t.2.2, .int .i64 x2.pd, .int .i64 x2.x.1, .int .i64 x2.x.2.1, .bool x2.x.2.2.1, .int .i64 x2.x.2.2.2, .bool x2.hl, .slice h2A3 x2.seen.length h2K3], vr b1 [.slice h0A0 x0.mem.length h0K0, .slice h0A1 x0.gs.length h0K1, .slice h0A2 x0.outs.length h0K2, .int .i64 x0.pd]] (fun w S => St.pick S [0, 1] _ rfl (by decide)) (by kernel_rfl) (by kernel_rfl) (by kernel_rfl) ?_
        refine Sx.GT.ld 39 (.tmp 3) b1 0 1 [.slice h0A0 x0.mem.length h0K0, .slice h0A1 x0.gs.length h0K1, .slice h0A2 x0.outs.length h0K2, .int .i64 x0.pd] [.slice h0A0 x0.mem.length h0K0, .slice h0A1 x0.gs.length h0K1, .slice h0A2 x0.outs.length h0K2, .int .i64 x0.pd] 0 (by rfl) (by rfl) (by kernel_rfl) (by kernel_rfl) (by rfl) (by kernel_rfl) (by kernel_rfl) (by kernel_rfl) ?_
        refine Sx.GT.pure (.int .i64 x1) 2 (by rfl) (by kernel_rfl) (fun w => by kernel_rfl) ?_
        refine Sx.GT.ld 62 (.tmp 5) b2 0 0 [.slice h2A0 x2.prog.length h2K0, .int .i64 x2.a, .int .i64 x2.pc, .slice h2A1 x2.wr.length h2K1, .slice h2A2 x2.lv.length h2K2, .int .i64 x2.t.1, .int .i64 x2.t.2.1, .bool x2.t.2.2, .int .i64 x2.pd, .int .i64 x2.x.1, .int .i64 x2.x.2.1, .bool x2.x.2.2.1, .int .i64 x2.x.2.2.2, .bool x2.hl, .slice h2A3 x2.seen.length h2K3] [.slice h2A0 x2.prog.length h2K0, .int .i64 x2.a, .int .i64 x2.pc, .slice h2A1 x2.wr.length h2K1, .slice h2A2 x2.lv.length h2K2, .int .i64 x2.t.1, .int .i64 x2.t.2.1, .bool x2.t.2.2, .int .i64 x2.pd, .int .i64 x2.x.1, .int .i64 x2.x.2.1, .bool x2.x.2.2.1, .int .i64 x2.x.2.2.2, .bool x2.hl, .slice h2A3 x2.seen.length h2K3] 3 (by rfl) (by rfl) (by kernel_rfl) (by kernel_rfl) (by rfl) (by kernel_rfl) (by kernel_rfl) (by kernel_rfl) ?_
        refine Sx.GT.two ?_ ?_
        · refine Sx.Alone.call 20 #[.agg #[.slice h0A0 x0.mem.length h0K0, .slice h0A1 x0.gs.length h0K1, .slice h0A2 x0.outs.length h0K2, .int .i64 x0.pd]] (by rfl) (by kernel_rfl) (fun w => by kernel_rfl) (fun w7 S => (Kit.kto_Bare x0 _ _ hc0 (St.old S h0R)).mono fun e w7' hp => ?_)
          obtain ⟨cs, F, rfl, ho, hF, hb⟩ := hp
          obtain ⟨P7_0, P7_1, P7_2, rfl, f7_0, f7_1, f7_2⟩ := wB_rd (wB.reads ho)
          obtain ⟨A7_0, c7_0, e7_0, -⟩ := lst_val f7_0
          subst e7_0
          obtain ⟨A7_1, c7_1, e7_1, -⟩ := lst_val f7_1
          subst e7_1
          obtain ⟨A7_2, c7_2, e7_2, -⟩ := lst_val f7_2
          subst e7_2
          generalize F = F7 at ho hF
          refine ⟨_, _, rfl, (St.got S hb ho hF), (fun w S => St.pick S [1, 2] _ rfl (by decide)), ?_⟩
          clear S hb ho hF f7_0 f7_1 f7_2
          refine Sx.GT.two ?_ ?_
          · refine Sx.Alone.call 29 #[.agg #[.slice h2A0 x2.prog.length h2K0, .int .i64 x2.a, .int .i64 x2.pc, .slice h2A1 x2.wr.length h2K1, .slice h2A2 x2.lv.length h2K2, .int .i64 x2.t.1, .int .i64 x2.t.2.1, .bool x2.t.2.2, .int .i64 x2.pd, .int .i64 x2.x.1, .int .i64 x2.x.2.1, .bool x2.x.2.2.1, .int .i64 x2.x.2.2.2, .bool x2.hl, .slice h2A3 x2.seen.length h2K3]] (by rfl) (by kernel_rfl) (fun w => by kernel_rfl) (fun w8 S => (Kit.kto_Guest x2 _ _ hc2 (St.old S h2R)).mono fun e w8' hp => ?_)
            obtain ⟨cs, F, rfl, ho, hF, hb⟩ := hp
            obtain ⟨P8_0, P8_1, P8_2, P8_3, rfl, f8_0, f8_1, f8_2, f8_3⟩ := wG_rd (wG.reads ho)
            obtain ⟨A8_0, c8_0, e8_0, -⟩ := lst_val f8_0
            subst e8_0
            obtain ⟨A8_1, c8_1, e8_1, -⟩ := lst_val f8_1
            subst e8_1
            obtain ⟨A8_2, c8_2, e8_2, -⟩ := lst_val f8_2
            subst e8_2
            obtain ⟨A8_3, c8_3, e8_3, -⟩ := lst_val f8_3
            subst e8_3
            generalize F = F8 at ho hF
            refine ⟨_, _, rfl, (St.got S hb ho hF), (fun w S => St.pick S [2, 3] _ rfl (by decide)), ?_⟩
            clear S hb ho hF f8_0 f8_1 f8_2 f8_3
            refine Sx.GT.two ?_ ?_
            · refine Sx.Alone.call 28 #[.agg #[.slice A7_0 x0.mem.length c7_0, .slice A7_1 x0.gs.length c7_1, .slice A7_2 x0.outs.length c7_2, .int .i64 x0.pd], .int .i64 x1, .agg #[.slice A8_0 x2.prog.length c8_0, .int .i64 x2.a, .int .i64 x2.pc, .slice A8_1 x2.wr.length c8_1, .slice A8_2 x2.lv.length c8_2, .int .i64 x2.t.1, .int .i64 x2.t.2.1, .bool x2.t.2.2, .int .i64 x2.pd, .int .i64 x2.x.1, .int .i64 x2.x.2.1, .bool x2.x.2.2.1, .int .i64 x2.x.2.2.2, .bool x2.hl, .slice A8_3 x2.seen.length c8_3]] (by rfl) (by kernel_rfl) (fun w => by kernel_rfl) (fun w9 S => ((((specx_withg x0 _ x1 x2 _ _ hc0 hc2 (St.reads S 1 rfl) (St.reads S 0 rfl)).mono weak_B).mono fun e w' h => hy0 ▸ h)).mono fun e w9' hp => ?_)
              obtain ⟨cs, F, rfl, ho, hF, hb⟩ := hp
              obtain ⟨P9_0, P9_1, P9_2, rfl, f9_0, f9_1, f9_2⟩ := wB_rd (wB.reads ho)
              obtain ⟨A9_0, c9_0, e9_0, -⟩ := lst_val f9_0
              subst e9_0
              obtain ⟨A9_1, c9_1, e9_1, -⟩ := lst_val f9_1
              subst e9_1
              obtain ⟨A9_2, c9_2, e9_2, -⟩ := lst_val f9_2
              subst e9_2
              generalize F = F9 at ho hF
              refine ⟨_, _, rfl, (St.got S hb ho hF), (fun w S => St.pick S [3, 4] _ rfl (by decide)), ?_⟩
              clear S hb ho hF f9_0 f9_1 f9_2
              refine Sx.GT.alone (Sx.Alone.alloc 28 (.agg #[.slice none 0 0, .slice none 0 0, .slice none 0 0, .int .i64 0]) [.slice none 0 0, .slice none 0 0, .slice none 0 0, .int .i64 0] (by rfl) (by rfl) (by kernel_rfl) (fun w => by kernel_rfl) (by kernel_rfl) (fun w S => St.pick S [3, 4] _ rfl (by decide)) (fun b10 => ?_))
              refine Sx.GT.alone (Sx.Alone.sto 28 (.tmp 8) (.tmp 31) b10 0 0 [.slice none 0 0, .slice none 0 0, .slice none 0 0, .int .i64 0] [.slice A9_0 y0.mem.length c9_0, .slice A9_1 y0.gs.length c9_1, .slice A9_2 y0.outs.length c9_2, .int .i64 y0.pd] [.slice A9_0 y0.mem.length c9_0, .slice A9_1 y0.gs.length c9_1, .slice A9_2 y0.outs.length c9_2, .int .i64 y0.pd] [vr b10 [.slice A9_0 y0.mem.length c9_0, .slice A9_1 y0.gs.length c9_1, .slice A9_2 y0.outs.length c9_2, .int .i64 y0.pd], ow wB w9.heap.size w9'.heap.size y0 [.slice A9_0 y0.mem.length c9_0, .slice A9_1 y0.gs.length c9_1, .slice A9_2 y0.outs.length c9_2, .int .i64 y0.pd] F9, ow wG w8.heap.size w8'.heap.size x2 [.slice A8_0 x2.prog.length c8_0, .int .i64 x2.a, .int .i64 x2.pc, .slice A8_1 x2.wr.length c8_1, .slice A8_2 x2.lv.length c8_2, .int .i64 x2.t.1, .int .i64 x2.t.2.1, .bool x2.t.2.2, .int .i64 x2.pd, .int .i64 x2.x.1, .int .i64 x2.x.2.1, .bool x2.x.2.2.1, .int .i64 x2.x.2.2.2, .bool x2.hl, .slice A8_3 x2.seen.length c8_3] F8, ow wB w7.heap.size w7'.heap.size x0 [.slice A7_0 x0.mem.length c7_0, .slice A7_1 x0.gs.length c7_1, .slice A7_2 x0.outs.length c7_2, .int .i64 x0.pd] F7, vr b2 [.slice h2A0 x2.prog.length h2K0, .int .i64 x2.a, .int .i64 x2.pc, .slice h2A1 x2.wr.length h2K1, .slice h2A2 x2.lv.length h2K2, .int .i64 x2.t.1, .int .i64 x2.t.2.1, .bool x2.t.2.2, .int .i64 x2.pd, .int .i64 x2.x.1, .int .i64 x2.x.2.1, .bool x2.x.2.2.1, .int .i64 x2.x.2.2.2, .bool x2.hl, .slice h2A3 x2.seen.length h2K3], vr b1 [.slice h0A0 x0.mem.length h0K0, .slice h0A1 x0.gs.length h0K1, .slice h0A2 x0.outs.length h0K2, .int .i64 x0.pd]] (by rfl) (by rfl) (by kernel_rfl) (by kernel_rfl) (by kernel_rfl) (by rfl) (by kernel_rfl) (by rfl) (by kernel_rfl) (by kernel_rfl) (by kernel_rfl) (fun w S => St.pick S [4, 5] _ rfl (by decide)) ?_)
              exact Sx.GT.nil (fun a w' hA S => ⟨rfl, A7_0, c7_0, A7_1, c7_1, A7_2, c7_2, F7, w7.heap.size, w7'.heap.size, A8_0, c8_0, A8_1, c8_1, A8_2, c8_2, A8_3, c8_3, F8, w8.heap.size, w8'.heap.size, A9_0, c9_0, A9_1, c9_1, A9_2, c9_2, F9, w9.heap.size, w9'.heap.size, b10, (Sx.Ag.and hA (Sx.Ag.and hA (Sx.Ag.and hA (Sx.Ag.and hA (Sx.Ag.and hA (Sx.Ag.none hA) _ _ (by kernel_rfl)) _ _ (by kernel_rfl)) _ _ (by kernel_rfl)) _ _ (by kernel_rfl)) _ _ (by kernel_rfl)), St.pick S [0, 1, 2, 3, 4, 5] _ rfl (by decide)⟩)
            · refine Sx.Alone.alloc 28 (.agg #[.slice none 0 0, .slice none 0 0, .slice none 0 0, .int .i64 0]) [.slice none 0 0, .slice none 0 0, .slice none 0 0, .int .i64 0] (by rfl) (by rfl) (by kernel_rfl) (fun w => by kernel_rfl) (by kernel_rfl) (fun w S => St.pick S [2, 3] _ rfl (by decide)) (fun b11 => ?_)
              refine Sx.GT.alone (Sx.Alone.call 28 #[.agg #[.slice A7_0 x0.mem.length c7_0, .slice A7_1 x0.gs.length c7_1, .slice A7_2 x0.outs.length c7_2, .int .i64 x0.pd], .int .i64 x1, .agg #[.slice A8_0 x2.prog.length c8_0, .int .i64 x2.a, .int .i64 x2.pc, .slice A8_1 x2.wr.length c8_1, .slice A8_2 x2.lv.length c8_2, .int .i64 x2.t.1, .int .i64 x2.t.2.1, .bool x2.t.2.2, .int .i64 x2.pd, .int .i64 x2.x.1, .int .i64 x2.x.2.1, .bool x2.x.2.2.1, .int .i64 x2.x.2.2.2, .bool x2.hl, .slice A8_3 x2.seen.length c8_3]] (by rfl) (by kernel_rfl) (fun w => by kernel_rfl) (fun w12 S => ((((specx_withg x0 _ x1 x2 _ _ hc0 hc2 (St.reads S 2 rfl) (St.reads S 1 rfl)).mono weak_B).mono fun e w' h => hy0 ▸ h)).mono fun e w12' hp => ?_))
              obtain ⟨cs, F, rfl, ho, hF, hb⟩ := hp
              obtain ⟨P12_0, P12_1, P12_2, rfl, f12_0, f12_1, f12_2⟩ := wB_rd (wB.reads ho)
              obtain ⟨A12_0, c12_0, e12_0, -⟩ := lst_val f12_0
              subst e12_0
              obtain ⟨A12_1, c12_1, e12_1, -⟩ := lst_val f12_1
              subst e12_1
              obtain ⟨A12_2, c12_2, e12_2, -⟩ := lst_val f12_2
              subst e12_2
              generalize F = F12 at ho hF
              refine ⟨_, _, rfl, (St.got S hb ho hF), (fun w S => St.pick S [4, 5] _ rfl (by decide)), ?_⟩
              clear S hb ho hF f12_0 f12_1 f12_2
              refine Sx.GT.alone (Sx.Alone.sto 28 (.tmp 8) (.tmp 31) b11 0 1 [.slice none 0 0, .slice none 0 0, .slice none 0 0, .int .i64 0] [.slice A12_0 y0.mem.length c12_0, .slice A12_1 y0.gs.length c12_1, .slice A12_2 y0.outs.length c12_2, .int .i64 y0.pd] [.slice A12_0 y0.mem.length c12_0, .slice A12_1 y0.gs.length c12_1, .slice A12_2 y0.outs.length c12_2, .int .i64 y0.pd] [ow wB w12.heap.size w12'.heap.size y0 [.slice A12_0 y0.mem.length c12_0, .slice A12_1 y0.gs.length c12_1, .slice A12_2 y0.outs.length c12_2, .int .i64 y0.pd] F12, vr b11 [.slice A12_0 y0.mem.length c12_0, .slice A12_1 y0.gs.length c12_1, .slice A12_2 y0.outs.length c12_2, .int .i64 y0.pd], ow wG w8.heap.size w8'.heap.size x2 [.slice A8_0 x2.prog.length c8_0, .int .i64 x2.a, .int .i64 x2.pc, .slice A8_1 x2.wr.length c8_1, .slice A8_2 x2.lv.length c8_2, .int .i64 x2.t.1, .int .i64 x2.t.2.1, .bool x2.t.2.2, .int .i64 x2.pd, .int .i64 x2.x.1, .int .i64 x2.x.2.1, .bool x2.x.2.2.1, .int .i64 x2.x.2.2.2, .bool x2.hl, .slice A8_3 x2.seen.length c8_3] F8, ow wB w7.heap.size w7'.heap.size x0 [.slice A7_0 x0.mem.length c7_0, .slice A7_1 x0.gs.length c7_1, .slice A7_2 x0.outs.length c7_2, .int .i64 x0.pd] F7, vr b2 [.slice h2A0 x2.prog.length h2K0, .int .i64 x2.a, .int .i64 x2.pc, .slice h2A1 x2.wr.length h2K1, .slice h2A2 x2.lv.length h2K2, .int .i64 x2.t.1, .int .i64 x2.t.2.1, .bool x2.t.2.2, .int .i64 x2.pd, .int .i64 x2.x.1, .int .i64 x2.x.2.1, .bool x2.x.2.2.1, .int .i64 x2.x.2.2.2, .bool x2.hl, .slice h2A3 x2.seen.length h2K3], vr b1 [.slice h0A0 x0.mem.length h0K0, .slice h0A1 x0.gs.length h0K1, .slice h0A2 x0.outs.length h0K2, .int .i64 x0.pd]] (by rfl) (by rfl) (by kernel_rfl) (by kernel_rfl) (by kernel_rfl) (by rfl) (by kernel_rfl) (by rfl) (by kernel_rfl) (by kernel_rfl) (by kernel_rfl) (fun w S => St.pick S [4, 5] _ rfl (by decide)) ?_)
              exact Sx.GT.nil (fun a w' hA S => ⟨rfl, A7_0, c7_0, A7_1, c7_1, A7_2, c7_2, F7, w7.heap.size, w7'.heap.size, A8_0, c8_0, A8_1, c8_1, A8_2, c8_2, A8_3, c8_3, F8, w8.heap.size, w8'.heap.size, A12_0, c12_0, A12_1, c12_1, A12_2, c12_2, F12, w12.heap.size, w12'.heap.size, b11, (Sx.Ag.and hA (Sx.Ag.and hA (Sx.Ag.and hA (Sx.Ag.and hA (Sx.Ag.and hA (Sx.Ag.none hA) _ _ (by kernel_rfl)) _ _ (by kernel_rfl)) _ _ (by kernel_rfl)) _ _ (by kernel_rfl)) _ _ (by kernel_rfl)), St.pick S [1, 0, 2, 3, 4, 5] _ rfl (by decide)⟩)
          · refine Sx.Alone.alloc 28 (.agg #[.slice none 0 0, .slice none 0 0, .slice none 0 0, .int .i64 0]) [.slice none 0 0, .slice none 0 0, .slice none 0 0, .int .i64 0] (by rfl) (by rfl) (by kernel_rfl) (fun w => by kernel_rfl) (by kernel_rfl) (fun w S => St.pick S [1, 2] _ rfl (by decide)) (fun b13 => ?_)
            refine Sx.GT.alone (Sx.Alone.call 29 #[.agg #[.slice h2A0 x2.prog.length h2K0, .int .i64 x2.a, .int .i64 x2.pc, .slice h2A1 x2.wr.length h2K1, .slice h2A2 x2.lv.length h2K2, .int .i64 x2.t.1, .int .i64 x2.t.2.1, .bool x2.t.2.2, .int .i64 x2.pd, .int .i64 x2.x.1, .int .i64 x2.x.2.1, .bool x2.x.2.2.1, .int .i64 x2.x.2.2.2, .bool x2.hl, .slice h2A3 x2.seen.length h2K3]] (by rfl) (by kernel_rfl) (fun w => by kernel_rfl) (fun w14 S => (Kit.kto_Guest x2 _ _ hc2 (St.old S h2R)).mono fun e w14' hp => ?_))
            obtain ⟨cs, F, rfl, ho, hF, hb⟩ := hp
            obtain ⟨P14_0, P14_1, P14_2, P14_3, rfl, f14_0, f14_1, f14_2, f14_3⟩ := wG_rd (wG.reads ho)
            obtain ⟨A14_0, c14_0, e14_0, -⟩ := lst_val f14_0
            subst e14_0
            obtain ⟨A14_1, c14_1, e14_1, -⟩ := lst_val f14_1
            subst e14_1
            obtain ⟨A14_2, c14_2, e14_2, -⟩ := lst_val f14_2
            subst e14_2
            obtain ⟨A14_3, c14_3, e14_3, -⟩ := lst_val f14_3
            subst e14_3
            generalize F = F14 at ho hF
            refine ⟨_, _, rfl, (St.got S hb ho hF), (fun w S => St.pick S [3, 4] _ rfl (by decide)), ?_⟩
            clear S hb ho hF f14_0 f14_1 f14_2 f14_3
            refine Sx.GT.alone (Sx.Alone.call 28 #[.agg #[.slice A7_0 x0.mem.length c7_0, .slice A7_1 x0.gs.length c7_1, .slice A7_2 x0.outs.length c7_2, .int .i64 x0.pd], .int .i64 x1, .agg #[.slice A14_0 x2.prog.length c14_0, .int .i64 x2.a, .int .i64 x2.pc, .slice A14_1 x2.wr.length c14_1, .slice A14_2 x2.lv.length c14_2, .int .i64 x2.t.1, .int .i64 x2.t.2.1, .bool x2.t.2.2, .int .i64 x2.pd, .int .i64 x2.x.1, .int .i64 x2.x.2.1, .bool x2.x.2.2.1, .int .i64 x2.x.2.2.2, .bool x2.hl, .slice A14_3 x2.seen.length c14_3]] (by rfl) (by kernel_rfl) (fun w => by kernel_rfl) (fun w15 S => ((((specx_withg x0 _ x1 x2 _ _ hc0 hc2 (St.reads S 2 rfl) (St.reads S 0 rfl)).mono weak_B).mono fun e w' h => hy0 ▸ h)).mono fun e w15' hp => ?_))
            obtain ⟨cs, F, rfl, ho, hF, hb⟩ := hp
            obtain ⟨P15_0, P15_1, P15_2, rfl, f15_0, f15_1, f15_2⟩ := wB_rd (wB.reads ho)
            obtain ⟨A15_0, c15_0, e15_0, -⟩ := lst_val f15_0
            subst e15_0
            obtain ⟨A15_1, c15_1, e15_1, -⟩ := lst_val f15_1
            subst e15_1
            obtain ⟨A15_2, c15_2, e15_2, -⟩ := lst_val f15_2
            subst e15_2
            generalize F = F15 at ho hF
            refine ⟨_, _, rfl, (St.got S hb ho hF), (fun w S => St.pick S [4, 5] _ rfl (by decide)), ?_⟩
            clear S hb ho hF f15_0 f15_1 f15_2
            refine Sx.GT.alone (Sx.Alone.sto 28 (.tmp 8) (.tmp 31) b13 0 2 [.slice none 0 0, .slice none 0 0, .slice none 0 0, .int .i64 0] [.slice A15_0 y0.mem.length c15_0, .slice A15_1 y0.gs.length c15_1, .slice A15_2 y0.outs.length c15_2, .int .i64 y0.pd] [.slice A15_0 y0.mem.length c15_0, .slice A15_1 y0.gs.length c15_1, .slice A15_2 y0.outs.length c15_2, .int .i64 y0.pd] [ow wB w15.heap.size w15'.heap.size y0 [.slice A15_0 y0.mem.length c15_0, .slice A15_1 y0.gs.length c15_1, .slice A15_2 y0.outs.length c15_2, .int .i64 y0.pd] F15, ow wG w14.heap.size w14'.heap.size x2 [.slice A14_0 x2.prog.length c14_0, .int .i64 x2.a, .int .i64 x2.pc, .slice A14_1 x2.wr.length c14_1, .slice A14_2 x2.lv.length c14_2, .int .i64 x2.t.1, .int .i64 x2.t.2.1, .bool x2.t.2.2, .int .i64 x2.pd, .int .i64 x2.x.1, .int .i64 x2.x.2.1, .bool x2.x.2.2.1, .int .i64 x2.x.2.2.2, .bool x2.hl, .slice A14_3 x2.seen.length c14_3] F14, vr b13 [.slice A15_0 y0.mem.length c15_0, .slice A15_1 y0.gs.length c15_1, .slice A15_2 y0.outs.length c15_2, .int .i64 y0.pd], ow wB w7.heap.size w7'.heap.size x0 [.slice A7_0 x0.mem.length c7_0, .slice A7_1 x0.gs.length c7_1, .slice A7_2 x0.outs.length c7_2, .int .i64 x0.pd] F7, vr b2 [.slice h2A0 x2.prog.length h2K0, .int .i64 x2.a, .int .i64 x2.pc, .slice h2A1 x2.wr.length h2K1, .slice h2A2 x2.lv.length h2K2, .int .i64 x2.t.1, .int .i64 x2.t.2.1, .bool x2.t.2.2, .int .i64 x2.pd, .int .i64 x2.x.1, .int .i64 x2.x.2.1, .bool x2.x.2.2.1, .int .i64 x2.x.2.2.2, .bool x2.hl, .slice h2A3 x2.seen.length h2K3], vr b1 [.slice h0A0 x0.mem.length h0K0, .slice h0A1 x0.gs.length h0K1, .slice h0A2 x0.outs.length h0K2, .int .i64 x0.pd]] (by rfl) (by rfl) (by kernel_rfl) (by kernel_rfl) (by kernel_rfl) (by rfl) (by kernel_rfl) (by rfl) (by kernel_rfl) (by kernel_rfl) (by kernel_rfl) (fun w S => St.pick S [4, 5] _ rfl (by decide)) ?_)
            exact Sx.GT.nil (fun a w' hA S => ⟨rfl, A7_0, c7_0, A7_1, c7_1, A7_2, c7_2, F7, w7.heap.size, w7'.heap.size, A14_0, c14_0, A14_1, c14_1, A14_2, c14_2, A14_3, c14_3, F14, w14.heap.size, w14'.heap.size, A15_0, c15_0, A15_1, c15_1, A15_2, c15_2, F15, w15.heap.size, w15'.heap.size, b13, (Sx.Ag.and hA (Sx.Ag.and hA (Sx.Ag.and hA (Sx.Ag.and hA (Sx.Ag.and hA (Sx.Ag.none hA) _ _ (by kernel_rfl)) _ _ (by kernel_rfl)) _ _ (by kernel_rfl)) _ _ (by kernel_rfl)) _ _ (by kernel_rfl)), St.pick S [2, 0, 1, 3, 4, 5] _ rfl (by decide)⟩)
        · refine Sx.Alone.alloc 28 (.agg #[.slice none 0 0, .slice none 0 0, .slice none 0 0, .int .i64 0]) [.slice none 0 0, .slice none 0 0, .slice none 0 0, .int .i64 0] (by rfl) (by rfl) (by kernel_rfl) (fun w => by kernel_rfl) (by kernel_rfl) (fun w S => St.pick S [0, 1] _ rfl (by decide)) (fun b16 => ?_)
          refine Sx.GT.alone (Sx.Alone.call 20 #[.agg #[.slice h0A0 x0.mem.length h0K0, .slice h0A1 x0.gs.length h0K1, .slice h0A2 x0.outs.length h0K2, .int .i64 x0.pd]] (by rfl) (by kernel_rfl) (fun w => by kernel_rfl) (fun w17 S => (Kit.kto_Bare x0 _ _ hc0 (St.old S h0R)).mono fun e w17' hp => ?_))
          obtain ⟨cs, F, rfl, ho, hF, hb⟩ := hp
          obtain ⟨P17_0, P17_1, P17_2, rfl, f17_0, f17_1, f17_2⟩ := wB_rd (wB.reads ho)
          obtain ⟨A17_0, c17_0, e17_0, -⟩ := lst_val f17_0
          subst e17_0
          obtain ⟨A17_1, c17_1, e17_1, -⟩ := lst_val f17_1
          subst e17_1
          obtain ⟨A17_2, c17_2, e17_2, -⟩ := lst_val f17_2
          subst e17_2
          generalize F = F17 at ho hF
          refine ⟨_, _, rfl, (St.got S hb ho hF), (fun w S => St.pick S [2, 3] _ rfl (by decide)), ?_⟩
          clear S hb ho hF f17_0 f17_1 f17_2
          refine Sx.GT.alone (Sx.Alone.call 29 #[.agg #[.slice h2A0 x2.prog.length h2K0, .int .i64 x2.a, .int .i64 x2.pc, .slice h2A1 x2.wr.length h2K1, .slice h2A2 x2.lv.length h2K2, .int .i64 x2.t.1, .int .i64 x2.t.2.1, .bool x2.t.2.2, .int .i64 x2.pd, .int .i64 x2.x.1, .int .i64 x2.x.2.1, .bool x2.x.2.2.1, .int .i64 x2.x.2.2.2, .bool x2.hl, .slice h2A3 x2.seen.length h2K3]] (by rfl) (by kernel_rfl) (fun w => by kernel_rfl) (fun w18 S => (Kit.kto_Guest x2 _ _ hc2 (St.old S h2R)).mono fun e w18' hp => ?_))
          obtain ⟨cs, F, rfl, ho, hF, hb⟩ := hp
          obtain ⟨P18_0, P18_1, P18_2, P18_3, rfl, f18_0, f18_1, f18_2, f18_3⟩ := wG_rd (wG.reads ho)
          obtain ⟨A18_0, c18_0, e18_0, -⟩ := lst_val f18_0
          subst e18_0
          obtain ⟨A18_1, c18_1, e18_1, -⟩ := lst_val f18_1
          subst e18_1
          obtain ⟨A18_2, c18_2, e18_2, -⟩ := lst_val f18_2
          subst e18_2
          obtain ⟨A18_3, c18_3, e18_3, -⟩ := lst_val f18_3
          subst e18_3
          generalize F = F18 at ho hF
          refine ⟨_, _, rfl, (St.got S hb ho hF), (fun w S => St.pick S [3, 4] _ rfl (by decide)), ?_⟩
          clear S hb ho hF f18_0 f18_1 f18_2 f18_3
          refine Sx.GT.alone (Sx.Alone.call 28 #[.agg #[.slice A17_0 x0.mem.length c17_0, .slice A17_1 x0.gs.length c17_1, .slice A17_2 x0.outs.length c17_2, .int .i64 x0.pd], .int .i64 x1, .agg #[.slice A18_0 x2.prog.length c18_0, .int .i64 x2.a, .int .i64 x2.pc, .slice A18_1 x2.wr.length c18_1, .slice A18_2 x2.lv.length c18_2, .int .i64 x2.t.1, .int .i64 x2.t.2.1, .bool x2.t.2.2, .int .i64 x2.pd, .int .i64 x2.x.1, .int .i64 x2.x.2.1, .bool x2.x.2.2.1, .int .i64 x2.x.2.2.2, .bool x2.hl, .slice A18_3 x2.seen.length c18_3]] (by rfl) (by kernel_rfl) (fun w => by kernel_rfl) (fun w19 S => ((((specx_withg x0 _ x1 x2 _ _ hc0 hc2 (St.reads S 1 rfl) (St.reads S 0 rfl)).mono weak_B).mono fun e w' h => hy0 ▸ h)).mono fun e w19' hp => ?_))
          obtain ⟨cs, F, rfl, ho, hF, hb⟩ := hp
          obtain ⟨P19_0, P19_1, P19_2, rfl, f19_0, f19_1, f19_2⟩ := wB_rd (wB.reads ho)
          obtain ⟨A19_0, c19_0, e19_0, -⟩ := lst_val f19_0
          subst e19_0
          obtain ⟨A19_1, c19_1, e19_1, -⟩ := lst_val f19_1
          subst e19_1
          obtain ⟨A19_2, c19_2, e19_2, -⟩ := lst_val f19_2
          subst e19_2
          generalize F = F19 at ho hF
          refine ⟨_, _, rfl, (St.got S hb ho hF), (fun w S => St.pick S [4, 5] _ rfl (by decide)), ?_⟩
          clear S hb ho hF f19_0 f19_1 f19_2
          refine Sx.GT.alone (Sx.Alone.sto 28 (.tmp 8) (.tmp 31) b16 0 3 [.slice none 0 0, .slice none 0 0, .slice none 0 0, .int .i64 0] [.slice A19_0 y0.mem.length c19_0, .slice A19_1 y0.gs.length c19_1, .slice A19_2 y0.outs.length c19_2, .int .i64 y0.pd] [.slice A19_0 y0.mem.length c19_0, .slice A19_1 y0.gs.length c19_1, .slice A19_2 y0.outs.length c19_2, .int .i64 y0.pd] [ow wB w19.heap.size w19'.heap.size y0 [.slice A19_0 y0.mem.length c19_0, .slice A19_1 y0.gs.length c19_1, .slice A19_2 y0.outs.length c19_2, .int .i64 y0.pd] F19, ow wG w18.heap.size w18'.heap.size x2 [.slice A18_0 x2.prog.length c18_0, .int .i64 x2.a, .int .i64 x2.pc, .slice A18_1 x2.wr.length c18_1, .slice A18_2 x2.lv.length c18_2, .int .i64 x2.t.1, .int .i64 x2.t.2.1, .bool x2.t.2.2, .int .i64 x2.pd, .int .i64 x2.x.1, .int .i64 x2.x.2.1, .bool x2.x.2.2.1, .int .i64 x2.x.2.2.2, .bool x2.hl, .slice A18_3 x2.seen.length c18_3] F18, ow wB w17.heap.size w17'.heap.size x0 [.slice A17_0 x0.mem.length c17_0, .slice A17_1 x0.gs.length c17_1, .slice A17_2 x0.outs.length c17_2, .int .i64 x0.pd] F17, vr b16 [.slice A19_0 y0.mem.length c19_0, .slice A19_1 y0.gs.length c19_1, .slice A19_2 y0.outs.length c19_2, .int .i64 y0.pd], vr b2 [.slice h2A0 x2.prog.length h2K0, .int .i64 x2.a, .int .i64 x2.pc, .slice h2A1 x2.wr.length h2K1, .slice h2A2 x2.lv.length h2K2, .int .i64 x2.t.1, .int .i64 x2.t.2.1, .bool x2.t.2.2, .int .i64 x2.pd, .int .i64 x2.x.1, .int .i64 x2.x.2.1, .bool x2.x.2.2.1, .int .i64 x2.x.2.2.2, .bool x2.hl, .slice h2A3 x2.seen.length h2K3], vr b1 [.slice h0A0 x0.mem.length h0K0, .slice h0A1 x0.gs.length h0K1, .slice h0A2 x0.outs.length h0K2, .int .i64 x0.pd]] (by rfl) (by rfl) (by kernel_rfl) (by kernel_rfl) (by kernel_rfl) (by rfl) (by kernel_rfl) (by rfl) (by kernel_rfl) (by kernel_rfl) (by kernel_rfl) (fun w S => St.pick S [4, 5] _ rfl (by decide)) ?_)
          exact Sx.GT.nil (fun a w' hA S => ⟨rfl, A17_0, c17_0, A17_1, c17_1, A17_2, c17_2, F17, w17.heap.size, w17'.heap.size, A18_0, c18_0, A18_1, c18_1, A18_2, c18_2, A18_3, c18_3, F18, w18.heap.size, w18'.heap.size, A19_0, c19_0, A19_1, c19_1, A19_2, c19_2, F19, w19.heap.size, w19'.heap.size, b16, (Sx.Ag.and hA (Sx.Ag.and hA (Sx.Ag.and hA (Sx.Ag.and hA (Sx.Ag.and hA (Sx.Ag.none hA) _ _ (by kernel_rfl)) _ _ (by kernel_rfl)) _ _ (by kernel_rfl)) _ _ (by kernel_rfl)) _ _ (by kernel_rfl)), St.pick S [3, 0, 1, 2, 4, 5] _ rfl (by decide)⟩)
      rintro e a w' ⟨rfl, y20_0, y20_1, y20_2, y20_3, y20_4, y20_5, y20_6, y20_7, y20_8, y20_9, y20_10, y20_11, y20_12, y20_13, y20_14, y20_15, y20_16, y20_17, y20_18, y20_19, y20_20, y20_21, y20_22, y20_23, y20_24, y20_25, y20_26, y20_27, y20_28, y20_29, hA, S⟩
      refine Sx.E.out ?_ hA S
      clear hA S a w'
      refine Sx.E.next ?_
      refine Sx.C.seq ?_
      refine Sx.C.region ?_
      refine Sx.G.ld 39 (.tmp 3) b1 0 5 [.slice h0A0 x0.mem.length h0K0, .slice h0A1 x0.gs.length h0K1, .slice h0A2 x0.outs.length h0K2, .int .i64 x0.pd] [.slice h0A0 x0.mem.length h0K0, .slice h0A1 x0.gs.length h0K1, .slice h0A2 x0.outs.length h0K2, .int .i64 x0.pd] rfl (by kernel_rfl) (by kernel_rfl) rfl (by kernel_rfl) (by kernel_rfl) (by kernel_rfl) ?_
      refine Sx.G.call 20 #[.agg #[.slice h0A0 x0.mem.length h0K0, .slice h0A1 x0.gs.length h0K1, .slice h0A2 x0.outs.length h0K2, .int .i64 x0.pd]] (by kernel_rfl) (fun w => by kernel_rfl) (fun w21 S => (Kit.kto_Bare x0 _ _ hc0 (St.old S h0R)).mono fun e w21' hp => ?_)
      obtain ⟨cs, F, rfl, ho, hF, hb⟩ := hp
      obtain ⟨P21_0, P21_1, P21_2, rfl, f21_0, f21_1, f21_2⟩ := wB_rd (wB.reads ho)
      obtain ⟨A21_0, c21_0, e21_0, -⟩ := lst_val f21_0
      subst e21_0
      obtain ⟨A21_1, c21_1, e21_1, -⟩ := lst_val f21_1
      subst e21_1
      obtain ⟨A21_2, c21_2, e21_2, -⟩ := lst_val f21_2
      subst e21_2
      generalize F = F21 at ho hF
      refine ⟨_, _, rfl, (St.got S hb ho hF), ?_⟩
      clear S hb ho hF f21_0 f21_1 f21_2
      refine Sx.G.alloc 28 (.agg #[.slice none 0 0, .slice none 0 0, .slice none 0 0, .int .i64 0]) [.slice none 0 0, .slice none 0 0, .slice none 0 0, .int .i64 0] rfl (by kernel_rfl) (fun w => by kernel_rfl) (by kernel_rfl) (fun b22 => ?_)
      refine Sx.G.sto 28 (.tmp 9) (.tmp 33) b22 0 0 [.slice none 0 0, .slice none 0 0, .slice none 0 0, .int .i64 0] [.slice A21_0 x0.mem.length c21_0, .slice A21_1 x0.gs.length c21_1, .slice A21_2 x0.outs.length c21_2, .int .i64 x0.pd] [.slice A21_0 x0.mem.length c21_0, .slice A21_1 x0.gs.length c21_1, .slice A21_2 x0.outs.length c21_2, .int .i64 x0.pd] [vr b22 [.slice A21_0 x0.mem.length c21_0, .slice A21_1 x0.gs.length c21_1, .slice A21_2 x0.outs.length c21_2, .int .i64 x0.pd], ow wB w21.heap.size w21'.heap.size x0 [.slice A21_0 x0.mem.length c21_0, .slice A21_1 x0.gs.length c21_1, .slice A21_2 x0.outs.length c21_2, .int .i64 x0.pd] F21, vr y20_29 [.slice y20_20 y0.mem.length y20_21, .slice y20_22 y0.gs.length y20_23, .slice y20_24 y0.outs.length y20_25, .int .i64 y0.pd], ow wB y20_27 y20_28 y0 [.slice y20_20 y0.mem.length y20_21, .slice y20_22 y0.gs.length y20_23, .slice y20_24 y0.outs.length y20_25, .int .i64 y0.pd] y20_26, ow wG y20_18 y20_19 x2 [.slice y20_9 x2.prog.length y20_10, .int .i64 x2.a, .int .i64 x2.pc, .slice y20_11 x2.wr.length y20_12, .slice y20_13 x2.lv.length y20_14, .int .i64 x2.t.1, .int .i64 x2.t.2.1, .bool x2.t.2.2, .int .i64 x2.pd, .int .i64 x2.x.1, .int .i64 x2.x.2.1, .bool x2.x.2.2.1, .int .i64 x2.x.2.2.2, .bool x2.hl, .slice y20_15 x2.seen.length y20_16] y20_17, ow wB y20_7 y20_8 x0 [.slice y20_0 x0.mem.length y20_1, .slice y20_2 x0.gs.length y20_3, .slice y20_4 x0.outs.length y20_5, .int .i64 x0.pd] y20_6, vr b2 [.slice h2A0 x2.prog.length h2K0, .int .i64 x2.a, .int .i64 x2.pc, .slice h2A1 x2.wr.length h2K1, .slice h2A2 x2.lv.length h2K2, .int .i64 x2.t.1, .int .i64 x2.t.2.1, .bool x2.t.2.2, .int .i64 x2.pd, .int .i64 x2.x.1, .int .i64 x2.x.2.1, .bool x2.x.2.2.1, .int .i64 x2.x.2.2.2, .bool x2.hl, .slice h2A3 x2.seen.length h2K3], vr b1 [.slice h0A0 x0.mem.length h0K0, .slice h0A1 x0.gs.length h0K1, .slice h0A2 x0.outs.length h0K2, .int .i64 x0.pd]] rfl (by kernel_rfl) (by kernel_rfl) (by kernel_rfl) rfl (by kernel_rfl) rfl (by kernel_rfl) (by kernel_rfl) (by kernel_rfl) ?_
      refine Sx.G.nil ?_
      refine Sx.E.next ?_
      refine Sx.C.seq ?_
      refine Sx.C.region ?_
      refine Sx.G.ld 62 (.tmp 5) b2 0 6 [.slice h2A0 x2.prog.length h2K0, .int .i64 x2.a, .int .i64 x2.pc, .slice h2A1 x2.wr.length h2K1, .slice h2A2 x2.lv.length h2K2, .int .i64 x2.t.1, .int .i64 x2.t.2.1, .bool x2.t.2.2, .int .i64 x2.pd, .int .i64 x2.x.1, .int .i64 x2.x.2.1, .bool x2.x.2.2.1, .int .i64 x2.x.2.2.2, .bool x2.hl, .slice h2A3 x2.seen.length h2K3] [.slice h2A0 x2.prog.length h2K0, .int .i64 x2.a, .int .i64 x2.pc, .slice h2A1 x2.wr.length h2K1, .slice h2A2 x2.lv.length h2K2, .int .i64 x2.t.1, .int .i64 x2.t.2.1, .bool x2.t.2.2, .int .i64 x2.pd, .int .i64 x2.x.1, .int .i64 x2.x.2.1, .bool x2.x.2.2.1, .int .i64 x2.x.2.2.2, .bool x2.hl, .slice h2A3 x2.seen.length h2K3] rfl (by kernel_rfl) (by kernel_rfl) rfl (by kernel_rfl) (by kernel_rfl) (by kernel_rfl) ?_
      refine Sx.G.call 29 #[.agg #[.slice h2A0 x2.prog.length h2K0, .int .i64 x2.a, .int .i64 x2.pc, .slice h2A1 x2.wr.length h2K1, .slice h2A2 x2.lv.length h2K2, .int .i64 x2.t.1, .int .i64 x2.t.2.1, .bool x2.t.2.2, .int .i64 x2.pd, .int .i64 x2.x.1, .int .i64 x2.x.2.1, .bool x2.x.2.2.1, .int .i64 x2.x.2.2.2, .bool x2.hl, .slice h2A3 x2.seen.length h2K3]] (by kernel_rfl) (fun w => by kernel_rfl) (fun w23 S => (Kit.kto_Guest x2 _ _ hc2 (St.old S h2R)).mono fun e w23' hp => ?_)
      obtain ⟨cs, F, rfl, ho, hF, hb⟩ := hp
      obtain ⟨P23_0, P23_1, P23_2, P23_3, rfl, f23_0, f23_1, f23_2, f23_3⟩ := wG_rd (wG.reads ho)
      obtain ⟨A23_0, c23_0, e23_0, -⟩ := lst_val f23_0
      subst e23_0
      obtain ⟨A23_1, c23_1, e23_1, -⟩ := lst_val f23_1
      subst e23_1
      obtain ⟨A23_2, c23_2, e23_2, -⟩ := lst_val f23_2
      subst e23_2
      obtain ⟨A23_3, c23_3, e23_3, -⟩ := lst_val f23_3
      subst e23_3
      generalize F = F23 at ho hF
      refine ⟨_, _, rfl, (St.got S hb ho hF), ?_⟩
      clear S hb ho hF f23_0 f23_1 f23_2 f23_3
      refine Sx.G.alloc 51 (.agg #[.slice none 0 0, .int .i64 0, .int .i64 0, .slice none 0 0, .slice none 0 0, .int .i64 0, .int .i64 0, .bool false, .int .i64 0, .int .i64 0, .int .i64 0, .bool false, .int .i64 0, .bool false, .slice none 0 0]) [.slice none 0 0, .int .i64 0, .int .i64 0, .slice none 0 0, .slice none 0 0, .int .i64 0, .int .i64 0, .bool false, .int .i64 0, .int .i64 0, .int .i64 0, .bool false, .int .i64 0, .bool false, .slice none 0 0] rfl (by kernel_rfl) (fun w => by kernel_rfl) (by kernel_rfl) (fun b24 => ?_)
      refine Sx.G.sto 51 (.tmp 10) (.tmp 35) b24 0 0 [.slice none 0 0, .int .i64 0, .int .i64 0, .slice none 0 0, .slice none 0 0, .int .i64 0, .int .i64 0, .bool false, .int .i64 0, .int .i64 0, .int .i64 0, .bool false, .int .i64 0, .bool false, .slice none 0 0] [.slice A23_0 x2.prog.length c23_0, .int .i64 x2.a, .int .i64 x2.pc, .slice A23_1 x2.wr.length c23_1, .slice A23_2 x2.lv.length c23_2, .int .i64 x2.t.1, .int .i64 x2.t.2.1, .bool x2.t.2.2, .int .i64 x2.pd, .int .i64 x2.x.1, .int .i64 x2.x.2.1, .bool x2.x.2.2.1, .int .i64 x2.x.2.2.2, .bool x2.hl, .slice A23_3 x2.seen.length c23_3] [.slice A23_0 x2.prog.length c23_0, .int .i64 x2.a, .int .i64 x2.pc, .slice A23_1 x2.wr.length c23_1, .slice A23_2 x2.lv.length c23_2, .int .i64 x2.t.1, .int .i64 x2.t.2.1, .bool x2.t.2.2, .int .i64 x2.pd, .int .i64 x2.x.1, .int .i64 x2.x.2.1, .bool x2.x.2.2.1, .int .i64 x2.x.2.2.2, .bool x2.hl, .slice A23_3 x2.seen.length c23_3] [vr b24 [.slice A23_0 x2.prog.length c23_0, .int .i64 x2.a, .int .i64 x2.pc, .slice A23_1 x2.wr.length c23_1, .slice A23_2 x2.lv.length c23_2, .int .i64 x2.t.1, .int .i64 x2.t.2.1, .bool x2.t.2.2, .int .i64 x2.pd, .int .i64 x2.x.1, .int .i64 x2.x.2.1, .bool x2.x.2.2.1, .int .i64 x2.x.2.2.2, .bool x2.hl, .slice A23_3 x2.seen.length c23_3], ow wG w23.heap.size w23'.heap.size x2 [.slice A23_0 x2.prog.length c23_0, .int .i64 x2.a, .int .i64 x2.pc, .slice A23_1 x2.wr.length c23_1, .slice A23_2 x2.lv.length c23_2, .int .i64 x2.t.1, .int .i64 x2.t.2.1, .bool x2.t.2.2, .int .i64 x2.pd, .int .i64 x2.x.1, .int .i64 x2.x.2.1, .bool x2.x.2.2.1, .int .i64 x2.x.2.2.2, .bool x2.hl, .slice A23_3 x2.seen.length c23_3] F23, vr b22 [.slice A21_0 x0.mem.length c21_0, .slice A21_1 x0.gs.length c21_1, .slice A21_2 x0.outs.length c21_2, .int .i64 x0.pd], ow wB w21.heap.size w21'.heap.size x0 [.slice A21_0 x0.mem.length c21_0, .slice A21_1 x0.gs.length c21_1, .slice A21_2 x0.outs.length c21_2, .int .i64 x0.pd] F21, vr y20_29 [.slice y20_20 y0.mem.length y20_21, .slice y20_22 y0.gs.length y20_23, .slice y20_24 y0.outs.length y20_25, .int .i64 y0.pd], ow wB y20_27 y20_28 y0 [.slice y20_20 y0.mem.length y20_21, .slice y20_22 y0.gs.length y20_23, .slice y20_24 y0.outs.length y20_25, .int .i64 y0.pd] y20_26, ow wG y20_18 y20_19 x2 [.slice y20_9 x2.prog.length y20_10, .int .i64 x2.a, .int .i64 x2.pc, .slice y20_11 x2.wr.length y20_12, .slice y20_13 x2.lv.length y20_14, .int .i64 x2.t.1, .int .i64 x2.t.2.1, .bool x2.t.2.2, .int .i64 x2.pd, .int .i64 x2.x.1, .int .i64 x2.x.2.1, .bool x2.x.2.2.1, .int .i64 x2.x.2.2.2, .bool x2.hl, .slice y20_15 x2.seen.length y20_16] y20_17, ow wB y20_7 y20_8 x0 [.slice y20_0 x0.mem.length y20_1, .slice y20_2 x0.gs.length y20_3, .slice y20_4 x0.outs.length y20_5, .int .i64 x0.pd] y20_6, vr b2 [.slice h2A0 x2.prog.length h2K0, .int .i64 x2.a, .int .i64 x2.pc, .slice h2A1 x2.wr.length h2K1, .slice h2A2 x2.lv.length h2K2, .int .i64 x2.t.1, .int .i64 x2.t.2.1, .bool x2.t.2.2, .int .i64 x2.pd, .int .i64 x2.x.1, .int .i64 x2.x.2.1, .bool x2.x.2.2.1, .int .i64 x2.x.2.2.2, .bool x2.hl, .slice h2A3 x2.seen.length h2K3], vr b1 [.slice h0A0 x0.mem.length h0K0, .slice h0A1 x0.gs.length h0K1, .slice h0A2 x0.outs.length h0K2, .int .i64 x0.pd]] rfl (by kernel_rfl) (by kernel_rfl) (by kernel_rfl) rfl (by kernel_rfl) rfl (by kernel_rfl) (by kernel_rfl) (by kernel_rfl) ?_
      refine Sx.G.nil ?_
      refine Sx.E.next ?_
      refine Sx.C.seq ?_
      refine Sx.C.region ?_
      refine Sx.G.ld 28 (.tmp 9) b22 0 2 [.slice A21_0 x0.mem.length c21_0, .slice A21_1 x0.gs.length c21_1, .slice A21_2 x0.outs.length c21_2, .int .i64 x0.pd] [.slice A21_0 x0.mem.length c21_0, .slice A21_1 x0.gs.length c21_1, .slice A21_2 x0.outs.length c21_2, .int .i64 x0.pd] rfl (by kernel_rfl) (by kernel_rfl) rfl (by kernel_rfl) (by kernel_rfl) (by kernel_rfl) ?_
      refine Sx.G.pure (.int .i64 x1) (by kernel_rfl) (fun w => by kernel_rfl) ?_
      refine Sx.G.ld 51 (.tmp 10) b24 0 0 [.slice A23_0 x2.prog.length c23_0, .int .i64 x2.a, .int .i64 x2.pc, .slice A23_1 x2.wr.length c23_1, .slice A23_2 x2.lv.length c23_2, .int .i64 x2.t.1, .int .i64 x2.t.2.1, .bool x2.t.2.2, .int .i64 x2.pd, .int .i64 x2.x.1, .int .i64 x2.x.2.1, .bool x2.x.2.2.1, .int .i64 x2.x.2.2.2, .bool x2.hl, .slice A23_3 x2.seen.length c23_3] [.slice A23_0 x2.prog.length c23_0, .int .i64 x2.a, .int .i64 x2.pc, .slice A23_1 x2.wr.length c23_1, .slice A23_2 x2.lv.length c23_2, .int .i64 x2.t.1, .int .i64 x2.t.2.1, .bool x2.t.2.2, .int .i64 x2.pd, .int .i64 x2.x.1, .int .i64 x2.x.2.1, .bool x2.x.2.2.1, .int .i64 x2.x.2.2.2, .bool x2.hl, .slice A23_3 x2.seen.length c23_3] rfl (by kernel_rfl) (by kernel_rfl) rfl (by kernel_rfl) (by kernel_rfl) (by kernel_rfl) ?_
      refine Sx.G.call 30 #[.agg #[.slice A21_0 x0.mem.length c21_0, .slice A21_1 x0.gs.length c21_1, .slice A21_2 x0.outs.length c21_2, .int .i64 x0.pd], .int .i64 x1, .agg #[.slice A23_0 x2.prog.length c23_0, .int .i64 x2.a, .int .i64 x2.pc, .slice A23_1 x2.wr.length c23_1, .slice A23_2 x2.lv.length c23_2, .int .i64 x2.t.1, .int .i64 x2.t.2.1, .bool x2.t.2.2, .int .i64 x2.pd, .int .i64 x2.x.1, .int .i64 x2.x.2.1, .bool x2.x.2.2.1, .int .i64 x2.x.2.2.2, .bool x2.hl, .slice A23_3 x2.seen.length c23_3]] (by kernel_rfl) (fun w => by kernel_rfl) (fun w25 S => (((impl_withg x0 _ x1 x2 _ _ hw0 hc0 (St.reads S 3 rfl) hw1 hw2 hc2 (St.reads S 1 rfl)).mono fun e w' h => hy0 ▸ h)).mono fun e w25' hp => ?_)
      obtain ⟨cs, F, rfl, ho, hF, hb⟩ := hp
      obtain ⟨P25_0, P25_1, P25_2, rfl, f25_0, f25_1, f25_2⟩ := wB_rd (wB.reads ho)
      obtain ⟨A25_0, c25_0, e25_0, -⟩ := lst_val f25_0
      subst e25_0
      obtain ⟨A25_1, c25_1, e25_1, -⟩ := lst_val f25_1
      subst e25_1
      obtain ⟨A25_2, c25_2, e25_2, -⟩ := lst_val f25_2
      subst e25_2
      generalize F = F25 at ho hF
      refine ⟨_, _, rfl, (St.got S hb ho hF), ?_⟩
      clear S hb ho hF f25_0 f25_1 f25_2
      refine Sx.G.alloc 28 (.agg #[.slice none 0 0, .slice none 0 0, .slice none 0 0, .int .i64 0]) [.slice none 0 0, .slice none 0 0, .slice none 0 0, .int .i64 0] rfl (by kernel_rfl) (fun w => by kernel_rfl) (by kernel_rfl) (fun b26 => ?_)
      refine Sx.G.sto 28 (.tmp 11) (.tmp 39) b26 0 0 [.slice none 0 0, .slice none 0 0, .slice none 0 0, .int .i64 0] [.slice A25_0 y0.mem.length c25_0, .slice A25_1 y0.gs.length c25_1, .slice A25_2 y0.outs.length c25_2, .int .i64 y0.pd] [.slice A25_0 y0.mem.length c25_0, .slice A25_1 y0.gs.length c25_1, .slice A25_2 y0.outs.length c25_2, .int .i64 y0.pd] [vr b26 [.slice A25_0 y0.mem.length c25_0, .slice A25_1 y0.gs.length c25_1, .slice A25_2 y0.outs.length c25_2, .int .i64 y0.pd], ow wB w25.heap.size w25'.heap.size y0 [.slice A25_0 y0.mem.length c25_0, .slice A25_1 y0.gs.length c25_1, .slice A25_2 y0.outs.length c25_2, .int .i64 y0.pd] F25, vr b24 [.slice A23_0 x2.prog.length c23_0, .int .i64 x2.a, .int .i64 x2.pc, .slice A23_1 x2.wr.length c23_1, .slice A23_2 x2.lv.length c23_2, .int .i64 x2.t.1, .int .i64 x2.t.2.1, .bool x2.t.2.2, .int .i64 x2.pd, .int .i64 x2.x.1, .int .i64 x2.x.2.1, .bool x2.x.2.2.1, .int .i64 x2.x.2.2.2, .bool x2.hl, .slice A23_3 x2.seen.length c23_3], ow wG w23.heap.size w23'.heap.size x2 [.slice A23_0 x2.prog.length c23_0, .int .i64 x2.a, .int .i64 x2.pc, .slice A23_1 x2.wr.length c23_1, .slice A23_2 x2.lv.length c23_2, .int .i64 x2.t.1, .int .i64 x2.t.2.1, .bool x2.t.2.2, .int .i64 x2.pd, .int .i64 x2.x.1, .int .i64 x2.x.2.1, .bool x2.x.2.2.1, .int .i64 x2.x.2.2.2, .bool x2.hl, .slice A23_3 x2.seen.length c23_3] F23, vr b22 [.slice A21_0 x0.mem.length c21_0, .slice A21_1 x0.gs.length c21_1, .slice A21_2 x0.outs.length c21_2, .int .i64 x0.pd], ow wB w21.heap.size w21'.heap.size x0 [.slice A21_0 x0.mem.length c21_0, .slice A21_1 x0.gs.length c21_1, .slice A21_2 x0.outs.length c21_2, .int .i64 x0.pd] F21, vr y20_29 [.slice y20_20 y0.mem.length y20_21, .slice y20_22 y0.gs.length y20_23, .slice y20_24 y0.outs.length y20_25, .int .i64 y0.pd], ow wB y20_27 y20_28 y0 [.slice y20_20 y0.mem.length y20_21, .slice y20_22 y0.gs.length y20_23, .slice y20_24 y0.outs.length y20_25, .int .i64 y0.pd] y20_26, ow wG y20_18 y20_19 x2 [.slice y20_9 x2.prog.length y20_10, .int .i64 x2.a, .int .i64 x2.pc, .slice y20_11 x2.wr.length y20_12, .slice y20_13 x2.lv.length y20_14, .int .i64 x2.t.1, .int .i64 x2.t.2.1, .bool x2.t.2.2, .int .i64 x2.pd, .int .i64 x2.x.1, .int .i64 x2.x.2.1, .bool x2.x.2.2.1, .int .i64 x2.x.2.2.2, .bool x2.hl, .slice y20_15 x2.seen.length y20_16] y20_17, ow wB y20_7 y20_8 x0 [.slice y20_0 x0.mem.length y20_1, .slice y20_2 x0.gs.length y20_3, .slice y20_4 x0.outs.length y20_5, .int .i64 x0.pd] y20_6, vr b2 [.slice h2A0 x2.prog.length h2K0, .int .i64 x2.a, .int .i64 x2.pc, .slice h2A1 x2.wr.length h2K1, .slice h2A2 x2.lv.length h2K2, .int .i64 x2.t.1, .int .i64 x2.t.2.1, .bool x2.t.2.2, .int .i64 x2.pd, .int .i64 x2.x.1, .int .i64 x2.x.2.1, .bool x2.x.2.2.1, .int .i64 x2.x.2.2.2, .bool x2.hl, .slice h2A3 x2.seen.length h2K3], vr b1 [.slice h0A0 x0.mem.length h0K0, .slice h0A1 x0.gs.length h0K1, .slice h0A2 x0.outs.length h0K2, .int .i64 x0.pd]] rfl (by kernel_rfl) (by kernel_rfl) (by kernel_rfl) rfl (by kernel_rfl) rfl (by kernel_rfl) (by kernel_rfl) (by kernel_rfl) ?_
      refine Sx.G.nil ?_
      refine Sx.E.next ?_
      refine Sx.C.seq ?_
      refine Sx.C.seq ?_
      refine Sx.C.region ?_
      refine Sx.G.ld 28 (.tmp 11) b26 0 0 [.slice A25_0 y0.mem.length c25_0, .slice A25_1 y0.gs.length c25_1, .slice A25_2 y0.outs.length c25_2, .int .i64 y0.pd] [.slice A25_0 y0.mem.length c25_0, .slice A25_1 y0.gs.length c25_1, .slice A25_2 y0.outs.length c25_2, .int .i64 y0.pd] rfl (by kernel_rfl) (by kernel_rfl) rfl (by kernel_rfl) (by kernel_rfl) (by kernel_rfl) ?_
      refine Sx.G.ld 28 (.tmp 8) y20_29 0 6 [.slice y20_20 y0.mem.length y20_21, .slice y20_22 y0.gs.length y20_23, .slice y20_24 y0.outs.length y20_25, .int .i64 y0.pd] [.slice y20_20 y0.mem.length y20_21, .slice y20_22 y0.gs.length y20_23, .slice y20_24 y0.outs.length y20_25, .int .i64 y0.pd] rfl (by kernel_rfl) (by kernel_rfl) rfl (by kernel_rfl) (by kernel_rfl) (by kernel_rfl) ?_
      refine Sx.G.plain 13 #[.agg #[.slice A25_0 y0.mem.length c25_0, .slice A25_1 y0.gs.length c25_1, .slice A25_2 y0.outs.length c25_2, .int .i64 y0.pd], .agg #[.slice y20_20 y0.mem.length y20_21, .slice y20_22 y0.gs.length y20_23, .slice y20_24 y0.outs.length y20_25, .int .i64 y0.pd]] (.bool true) (by kernel_rfl) (fun w => by kernel_rfl) (fun w S => by exact Kit.keq_Bare y0 _ _ _ hd0 (St.reads S 1 rfl) (St.reads S 7 rfl)) ?_
      refine Sx.G.pure (.bool false) (by kernel_rfl) (fun w => by kernel_rfl) ?_
      refine Sx.G.nil ?_
      refine Sx.E.next ?_
      refine Sx.C.no (by kernel_rfl) (by kernel_rfl) ?_
      refine Sx.C.skip ?_
      refine Sx.E.next ?_
      refine Sx.C.seq ?_
      refine Sx.C.seq ?_
      refine Sx.C.draw (.take 0 (.take 1 (.alone 2 (.alone 3 (.take 4 .nil))))) [vr b22 [.slice A21_0 x0.mem.length c21_0, .slice A21_1 x0.gs.length c21_1, .slice A21_2 x0.outs.length c21_2, .int .i64 x0.pd], vr b1 [.slice h0A0 x0.mem.length h0K0, .slice h0A1 x0.gs.length h0K1, .slice h0A2 x0.outs.length h0K2, .int .i64 x0.pd]] (fun w S => St.pick S [4, 11] _ rfl (by decide)) (by kernel_rfl) (by kernel_rfl) (by kernel_rfl) ?_
      refine Sx.GT.ld 28 (.tmp 9) b22 0 0 [.slice A21_0 x0.mem.length c21_0, .slice A21_1 x0.gs.length c21_1, .slice A21_2 x0.outs.length c21_2, .int .i64 x0.pd] [.slice A21_0 x0.mem.length c21_0, .slice A21_1 x0.gs.length c21_1, .slice A21_2 x0.outs.length c21_2, .int .i64 x0.pd] 0 (by rfl) (by rfl) (by kernel_rfl) (by kernel_rfl) (by rfl) (by kernel_rfl) (by kernel_rfl) (by kernel_rfl) ?_
      refine Sx.GT.ld 39 (.tmp 3) b1 0 1 [.slice h0A0 x0.mem.length h0K0, .slice h0A1 x0.gs.length h0K1, .slice h0A2 x0.outs.length h0K2, .int .i64 x0.pd] [.slice h0A0 x0.mem.length h0K0, .slice h0A1 x0.gs.length h0K1, .slice h0A2 x0.outs.length h0K2, .int .i64 x0.pd] 1 (by rfl) (by rfl) (by kernel_rfl) (by kernel_rfl) (by rfl) (by kernel_rfl) (by kernel_rfl) (by kernel_rfl) ?_
      refine Sx.GT.alone (Sx.Alone.call 20 #[.agg #[.slice h0A0 x0.mem.length h0K0, .slice h0A1 x0.gs.length h0K1, .slice h0A2 x0.outs.length h0K2, .int .i64 x0.pd]] (by rfl) (by kernel_rfl) (fun w => by kernel_rfl) (fun w27 S => (Kit.kto_Bare x0 _ _ hc0 (St.old S h0R)).mono fun e w27' hp => ?_))
      obtain ⟨cs, F, rfl, ho, hF, hb⟩ := hp
      obtain ⟨P27_0, P27_1, P27_2, rfl, f27_0, f27_1, f27_2⟩ := wB_rd (wB.reads ho)
      obtain ⟨A27_0, c27_0, e27_0, -⟩ := lst_val f27_0
      subst e27_0
      obtain ⟨A27_1, c27_1, e27_1, -⟩ := lst_val f27_1
      subst e27_1
      obtain ⟨A27_2, c27_2, e27_2, -⟩ := lst_val f27_2
      subst e27_2
      generalize F = F27 at ho hF
      refine ⟨_, _, rfl, (St.got S hb ho hF), (fun w S => St.pick S [5, 12] _ rfl (by decide)), ?_⟩
      clear S hb ho hF f27_0 f27_1 f27_2
      refine Sx.GT.alone (Sx.Alone.plain 13 #[.agg #[.slice A21_0 x0.mem.length c21_0, .slice A21_1 x0.gs.length c21_1, .slice A21_2 x0.outs.length c21_2, .int .i64 x0.pd], .agg #[.slice A27_0 x0.mem.length c27_0, .slice A27_1 x0.gs.length c27_1, .slice A27_2 x0.outs.length c27_2, .int .i64 x0.pd]] (.bool true) (by rfl) (by kernel_rfl) (fun w => by kernel_rfl) (fun w S => by exact Kit.keq_Bare x0 _ _ _ hc0 (St.reads S 6 rfl) (St.reads S 0 rfl)) (fun w S => St.pick S [5, 12] _ rfl (by decide)) ?_)
      refine Sx.GT.pure (.bool false) 4 (by rfl) (by kernel_rfl) (fun w => by kernel_rfl) ?_
      refine Sx.GT.nil ?_
      refine Sx.E.next ?_
      refine Sx.C.no (by kernel_rfl) (by kernel_rfl) ?_
      refine Sx.C.skip ?_
      refine Sx.E.next ?_
      refine Sx.C.seq ?_
      refine Sx.C.seq ?_
      refine Sx.C.draw (.take 0 (.take 1 (.alone 2 (.alone 3 (.take 4 .nil))))) [vr b24 [.slice A23_0 x2.prog.length c23_0, .int .i64 x2.a, .int .i64 x2.pc, .slice A23_1 x2.wr.length c23_1, .slice A23_2 x2.lv.length c23_2, .int .i64 x2.t.1, .int .i64 x2.t.2.1, .bool x2.t.2.2, .int .i64 x2.pd, .int .i64 x2.x.1, .int .i64 x2.x.2.1, .bool x2.x.2.2.1, .int .i64 x2.x.2.2.2, .bool x2.hl, .slice A23_3 x2.seen.length c23_3], vr b2 [.slice h2A0 x2.prog.length h2K0, .int .i64 x2.a, .int .i64 x2.pc, .slice h2A1 x2.wr.length h2K1, .slice h2A2 x2.lv.length h2K2, .int .i64 x2.t.1, .int .i64 x2.t.2.1, .bool x2.t.2.2, .int .i64 x2.pd, .int .i64 x2.x.1, .int .i64 x2.x.2.1, .bool x2.x.2.2.1, .int .i64 x2.x.2.2.2, .bool x2.hl, .slice h2A3 x2.seen.length h2K3]] (fun w S => St.pick S [3, 11] _ rfl (by decide)) (by kernel_rfl) (by kernel_rfl) (by kernel_rfl) ?_
      refine Sx.GT.ld 51 (.tmp 10) b24 0 0 [.slice A23_0 x2.prog.length c23_0, .int .i64 x2.a, .int .i64 x2.pc, .slice A23_1 x2.wr.length c23_1, .slice A23_2 x2.lv.length c23_2, .int .i64 x2.t.1, .int .i64 x2.t.2.1, .bool x2.t.2.2, .int .i64 x2.pd, .int .i64 x2.x.1, .int .i64 x2.x.2.1, .bool x2.x.2.2.1, .int .i64 x2.x.2.2.2, .bool x2.hl, .slice A23_3 x2.seen.length c23_3] [.slice A23_0 x2.prog.length c23_0, .int .i64 x2.a, .int .i64 x2.pc, .slice A23_1 x2.wr.length c23_1, .slice A23_2 x2.lv.length c23_2, .int .i64 x2.t.1, .int .i64 x2.t.2.1, .bool x2.t.2.2, .int .i64 x2.pd, .int .i64 x2.x.1, .int .i64 x2.x.2.1, .bool x2.x.2.2.1, .int .i64 x2.x.2.2.2, .bool x2.hl, .slice A23_3 x2.seen.length c23_3] 0 (by rfl) (by rfl) (by kernel_rfl) (by kernel_rfl) (by rfl) (by kernel_rfl) (by kernel_rfl) (by kernel_rfl) ?_
      refine Sx.GT.ld 62 (.tmp 5) b2 0 1 [.slice h2A0 x2.prog.length h2K0, .int .i64 x2.a, .int .i64 x2.pc, .slice h2A1 x2.wr.length h2K1, .slice h2A2 x2.lv.length h2K2, .int .i64 x2.t.1, .int .i64 x2.t.2.1, .bool x2.t.2.2, .int .i64 x2.pd, .int .i64 x2.x.1, .int .i64 x2.x.2.1, .bool x2.x.2.2.1, .int .i64 x2.x.2.2.2, .bool x2.hl, .slice h2A3 x2.seen.length h2K3] [.slice h2A0 x2.prog.length h2K0, .int .i64 x2.a, .int .i64 x2.pc, .slice h2A1 x2.wr.length h2K1, .slice h2A2 x2.lv.length h2K2, .int .i64 x2.t.1, .int .i64 x2.t.2.1, .bool x2.t.2.2, .int .i64 x2.pd, .int .i64 x2.x.1, .int .i64 x2.x.2.1, .bool x2.x.2.2.1, .int .i64 x2.x.2.2.2, .bool x2.hl, .slice h2A3 x2.seen.length h2K3] 1 (by rfl) (by rfl) (by kernel_rfl) (by kernel_rfl) (by rfl) (by kernel_rfl) (by kernel_rfl) (by kernel_rfl) ?_
      refine Sx.GT.alone (Sx.Alone.call 29 #[.agg #[.slice h2A0 x2.prog.length h2K0, .int .i64 x2.a, .int .i64 x2.pc, .slice h2A1 x2.wr.length h2K1, .slice h2A2 x2.lv.length h2K2, .int .i64 x2.t.1, .int .i64 x2.t.2.1, .bool x2.t.2.2, .int .i64 x2.pd, .int .i64 x2.x.1, .int .i64 x2.x.2.1, .bool x2.x.2.2.1, .int .i64 x2.x.2.2.2, .bool x2.hl, .slice h2A3 x2.seen.length h2K3]] (by rfl) (by kernel_rfl) (fun w => by kernel_rfl) (fun w28 S => (Kit.kto_Guest x2 _ _ hc2 (St.old S h2R)).mono fun e w28' hp => ?_))
      obtain ⟨cs, F, rfl, ho, hF, hb⟩ := hp
      obtain ⟨P28_0, P28_1, P28_2, P28_3, rfl, f28_0, f28_1, f28_2, f28_3⟩ := wG_rd (wG.reads ho)
      obtain ⟨A28_0, c28_0, e28_0, -⟩ := lst_val f28_0
      subst e28_0
      obtain ⟨A28_1, c28_1, e28_1, -⟩ := lst_val f28_1
      subst e28_1
      obtain ⟨A28_2, c28_2, e28_2, -⟩ := lst_val f28_2
      subst e28_2
      obtain ⟨A28_3, c28_3, e28_3, -⟩ := lst_val f28_3
      subst e28_3
      generalize F = F28 at ho hF
      refine ⟨_, _, rfl, (St.got S hb ho hF), (fun w S => St.pick S [4, 12] _ rfl (by decide)), ?_⟩
      clear S hb ho hF f28_0 f28_1 f28_2 f28_3
      refine Sx.GT.alone (Sx.Alone.plain 24 #[.agg #[.slice A23_0 x2.prog.length c23_0, .int .i64 x2.a, .int .i64 x2.pc, .slice A23_1 x2.wr.length c23_1, .slice A23_2 x2.lv.length c23_2, .int .i64 x2.t.1, .int .i64 x2.t.2.1, .bool x2.t.2.2, .int .i64 x2.pd, .int .i64 x2.x.1, .int .i64 x2.x.2.1, .bool x2.x.2.2.1, .int .i64 x2.x.2.2.2, .bool x2.hl, .slice A23_3 x2.seen.length c23_3], .agg #[.slice A28_0 x2.prog.length c28_0, .int .i64 x2.a, .int .i64 x2.pc, .slice A28_1 x2.wr.length c28_1, .slice A28_2 x2.lv.length c28_2, .int .i64 x2.t.1, .int .i64 x2.t.2.1, .bool x2.t.2.2, .int .i64 x2.pd, .int .i64 x2.x.1, .int .i64 x2.x.2.1, .bool x2.x.2.2.1, .int .i64 x2.x.2.2.2, .bool x2.hl, .slice A28_3 x2.seen.length c28_3]] (.bool true) (by rfl) (by kernel_rfl) (fun w => by kernel_rfl) (fun w S => by exact Kit.keq_Guest x2 _ _ _ hc2 (St.reads S 5 rfl) (St.reads S 0 rfl)) (fun w S => St.pick S [4, 12] _ rfl (by decide)) ?_)
      refine Sx.GT.pure (.bool false) 4 (by rfl) (by kernel_rfl) (fun w => by kernel_rfl) ?_
      refine Sx.GT.nil ?_
      refine Sx.E.next ?_
      refine Sx.C.no (by kernel_rfl) (by kernel_rfl) ?_
      refine Sx.C.skip ?_
      refine Sx.E.next ?_
      refine Sx.C.seq ?_
      refine Sx.C.region ?_
      refine Sx.G.pure (.int .i64 1) (by kernel_rfl) (fun w => by kernel_rfl) ?_
      refine Sx.G.nil ?_
      refine Sx.E.next ?_
      refine Sx.C.seq ?_
      refine Sx.C.region ?_
      refine Sx.G.ld 28 (.tmp 9) b22 0 6 [.slice A21_0 x0.mem.length c21_0, .slice A21_1 x0.gs.length c21_1, .slice A21_2 x0.outs.length c21_2, .int .i64 x0.pd] [.slice A21_0 x0.mem.length c21_0, .slice A21_1 x0.gs.length c21_1, .slice A21_2 x0.outs.length c21_2, .int .i64 x0.pd] rfl (by kernel_rfl) (by kernel_rfl) rfl (by kernel_rfl) (by kernel_rfl) (by kernel_rfl) ?_
      refine Sx.G.pure (.int .i64 1) (by kernel_rfl) (fun w => by kernel_rfl) ?_
      obtain ⟨t29, ht29⟩ : ∃ q, q = 1 + wB.tcnt x0 := ⟨_, rfl⟩
      refine Sx.G.call 16 #[.agg #[.slice A21_0 x0.mem.length c21_0, .slice A21_1 x0.gs.length c21_1, .slice A21_2 x0.outs.length c21_2, .int .i64 x0.pd], .int .i64 1] (by kernel_rfl) (fun w => by kernel_rfl) (fun w29 S => (Kit.kmk_Bare x0 _ 1 F21 hc0 (by omega) S 7 rfl).mono fun e w29' hp => ?_)
      rw [← ht29] at hp
      obtain ⟨rfl, S'⟩ := hp
      refine ⟨_, _, rfl, S', ?_⟩
      clear S S'
      refine Sx.G.pure (.int .i64 ((t29 : Nat) : Int)) (by kernel_rfl) (fun w => by kernel_rfl) ?_
      refine Sx.G.nil ?_
      refine Sx.E.next ?_
      refine Sx.C.seq ?_
      refine Sx.C.region ?_
      refine Sx.G.ld 51 (.tmp 10) b24 0 4 [.slice A23_0 x2.prog.length c23_0, .int .i64 x2.a, .int .i64 x2.pc, .slice A23_1 x2.wr.length c23_1, .slice A23_2 x2.lv.length c23_2, .int .i64 x2.t.1, .int .i64 x2.t.2.1, .bool x2.t.2.2, .int .i64 x2.pd, .int .i64 x2.x.1, .int .i64 x2.x.2.1, .bool x2.x.2.2.1, .int .i64 x2.x.2.2.2, .bool x2.hl, .slice A23_3 x2.seen.length c23_3] [.slice A23_0 x2.prog.length c23_0, .int .i64 x2.a, .int .i64 x2.pc, .slice A23_1 x2.wr.length c23_1, .slice A23_2 x2.lv.length c23_2, .int .i64 x2.t.1, .int .i64 x2.t.2.1, .bool x2.t.2.2, .int .i64 x2.pd, .int .i64 x2.x.1, .int .i64 x2.x.2.1, .bool x2.x.2.2.1, .int .i64 x2.x.2.2.2, .bool x2.hl, .slice A23_3 x2.seen.length c23_3] rfl (by kernel_rfl) (by kernel_rfl) rfl (by kernel_rfl) (by kernel_rfl) (by kernel_rfl) ?_
      refine Sx.G.pure (.int .i64 ((t29 : Nat) : Int)) (by kernel_rfl) (fun w => by kernel_rfl) ?_
      obtain ⟨t30, ht30⟩ : ∃ q, q = t29 + wG.tcnt x2 := ⟨_, rfl⟩
      refine Sx.G.call 25 #[.agg #[.slice A23_0 x2.prog.length c23_0, .int .i64 x2.a, .int .i64 x2.pc, .slice A23_1 x2.wr.length c23_1, .slice A23_2 x2.lv.length c23_2, .int .i64 x2.t.1, .int .i64 x2.t.2.1, .bool x2.t.2.2, .int .i64 x2.pd, .int .i64 x2.x.1, .int .i64 x2.x.2.1, .bool x2.x.2.2.1, .int .i64 x2.x.2.2.2, .bool x2.hl, .slice A23_3 x2.seen.length c23_3], .int .i64 ((t29 : Nat) : Int)] (by kernel_rfl) (fun w => by kernel_rfl) (fun w30 S => (Kit.kmk_Guest x2 _ t29 F23 hc2 (by omega) S 5 rfl).mono fun e w30' hp => ?_)
      rw [← ht30] at hp
      obtain ⟨rfl, S'⟩ := hp
      refine ⟨_, _, rfl, S', ?_⟩
      clear S S'
      refine Sx.G.pure (.int .i64 ((t30 : Nat) : Int)) (by kernel_rfl) (fun w => by kernel_rfl) ?_
      refine Sx.G.nil ?_
      refine Sx.E.next ?_
      refine Sx.C.seq ?_
      refine Sx.C.seq ?_
      refine Sx.C.region ?_
      refine Sx.G.pure (.int .i64 ((t30 : Nat) : Int)) (by kernel_rfl) (fun w => by kernel_rfl) ?_
      refine Sx.G.pureq (.bool (decide (((t30 : Nat) : Int) < 0))) (.bool false) (by kernel_rfl) (fun w => by kernel_rfl) (congrArg Value.bool (decide_eq_false (by omega))) ?_
      refine Sx.G.pure (.bool false) (by kernel_rfl) (fun w => by kernel_rfl) ?_
      refine Sx.G.ld 28 (.tmp 11) b26 0 2 [.slice A25_0 y0.mem.length c25_0, .slice A25_1 y0.gs.length c25_1, .slice A25_2 y0.outs.length c25_2, .int .i64 y0.pd] [.slice A25_0 y0.mem.length c25_0, .slice A25_1 y0.gs.length c25_1, .slice A25_2 y0.outs.length c25_2, .int .i64 y0.pd] rfl (by kernel_rfl) (by kernel_rfl) rfl (by kernel_rfl) (by kernel_rfl) (by kernel_rfl) ?_
      refine Sx.G.ld 28 (.tmp 8) y20_29 0 8 [.slice y20_20 y0.mem.length y20_21, .slice y20_22 y0.gs.length y20_23, .slice y20_24 y0.outs.length y20_25, .int .i64 y0.pd] [.slice y20_20 y0.mem.length y20_21, .slice y20_22 y0.gs.length y20_23, .slice y20_24 y0.outs.length y20_25, .int .i64 y0.pd] rfl (by kernel_rfl) (by kernel_rfl) rfl (by kernel_rfl) (by kernel_rfl) (by kernel_rfl) ?_
      refine Sx.G.plain 13 #[.agg #[.slice A25_0 y0.mem.length c25_0, .slice A25_1 y0.gs.length c25_1, .slice A25_2 y0.outs.length c25_2, .int .i64 y0.pd], .agg #[.slice y20_20 y0.mem.length y20_21, .slice y20_22 y0.gs.length y20_23, .slice y20_24 y0.outs.length y20_25, .int .i64 y0.pd]] (.bool true) (by kernel_rfl) (fun w => by kernel_rfl) (fun w S => by exact Kit.keq_Bare y0 _ _ _ hd0 (St.reads S 3 rfl) (St.reads S 9 rfl)) ?_
      refine Sx.G.pure (.bool false) (by kernel_rfl) (fun w => by kernel_rfl) ?_
      refine Sx.G.pure (.bool false) (by kernel_rfl) (fun w => by kernel_rfl) ?_
      refine Sx.G.nil ?_
      refine Sx.E.next ?_
      refine Sx.C.no (by kernel_rfl) (by kernel_rfl) ?_
      refine Sx.C.skip ?_
      refine Sx.E.next ?_
      refine Sx.C.seq ?_
      refine Sx.C.region ?_
      refine Sx.G.pure (.int .i64 1) (by kernel_rfl) (fun w => by kernel_rfl) ?_
      refine Sx.G.nil ?_
      refine Sx.E.next ?_
      refine Sx.C.seq ?_
      refine Sx.C.region ?_
      refine Sx.G.ld 28 (.tmp 11) b26 0 2 [.slice A25_0 y0.mem.length c25_0, .slice A25_1 y0.gs.length c25_1, .slice A25_2 y0.outs.length c25_2, .int .i64 y0.pd] [.slice A25_0 y0.mem.length c25_0, .slice A25_1 y0.gs.length c25_1, .slice A25_2 y0.outs.length c25_2, .int .i64 y0.pd] rfl (by kernel_rfl) (by kernel_rfl) rfl (by kernel_rfl) (by kernel_rfl) (by kernel_rfl) ?_
      refine Sx.G.pure (.int .i64 1) (by kernel_rfl) (fun w => by kernel_rfl) ?_
      obtain ⟨t31, ht31⟩ : ∃ q, q = 1 + wB.tcnt y0 := ⟨_, rfl⟩
      refine Sx.G.call 16 #[.agg #[.slice A25_0 y0.mem.length c25_0, .slice A25_1 y0.gs.length c25_1, .slice A25_2 y0.outs.length c25_2, .int .i64 y0.pd], .int .i64 1] (by kernel_rfl) (fun w => by kernel_rfl) (fun w31 S => (Kit.kmk_Bare y0 _ 1 F25 hd0 (by omega) S 3 rfl).mono fun e w31' hp => ?_)
      rw [← ht31] at hp
      obtain ⟨rfl, S'⟩ := hp
      refine ⟨_, _, rfl, S', ?_⟩
      clear S S'
      refine Sx.G.pure (.int .i64 ((t31 : Nat) : Int)) (by kernel_rfl) (fun w => by kernel_rfl) ?_
      refine Sx.G.nil ?_
      refine Sx.E.next ?_
      refine Sx.C.seq ?_
      refine Sx.C.region ?_
      refine Sx.G.pure (.int .i64 1) (by kernel_rfl) (fun w => by kernel_rfl) ?_
      refine Sx.G.nil ?_
      refine Sx.E.next ?_
      refine Sx.C.seq ?_
      refine Sx.C.region ?_
      refine Sx.G.ld 28 (.tmp 11) b26 0 2 [.slice A25_0 y0.mem.length c25_0, .slice A25_1 y0.gs.length c25_1, .slice A25_2 y0.outs.length c25_2, .int .i64 y0.pd] [.slice A25_0 y0.mem.length c25_0, .slice A25_1 y0.gs.length c25_1, .slice A25_2 y0.outs.length c25_2, .int .i64 y0.pd] rfl (by kernel_rfl) (by kernel_rfl) rfl (by kernel_rfl) (by kernel_rfl) (by kernel_rfl) ?_
      refine Sx.G.pure (.int .i64 1) (by kernel_rfl) (fun w => by kernel_rfl) ?_
      refine Sx.G.call 17 #[.agg #[.slice A25_0 y0.mem.length c25_0, .slice A25_1 y0.gs.length c25_1, .slice A25_2 y0.outs.length c25_2, .int .i64 y0.pd], .int .i64 1] (by kernel_rfl) (fun w => by kernel_rfl) (fun w32 S => (Kit.khd_Bare y0 _ 1 _ hd0 (by omega) (St.reads S 3 rfl)).mono fun e w32' hp => ?_)
      rw [← ht31] at hp
      obtain ⟨rfl, hb⟩ := hp
      refine ⟨_, _, rfl, (S.call hb), ?_⟩
      clear S hb
      refine Sx.G.pure (.int .i64 ((t31 : Nat) : Int)) (by kernel_rfl) (fun w => by kernel_rfl) ?_
      refine Sx.G.nil ?_
      refine Sx.E.next ?_
      refine Sx.C.seq ?_
      refine Sx.C.seq ?_
      refine Sx.C.region ?_
      refine Sx.G.pure (.int .i64 ((t31 : Nat) : Int)) (by kernel_rfl) (fun w => by kernel_rfl) ?_
      refine Sx.G.pureq (.bool (decide (((t31 : Nat) : Int) < 0))) (.bool false) (by kernel_rfl) (fun w => by kernel_rfl) (congrArg Value.bool (decide_eq_false (by omega))) ?_
      refine Sx.G.nil ?_
      refine Sx.E.next ?_
      refine Sx.C.no (by kernel_rfl) (by kernel_rfl) ?_
      refine Sx.C.skip ?_
      refine Sx.E.next ?_
      refine Sx.C.seq ?_
      refine Sx.C.seq ?_
      refine Sx.C.region ?_
      refine Sx.G.pure (.int .i64 ((t31 : Nat) : Int)) (by kernel_rfl) (fun w => by kernel_rfl) ?_
      refine Sx.G.pure (.int .i64 ((t31 : Nat) : Int)) (by kernel_rfl) (fun w => by kernel_rfl) ?_
      refine Sx.G.pureq (.bool (((t31 : Nat) : Int) != ((t31 : Nat) : Int))) (.bool false) (by kernel_rfl) (fun w => by kernel_rfl) (congrArg Value.bool (bne_self_eq_false _)) ?_
      refine Sx.G.nil ?_
      refine Sx.E.next ?_
      refine Sx.C.no (by kernel_rfl) (by kernel_rfl) ?_
      refine Sx.C.skip ?_
      refine Sx.E.next ?_
      refine Sx.C.seq ?_
      refine Sx.C.cut (fun e a w' => e = .normal ∧ ∃ (Y0 : Option Addr) (Y1 : Nat) (Y2 : Option Addr) (Y3 : Nat) (Y4 : Option Addr) (Y5 : Nat) (Y6 : List Nat) (Y7 : Nat) (Y8 : Nat) (Y9 : Option Addr) (Y10 : Nat) (Y11 : Option Addr) (Y12 : Nat) (Y13 : Option Addr) (Y14 : Nat) (Y15 : Option Addr) (Y16 : Nat) (Y17 : List Nat) (Y18 : Nat) (Y19 : Nat) (Y20 : Option Addr) (Y21 : Nat) (Y22 : Option Addr) (Y23 : Nat) (Y24 : Option Addr) (Y25 : Nat) (Y26 : List Nat) (Y27 : Nat) (Y28 : Nat) (Y29 : Nat), Sx.Ag 97 [(6, .bool false), (8, .pointer (some ⟨y20_29, 0, none⟩)), (11, .pointer (some ⟨b26, 0, none⟩)), (13, .int .i64 ((t31 : Nat) : Int)), (14, .int .i64 ((t31 : Nat) : Int)), (15, .pointer (some ⟨Y29, 0, none⟩))] a ∧ St w w' [vr Y29 [.slice Y20 y0.mem.length Y21, .slice Y22 y0.gs.length Y23, .slice Y24 y0.outs.length Y25, .int .i64 y0.pd], ow wB Y27 Y28 y0 [.slice Y20 y0.mem.length Y21, .slice Y22 y0.gs.length Y23, .slice Y24 y0.outs.length Y25, .int .i64 y0.pd] Y26, ow wG Y18 Y19 x2 [.slice Y9 x2.prog.length Y10, .int .i64 x2.a, .int .i64 x2.pc, .slice Y11 x2.wr.length Y12, .slice Y13 x2.lv.length Y14, .int .i64 x2.t.1, .int .i64 x2.t.2.1, .bool x2.t.2.2, .int .i64 x2.pd, .int .i64 x2.x.1, .int .i64 x2.x.2.1, .bool x2.x.2.2.1, .int .i64 x2.x.2.2.2, .bool x2.hl, .slice Y15 x2.seen.length Y16] Y17, ow wB Y7 Y8 x0 [.slice Y0 x0.mem.length Y1, .slice Y2 x0.gs.length Y3, .slice Y4 x0.outs.length Y5, .int .i64 x0.pd] Y6, ow wG w28.heap.size w28'.heap.size x2 [.slice A28_0 x2.prog.length c28_0, .int .i64 x2.a, .int .i64 x2.pc, .slice A28_1 x2.wr.length c28_1, .slice A28_2 x2.lv.length c28_2, .int .i64 x2.t.1, .int .i64 x2.t.2.1, .bool x2.t.2.2, .int .i64 x2.pd, .int .i64 x2.x.1, .int .i64 x2.x.2.1, .bool x2.x.2.2.1, .int .i64 x2.x.2.2.2, .bool x2.hl, .slice A28_3 x2.seen.length c28_3] F28, ow wB w27.heap.size w27'.heap.size x0 [.slice A27_0 x0.mem.length c27_0, .slice A27_1 x0.gs.length c27_1, .slice A27_2 x0.outs.length c27_2, .int .i64 x0.pd] F27, vr b26 [.slice A25_0 y0.mem.length c25_0, .slice A25_1 y0.gs.length c25_1, .slice A25_2 y0.outs.length c25_2, .int .i64 y0.pd], ow wB w25.heap.size w25'.heap.size (wB.top 1 y0) [.slice A25_0 y0.mem.length c25_0, .slice A25_1 y0.gs.length c25_1, .slice A25_2 y0.outs.length c25_2, .int .i64 y0.pd] F25, vr b24 [.slice A23_0 x2.prog.length c23_0, .int .i64 x2.a, .int .i64 x2.pc, .slice A23_1 x2.wr.length c23_1, .slice A23_2 x2.lv.length c23_2, .int .i64 x2.t.1, .int .i64 x2.t.2.1, .bool x2.t.2.2, .int .i64 x2.pd, .int .i64 x2.x.1, .int .i64 x2.x.2.1, .bool x2.x.2.2.1, .int .i64 x2.x.2.2.2, .bool x2.hl, .slice A23_3 x2.seen.length c23_3], ow wG w23.heap.size w23'.heap.size (wG.top t29 x2) [.slice A23_0 x2.prog.length c23_0, .int .i64 x2.a, .int .i64 x2.pc, .slice A23_1 x2.wr.length c23_1, .slice A23_2 x2.lv.length c23_2, .int .i64 x2.t.1, .int .i64 x2.t.2.1, .bool x2.t.2.2, .int .i64 x2.pd, .int .i64 x2.x.1, .int .i64 x2.x.2.1, .bool x2.x.2.2.1, .int .i64 x2.x.2.2.2, .bool x2.hl, .slice A23_3 x2.seen.length c23_3] F23, vr b22 [.slice A21_0 x0.mem.length c21_0, .slice A21_1 x0.gs.length c21_1, .slice A21_2 x0.outs.length c21_2, .int .i64 x0.pd], ow wB w21.heap.size w21'.heap.size (wB.top 1 x0) [.slice A21_0 x0.mem.length c21_0, .slice A21_1 x0.gs.length c21_1, .slice A21_2 x0.outs.length c21_2, .int .i64 x0.pd] F21, vr y20_29 [.slice y20_20 y0.mem.length y20_21, .slice y20_22 y0.gs.length y20_23, .slice y20_24 y0.outs.length y20_25, .int .i64 y0.pd], ow wB y20_27 y20_28 y0 [.slice y20_20 y0.mem.length y20_21, .slice y20_22 y0.gs.length y20_23, .slice y20_24 y0.outs.length y20_25, .int .i64 y0.pd] y20_26, ow wG y20_18 y20_19 x2 [.slice y20_9 x2.prog.length y20_10, .int .i64 x2.a, .int .i64 x2.pc, .slice y20_11 x2.wr.length y20_12, .slice y20_13 x2.lv.length y20_14, .int .i64 x2.t.1, .int .i64 x2.t.2.1, .bool x2.t.2.2, .int .i64 x2.pd, .int .i64 x2.x.1, .int .i64 x2.x.2.1, .bool x2.x.2.2.1, .int .i64 x2.x.2.2.2, .bool x2.hl, .slice y20_15 x2.seen.length y20_16] y20_17, ow wB y20_7 y20_8 x0 [.slice y20_0 x0.mem.length y20_1, .slice y20_2 x0.gs.length y20_3, .slice y20_4 x0.outs.length y20_5, .int .i64 x0.pd] y20_6, vr b2 [.slice h2A0 x2.prog.length h2K0, .int .i64 x2.a, .int .i64 x2.pc, .slice h2A1 x2.wr.length h2K1, .slice h2A2 x2.lv.length h2K2, .int .i64 x2.t.1, .int .i64 x2.t.2.1, .bool x2.t.2.2, .int .i64 x2.pd, .int .i64 x2.x.1, .int .i64 x2.x.2.1, .bool x2.x.2.2.1, .int .i64 x2.x.2.2.2, .bool x2.hl, .slice h2A3 x2.seen.length h2K3], vr b1 [.slice h0A0 x0.mem.length h0K0, .slice h0A1 x0.gs.length h0K1, .slice h0A2 x0.outs.length h0K2, .int .i64 x0.pd]]) ?_ ?_
      · refine Sx.C.draw (.take 0 (.take 2 (.take 3 (.two 1 (.two 4 (.two 5 (.alone 6 (.alone 7 .nil)) 6 (.alone 5 (.alone 7 .nil))) 6 (.alone 4 (.alone 5 (.alone 7 .nil)))) 6 (.alone 1 (.alone 4 (.alone 5 (.alone 7 .nil)))))))) [vr b2 [.slice h2A0 x2.prog.length h2K0, .int .i64 x2.a, .int .i64 x2.pc, .slice h2A1 x2.wr.length h2K1, .slice h2A2 x2.lv.length h2K2, .int .i64 x2.t.1, .int .i64 x2.t.2.1, .bool x2.t.2.2, .int .i64 x2.pd, .int .i64 x2.x.1, .int .i64 x2.x.2.1, .bool x2.x.2.2.1, .int .i64 x2.x.2.2.2, .bool x2.hl, .slice h2A3 x2.seen.length h2K3], vr b1 [.slice h0A0 x0.mem.length h0K0, .slice h0A1 x0.gs.length h0K1, .slice h0A2 x0.outs.length h0K2, .int .i64 x0.pd]] (fun w S => St.pick S [12, 13] _ rfl (by decide)) (by kernel_rfl) (by kernel_rfl) (by kernel_rfl) ?_
        refine Sx.GT.ld 39 (.tmp 3) b1 0 1 [.slice h0A0 x0.mem.length h0K0, .slice h0A1 x0.gs.length h0K1, .slice h0A2 x0.outs.length h0K2, .int .i64 x0.pd] [.slice h0A0 x0.mem.length h0K0, .slice h0A1 x0.gs.length h0K1, .slice h0A2 x0.outs.length h0K2, .int .i64 x0.pd] 0 (by rfl) (by rfl) (by kernel_rfl) (by kernel_rfl) (by rfl) (by kernel_rfl) (by kernel_rfl) (by kernel_rfl) ?_
        refine Sx.GT.pure (.int .i64 x1) 2 (by rfl) (by kernel_rfl) (fun w => by kernel_rfl) ?_
        refine Sx.GT.ld 62 (.tmp 5) b2 0 0 [.slice h2A0 x2.prog.length h2K0, .int .i64 x2.a, .int .i64 x2.pc, .slice h2A1 x2.wr.length h2K1, .slice h2A2 x2.lv.length h2K2, .int .i64 x2.t.1, .int .i64 x2.t.2.1, .bool x2.t.2.2, .int .i64 x2.pd, .int .i64 x2.x.1, .int .i64 x2.x.2.1, .bool x2.x.2.2.1, .int .i64 x2.x.2.2.2, .bool x2.hl, .slice h2A3 x2.seen.length h2K3] [.slice h2A0 x2.prog.length h2K0, .int .i64 x2.a, .int .i64 x2.pc, .slice h2A1 x2.wr.length h2K1, .slice h2A2 x2.lv.length h2K2, .int .i64 x2.t.1, .int .i64 x2.t.2.1, .bool x2.t.2.2, .int .i64 x2.pd, .int .i64 x2.x.1, .int .i64 x2.x.2.1, .bool x2.x.2.2.1, .int .i64 x2.x.2.2.2, .bool x2.hl, .slice h2A3 x2.seen.length h2K3] 3 (by rfl) (by rfl) (by kernel_rfl) (by kernel_rfl) (by rfl) (by kernel_rfl) (by kernel_rfl) (by kernel_rfl) ?_
        refine Sx.GT.two ?_ ?_
        · refine Sx.Alone.call 20 #[.agg #[.slice h0A0 x0.mem.length h0K0, .slice h0A1 x0.gs.length h0K1, .slice h0A2 x0.outs.length h0K2, .int .i64 x0.pd]] (by rfl) (by kernel_rfl) (fun w => by kernel_rfl) (fun w33 S => (Kit.kto_Bare x0 _ _ hc0 (St.old S h0R)).mono fun e w33' hp => ?_)
          obtain ⟨cs, F, rfl, ho, hF, hb⟩ := hp
          obtain ⟨P33_0, P33_1, P33_2, rfl, f33_0, f33_1, f33_2⟩ := wB_rd (wB.reads ho)
          obtain ⟨A33_0, c33_0, e33_0, -⟩ := lst_val f33_0
          subst e33_0
          obtain ⟨A33_1, c33_1, e33_1, -⟩ := lst_val f33_1
          subst e33_1
          obtain ⟨A33_2, c33_2, e33_2, -⟩ := lst_val f33_2
          subst e33_2
          generalize F = F33 at ho hF
          refine ⟨_, _, rfl, (St.got S hb ho hF), (fun w S => St.pick S [13, 14] _ rfl (by decide)), ?_⟩
          clear S hb ho hF f33_0 f33_1 f33_2
          refine Sx.GT.two ?_ ?_
          · refine Sx.Alone.call 29 #[.agg #[.slice h2A0 x2.prog.length h2K0, .int .i64 x2.a, .int .i64 x2.pc, .slice h2A1 x2.wr.length h2K1, .slice h2A2 x2.lv.length h2K2, .int .i64 x2.t.1, .int .i64 x2.t.2.1, .bool x2.t.2.2, .int .i64 x2.pd, .int .i64 x2.x.1, .int .i64 x2.x.2.1, .bool x2.x.2.2.1, .int .i64 x2.x.2.2.2, .bool x2.hl, .slice h2A3 x2.seen.length h2K3]] (by rfl) (by kernel_rfl) (fun w => by kernel_rfl) (fun w34 S => (Kit.kto_Guest x2 _ _ hc2 (St.old S h2R)).mono fun e w34' hp => ?_)
            obtain ⟨cs, F, rfl, ho, hF, hb⟩ := hp
            obtain ⟨P34_0, P34_1, P34_2, P34_3, rfl, f34_0, f34_1, f34_2, f34_3⟩ := wG_rd (wG.reads ho)
            obtain ⟨A34_0, c34_0, e34_0, -⟩ := lst_val f34_0
            subst e34_0
            obtain ⟨A34_1, c34_1, e34_1, -⟩ := lst_val f34_1
            subst e34_1
            obtain ⟨A34_2, c34_2, e34_2, -⟩ := lst_val f34_2
            subst e34_2
            obtain ⟨A34_3, c34_3, e34_3, -⟩ := lst_val f34_3
            subst e34_3
            generalize F = F34 at ho hF
            refine ⟨_, _, rfl, (St.got S hb ho hF), (fun w S => St.pick S [14, 15] _ rfl (by decide)), ?_⟩
            clear S hb ho hF f34_0 f34_1 f34_2 f34_3
            refine Sx.GT.two ?_ ?_
            · refine Sx.Alone.call 30 #[.agg #[.slice A33_0 x0.mem.length c33_0, .slice A33_1 x0.gs.length c33_1, .slice A33_2 x0.outs.length c33_2, .int .i64 x0.pd], .int .i64 x1, .agg #[.slice A34_0 x2.prog.length c34_0, .int .i64 x2.a, .int .i64 x2.pc, .slice A34_1 x2.wr.length c34_1, .slice A34_2 x2.lv.length c34_2, .int .i64 x2.t.1, .int .i64 x2.t.2.1, .bool x2.t.2.2, .int .i64 x2.pd, .int .i64 x2.x.1, .int .i64 x2.x.2.1, .bool x2.x.2.2.1, .int .i64 x2.x.2.2.2, .bool x2.hl, .slice A34_3 x2.seen.length c34_3]] (by rfl) (by kernel_rfl) (fun w => by kernel_rfl) (fun w35 S => (((impl_withg x0 _ x1 x2 _ _ hw0 hc0 (St.reads S 1 rfl) hw1 hw2 hc2 (St.reads S 0 rfl)).mono fun e w' h => hy0 ▸ h)).mono fun e w35' hp => ?_)
              obtain ⟨cs, F, rfl, ho, hF, hb⟩ := hp
              obtain ⟨P35_0, P35_1, P35_2, rfl, f35_0, f35_1, f35_2⟩ := wB_rd (wB.reads ho)
              obtain ⟨A35_0, c35_0, e35_0, -⟩ := lst_val f35_0
              subst e35_0
              obtain ⟨A35_1, c35_1, e35_1, -⟩ := lst_val f35_1
              subst e35_1
              obtain ⟨A35_2, c35_2, e35_2, -⟩ := lst_val f35_2
              subst e35_2
              generalize F = F35 at ho hF
              refine ⟨_, _, rfl, (St.got S hb ho hF), (fun w S => St.pick S [15, 16] _ rfl (by decide)), ?_⟩
              clear S hb ho hF f35_0 f35_1 f35_2
              refine Sx.GT.alone (Sx.Alone.alloc 28 (.agg #[.slice none 0 0, .slice none 0 0, .slice none 0 0, .int .i64 0]) [.slice none 0 0, .slice none 0 0, .slice none 0 0, .int .i64 0] (by rfl) (by rfl) (by kernel_rfl) (fun w => by kernel_rfl) (by kernel_rfl) (fun w S => St.pick S [15, 16] _ rfl (by decide)) (fun b36 => ?_))
              refine Sx.GT.alone (Sx.Alone.sto 28 (.tmp 15) (.tmp 84) b36 0 0 [.slice none 0 0, .slice none 0 0, .slice none 0 0, .int .i64 0] [.slice A35_0 y0.mem.length c35_0, .slice A35_1 y0.gs.length c35_1, .slice A35_2 y0.outs.length c35_2, .int .i64 y0.pd] [.slice A35_0 y0.mem.length c35_0, .slice A35_1 y0.gs.length c35_1, .slice A35_2 y0.outs.length c35_2, .int .i64 y0.pd] [vr b36 [.slice A35_0 y0.mem.length c35_0, .slice A35_1 y0.gs.length c35_1, .slice A35_2 y0.outs.length c35_2, .int .i64 y0.pd], ow wB w35.heap.size w35'.heap.size y0 [.slice A35_0 y0.mem.length c35_0, .slice A35_1 y0.gs.length c35_1, .slice A35_2 y0.outs.length c35_2, .int .i64 y0.pd] F35, ow wG w34.heap.size w34'.heap.size x2 [.slice A34_0 x2.prog.length c34_0, .int .i64 x2.a, .int .i64 x2.pc, .slice A34_1 x2.wr.length c34_1, .slice A34_2 x2.lv.length c34_2, .int .i64 x2.t.1, .int .i64 x2.t.2.1, .bool x2.t.2.2, .int .i64 x2.pd, .int .i64 x2.x.1, .int .i64 x2.x.2.1, .bool x2.x.2.2.1, .int .i64 x2.x.2.2.2, .bool x2.hl, .slice A34_3 x2.seen.length c34_3] F34, ow wB w33.heap.size w33'.heap.size x0 [.slice A33_0 x0.mem.length c33_0, .slice A33_1 x0.gs.length c33_1, .slice A33_2 x0.outs.length c33_2, .int .i64 x0.pd] F33, ow wG w28.heap.size w28'.heap.size x2 [.slice A28_0 x2.prog.length c28_0, .int .i64 x2.a, .int .i64 x2.pc, .slice A28_1 x2.wr.length c28_1, .slice A28_2 x2.lv.length c28_2, .int .i64 x2.t.1, .int .i64 x2.t.2.1, .bool x2.t.2.2, .int .i64 x2.pd, .int .i64 x2.x.1, .int .i64 x2.x.2.1, .bool x2.x.2.2.1, .int .i64 x2.x.2.2.2, .bool x2.hl, .slice A28_3 x2.seen.length c28_3] F28, ow wB w27.heap.size w27'.heap.size x0 [.slice A27_0 x0.mem.length c27_0, .slice A27_1 x0.gs.length c27_1, .slice A27_2 x0.outs.length c27_2, .int .i64 x0.pd] F27, vr b26 [.slice A25_0 y0.mem.length c25_0, .slice A25_1 y0.gs.length c25_1, .slice A25_2 y0.outs.length c25_2, .int .i64 y0.pd], ow wB w25.heap.size w25'.heap.size (wB.top 1 y0) [.slice A25_0 y0.mem.length c25_0, .slice A25_1 y0.gs.length c25_1, .slice A25_2 y0.outs.length c25_2, .int .i64 y0.pd] F25, vr b24 [.slice A23_0 x2.prog.length c23_0, .int .i64 x2.a, .int .i64 x2.pc, .slice A23_1 x2.wr.length c23_1, .slice A23_2 x2.lv.length c23_2, .int .i64 x2.t.1, .int .i64 x2.t.2.1, .bool x2.t.2.2, .int .i64 x2.pd, .int .i64 x2.x.1, .int .i64 x2.x.2.1, .bool x2.x.2.2.1, .int .i64 x2.x.2.2.2, .bool x2.hl, .slice A23_3 x2.seen.length c23_3], ow wG w23.heap.size w23'.heap.size (wG.top t29 x2) [.slice A23_0 x2.prog.length c23_0, .int .i64 x2.a, .int .i64 x2.pc, .slice A23_1 x2.wr.length c23_1, .slice A23_2 x2.lv.length c23_2, .int .i64 x2.t.1, .int .i64 x2.t.2.1, .bool x2.t.2.2, .int .i64 x2.pd, .int .i64 x2.x.1, .int .i64 x2.x.2.1, .bool x2.x.2.2.1, .int .i64 x2.x.2.2.2, .bool x2.hl, .slice A23_3 x2.seen.length c23_3] F23, vr b22 [.slice A21_0 x0.mem.length c21_0, .slice A21_1 x0.gs.length c21_1, .slice A21_2 x0.outs.length c21_2, .int .i64 x0.pd], ow wB w21.heap.size w21'.heap.size (wB.top 1 x0) [.slice A21_0 x0.mem.length c21_0, .slice A21_1 x0.gs.length c21_1, .slice A21_2 x0.outs.length c21_2, .int .i64 x0.pd] F21, vr y20_29 [.slice y20_20 y0.mem.length y20_21, .slice y20_22 y0.gs.length y20_23, .slice y20_24 y0.outs.length y20_25, .int .i64 y0.pd], ow wB y20_27 y20_28 y0 [.slice y20_20 y0.mem.length y20_21, .slice y20_22 y0.gs.length y20_23, .slice y20_24 y0.outs.length y20_25, .int .i64 y0.pd] y20_26, ow wG y20_18 y20_19 x2 [.slice y20_9 x2.prog.length y20_10, .int .i64 x2.a, .int .i64 x2.pc, .slice y20_11 x2.wr.length y20_12, .slice y20_13 x2.lv.length y20_14, .int .i64 x2.t.1, .int .i64 x2.t.2.1, .bool x2.t.2.2, .int .i64 x2.pd, .int .i64 x2.x.1, .int .i64 x2.x.2.1, .bool x2.x.2.2.1, .int .i64 x2.x.2.2.2, .bool x2.hl, .slice y20_15 x2.seen.length y20_16] y20_17, ow wB y20_7 y20_8 x0 [.slice y20_0 x0.mem.length y20_1, .slice y20_2 x0.gs.length y20_3, .slice y20_4 x0.outs.length y20_5, .int .i64 x0.pd] y20_6, vr b2 [.slice h2A0 x2.prog.length h2K0, .int .i64 x2.a, .int .i64 x2.pc, .slice h2A1 x2.wr.length h2K1, .slice h2A2 x2.lv.length h2K2, .int .i64 x2.t.1, .int .i64 x2.t.2.1, .bool x2.t.2.2, .int .i64 x2.pd, .int .i64 x2.x.1, .int .i64 x2.x.2.1, .bool x2.x.2.2.1, .int .i64 x2.x.2.2.2, .bool x2.hl, .slice h2A3 x2.seen.length h2K3], vr b1 [.slice h0A0 x0.mem.length h0K0, .slice h0A1 x0.gs.length h0K1, .slice h0A2 x0.outs.length h0K2, .int .i64 x0.pd]] (by rfl) (by rfl) (by kernel_rfl) (by kernel_rfl) (by kernel_rfl) (by rfl) (by kernel_rfl) (by rfl) (by kernel_rfl) (by kernel_rfl) (by kernel_rfl) (fun w S => St.pick S [16, 17] _ rfl (by decide)) ?_)
              exact Sx.GT.nil (fun a w' hA S => ⟨rfl, A33_0, c33_0, A33_1, c33_1, A33_2, c33_2, F33, w33.heap.size, w33'.heap.size, A34_0, c34_0, A34_1, c34_1, A34_2, c34_2, A34_3, c34_3, F34, w34.heap.size, w34'.heap.size, A35_0, c35_0, A35_1, c35_1, A35_2, c35_2, F35, w35.heap.size, w35'.heap.size, b36, (Sx.Ag.and hA (Sx.Ag.and hA (Sx.Ag.and hA (Sx.Ag.and hA (Sx.Ag.and hA (Sx.Ag.and hA (Sx.Ag.none hA) _ _ (by kernel_rfl)) _ _ (by kernel_rfl)) _ _ (by kernel_rfl)) _ _ (by kernel_rfl)) _ _ (by kernel_rfl)) _ _ (by kernel_rfl)), St.pick S [0, 1, 2, 3, 4, 5, 6, 7, 8, 9, 10, 11, 12, 13, 14, 15, 16, 17] _ rfl (by decide)⟩)
            · refine Sx.Alone.alloc 28 (.agg #[.slice none 0 0, .slice none 0 0, .slice none 0 0, .int .i64 0]) [.slice none 0 0, .slice none 0 0, .slice none 0 0, .int .i64 0] (by rfl) (by rfl) (by kernel_rfl) (fun w => by kernel_rfl) (by kernel_rfl) (fun w S => St.pick S [14, 15] _ rfl (by decide)) (fun b37 => ?_)
              refine Sx.GT.alone (Sx.Alone.call 30 #[.agg #[.slice A33_0 x0.mem.length c33_0, .slice A33_1 x0.gs.length c33_1, .slice A33_2 x0.outs.length c33_2, .int .i64 x0.pd], .int .i64 x1, .agg #[.slice A34_0 x2.prog.length c34_0, .int .i64 x2.a, .int .i64 x2.pc, .slice A34_1 x2.wr.length c34_1, .slice A34_2 x2.lv.length c34_2, .int .i64 x2.t.1, .int .i64 x2.t.2.1, .bool x2.t.2.2, .int .i64 x2.pd, .int .i64 x2.x.1, .int .i64 x2.x.2.1, .bool x2.x.2.2.1, .int .i64 x2.x.2.2.2, .bool x2.hl, .slice A34_3 x2.seen.length c34_3]] (by rfl) (by kernel_rfl) (fun w => by kernel_rfl) (fun w38 S => (((impl_withg x0 _ x1 x2 _ _ hw0 hc0 (St.reads S 2 rfl) hw1 hw2 hc2 (St.reads S 1 rfl)).mono fun e w' h => hy0 ▸ h)).mono fun e w38' hp => ?_))
              obtain ⟨cs, F, rfl, ho, hF, hb⟩ := hp
              obtain ⟨P38_0, P38_1, P38_2, rfl, f38_0, f38_1, f38_2⟩ := wB_rd (wB.reads ho)
              obtain ⟨A38_0, c38_0, e38_0, -⟩ := lst_val f38_0
              subst e38_0
              obtain ⟨A38_1, c38_1, e38_1, -⟩ := lst_val f38_1
              subst e38_1
              obtain ⟨A38_2, c38_2, e38_2, -⟩ := lst_val f38_2
              subst e38_2
              generalize F = F38 at ho hF
              refine ⟨_, _, rfl, (St.got S hb ho hF), (fun w S => St.pick S [16, 17] _ rfl (by decide)), ?_⟩
              clear S hb ho hF f38_0 f38_1 f38_2
              refine Sx.GT.alone (Sx.Alone.sto 28 (.tmp 15) (.tmp 84) b37 0 1 [.slice none 0 0, .slice none 0 0, .slice none 0 0, .int .i64 0] [.slice A38_0 y0.mem.length c38_0, .slice A38_1 y0.gs.length c38_1, .slice A38_2 y0.outs.length c38_2, .int .i64 y0.pd] [.slice A38_0 y0.mem.length c38_0, .slice A38_1 y0.gs.length c38_1, .slice A38_2 y0.outs.length c38_2, .int .i64 y0.pd] [ow wB w38.heap.size w38'.heap.size y0 [.slice A38_0 y0.mem.length c38_0, .slice A38_1 y0.gs.length c38_1, .slice A38_2 y0.outs.length c38_2, .int .i64 y0.pd] F38, vr b37 [.slice A38_0 y0.mem.length c38_0, .slice A38_1 y0.gs.length c38_1, .slice A38_2 y0.outs.length c38_2, .int .i64 y0.pd], ow wG w34.heap.size w34'.heap.size x2 [.slice A34_0 x2.prog.length c34_0, .int .i64 x2.a, .int .i64 x2.pc, .slice A34_1 x2.wr.length c34_1, .slice A34_2 x2.lv.length c34_2, .int .i64 x2.t.1, .int .i64 x2.t.2.1, .bool x2.t.2.2, .int .i64 x2.pd, .int .i64 x2.x.1, .int .i64 x2.x.2.1, .bool x2.x.2.2.1, .int .i64 x2.x.2.2.2, .bool x2.hl, .slice A34_3 x2.seen.length c34_3] F34, ow wB w33.heap.size w33'.heap.size x0 [.slice A33_0 x0.mem.length c33_0, .slice A33_1 x0.gs.length c33_1, .slice A33_2 x0.outs.length c33_2, .int .i64 x0.pd] F33, ow wG w28.heap.size w28'.heap.size x2 [.slice A28_0 x2.prog.length c28_0, .int .i64 x2.a, .int .i64 x2.pc, .slice A28_1 x2.wr.length c28_1, .slice A28_2 x2.lv.length c28_2, .int .i64 x2.t.1, .int .i64 x2.t.2.1, .bool x2.t.2.2, .int .i64 x2.pd, .int .i64 x2.x.1, .int .i64 x2.x.2.1, .bool x2.x.2.2.1, .int .i64 x2.x.2.2.2, .bool x2.hl, .slice A28_3 x2.seen.length c28_3] F28, ow wB w27.heap.size w27'.heap.size x0 [.slice A27_0 x0.mem.length c27_0, .slice A27_1 x0.gs.length c27_1, .slice A27_2 x0.outs.length c27_2, .int .i64 x0.pd] F27, vr b26 [.slice A25_0 y0.mem.length c25_0, .slice A25_1 y0.gs.length c25_1, .slice A25_2 y0.outs.length c25_2, .int .i64 y0.pd], ow wB w25.heap.size w25'.heap.size (wB.top 1 y0) [.slice A25_0 y0.mem.length c25_0, .slice A25_1 y0.gs.length c25_1, .slice A25_2 y0.outs.length c25_2, .int .i64 y0.pd] F25, vr b24 [.slice A23_0 x2.prog.length c23_0, .int .i64 x2.a, .int .i64 x2.pc, .slice A23_1 x2.wr.length c23_1, .slice A23_2 x2.lv.length c23_2, .int .i64 x2.t.1, .int .i64 x2.t.2.1, .bool x2.t.2.2, .int .i64 x2.pd, .int .i64 x2.x.1, .int .i64 x2.x.2.1, .bool x2.x.2.2.1, .int .i64 x2.x.2.2.2, .bool x2.hl, .slice A23_3 x2.seen.length c23_3], ow wG w23.heap.size w23'.heap.size (wG.top t29 x2) [.slice A23_0 x2.prog.length c23_0, .int .i64 x2.a, .int .i64 x2.pc, .slice A23_1 x2.wr.length c23_1, .slice A23_2 x2.lv.length c23_2, .int .i64 x2.t.1, .int .i64 x2.t.2.1, .bool x2.t.2.2, .int .i64 x2.pd, .int .i64 x2.x.1, .int .i64 x2.x.2.1, .bool x2.x.2.2.1, .int .i64 x2.x.2.2.2, .bool x2.hl, .slice A23_3 x2.seen.length c23_3] F23, vr b22 [.slice A21_0 x0.mem.length c21_0, .slice A21_1 x0.gs.length c21_1, .slice A21_2 x0.outs.length c21_2, .int .i64 x0.pd], ow wB w21.heap.size w21'.heap.size (wB.top 1 x0) [.slice A21_0 x0.mem.length c21_0, .slice A21_1 x0.gs.length c21_1, .slice A21_2 x0.outs.length c21_2, .int .i64 x0.pd] F21, vr y20_29 [.slice y20_20 y0.mem.length y20_21, .slice y20_22 y0.gs.length y20_23, .slice y20_24 y0.outs.length y20_25, .int .i64 y0.pd], ow wB y20_27 y20_28 y0 [.slice y20_20 y0.mem.length y20_21, .slice y20_22 y0.gs.length y20_23, .slice y20_24 y0.outs.length y20_25, .int .i64 y0.pd] y20_26, ow wG y20_18 y20_19 x2 [.slice y20_9 x2.prog.length y20_10, .int .i64 x2.a, .int .i64 x2.pc, .slice y20_11 x2.wr.length y20_12, .slice y20_13 x2.lv.length y20_14, .int .i64 x2.t.1, .int .i64 x2.t.2.1, .bool x2.t.2.2, .int .i64 x2.pd, .int .i64 x2.x.1, .int .i64 x2.x.2.1, .bool x2.x.2.2.1, .int .i64 x2.x.2.2.2, .bool x2.hl, .slice y20_15 x2.seen.length y20_16] y20_17, ow wB y20_7 y20_8 x0 [.slice y20_0 x0.mem.length y20_1, .slice y20_2 x0.gs.length y20_3, .slice y20_4 x0.outs.length y20_5, .int .i64 x0.pd] y20_6, vr b2 [.slice h2A0 x2.prog.length h2K0, .int .i64 x2.a, .int .i64 x2.pc, .slice h2A1 x2.wr.length h2K1, .slice h2A2 x2.lv.length h2K2, .int .i64 x2.t.1, .int .i64 x2.t.2.1, .bool x2.t.2.2, .int .i64 x2.pd, .int .i64 x2.x.1, .int .i64 x2.x.2.1, .bool x2.x.2.2.1, .int .i64 x2.x.2.2.2, .bool x2.hl, .slice h2A3 x2.seen.length h2K3], vr b1 [.slice h0A0 x0.mem.length h0K0, .slice h0A1 x0.gs.length h0K1, .slice h0A2 x0.outs.length h0K2, .int .i64 x0.pd]] (by rfl) (by rfl) (by kernel_rfl) (by kernel_rfl) (by kernel_rfl) (by rfl) (by kernel_rfl) (by rfl) (by kernel_rfl) (by kernel_rfl) (by kernel_rfl) (fun w S => St.pick S [16, 17] _ rfl (by decide)) ?_)
              exact Sx.GT.nil (fun a w' hA S => ⟨rfl, A33_0, c33_0, A33_1, c33_1, A33_2, c33_2, F33, w33.heap.size, w33'.heap.size, A34_0, c34_0, A34_1, c34_1, A34_2, c34_2, A34_3, c34_3, F34, w34.heap.size, w34'.heap.size, A38_0, c38_0, A38_1, c38_1, A38_2, c38_2, F38, w38.heap.size, w38'.heap.size, b37, (Sx.Ag.and hA (Sx.Ag.and hA (Sx.Ag.and hA (Sx.Ag.and hA (Sx.Ag.and hA (Sx.Ag.and hA (Sx.Ag.none hA) _ _ (by kernel_rfl)) _ _ (by kernel_rfl)) _ _ (by kernel_rfl)) _ _ (by kernel_rfl)) _ _ (by kernel_rfl)) _ _ (by kernel_rfl)), St.pick S [1, 0, 2, 3, 4, 5, 6, 7, 8, 9, 10, 11, 12, 13, 14, 15, 16, 17] _ rfl (by decide)⟩)
          · refine Sx.Alone.alloc 28 (.agg #[.slice none 0 0, .slice none 0 0, .slice none 0 0, .int .i64 0]) [.slice none 0 0, .slice none 0 0, .slice none 0 0, .int .i64 0] (by rfl) (by rfl) (by kernel_rfl) (fun w => by kernel_rfl) (by kernel_rfl) (fun w S => St.pick S [13, 14] _ rfl (by decide)) (fun b39 => ?_)
            refine Sx.GT.alone (Sx.Alone.call 29 #[.agg #[.slice h2A0 x2.prog.length h2K0, .int .i64 x2.a, .int .i64 x2.pc, .slice h2A1 x2.wr.length h2K1, .slice h2A2 x2.lv.length h2K2, .int .i64 x2.t.1, .int .i64 x2.t.2.1, .bool x2.t.2.2, .int .i64 x2.pd, .int .i64 x2.x.1, .int .i64 x2.x.2.1, .bool x2.x.2.2.1, .int .i64 x2.x.2.2.2, .bool x2.hl, .slice h2A3 x2.seen.length h2K3]] (by rfl) (by kernel_rfl) (fun w => by kernel_rfl) (fun w40 S => (Kit.kto_Guest x2 _ _ hc2 (St.old S h2R)).mono fun e w40' hp => ?_))
            obtain ⟨cs, F, rfl, ho, hF, hb⟩ := hp
            obtain ⟨P40_0, P40_1, P40_2, P40_3, rfl, f40_0, f40_1, f40_2, f40_3⟩ := wG_rd (wG.reads ho)
            obtain ⟨A40_0, c40_0, e40_0, -⟩ := lst_val f40_0
            subst e40_0
            obtain ⟨A40_1, c40_1, e40_1, -⟩ := lst_val f40_1
            subst e40_1
            obtain ⟨A40_2, c40_2, e40_2, -⟩ := lst_val f40_2
            subst e40_2
            obtain ⟨A40_3, c40_3, e40_3, -⟩ := lst_val f40_3
            subst e40_3
            generalize F = F40 at ho hF
            refine ⟨_, _, rfl, (St.got S hb ho hF), (fun w S => St.pick S [15, 16] _ rfl (by decide)), ?_⟩
            clear S hb ho hF f40_0 f40_1 f40_2 f40_3
            refine Sx.GT.alone (Sx.Alone.call 30 #[.agg #[.slice A33_0 x0.mem.length c33_0, .slice A33_1 x0.gs.length c33_1, .slice A33_2 x0.outs.length c33_2, .int .i64 x0.pd], .int .i64 x1, .agg #[.slice A40_0 x2.prog.length c40_0, .int .i64 x2.a, .int .i64 x2.pc, .slice A40_1 x2.wr.length c40_1, .slice A40_2 x2.lv.length c40_2, .int .i64 x2.t.1, .int .i64 x2.t.2.1, .bool x2.t.2.2, .int .i64 x2.pd, .int .i64 x2.x.1, .int .i64 x2.x.2.1, .bool x2.x.2.2.1, .int .i64 x2.x.2.2.2, .bool x2.hl, .slice A40_3 x2.seen.length c40_3]] (by rfl) (by kernel_rfl) (fun w => by kernel_rfl) (fun w41 S => (((impl_withg x0 _ x1 x2 _ _ hw0 hc0 (St.reads S 2 rfl) hw1 hw2 hc2 (St.reads S 0 rfl)).mono fun e w' h => hy0 ▸ h)).mono fun e w41' hp => ?_))
            obtain ⟨cs, F, rfl, ho, hF, hb⟩ := hp
            obtain ⟨P41_0, P41_1, P41_2, rfl, f41_0, f41_1, f41_2⟩ := wB_rd (wB.reads ho)
            obtain ⟨A41_0, c41_0, e41_0, -⟩ := lst_val f41_0
            subst e41_0
            obtain ⟨A41_1, c41_1, e41_1, -⟩ := lst_val f41_1
            subst e41_1
            obtain ⟨A41_2, c41_2, e41_2, -⟩ := lst_val f41_2
            subst e41_2
            generalize F = F41 at ho hF
            refine ⟨_, _, rfl, (St.got S hb ho hF), (fun w S => St.pick S [16, 17] _ rfl (by decide)), ?_⟩
            clear S hb ho hF f41_0 f41_1 f41_2
            refine Sx.GT.alone (Sx.Alone.sto 28 (.tmp 15) (.tmp 84) b39 0 2 [.slice none 0 0, .slice none 0 0, .slice none 0 0, .int .i64 0] [.slice A41_0 y0.mem.length c41_0, .slice A41_1 y0.gs.length c41_1, .slice A41_2 y0.outs.length c41_2, .int .i64 y0.pd] [.slice A41_0 y0.mem.length c41_0, .slice A41_1 y0.gs.length c41_1, .slice A41_2 y0.outs.length c41_2, .int .i64 y0.pd] [ow wB w41.heap.size w41'.heap.size y0 [.slice A41_0 y0.mem.length c41_0, .slice A41_1 y0.gs.length c41_1, .slice A41_2 y0.outs.length c41_2, .int .i64 y0.pd] F41, ow wG w40.heap.size w40'.heap.size x2 [.slice A40_0 x2.prog.length c40_0, .int .i64 x2.a, .int .i64 x2.pc, .slice A40_1 x2.wr.length c40_1, .slice A40_2 x2.lv.length c40_2, .int .i64 x2.t.1, .int .i64 x2.t.2.1, .bool x2.t.2.2, .int .i64 x2.pd, .int .i64 x2.x.1, .int .i64 x2.x.2.1, .bool x2.x.2.2.1, .int .i64 x2.x.2.2.2, .bool x2.hl, .slice A40_3 x2.seen.length c40_3] F40, vr b39 [.slice A41_0 y0.mem.length c41_0, .slice A41_1 y0.gs.length c41_1, .slice A41_2 y0.outs.length c41_2, .int .i64 y0.pd], ow wB w33.heap.size w33'.heap.size x0 [.slice A33_0 x0.mem.length c33_0, .slice A33_1 x0.gs.length c33_1, .slice A33_2 x0.outs.length c33_2, .int .i64 x0.pd] F33, ow wG w28.heap.size w28'.heap.size x2 [.slice A28_0 x2.prog.length c28_0, .int .i64 x2.a, .int .i64 x2.pc, .slice A28_1 x2.wr.length c28_1, .slice A28_2 x2.lv.length c28_2, .int .i64 x2.t.1, .int .i64 x2.t.2.1, .bool x2.t.2.2, .int .i64 x2.pd, .int .i64 x2.x.1, .int .i64 x2.x.2.1, .bool x2.x.2.2.1, .int .i64 x2.x.2.2.2, .bool x2.hl, .slice A28_3 x2.seen.length c28_3] F28, ow wB w27.heap.size w27'.heap.size x0 [.slice A27_0 x0.mem.length c27_0, .slice A27_1 x0.gs.length c27_1, .slice A27_2 x0.outs.length c27_2, .int .i64 x0.pd] F27, vr b26 [.slice A25_0 y0.mem.length c25_0, .slice A25_1 y0.gs.length c25_1, .slice A25_2 y0.outs.length c25_2, .int .i64 y0.pd], ow wB w25.heap.size w25'.heap.size (wB.top 1 y0) [.slice A25_0 y0.mem.length c25_0, .slice A25_1 y0.gs.length c25_1, .slice A25_2 y0.outs.length c25_2, .int .i64 y0.pd] F25, vr b24 [.slice A23_0 x2.prog.length c23_0, .int .i64 x2.a, .int .i64 x2.pc, .slice A23_1 x2.wr.length c23_1, .slice A23_2 x2.lv.length c23_2, .int .i64 x2.t.1, .int .i64 x2.t.2.1, .bool x2.t.2.2, .int .i64 x2.pd, .int .i64 x2.x.1, .int .i64 x2.x.2.1, .bool x2.x.2.2.1, .int .i64 x2.x.2.2.2, .bool x2.hl, .slice A23_3 x2.seen.length c23_3], ow wG w23.heap.size w23'.heap.size (wG.top t29 x2) [.slice A23_0 x2.prog.length c23_0, .int .i64 x2.a, .int .i64 x2.pc, .slice A23_1 x2.wr.length c23_1, .slice A23_2 x2.lv.length c23_2, .int .i64 x2.t.1, .int .i64 x2.t.2.1, .bool x2.t.2.2, .int .i64 x2.pd, .int .i64 x2.x.1, .int .i64 x2.x.2.1, .bool x2.x.2.2.1, .int .i64 x2.x.2.2.2, .bool x2.hl, .slice A23_3 x2.seen.length c23_3] F23, vr b22 [.slice A21_0 x0.mem.length c21_0, .slice A21_1 x0.gs.length c21_1, .slice A21_2 x0.outs.length c21_2, .int .i64 x0.pd], ow wB w21.heap.size w21'.heap.size (wB.top 1 x0) [.slice A21_0 x0.mem.length c21_0, .slice A21_1 x0.gs.length c21_1, .slice A21_2 x0.outs.length c21_2, .int .i64 x0.pd] F21, vr y20_29 [.slice y20_20 y0.mem.length y20_21, .slice y20_22 y0.gs.length y20_23, .slice y20_24 y0.outs.length y20_25, .int .i64 y0.pd], ow wB y20_27 y20_28 y0 [.slice y20_20 y0.mem.length y20_21, .slice y20_22 y0.gs.length y20_23, .slice y20_24 y0.outs.length y20_25, .int .i64 y0.pd] y20_26, ow wG y20_18 y20_19 x2 [.slice y20_9 x2.prog.length y20_10, .int .i64 x2.a, .int .i64 x2.pc, .slice y20_11 x2.wr.length y20_12, .slice y20_13 x2.lv.length y20_14, .int .i64 x2.t.1, .int .i64 x2.t.2.1, .bool x2.t.2.2, .int .i64 x2.pd, .int .i64 x2.x.1, .int .i64 x2.x.2.1, .bool x2.x.2.2.1, .int .i64 x2.x.2.2.2, .bool x2.hl, .slice y20_15 x2.seen.length y20_16] y20_17, ow wB y20_7 y20_8 x0 [.slice y20_0 x0.mem.length y20_1, .slice y20_2 x0.gs.length y20_3, .slice y20_4 x0.outs.length y20_5, .int .i64 x0.pd] y20_6, vr b2 [.slice h2A0 x2.prog.length h2K0, .int .i64 x2.a, .int .i64 x2.pc, .slice h2A1 x2.wr.length h2K1, .slice h2A2 x2.lv.length h2K2, .int .i64 x2.t.1, .int .i64 x2.t.2.1, .bool x2.t.2.2, .int .i64 x2.pd, .int .i64 x2.x.1, .int .i64 x2.x.2.1, .bool x2.x.2.2.1, .int .i64 x2.x.2.2.2, .bool x2.hl, .slice h2A3 x2.seen.length h2K3], vr b1 [.slice h0A0 x0.mem.length h0K0, .slice h0A1 x0.gs.length h0K1, .slice h0A2 x0.outs.length h0K2, .int .i64 x0.pd]] (by rfl) (by rfl) (by kernel_rfl) (by kernel_rfl) (by kernel_rfl) (by rfl) (by kernel_rfl) (by rfl) (by kernel_rfl) (by kernel_rfl) (by kernel_rfl) (fun w S => St.pick S [16, 17] _ rfl (by decide)) ?_)
            exact Sx.GT.nil (fun a w' hA S => ⟨rfl, A33_0, c33_0, A33_1, c33_1, A33_2, c33_2, F33, w33.heap.size, w33'.heap.size, A40_0, c40_0, A40_1, c40_1, A40_2, c40_2, A40_3, c40_3, F40, w40.heap.size, w40'.heap.size, A41_0, c41_0, A41_1, c41_1, A41_2, c41_2, F41, w41.heap.size, w41'.heap.size, b39, (Sx.Ag.and hA (Sx.Ag.and hA (Sx.Ag.and hA (Sx.Ag.and hA (Sx.Ag.and hA (Sx.Ag.and hA (Sx.Ag.none hA) _ _ (by kernel_rfl)) _ _ (by kernel_rfl)) _ _ (by kernel_rfl)) _ _ (by kernel_rfl)) _ _ (by kernel_rfl)) _ _ (by kernel_rfl)), St.pick S [2, 0, 1, 3, 4, 5, 6, 7, 8, 9, 10, 11, 12, 13, 14, 15, 16, 17] _ rfl (by decide)⟩)
        · refine Sx.Alone.alloc 28 (.agg #[.slice none 0 0, .slice none 0 0, .slice none 0 0, .int .i64 0]) [.slice none 0 0, .slice none 0 0, .slice none 0 0, .int .i64 0] (by rfl) (by rfl) (by kernel_rfl) (fun w => by kernel_rfl) (by kernel_rfl) (fun w S => St.pick S [12, 13] _ rfl (by decide)) (fun b42 => ?_)
          refine Sx.GT.alone (Sx.Alone.call 20 #[.agg #[.slice h0A0 x0.mem.length h0K0, .slice h0A1 x0.gs.length h0K1, .slice h0A2 x0.outs.length h0K2, .int .i64 x0.pd]] (by rfl) (by kernel_rfl) (fun w => by kernel_rfl) (fun w43 S => (Kit.kto_Bare x0 _ _ hc0 (St.old S h0R)).mono fun e w43' hp => ?_))
          obtain ⟨cs, F, rfl, ho, hF, hb⟩ := hp
          obtain ⟨P43_0, P43_1, P43_2, rfl, f43_0, f43_1, f43_2⟩ := wB_rd (wB.reads ho)
          obtain ⟨A43_0, c43_0, e43_0, -⟩ := lst_val f43_0
          subst e43_0
          obtain ⟨A43_1, c43_1, e43_1, -⟩ := lst_val f43_1
          subst e43_1
          obtain ⟨A43_2, c43_2, e43_2, -⟩ := lst_val f43_2
          subst e43_2
          generalize F = F43 at ho hF
          refine ⟨_, _, rfl, (St.got S hb ho hF), (fun w S => St.pick S [14, 15] _ rfl (by decide)), ?_⟩
          clear S hb ho hF f43_0 f43_1 f43_2
          refine Sx.GT.alone (Sx.Alone.call 29 #[.agg #[.slice h2A0 x2.prog.length h2K0, .int .i64 x2.a, .int .i64 x2.pc, .slice h2A1 x2.wr.length h2K1, .slice h2A2 x2.lv.length h2K2, .int .i64 x2.t.1, .int .i64 x2.t.2.1, .bool x2.t.2.2, .int .i64 x2.pd, .int .i64 x2.x.1, .int .i64 x2.x.2.1, .bool x2.x.2.2.1, .int .i64 x2.x.2.2.2, .bool x2.hl, .slice h2A3 x2.seen.length h2K3]] (by rfl) (by kernel_rfl) (fun w => by kernel_rfl) (fun w44 S => (Kit.kto_Guest x2 _ _ hc2 (St.old S h2R)).mono fun e w44' hp => ?_))
          obtain ⟨cs, F, rfl, ho, hF, hb⟩ := hp
          obtain ⟨P44_0, P44_1, P44_2, P44_3, rfl, f44_0, f44_1, f44_2, f44_3⟩ := wG_rd (wG.reads ho)
          obtain ⟨A44_0, c44_0, e44_0, -⟩ := lst_val f44_0
          subst e44_0
          obtain ⟨A44_1, c44_1, e44_1, -⟩ := lst_val f44_1
          subst e44_1
          obtain ⟨A44_2, c44_2, e44_2, -⟩ := lst_val f44_2
          subst e44_2
          obtain ⟨A44_3, c44_3, e44_3, -⟩ := lst_val f44_3
          subst e44_3
          generalize F = F44 at ho hF
          refine ⟨_, _, rfl, (St.got S hb ho hF), (fun w S => St.pick S [15, 16] _ rfl (by decide)), ?_⟩
          clear S hb ho hF f44_0 f44_1 f44_2 f44_3
          refine Sx.GT.alone (Sx.Alone.call 30 #[.agg #[.slice A43_0 x0.mem.length c43_0, .slice A43_1 x0.gs.length c43_1, .slice A43_2 x0.outs.length c43_2, .int .i64 x0.pd], .int .i64 x1, .agg #[.slice A44_0 x2.prog.length c44_0, .int .i64 x2.a, .int .i64 x2.pc, .slice A44_1 x2.wr.length c44_1, .slice A44_2 x2.lv.length c44_2, .int .i64 x2.t.1, .int .i64 x2.t.2.1, .bool x2.t.2.2, .int .i64 x2.pd, .int .i64 x2.x.1, .int .i64 x2.x.2.1, .bool x2.x.2.2.1, .int .i64 x2.x.2.2.2, .bool x2.hl, .slice A44_3 x2.seen.length c44_3]] (by rfl) (by kernel_rfl) (fun w => by kernel_rfl) (fun w45 S => (((impl_withg x0 _ x1 x2 _ _ hw0 hc0 (St.reads S 1 rfl) hw1 hw2 hc2 (St.reads S 0 rfl)).mono fun e w' h => hy0 ▸ h)).mono fun e w45' hp => ?_))
          obtain ⟨cs, F, rfl, ho, hF, hb⟩ := hp
          obtain ⟨P45_0, P45_1, P45_2, rfl, f45_0, f45_1, f45_2⟩ := wB_rd (wB.reads ho)
          obtain ⟨A45_0, c45_0, e45_0, -⟩ := lst_val f45_0
          subst e45_0
          obtain ⟨A45_1, c45_1, e45_1, -⟩ := lst_val f45_1
          subst e45_1
          obtain ⟨A45_2, c45_2, e45_2, -⟩ := lst_val f45_2
          subst e45_2
          generalize F = F45 at ho hF
          refine ⟨_, _, rfl, (St.got S hb ho hF), (fun w S => St.pick S [16, 17] _ rfl (by decide)), ?_⟩
          clear S hb ho hF f45_0 f45_1 f45_2
          refine Sx.GT.alone (Sx.Alone.sto 28 (.tmp 15) (.tmp 84) b42 0 3 [.slice none 0 0, .slice none 0 0, .slice none 0 0, .int .i64 0] [.slice A45_0 y0.mem.length c45_0, .slice A45_1 y0.gs.length c45_1, .slice A45_2 y0.outs.length c45_2, .int .i64 y0.pd] [.slice A45_0 y0.mem.length c45_0, .slice A45_1 y0.gs.length c45_1, .slice A45_2 y0.outs.length c45_2, .int .i64 y0.pd] [ow wB w45.heap.size w45'.heap.size y0 [.slice A45_0 y0.mem.length c45_0, .slice A45_1 y0.gs.length c45_1, .slice A45_2 y0.outs.length c45_2, .int .i64 y0.pd] F45, ow wG w44.heap.size w44'.heap.size x2 [.slice A44_0 x2.prog.length c44_0, .int .i64 x2.a, .int .i64 x2.pc, .slice A44_1 x2.wr.length c44_1, .slice A44_2 x2.lv.length c44_2, .int .i64 x2.t.1, .int .i64 x2.t.2.1, .bool x2.t.2.2, .int .i64 x2.pd, .int .i64 x2.x.1, .int .i64 x2.x.2.1, .bool x2.x.2.2.1, .int .i64 x2.x.2.2.2, .bool x2.hl, .slice A44_3 x2.seen.length c44_3] F44, ow wB w43.heap.size w43'.heap.size x0 [.slice A43_0 x0.mem.length c43_0, .slice A43_1 x0.gs.length c43_1, .slice A43_2 x0.outs.length c43_2, .int .i64 x0.pd] F43, vr b42 [.slice A45_0 y0.mem.length c45_0, .slice A45_1 y0.gs.length c45_1, .slice A45_2 y0.outs.length c45_2, .int .i64 y0.pd], ow wG w28.heap.size w28'.heap.size x2 [.slice A28_0 x2.prog.length c28_0, .int .i64 x2.a, .int .i64 x2.pc, .slice A28_1 x2.wr.length c28_1, .slice A28_2 x2.lv.length c28_2, .int .i64 x2.t.1, .int .i64 x2.t.2.1, .bool x2.t.2.2, .int .i64 x2.pd, .int .i64 x2.x.1, .int .i64 x2.x.2.1, .bool x2.x.2.2.1, .int .i64 x2.x.2.2.2, .bool x2.hl, .slice A28_3 x2.seen.length c28_3] F28, ow wB w27.heap.size w27'.heap.size x0 [.slice A27_0 x0.mem.length c27_0, .slice A27_1 x0.gs.length c27_1, .slice A27_2 x0.outs.length c27_2, .int .i64 x0.pd] F27, vr b26 [.slice A25_0 y0.mem.length c25_0, .slice A25_1 y0.gs.length c25_1, .slice A25_2 y0.outs.length c25_2, .int .i64 y0.pd], ow wB w25.heap.size w25'.heap.size (wB.top 1 y0) [.slice A25_0 y0.mem.length c25_0, .slice A25_1 y0.gs.length c25_1, .slice A25_2 y0.outs.length c25_2, .int .i64 y0.pd] F25, vr b24 [.slice A23_0 x2.prog.length c23_0, .int .i64 x2.a, .int .i64 x2.pc, .slice A23_1 x2.wr.length c23_1, .slice A23_2 x2.lv.length c23_2, .int .i64 x2.t.1, .int .i64 x2.t.2.1, .bool x2.t.2.2, .int .i64 x2.pd, .int .i64 x2.x.1, .int .i64 x2.x.2.1, .bool x2.x.2.2.1, .int .i64 x2.x.2.2.2, .bool x2.hl, .slice A23_3 x2.seen.length c23_3], ow wG w23.heap.size w23'.heap.size (wG.top t29 x2) [.slice A23_0 x2.prog.length c23_0, .int .i64 x2.a, .int .i64 x2.pc, .slice A23_1 x2.wr.length c23_1, .slice A23_2 x2.lv.length c23_2, .int .i64 x2.t.1, .int .i64 x2.t.2.1, .bool x2.t.2.2, .int .i64 x2.pd, .int .i64 x2.x.1, .int .i64 x2.x.2.1, .bool x2.x.2.2.1, .int .i64 x2.x.2.2.2, .bool x2.hl, .slice A23_3 x2.seen.length c23_3] F23, vr b22 [.slice A21_0 x0.mem.length c21_0, .slice A21_1 x0.gs.length c21_1, .slice A21_2 x0.outs.length c21_2, .int .i64 x0.pd], ow wB w21.heap.size w21'.heap.size (wB.top 1 x0) [.slice A21_0 x0.mem.length c21_0, .slice A21_1 x0.gs.length c21_1, .slice A21_2 x0.outs.length c21_2, .int .i64 x0.pd] F21, vr y20_29 [.slice y20_20 y0.mem.length y20_21, .slice y20_22 y0.gs.length y20_23, .slice y20_24 y0.outs.length y20_25, .int .i64 y0.pd], ow wB y20_27 y20_28 y0 [.slice y20_20 y0.mem.length y20_21, .slice y20_22 y0.gs.length y20_23, .slice y20_24 y0.outs.length y20_25, .int .i64 y0.pd] y20_26, ow wG y20_18 y20_19 x2 [.slice y20_9 x2.prog.length y20_10, .int .i64 x2.a, .int .i64 x2.pc, .slice y20_11 x2.wr.length y20_12, .slice y20_13 x2.lv.length y20_14, .int .i64 x2.t.1, .int .i64 x2.t.2.1, .bool x2.t.2.2, .int .i64 x2.pd, .int .i64 x2.x.1, .int .i64 x2.x.2.1, .bool x2.x.2.2.1, .int .i64 x2.x.2.2.2, .bool x2.hl, .slice y20_15 x2.seen.length y20_16] y20_17, ow wB y20_7 y20_8 x0 [.slice y20_0 x0.mem.length y20_1, .slice y20_2 x0.gs.length y20_3, .slice y20_4 x0.outs.length y20_5, .int .i64 x0.pd] y20_6, vr b2 [.slice h2A0 x2.prog.length h2K0, .int .i64 x2.a, .int .i64 x2.pc, .slice h2A1 x2.wr.length h2K1, .slice h2A2 x2.lv.length h2K2, .int .i64 x2.t.1, .int .i64 x2.t.2.1, .bool x2.t.2.2, .int .i64 x2.pd, .int .i64 x2.x.1, .int .i64 x2.x.2.1, .bool x2.x.2.2.1, .int .i64 x2.x.2.2.2, .bool x2.hl, .slice h2A3 x2.seen.length h2K3], vr b1 [.slice h0A0 x0.mem.length h0K0, .slice h0A1 x0.gs.length h0K1, .slice h0A2 x0.outs.length h0K2, .int .i64 x0.pd]] (by rfl) (by rfl) (by kernel_rfl) (by kernel_rfl) (by kernel_rfl) (by rfl) (by kernel_rfl) (by rfl) (by kernel_rfl) (by kernel_rfl) (by kernel_rfl) (fun w S => St.pick S [16, 17] _ rfl (by decide)) ?_)
          exact Sx.GT.nil (fun a w' hA S => ⟨rfl, A43_0, c43_0, A43_1, c43_1, A43_2, c43_2, F43, w43.heap.size, w43'.heap.size, A44_0, c44_0, A44_1, c44_1, A44_2, c44_2, A44_3, c44_3, F44, w44.heap.size, w44'.heap.size, A45_0, c45_0, A45_1, c45_1, A45_2, c45_2, F45, w45.heap.size, w45'.heap.size, b42, (Sx.Ag.and hA (Sx.Ag.and hA (Sx.Ag.and hA (Sx.Ag.and hA (Sx.Ag.and hA (Sx.Ag.and hA (Sx.Ag.none hA) _ _ (by kernel_rfl)) _ _ (by kernel_rfl)) _ _ (by kernel_rfl)) _ _ (by kernel_rfl)) _ _ (by kernel_rfl)) _ _ (by kernel_rfl)), St.pick S [3, 0, 1, 2, 4, 5, 6, 7, 8, 9, 10, 11, 12, 13, 14, 15, 16, 17] _ rfl (by decide)⟩)
      rintro e a w' ⟨rfl, y46_0, y46_1, y46_2, y46_3, y46_4, y46_5, y46_6, y46_7, y46_8, y46_9, y46_10, y46_11, y46_12, y46_13, y46_14, y46_15, y46_16, y46_17, y46_18, y46_19, y46_20, y46_21, y46_22, y46_23, y46_24, y46_25, y46_26, y46_27, y46_28, y46_29, hA, S⟩
      refine Sx.E.out ?_ hA S
      clear hA S a w'
      refine Sx.E.next ?_
      refine Sx.C.seq ?_
      refine Sx.C.seq ?_
      refine Sx.C.region ?_
      refine Sx.G.ld 28 (.tmp 15) y46_29 0 0 [.slice y46_20 y0.mem.length y46_21, .slice y46_22 y0.gs.length y46_23, .slice y46_24 y0.outs.length y46_25, .int .i64 y0.pd] [.slice y46_20 y0.mem.length y46_21, .slice y46_22 y0.gs.length y46_23, .slice y46_24 y0.outs.length y46_25, .int .i64 y0.pd] rfl (by kernel_rfl) (by kernel_rfl) rfl (by kernel_rfl) (by kernel_rfl) (by kernel_rfl) ?_
      refine Sx.G.ld 28 (.tmp 8) y20_29 0 12 [.slice y20_20 y0.mem.length y20_21, .slice y20_22 y0.gs.length y20_23, .slice y20_24 y0.outs.length y20_25, .int .i64 y0.pd] [.slice y20_20 y0.mem.length y20_21, .slice y20_22 y0.gs.length y20_23, .slice y20_24 y0.outs.length y20_25, .int .i64 y0.pd] rfl (by kernel_rfl) (by kernel_rfl) rfl (by kernel_rfl) (by kernel_rfl) (by kernel_rfl) ?_
      refine Sx.G.plain 13 #[.agg #[.slice y46_20 y0.mem.length y46_21, .slice y46_22 y0.gs.length y46_23, .slice y46_24 y0.outs.length y46_25, .int .i64 y0.pd], .agg #[.slice y20_20 y0.mem.length y20_21, .slice y20_22 y0.gs.length y20_23, .slice y20_24 y0.outs.length y20_25, .int .i64 y0.pd]] (.bool true) (by kernel_rfl) (fun w => by kernel_rfl) (fun w S => by exact Kit.keq_Bare y0 _ _ _ hd0 (St.reads S 1 rfl) (St.reads S 13 rfl)) ?_
      refine Sx.G.pure (.bool false) (by kernel_rfl) (fun w => by kernel_rfl) ?_
      refine Sx.G.nil ?_
      refine Sx.E.next ?_
      refine Sx.C.no (by kernel_rfl) (by kernel_rfl) ?_
      refine Sx.C.skip ?_
      refine Sx.E.next ?_
      refine Sx.C.seq ?_
      refine Sx.C.region ?_
      refine Sx.G.pure (.int .i64 1) (by kernel_rfl) (fun w => by kernel_rfl) ?_
      refine Sx.G.nil ?_
      refine Sx.E.next ?_
      refine Sx.C.seq ?_
      refine Sx.C.region ?_
      refine Sx.G.ld 28 (.tmp 11) b26 0 6 [.slice A25_0 y0.mem.length c25_0, .slice A25_1 y0.gs.length c25_1, .slice A25_2 y0.outs.length c25_2, .int .i64 y0.pd] [.slice A25_0 y0.mem.length c25_0, .slice A25_1 y0.gs.length c25_1, .slice A25_2 y0.outs.length c25_2, .int .i64 y0.pd] rfl (by kernel_rfl) (by kernel_rfl) rfl (by kernel_rfl) (by kernel_rfl) (by kernel_rfl) ?_
      refine Sx.G.pure (.int .i64 1) (by kernel_rfl) (fun w => by kernel_rfl) ?_
      refine Sx.G.call 17 #[.agg #[.slice A25_0 y0.mem.length c25_0, .slice A25_1 y0.gs.length c25_1, .slice A25_2 y0.outs.length c25_2, .int .i64 y0.pd], .int .i64 1] (by kernel_rfl) (fun w => by kernel_rfl) (fun w47 S => (Kit.khd_Bare y0 _ 1 _ hd0 (by omega) (St.reads S 7 rfl)).mono fun e w47' hp => ?_)
      rw [← ht31] at hp
      obtain ⟨rfl, hb⟩ := hp
      refine ⟨_, _, rfl, (S.call hb), ?_⟩
      clear S hb
      refine Sx.G.pure (.int .i64 ((t31 : Nat) : Int)) (by kernel_rfl) (fun w => by kernel_rfl) ?_
      refine Sx.G.nil ?_
      refine Sx.E.next ?_
      refine Sx.C.seq ?_
      refine Sx.C.seq ?_
      refine Sx.C.region ?_
      refine Sx.G.pure (.int .i64 ((t31 : Nat) : Int)) (by kernel_rfl) (fun w => by kernel_rfl) ?_
      refine Sx.G.pureq (.bool (decide (((t31 : Nat) : Int) < 0))) (.bool false) (by kernel_rfl) (fun w => by kernel_rfl) (congrArg Value.bool (decide_eq_false (by omega))) ?_
      refine Sx.G.nil ?_
      refine Sx.E.next ?_
      refine Sx.C.no (by kernel_rfl) (by kernel_rfl) ?_
      refine Sx.C.skip ?_
      refine Sx.E.next ?_
      refine Sx.C.seq ?_
      refine Sx.C.seq ?_
      refine Sx.C.region ?_
      refine Sx.G.pure (.int .i64 ((t31 : Nat) : Int)) (by kernel_rfl) (fun w => by kernel_rfl) ?_
      refine Sx.G.pure (.int .i64 ((t31 : Nat) : Int)) (by kernel_rfl) (fun w => by kernel_rfl) ?_
      refine Sx.G.pureq (.bool (((t31 : Nat) : Int) != ((t31 : Nat) : Int))) (.bool false) (by kernel_rfl) (fun w => by kernel_rfl) (congrArg Value.bool (bne_self_eq_false _)) ?_
      refine Sx.G.nil ?_
      refine Sx.E.next ?_
      refine Sx.C.no (by kernel_rfl) (by kernel_rfl) ?_
      refine Sx.C.skip ?_
      refine Sx.E.next ?_
      refine Sx.C.seq ?_
      refine Sx.C.region ?_
      refine Sx.G.pure (.bool true) (by kernel_rfl) (fun w => by kernel_rfl) ?_
      refine Sx.G.nil ?_
      refine Sx.E.next ?_
      refine Sx.C.ret ?_
      refine Sx.E.ret1 (.bool true) rfl (by kernel_rfl) (fun w S => ?_)
      exact ⟨rfl, S.below⟩
    · have hb6 := hc6
      replace hc6 := of_decide_eq_true hc6
      refine Sx.C.yes (by kernel_rfl) (by kernel_rfl) ?_
      refine Sx.C.seq ?_
      refine Sx.C.region ?_
      refine Sx.G.pure (.bool true) (by kernel_rfl) (fun w => by kernel_rfl) ?_
      refine Sx.G.nil ?_
      refine Sx.E.next ?_
      refine Sx.C.ret ?_
      refine Sx.E.then_ret ?_
      refine Sx.E.ret1 (.bool true) rfl (by kernel_rfl) (fun w S => ?_)
      exact ⟨rfl, S.below⟩
  · have hb4 := hc4
    replace hc4 := of_decide_eq_true hc4
    refine Sx.C.yes (by kernel_rfl) (by kernel_rfl) ?_
    refine Sx.C.seq ?_
    refine Sx.C.region ?_
    refine Sx.G.pure (.bool true) (by kernel_rfl) (fun w => by kernel_rfl) ?_
    refine Sx.G.nil ?_
    refine Sx.E.next ?_
    refine Sx.C.ret ?_
    refine Sx.E.then_ret ?_
    refine Sx.E.ret1 (.bool true) rfl (by kernel_rfl) (fun w S => ?_)
    exact ⟨rfl, S.below⟩
set_option maxRecDepth 100000 in
theorem lifted (os : Os) (started : os.Started) (H : Type) (enc : TypeId × Value → H) :
    ReturnsInHanded {} Try.checked os 6 .any (Rows.fnExactWithGuestSpec.pre6 enc Try.prog Try.f6 Rows.fnExactWithGuestRow.domain false) (Rows.fnExactWithGuestSpec.post enc Try.prog Try.f6 false true false false) := by
  refine returnsInHanded_of_change (C := Try.checked) Base.own started (by kernel_rfl) Try.func6
    (ChangeSpec.witness6 (enc := enc) (C := Try.checked) false ⟨#[], #[.agg #[.slice none 0 0, .slice none 0 0, .slice none 0 0, .int .i64 0], .int .i64 0, .agg #[.slice none 0 0, .int .i64 0, .int .i64 0, .slice none 0 0, .slice none 0 0, .int .i64 0, .int .i64 0, .bool false, .int .i64 0, .int .i64 0, .int .i64 0, .bool false, .int .i64 0, .bool false, .slice none 0 0]], []⟩ 8 (by kernel_rfl) (by kernel_rfl) (by kernel_rfl) (by kernel_rfl)) ?_
  intro W base args ds gs before hval0 hW hcnd _
  have hval : ∀ (j : Nat) t v, Try.f6.params[j]? = some t → args[j]? = some v → Value.okWide Try.prog W .any base t v := hval0
  have hW' := hW
  obtain ⟨p, q, hA0, hV, rfl, hfz, hnd⟩ := hW
  have hA : DataW.TrodAll enc Try.prog W 0 (fun _ => true) true Try.f6.params.toList args.toList ds p := hA0
  have hA1 := hA
  rw [Try.params6] at hA hval
  obtain ⟨v0, vs0, d0, ds0, p0, q0, hargs, rfl, rfl, h0, r0⟩ := trodAll_cons hA
  obtain ⟨v1, vs1, d1, ds1, p1, q1, rfl, rfl, rfl, h1, r1⟩ := trodAll_cons r0
  obtain ⟨v2, vs2, d2, ds2, p2, q2, rfl, rfl, rfl, h2, r2⟩ := trodAll_cons r1
  obtain ⟨rfl, rfl, rfl⟩ := trodAll_nil r2
  obtain rfl : args = #[v0, v1, v2] := by cases args; simp_all
  obtain ⟨rfl, rfl⟩ := trodVars_none hV
  obtain ⟨x0, cs0, rfl, hw0, h0'⟩ := Kit.open_Bare (hval 0 39 v0 rfl rfl) h0
  obtain ⟨x1, rfl, _, _, hw1⟩ := open_int Try.underlying3 (hval 1 3 v1 rfl rfl) h1
  obtain ⟨x2, cs2, rfl, hw2, h2'⟩ := Kit.open_Guest (hval 2 62 v2 rfl rfl) h2
  clear hA0 hval0
  rw [List.append_nil] at hW'
  refine (walk W x0 cs0 x1 x2 cs2 hw0 h0' hw1 hw2 h2').mono fun e W' ⟨he, hg⟩ => ?_
  subst he
  exact ⟨_, rfl, Mem.post_args Kit.laid (by kernel_rfl) rfl rfl rfl hW' hA1 hg (fun _ _ _ => (trodAll_cons_mk (shut_bool Try.underlying4 _) trodAll_mk0)) (ok_one (by kernel_rfl) rfl (okWide_bool_mk Try.underlying4 _))⟩
theorem over : Rows.fnExactWithGuestRow.holds Try.pinned (OpenSpec.ofChange Rows.fnExactWithGuestSpec) :=
  OpenClaim.holds_of_wide 6 Try.f6 rfl rfl rfl rfl rfl rfl rfl ⟨rfl, rfl, rfl, rfl, rfl⟩ rfl rfl rfl rfl rfl (by kernel_rfl) Try.func6 (by kernel_rfl)
    (of_decide_eq_true (by kernel_rfl)) (by unfold Func.isWrapper; first | (rw [if_pos (by decide +kernel)]; kernel_rfl) | (rw [if_neg (by decide +kernel)]; exact ⟨rfl, rfl⟩))
    (fun os started H enc _ => lifted os started H enc)
/-- The given statement. -/
theorem proved : Rows.FnExactWithGuestSaid :=
  over
#print axioms proved
end Go.Proofs.Ytldgadmpclgfhaa.fnExactWithGuest
