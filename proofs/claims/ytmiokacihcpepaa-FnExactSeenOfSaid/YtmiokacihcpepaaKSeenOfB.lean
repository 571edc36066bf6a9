/-
  At every argument the law FnExactSeenOf returns true: the project's SeenOf answers as the given model's SeenOf, changes no argument, and what it returns is its own. No condition.
-/
import Derived.Test.YtmiokacihcpepaaM4033f7c1
namespace Go.Proofs.Ytmiokacihcpepaa.fnExactSeenOf
set_option maxRecDepth 100000
open Go.ChangeShapes Go.WideShapes Go.ChangeAt Go.RowKit
open Go.Proofs.Ytmiokacihcpepaa.Base Go.Proofs.Ytmiokacihcpepaa.Mem Go.Proofs.Ytmiokacihcpepaa.Data Go.Proofs.Ytmiokacihcpepaa.Stt Go.Proofs.Ytmiokacihcpepaa.Kit Go.Proofs.Ytmiokacihcpepaa.Guests Go.Proofs.Ytmiokacihcpepaa.Ctls Go.Proofs.Ytmiokacihcpepaa.Exits
set_option linter.unusedVariables false
set_option linter.unusedSimpArgs false
set_option maxRecDepth 100000 in
set_option maxHeartbeats 8000000 in
theorem walk (w : World) (x0 : bT) (cs0 : List Value) (x1 : Int) (hw0 : wB.wf x0) (h0 : wB.rd w 0 w.heap.size x0 cs0) (hw1 : (Lit.int .i64 x1).wf = true) :
    Calls Try.prog 4 #[.agg cs0.toArray, .int .i64 x1] w fun e w' => e = .returned (.bool true) ∧ Below w.heap.size w w' := by
  have h0R := h0
  obtain ⟨h0P0, h0P1, h0P2, rfl, h0f0, h0f1, h0f2⟩ := wB_rd h0
  obtain ⟨h0A0, h0K0, h0e0, -⟩ := lst_val h0f0
  subst h0e0
  obtain ⟨h0A1, h0K1, h0e1, -⟩ := lst_val h0f1
  subst h0e1
  obtain ⟨h0A2, h0K2, h0e2, -⟩ := lst_val h0f2
  subst h0e2
  refine Sx.enter (args := [.agg #[.slice h0A0 x0.mem.length h0K0, .slice h0A1 x0.gs.length h0K1, .slice h0A2 x0.outs.length h0K2, .int .i64 x0.pd], .int .i64 x1]) Try.func4 rfl Try.ntmps4 rfl ?_
  refine Sx.C.seq (Sx.C.region ?_)
  refine Sx.G.b [.slice h0A0 x0.mem.length h0K0, .slice h0A1 x0.gs.length h0K1, .slice h0A2 x0.outs.length h0K2, .int .i64 x0.pd] (fun b1 => ?_)
  refine Sx.G.p (.bool false) ?_
  refine Sx.G.nil (Sx.E.next (Sx.C.seq (Sx.C.region ?_)))
  refine Sx.G.p (.int .i64 1048576) ?_
  refine Sx.G.nil (Sx.E.next (Sx.C.seq (Sx.C.region ?_)))
  refine Sx.G.lw .m0 ?_
  refine Sx.G.p (.int .i64 1048576) ?_
  refine Sx.G.c 6 #[.agg #[.slice h0A0 x0.mem.length h0K0, .slice h0A1 x0.gs.length h0K1, .slice h0A2 x0.outs.length h0K2, .int .i64 x0.pd], .int .i64 1048576] (fun w2 S => (Kit.ksz_Bare x0 _ 1048576 _ hw0 (by omega) (by omega) (St.old S h0R)).mono fun e w2' hp => ?_)
  obtain ⟨l2, rfl, hs0, hb⟩ := hp
  unfold Kit.Sz at hs0
  refine ⟨_, _, rfl, (S.call hb), ?_⟩
  clear S hb
  refine Sx.G.p (.int .i64 l2) ?_
  refine Sx.G.nil (Sx.E.next (Sx.C.seq (Sx.C.seq (Sx.C.region ?_))))
  refine Sx.G.p (.int .i64 l2) ?_
  refine Sx.G.p (.bool (decide (l2 < 0))) ?_
  refine Sx.G.nil (Sx.E.next ?_)
  cases hc3 : (decide (l2 < 0))
  · have hb3 := hc3
    replace hc3 := of_decide_eq_false hc3
    have hc0 := Kit.capz_Bare x0 (by omega)
    have hz0 := Kit.tcntz_Bare x0
    have hcapr0 : (rLsw rInt).cap (guestAt x0 x1).1.seen := (cap_guestAt x1 hc0).2.2.2.2.2.2.2.2.2
    have hrs0 : (rLsw rInt).size (guestAt x0 x1).1.seen ≤ 1048576 := by show (guestAt x0 x1).1.seen.length + sizeAll rInt (guestAt x0 x1).1.seen ≤ _; rw [sz0_Int]; exact hcapr0.1
    have hres0 : (rLsw rInt).size (guestAt x0 x1).1.seen ≤ 4000000 := by omega
    obtain ⟨y0, hy0⟩ : ∃ y, y = (guestAt x0 x1).1.seen := ⟨_, rfl⟩
    rw [← hy0] at hres0 hcapr0
    have hd0 := hcapr0
    have hzr0 := Kit.cntz_IntS y0
    have hcr0 : cntAll rInt y0 = (rLsw rInt).cnt y0 := rfl
    refine Sx.C.nn (Sx.C.skip (Sx.E.next (Sx.C.seq (Sx.C.region ?_))))
    refine Sx.G.lw .m0 ?_
    refine Sx.G.c 8 #[.agg #[.slice h0A0 x0.mem.length h0K0, .slice h0A1 x0.gs.length h0K1, .slice h0A2 x0.outs.length h0K2, .int .i64 x0.pd]] (fun w4 S => (Kit.kto_Bare x0 _ _ hc0 (St.old S h0R)).mono fun e w4' hp => ?_)
    obtain ⟨cs, F, rfl, ho, hF, hb⟩ := hp
    obtain ⟨P4_0, P4_1, P4_2, rfl, f4_0, f4_1, f4_2⟩ := wB_rd (wB.reads ho)
    obtain ⟨A4_0, c4_0, e4_0, -⟩ := lst_val f4_0
    subst e4_0
    obtain ⟨A4_1, c4_1, e4_1, -⟩ := lst_val f4_1
    subst e4_1
    obtain ⟨A4_2, c4_2, e4_2, -⟩ := lst_val f4_2
    subst e4_2
    generalize F = F4 at ho hF
    refine ⟨_, _, rfl, (St.got S hb ho hF), ?_⟩
    clear S hb ho hF f4_0 f4_1 f4_2
    refine Sx.G.p (.int .i64 x1) ?_
    refine Sx.G.c 15 #[.agg #[.slice A4_0 x0.mem.length c4_0, .slice A4_1 x0.gs.length c4_1, .slice A4_2 x0.outs.length c4_2, .int .i64 x0.pd], .int .i64 x1] (fun w5 S => (((specx_seen x0 _ x1 _ hc0 (St.reads S 0 rfl)).mono fun e w' h => hy0 ▸ h)).mono fun e w5' hp => ?_)
    obtain ⟨cs, F, rfl, ho, hF, hb⟩ := hp
    obtain ⟨u5, rfl⟩ := lsw_own ho
    obtain ⟨A5_0, c5_0, e5_0, -⟩ := lst_val ((rLsw _).reads ho)
    subst e5_0
    generalize F = F5 at ho hF
    refine ⟨_, _, rfl, (St.got S hb ho hF), ?_⟩
    clear S hb ho hF
    refine Sx.G.p (.slice A5_0 y0.length c5_0) ?_
    refine Sx.G.nil (Sx.E.next (Sx.C.seq (Sx.C.region ?_)))
    refine Sx.G.lw .m2 ?_
    refine Sx.G.c 8 #[.agg #[.slice h0A0 x0.mem.length h0K0, .slice h0A1 x0.gs.length h0K1, .slice h0A2 x0.outs.length h0K2, .int .i64 x0.pd]] (fun w6 S => (Kit.kto_Bare x0 _ _ hc0 (St.old S h0R)).mono fun e w6' hp => ?_)
    obtain ⟨cs, F, rfl, ho, hF, hb⟩ := hp
    obtain ⟨P6_0, P6_1, P6_2, rfl, f6_0, f6_1, f6_2⟩ := wB_rd (wB.reads ho)
    obtain ⟨A6_0, c6_0, e6_0, -⟩ := lst_val f6_0
    subst e6_0
    obtain ⟨A6_1, c6_1, e6_1, -⟩ := lst_val f6_1
    subst e6_1
    obtain ⟨A6_2, c6_2, e6_2, -⟩ := lst_val f6_2
    subst e6_2
    generalize F = F6 at ho hF
    refine ⟨_, _, rfl, (St.got S hb ho hF), ?_⟩
    clear S hb ho hF f6_0 f6_1 f6_2
    refine Sx.G.ar [.slice none 0 0, .slice none 0 0, .slice none 0 0, .int .i64 0] (fun b7 => ?_)
    refine Sx.G.sw [.slice A6_0 x0.mem.length c6_0, .slice A6_1 x0.gs.length c6_1, .slice A6_2 x0.outs.length c6_2, .int .i64 x0.pd] .a0 ?_
    refine Sx.G.nil (Sx.E.next (Sx.C.seq (Sx.C.region ?_)))
    refine Sx.G.lw .m0 ?_
    refine Sx.G.p (.int .i64 x1) ?_
    refine Sx.G.c 16 #[.agg #[.slice A6_0 x0.mem.length c6_0, .slice A6_1 x0.gs.length c6_1, .slice A6_2 x0.outs.length c6_2, .int .i64 x0.pd], .int .i64 x1] (fun w8 S => (((implx_seen x0 _ x1 _ hc0 (St.reads S 1 rfl) hw0 hw1).mono fun e w' h => hy0 ▸ h)).mono fun e w8' hp => ?_)
    obtain ⟨cs, F, rfl, ho, hF, hb⟩ := hp
    obtain ⟨u8, rfl⟩ := lsw_own ho
    obtain ⟨A8_0, c8_0, e8_0, -⟩ := lst_val ((rLsw _).reads ho)
    subst e8_0
    generalize F = F8 at ho hF
    refine ⟨_, _, rfl, (St.got S hb ho hF), ?_⟩
    clear S hb ho hF
    refine Sx.G.p (.slice A8_0 y0.length c8_0) ?_
    refine Sx.G.nil (Sx.E.next (Sx.C.seq (Sx.C.seq (Sx.C.region ?_))))
    refine Sx.G.p (.slice A8_0 y0.length c8_0) ?_
    refine Sx.G.p (.slice A5_0 y0.length c5_0) ?_
    refine Sx.G.cp 10 #[.slice A8_0 y0.length c8_0, .slice A5_0 y0.length c5_0] (.bool true) (fun w S => by exact Kit.keq_IntS y0 A8_0 c8_0 A5_0 c5_0 _ hd0 (St.reads S 0 rfl) (St.reads S 3 rfl)) ?_
    refine Sx.G.p (.bool false) ?_
    refine Sx.G.nil (Sx.E.next (Sx.C.nn (Sx.C.skip (Sx.E.next (Sx.C.seq (Sx.C.seq ?_))))))
    refine Sx.C.draw (.take 0 (.take 1 (.alone 2 (.alone 3 (.take 4 .nil))))) [vr b7 [.slice A6_0 x0.mem.length c6_0, .slice A6_1 x0.gs.length c6_1, .slice A6_2 x0.outs.length c6_2, .int .i64 x0.pd], vr b1 [.slice h0A0 x0.mem.length h0K0, .slice h0A1 x0.gs.length h0K1, .slice h0A2 x0.outs.length h0K2, .int .i64 x0.pd]] (fun w S => St.pick S [1, 5] _ rfl (by decide)) (by kernel_rfl) (by kernel_rfl) (by kernel_rfl) ?_
    refine Sx.GT.lw .m0 ?_
    refine Sx.GT.lw .m1 ?_
    refine Sx.GT.alone (Sx.Alone.c 8 #[.agg #[.slice h0A0 x0.mem.length h0K0, .slice h0A1 x0.gs.length h0K1, .slice h0A2 x0.outs.length h0K2, .int .i64 x0.pd]] (fun w9 S => (Kit.kto_Bare x0 _ _ hc0 (St.old S h0R)).mono fun e w9' hp => ?_))
    obtain ⟨cs, F, rfl, ho, hF, hb⟩ := hp
    obtain ⟨P9_0, P9_1, P9_2, rfl, f9_0, f9_1, f9_2⟩ := wB_rd (wB.reads ho)
    obtain ⟨A9_0, c9_0, e9_0, -⟩ := lst_val f9_0
    subst e9_0
    obtain ⟨A9_1, c9_1, e9_1, -⟩ := lst_val f9_1
    subst e9_1
    obtain ⟨A9_2, c9_2, e9_2, -⟩ := lst_val f9_2
    subst e9_2
    generalize F = F9 at ho hF
    refine ⟨_, _, rfl, (St.got S hb ho hF), (fun w S => St.pick S [2, 6] _ rfl (by decide)), ?_⟩
    clear S hb ho hF f9_0 f9_1 f9_2
    refine Sx.GT.alone (Sx.Alone.cp 11 #[.agg #[.slice A6_0 x0.mem.length c6_0, .slice A6_1 x0.gs.length c6_1, .slice A6_2 x0.outs.length c6_2, .int .i64 x0.pd], .agg #[.slice A9_0 x0.mem.length c9_0, .slice A9_1 x0.gs.length c9_1, .slice A9_2 x0.outs.length c9_2, .int .i64 x0.pd]] (.bool true) (fun w S => by exact Kit.keq_Bare x0 _ _ _ hc0 (St.reads S 3 rfl) (St.reads S 0 rfl)) (fun w S => St.pick S [2, 6] _ rfl (by decide)) ?_)
    refine Sx.GT.p (.bool false) ?_
    refine Sx.GT.nil (Sx.E.next (Sx.C.nn (Sx.C.skip (Sx.E.next (Sx.C.seq (Sx.C.region ?_))))))
    refine Sx.G.p (.int .i64 1) ?_
    refine Sx.G.nil (Sx.E.next (Sx.C.seq (Sx.C.region ?_)))
    refine Sx.G.lw .m2 ?_
    refine Sx.G.p (.int .i64 1) ?_
    obtain ⟨t10, ht10⟩ : ∃ q, q = 1 + wB.tcnt x0 := ⟨_, rfl⟩
    refine Sx.G.c 12 #[.agg #[.slice A6_0 x0.mem.length c6_0, .slice A6_1 x0.gs.length c6_1, .slice A6_2 x0.outs.length c6_2, .int .i64 x0.pd], .int .i64 1] (fun w10 S => (Kit.kmk_Bare x0 _ 1 F6 hc0 (by omega) S 3 rfl).mono fun e w10' hp => ?_)
    rw [← ht10] at hp
    obtain ⟨rfl, S'⟩ := hp
    refine ⟨_, _, rfl, S', ?_⟩
    clear S S'
    refine Sx.G.p (.int .i64 ((t10 : Nat) : Int)) ?_
    refine Sx.G.nil (Sx.E.next (Sx.C.seq (Sx.C.seq (Sx.C.region ?_))))
    refine Sx.G.p (.int .i64 ((t10 : Nat) : Int)) ?_
    refine Sx.G.q (.bool (decide (((t10 : Nat) : Int) < 0))) (.bool false) (congrArg Value.bool (decide_eq_false (by omega))) ?_
    refine Sx.G.p (.bool false) ?_
    refine Sx.G.p (.slice A8_0 y0.length c8_0) ?_
    refine Sx.G.p (.slice A5_0 y0.length c5_0) ?_
    refine Sx.G.cp 10 #[.slice A8_0 y0.length c8_0, .slice A5_0 y0.length c5_0] (.bool true) (fun w S => by exact Kit.keq_IntS y0 A8_0 c8_0 A5_0 c5_0 _ hd0 (St.reads S 1 rfl) (St.reads S 4 rfl)) ?_
    refine Sx.G.p (.bool false) ?_
    refine Sx.G.p (.bool false) ?_
    refine Sx.G.nil (Sx.E.next (Sx.C.nn (Sx.C.skip (Sx.E.next (Sx.C.seq (Sx.C.region ?_))))))
    refine Sx.G.p (.int .i64 1) ?_
    refine Sx.G.nil (Sx.E.next (Sx.C.seq (Sx.C.region ?_)))
    refine Sx.G.p (.slice A8_0 y0.length c8_0) ?_
    refine Sx.G.p (.int .i64 1) ?_
    obtain ⟨t11, ht11⟩ : ∃ q, q = 1 + (rLsw rInt).cnt y0 := ⟨_, rfl⟩
    refine Sx.G.c 13 #[.slice A8_0 y0.length c8_0, .int .i64 1] (fun w11 S => (Kit.kmk_IntS y0 A8_0 c8_0 1 F8 hd0 (by omega) S 1 rfl).mono fun e w11' hp => ?_)
    rw [show cntAll rInt y0 = (rLsw rInt).cnt y0 from rfl, ← ht11] at hp
    obtain ⟨rfl, S'⟩ := hp
    refine ⟨_, _, rfl, S', ?_⟩
    clear S S'
    refine Sx.G.p (.int .i64 ((t11 : Nat) : Int)) ?_
    refine Sx.G.nil (Sx.E.next (Sx.C.seq (Sx.C.region ?_)))
    refine Sx.G.p (.int .i64 1) ?_
    refine Sx.G.nil (Sx.E.next (Sx.C.seq (Sx.C.region ?_)))
    refine Sx.G.p (.slice A8_0 y0.length c8_0) ?_
    refine Sx.G.p (.int .i64 1) ?_
    refine Sx.G.c 14 #[.slice A8_0 y0.length c8_0, .int .i64 1] (fun w12 S => (Kit.khd_IntS y0 A8_0 c8_0 1 _ hd0 (by omega) (St.reads S 1 rfl)).mono fun e w12' hp => ?_)
    rw [show cntAll rInt y0 = (rLsw rInt).cnt y0 from rfl, ← ht11] at hp
    obtain ⟨rfl, hb⟩ := hp
    refine ⟨_, _, rfl, (S.call hb), ?_⟩
    clear S hb
    refine Sx.G.p (.int .i64 ((t11 : Nat) : Int)) ?_
    refine Sx.G.nil (Sx.E.next (Sx.C.seq (Sx.C.seq (Sx.C.region ?_))))
    refine Sx.G.p (.int .i64 ((t11 : Nat) : Int)) ?_
    refine Sx.G.q (.bool (decide (((t11 : Nat) : Int) < 0))) (.bool false) (congrArg Value.bool (decide_eq_false (by omega))) ?_
    refine Sx.G.nil (Sx.E.next (Sx.C.nn (Sx.C.skip (Sx.E.next (Sx.C.seq (Sx.C.seq (Sx.C.region ?_)))))))
    refine Sx.G.p (.int .i64 ((t11 : Nat) : Int)) ?_
    refine Sx.G.p (.int .i64 ((t11 : Nat) : Int)) ?_
    refine Sx.G.q (.bool (((t11 : Nat) : Int) != ((t11 : Nat) : Int))) (.bool false) (congrArg Value.bool (bne_self_eq_false _)) ?_
    refine Sx.G.nil (Sx.E.next (Sx.C.nn (Sx.C.skip (Sx.E.next (Sx.C.seq (Sx.C.region ?_))))))
    refine Sx.G.lw .m6 ?_
    refine Sx.G.c 8 #[.agg #[.slice h0A0 x0.mem.length h0K0, .slice h0A1 x0.gs.length h0K1, .slice h0A2 x0.outs.length h0K2, .int .i64 x0.pd]] (fun w13 S => (Kit.kto_Bare x0 _ _ hc0 (St.old S h0R)).mono fun e w13' hp => ?_)
    obtain ⟨cs, F, rfl, ho, hF, hb⟩ := hp
    obtain ⟨P13_0, P13_1, P13_2, rfl, f13_0, f13_1, f13_2⟩ := wB_rd (wB.reads ho)
    obtain ⟨A13_0, c13_0, e13_0, -⟩ := lst_val f13_0
    subst e13_0
    obtain ⟨A13_1, c13_1, e13_1, -⟩ := lst_val f13_1
    subst e13_1
    obtain ⟨A13_2, c13_2, e13_2, -⟩ := lst_val f13_2
    subst e13_2
    generalize F = F13 at ho hF
    refine ⟨_, _, rfl, (St.got S hb ho hF), ?_⟩
    clear S hb ho hF f13_0 f13_1 f13_2
    refine Sx.G.p (.int .i64 x1) ?_
    refine Sx.G.c 16 #[.agg #[.slice A13_0 x0.mem.length c13_0, .slice A13_1 x0.gs.length c13_1, .slice A13_2 x0.outs.length c13_2, .int .i64 x0.pd], .int .i64 x1] (fun w14 S => (((implx_seen x0 _ x1 _ hc0 (St.reads S 0 rfl) hw0 hw1).mono fun e w' h => hy0 ▸ h)).mono fun e w14' hp => ?_)
    obtain ⟨cs, F, rfl, ho, hF, hb⟩ := hp
    obtain ⟨u14, rfl⟩ := lsw_own ho
    obtain ⟨A14_0, c14_0, e14_0, -⟩ := lst_val ((rLsw _).reads ho)
    subst e14_0
    generalize F = F14 at ho hF
    refine ⟨_, _, rfl, (St.got S hb ho hF), ?_⟩
    clear S hb ho hF
    refine Sx.G.p (.slice A14_0 y0.length c14_0) ?_
    refine Sx.G.nil (Sx.E.next (Sx.C.seq (Sx.C.seq (Sx.C.region ?_))))
    refine Sx.G.p (.slice A14_0 y0.length c14_0) ?_
    refine Sx.G.p (.slice A5_0 y0.length c5_0) ?_
    refine Sx.G.cp 10 #[.slice A14_0 y0.length c14_0, .slice A5_0 y0.length c5_0] (.bool true) (fun w S => by exact Kit.keq_IntS y0 A14_0 c14_0 A5_0 c5_0 _ hd0 (St.reads S 0 rfl) (St.reads S 6 rfl)) ?_
    refine Sx.G.p (.bool false) ?_
    refine Sx.G.nil (Sx.E.next (Sx.C.nn (Sx.C.skip (Sx.E.next (Sx.C.seq (Sx.C.region ?_))))))
    refine Sx.G.p (.int .i64 1) ?_
    refine Sx.G.nil (Sx.E.next (Sx.C.seq (Sx.C.region ?_)))
    refine Sx.G.p (.slice A8_0 y0.length c8_0) ?_
    refine Sx.G.p (.int .i64 1) ?_
    refine Sx.G.c 14 #[.slice A8_0 y0.length c8_0, .int .i64 1] (fun w15 S => (Kit.khd_IntS y0 A8_0 c8_0 1 _ hd0 (by omega) (St.reads S 3 rfl)).mono fun e w15' hp => ?_)
    rw [show cntAll rInt y0 = (rLsw rInt).cnt y0 from rfl, ← ht11] at hp
    obtain ⟨rfl, hb⟩ := hp
    refine ⟨_, _, rfl, (S.call hb), ?_⟩
    clear S hb
    refine Sx.G.p (.int .i64 ((t11 : Nat) : Int)) ?_
    refine Sx.G.nil (Sx.E.next (Sx.C.seq (Sx.C.seq (Sx.C.region ?_))))
    refine Sx.G.p (.int .i64 ((t11 : Nat) : Int)) ?_
    refine Sx.G.q (.bool (decide (((t11 : Nat) : Int) < 0))) (.bool false) (congrArg Value.bool (decide_eq_false (by omega))) ?_
    refine Sx.G.nil (Sx.E.next (Sx.C.nn (Sx.C.skip (Sx.E.next (Sx.C.seq (Sx.C.seq (Sx.C.region ?_)))))))
    refine Sx.G.p (.int .i64 ((t11 : Nat) : Int)) ?_
    refine Sx.G.p (.int .i64 ((t11 : Nat) : Int)) ?_
    refine Sx.G.q (.bool (((t11 : Nat) : Int) != ((t11 : Nat) : Int))) (.bool false) (congrArg Value.bool (bne_self_eq_false _)) ?_
    refine Sx.G.nil (Sx.E.next (Sx.C.nn (Sx.C.skip (Sx.E.next (Sx.C.seq (Sx.C.region ?_))))))
    refine Sx.G.p (.bool true) ?_
    refine Sx.G.nil (Sx.E.next (Sx.C.ret ?_))
    refine Sx.E.ret1 (.bool true) rfl (by kernel_rfl) (fun w S => ?_)
    exact ⟨rfl, S.below⟩
  · have hb3 := hc3
    replace hc3 := of_decide_eq_true hc3
    refine Sx.C.yy (Sx.C.seq (Sx.C.region ?_))
    refine Sx.G.p (.bool true) ?_
    refine Sx.G.nil (Sx.E.next (Sx.C.ret (Sx.E.then_ret ?_)))
    refine Sx.E.ret1 (.bool true) rfl (by kernel_rfl) (fun w S => ?_)
    exact ⟨rfl, S.below⟩

/-! ### The row's step -/
set_option maxRecDepth 100000 in
theorem lifted (os : Os) (started : os.Started) (H : Type) (enc : TypeId × Value → H) :
    ReturnsInHanded {} Try.checked os 4 .any (Rows.fnExactSeenOfSpec.pre6 enc Try.prog Try.f4 Rows.fnExactSeenOfRow.domain false) (Rows.fnExactSeenOfSpec.post enc Try.prog Try.f4 false true false false) := by
  refine returnsInHanded_of_change (C := Try.checked) Base.own started (by kernel_rfl) Try.func4
    (ChangeSpec.witness6 (enc := enc) (C := Try.checked) false ⟨#[], #[.agg #[.slice none 0 0, .slice none 0 0, .slice none 0 0, .int .i64 0], .int .i64 0], []⟩ 8 (by kernel_rfl) (by kernel_rfl) (by kernel_rfl) (by kernel_rfl)) ?_
  intro W base args ds gs before hval0 hW hcnd _
  have hval : ∀ (j : Nat) t v, Try.f4.params[j]? = some t → args[j]? = some v → Value.okWide Try.prog W .any base t v := hval0
  have hW' := hW
  obtain ⟨p, q, hA0, hV, rfl, hfz, hnd⟩ := hW
  have hA : DataW.TrodAll enc Try.prog W 0 (fun _ => true) true Try.f4.params.toList args.toList ds p := hA0
  have hA1 := hA
  rw [Try.params4] at hA hval
  obtain ⟨v0, vs0, d0, ds0, p0, q0, hargs, rfl, rfl, h0, r0⟩ := trodAll_cons hA
  obtain ⟨v1, vs1, d1, ds1, p1, q1, rfl, rfl, rfl, h1, r1⟩ := trodAll_cons r0
  obtain ⟨rfl, rfl, rfl⟩ := trodAll_nil r1
  obtain rfl : args = #[v0, v1] := by cases args; simp_all
  obtain ⟨rfl, rfl⟩ := trodVars_none hV
  obtain ⟨x0, cs0, rfl, hw0, h0'⟩ := Kit.open_Bare (hval 0 26 v0 rfl rfl) h0
  obtain ⟨x1, rfl, _, _, hw1⟩ := open_int Try.underlying3 (hval 1 3 v1 rfl rfl) h1
  clear hA0 hval0
  rw [List.append_nil] at hW'
  refine (walk W x0 cs0 x1 hw0 h0' hw1).mono fun e W' ⟨he, hg⟩ => ?_
  subst he
  exact ⟨_, rfl, Mem.post_args Kit.laid (by kernel_rfl) rfl rfl rfl hW' hA1 hg (fun _ _ _ => (trodAll_cons_mk (shut_bool Try.underlying4 _) trodAll_mk0)) (ok_one (by kernel_rfl) rfl (okWide_bool_mk Try.underlying4 _))⟩

theorem over : Rows.fnExactSeenOfRow.holds Try.pinned (OpenSpec.ofChange Rows.fnExactSeenOfSpec) :=
  OpenClaim.holds_of_wide 4 Try.f4 rfl rfl rfl rfl rfl rfl rfl ⟨rfl, rfl, rfl, rfl, rfl⟩ rfl rfl rfl rfl rfl (by kernel_rfl) Try.func4 (by kernel_rfl)
    (of_decide_eq_true (by kernel_rfl)) (by unfold Func.isWrapper; first | (rw [if_pos (by decide +kernel)]; kernel_rfl) | (rw [if_neg (by decide +kernel)]; exact ⟨rfl, rfl⟩))
    (fun os started H enc _ => lifted os started H enc)

/-- The given statement. -/
theorem proved : Rows.FnExactSeenOfSaid :=
  over
#print axioms proved
end Go.Proofs.Ytmiokacihcpepaa.fnExactSeenOf
