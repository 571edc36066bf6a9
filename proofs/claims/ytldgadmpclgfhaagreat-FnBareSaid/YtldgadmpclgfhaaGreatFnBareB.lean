/-
  For every slice of bytes the law FnBare returns true: a new machine is valid if its programs are, a guest that was put into a machine is found there, and the project's functions answer as the given model's. No condition.
-/
import Derived.Test.YtldgadmpclgfhaaGreatFnBareB5
namespace Go.Proofs.YtldgadmpclgfhaaGreat.fnBare
set_option maxHeartbeats 8000000
set_option maxRecDepth 100000
set_option maxRecDepth 100000
open Go.ChangeShapes Go.WideShapes Go.ChangeAt Go.RowKit
open Go.Proofs.YtldgadmpclgfhaaGreat.Base Go.Proofs.YtldgadmpclgfhaaGreat.Mem Go.Proofs.YtldgadmpclgfhaaGreat.Data Go.Proofs.YtldgadmpclgfhaaGreat.Slots Go.Proofs.YtldgadmpclgfhaaGreat.Ints Go.Proofs.YtldgadmpclgfhaaGreat.Ctls Go.Proofs.YtldgadmpclgfhaaGreat.Exits Go.Proofs.YtldgadmpclgfhaaGreat.Stt Go.Proofs.YtldgadmpclgfhaaGreat.Irqs Go.Proofs.YtldgadmpclgfhaaGreat.Inss Go.Proofs.YtldgadmpclgfhaaGreat.Draw Go.Proofs.YtldgadmpclgfhaaGreat.Guests Go.Proofs.YtldgadmpclgfhaaGreat.Kit
set_option linter.unusedVariables false
set_option linter.unusedSimpArgs false
theorem one_pw : (rLsw (rLsw (rPair rInt rInt))).wf [[(7, 0)]] := ⟨by decide, fun p hp => by
 have : p = [(7, 0)] := by simpa using hp
 subst this
 exact ⟨by decide, fun s hs => by
  have : s = (7, 0) := by simpa using hs
  subst this
  exact ⟨(show (Lit.int .i64 7).wf = true by decide), (show (Lit.int .i64 0).wf = true by decide)⟩⟩⟩
theorem one_pc : (rLsw (rLsw (rPair rInt rInt))).cap [[(7, 0)]] := ⟨by decide, fun p hp => by
 have : p = [(7, 0)] := by simpa using hp
 subst this
 exact ⟨by decide, fun _ _ => ⟨trivial, trivial⟩⟩⟩
theorem progs_cap {l : List (List (Int × Int))} (h : progsD l) : (rLsw (rLsw (rPair rInt rInt))).cap l := ⟨by have := h.1; omega, fun p hp => ⟨by have := (h.2 p hp).2; omega, fun _ _ => ⟨trivial, trivial⟩⟩⟩
theorem progs_wf {l : List (List (Int × Int))} (h : progsD l) : (rLsw (rLsw (rPair rInt rInt))).wf l := ⟨Nat.le_trans h.1 (by decide), fun p hp => ⟨Nat.le_trans (h.2 p hp).2 (by decide), fun s hs => (h.2 p hp).1 s hs⟩⟩
theorem newB_cap {l : List (List (Int × Int))} (h : progsD l) : wB.cap (newB l) := cap_newB (progs_cap h)
theorem wf_withG {b : bT} (g : Int) {y : gT} (h : wB.wf b) (hy : wG.wf y) : wB.wf (withG b g y) := by
 unfold withG
 split
 ·
  exact ⟨h.1, ⟨by show (b.gs.set g.toNat y).length ≤ _; rw [List.length_set]; exact h.2.1.1, fun q hq => by rcases List.mem_or_eq_of_mem_set hq with h1 | h1; exact h.2.1.2 q h1; rw [h1]; exact hy⟩, h.2.2⟩
 ·
  exact h
theorem walk (A : Option Addr) (n c : Nat) (hn : n ≤ maxLen) {w : World} (hcode : CodeAt w A n) :
  Calls Tryz.prog 3 #[.slice A n c] w fun e w' => e = .returned (.bool true) ∧ Below w.heap.size w w' := by
 replace hn : n ≤ 9223372036854775807 := hn
 by_cases h1 : 1048576 < n
 ·
  refine Sx.enter (args := [.slice A n c]) Tryz.func3 rfl Tryz.ntmps3 rfl ?_
  refine Sx.C.seq (Sx.C.region ?_)
  refine Sx.G.p (.bool false) ?_
  refine Sx.G.nil (Sx.E.next (Sx.C.seq (Sx.C.seq (Sx.C.region ?_))))
  refine Sx.G.p (.slice A n c) ?_
  refine Sx.G.cp 4 #[.slice A n c] (.bool true) (fun w S => by exact ((big_yes A n c _ hn h1).mono fun e w' h => And.intro h.1 (below_eq h.2))) ?_
  refine Sx.G.nil (Sx.E.next ?_)
  refine Sx.C.yes (by kernel_rfl) (by kernel_rfl) ?_
  refine Sx.C.seq (Sx.C.region ?_)
  refine Sx.G.p (.bool true) ?_
  refine Sx.G.nil (Sx.E.next (Sx.C.ret (Sx.E.then_ret ?_)))
  refine Sx.E.ret1 (.bool true) rfl (by kernel_rfl) (fun w S => ?_)
  exact ⟨rfl, S.below⟩
 ·
  have hn2 : n ≤ 1048576 := by omega
  refine Sx.enter (args := [.slice A n c]) Tryz.func3 rfl Tryz.ntmps3 rfl ?_
  refine Sx.C.seq (Sx.C.region ?_)
  refine Sx.G.p (.bool false) ?_
  refine Sx.G.nil (Sx.E.next (Sx.C.seq (Sx.C.seq (Sx.C.region ?_))))
  refine Sx.G.p (.slice A n c) ?_
  refine Sx.G.cp 4 #[.slice A n c] (.bool false) (fun w S => by exact ((big_no A n c _ hn2).mono fun e w' h => And.intro h.1 (below_eq h.2))) ?_
  refine Sx.G.nil (Sx.E.next ?_)
  refine Sx.C.no (by kernel_rfl) (by kernel_rfl) ?_
  refine Sx.C.skip (Sx.E.next (Sx.C.seq (Sx.C.region ?_)))
  refine Sx.G.p (.slice A n c) ?_
  refine Sx.G.c 5 #[.slice A n c] (fun w1 S => (drawBareNew A n c _ hn2 (hcode.below S.below)).mono fun e w1' hp => ?_)
  obtain ⟨l1, Al1, cl1, rfl, hgl1, hrl1, hb⟩ := hp
  refine ⟨_, _, rfl, (Sx.St.gotR (r := (rLsw (rLsw (rPair rInt rInt)))) S hb hrl1), ?_⟩
  clear S hb hrl1
  refine Sx.G.p (.slice Al1 l1.length cl1) ?_
  refine Sx.G.nil (Sx.E.next (Sx.C.seq (Sx.C.region ?_)))
  refine Sx.G.p (.slice Al1 l1.length cl1) ?_
  refine Sx.G.c 6 #[.slice Al1 l1.length cl1] (fun w2 S => (impl_bnew l1 _ _ _ (progs_wf hgl1) (progs_cap hgl1) (Sx.St.rdc S 0 rfl)).mono fun e w2' hp => ?_)
  obtain ⟨cs, F, rfl, ho, hF, hb⟩ := hp
  have hrd := wB.reads ho
  clear ho hF
  obtain ⟨P2_0, P2_1, P2_2, rfl, f0, f1, f2⟩ := wB_rd hrd
  obtain ⟨A2_0, c2_0, e0, -⟩ := lst_val f0
  subst e0
  obtain ⟨A2_1, c2_1, e0, -⟩ := lst_val f1
  subst e0
  obtain ⟨A2_2, c2_2, e0, -⟩ := lst_val f2
  subst e0
  clear f0 f1 f2
  refine ⟨_, _, rfl, (Sx.St.gotR (r := wB) S hb hrd), ?_⟩
  clear S hb hrd
  refine Sx.G.ar [.slice none 0 0, .slice none 0 0, .slice none 0 0, .int .i64 0] (fun b3 => ?_)
  refine Sx.G.sw [.slice A2_0 (newB l1).mem.length c2_0, .slice A2_1 (newB l1).gs.length c2_1, .slice A2_2 (newB l1).outs.length c2_2, .int .i64 (newB l1).pd] .a0 ?_
  refine Sx.G.nil (Sx.E.next (Sx.C.seq (Sx.C.region ?_)))
  refine Sx.G.p (.slice A n c) ?_
  refine Sx.G.c 7 #[.slice A n c] (fun w4 S => (drawWithGuest A n c _ hn2 (hcode.below S.below)).mono fun e w4' hp => ?_)
  obtain ⟨x4, csx4, n4, y4, csy4, rfl, ⟨hgx4, hrx4⟩, hwn4, ⟨hgy4, hry4⟩, hb⟩ := hp
  have hqx4 := hrx4
  obtain ⟨Px4_0, Px4_1, Px4_2, rfl, f0, f1, f2⟩ := wB_rd hqx4
  obtain ⟨Ax4_0, cx4_0, e0, -⟩ := lst_val f0
  subst e0
  obtain ⟨Ax4_1, cx4_1, e0, -⟩ := lst_val f1
  subst e0
  obtain ⟨Ax4_2, cx4_2, e0, -⟩ := lst_val f2
  subst e0
  clear f0 f1 f2
  have hqy4 := hry4
  obtain ⟨Py4_0, Py4_1, Py4_2, Py4_3, rfl, f0, f1, f2, f3⟩ := wG_rd hqy4
  obtain ⟨Ay4_0, cy4_0, e0, -⟩ := lst_val f0
  subst e0
  obtain ⟨Ay4_1, cy4_1, e0, -⟩ := lst_val f1
  subst e0
  obtain ⟨Ay4_2, cy4_2, e0, -⟩ := lst_val f2
  subst e0
  obtain ⟨Ay4_3, cy4_3, e0, -⟩ := lst_val f3
  subst e0
  clear f0 f1 f2 f3
  refine ⟨_, _, rfl, (Sx.St.gotR2 (r := wB) (q := wG) S hb hrx4 hry4), ?_⟩
  clear S hb hrx4 hry4
  refine Sx.G.p (.tuple #[.agg #[.slice Ax4_0 x4.mem.length cx4_0, .slice Ax4_1 x4.gs.length cx4_1, .slice Ax4_2 x4.outs.length cx4_2, .int .i64 x4.pd], .int .i64 n4, .agg #[.slice Ay4_0 y4.prog.length cy4_0, .int .i64 y4.a, .int .i64 y4.pc, .slice Ay4_1 y4.wr.length cy4_1, .slice Ay4_2 y4.lv.length cy4_2, .int .i64 y4.t.1, .int .i64 y4.t.2.1, .bool y4.t.2.2, .int .i64 y4.pd, .int .i64 y4.x.1, .int .i64 y4.x.2.1, .bool y4.x.2.2.1, .int .i64 y4.x.2.2.2, .bool y4.hl, .slice Ay4_3 y4.seen.length cy4_3]]) ?_
  refine Sx.G.p (.agg #[.slice Ax4_0 x4.mem.length cx4_0, .slice Ax4_1 x4.gs.length cx4_1, .slice Ax4_2 x4.outs.length cx4_2, .int .i64 x4.pd]) ?_
  refine Sx.G.p (.int .i64 n4) ?_
  refine Sx.G.p (.agg #[.slice Ay4_0 y4.prog.length cy4_0, .int .i64 y4.a, .int .i64 y4.pc, .slice Ay4_1 y4.wr.length cy4_1, .slice Ay4_2 y4.lv.length cy4_2, .int .i64 y4.t.1, .int .i64 y4.t.2.1, .bool y4.t.2.2, .int .i64 y4.pd, .int .i64 y4.x.1, .int .i64 y4.x.2.1, .bool y4.x.2.2.1, .int .i64 y4.x.2.2.2, .bool y4.hl, .slice Ay4_3 y4.seen.length cy4_3]) ?_
  refine Sx.G.ar [.slice none 0 0, .slice none 0 0, .slice none 0 0, .int .i64 0] (fun b5 => ?_)
  refine Sx.G.ar [.slice none 0 0, .int .i64 0, .int .i64 0, .slice none 0 0, .slice none 0 0, .int .i64 0, .int .i64 0, .bool false, .int .i64 0, .int .i64 0, .int .i64 0, .bool false, .int .i64 0, .bool false, .slice none 0 0] (fun b6 => ?_)
  refine Sx.G.sw [.slice Ax4_0 x4.mem.length cx4_0, .slice Ax4_1 x4.gs.length cx4_1, .slice Ax4_2 x4.outs.length cx4_2, .int .i64 x4.pd] .a1 ?_
  refine Sx.G.p (.int .i64 n4) ?_
  refine Sx.G.sw [.slice Ay4_0 y4.prog.length cy4_0, .int .i64 y4.a, .int .i64 y4.pc, .slice Ay4_1 y4.wr.length cy4_1, .slice Ay4_2 y4.lv.length cy4_2, .int .i64 y4.t.1, .int .i64 y4.t.2.1, .bool y4.t.2.2, .int .i64 y4.pd, .int .i64 y4.x.1, .int .i64 y4.x.2.1, .bool y4.x.2.2.1, .int .i64 y4.x.2.2.2, .bool y4.hl, .slice Ay4_3 y4.seen.length cy4_3] .a0 ?_
  refine Sx.G.nil (Sx.E.next (Sx.C.seq (Sx.C.region ?_)))
  refine Sx.G.lw .m1 ?_
  refine Sx.G.p (.int .i64 n4) ?_
  refine Sx.G.lw .m0 ?_
  refine Sx.G.c 8 #[.agg #[.slice Ax4_0 x4.mem.length cx4_0, .slice Ax4_1 x4.gs.length cx4_1, .slice Ax4_2 x4.outs.length cx4_2, .int .i64 x4.pd], .int .i64 n4, .agg #[.slice Ay4_0 y4.prog.length cy4_0, .int .i64 y4.a, .int .i64 y4.pc, .slice Ay4_1 y4.wr.length cy4_1, .slice Ay4_2 y4.lv.length cy4_2, .int .i64 y4.t.1, .int .i64 y4.t.2.1, .bool y4.t.2.2, .int .i64 y4.pd, .int .i64 y4.x.1, .int .i64 y4.x.2.1, .bool y4.x.2.2.1, .int .i64 y4.x.2.2.2, .bool y4.hl, .slice Ay4_3 y4.seen.length cy4_3]] (fun w7 S => (impl_withg x4 _ n4 y4 _ _ (bD_wf hgx4) (bD_sm hgx4) (Sx.St.rdca S 2 rfl) hwn4 hgy4.1 (gD.cap hgy4) (Sx.St.rdcb S 2 rfl)).mono fun e w7' hp => ?_)
  obtain ⟨cs, F, rfl, ho, hF, hb⟩ := hp
  have hrd := wB.reads ho
  clear ho hF
  obtain ⟨P7_0, P7_1, P7_2, rfl, f0, f1, f2⟩ := wB_rd hrd
  obtain ⟨A7_0, c7_0, e0, -⟩ := lst_val f0
  subst e0
  obtain ⟨A7_1, c7_1, e0, -⟩ := lst_val f1
  subst e0
  obtain ⟨A7_2, c7_2, e0, -⟩ := lst_val f2
  subst e0
  clear f0 f1 f2
  refine ⟨_, _, rfl, (Sx.St.gotR (r := wB) S hb hrd), ?_⟩
  clear S hb hrd
  refine Sx.G.ar [.slice none 0 0, .slice none 0 0, .slice none 0 0, .int .i64 0] (fun b8 => ?_)
  refine Sx.G.sw [.slice A7_0 (withG x4 n4 y4).mem.length c7_0, .slice A7_1 (withG x4 n4 y4).gs.length c7_1, .slice A7_2 (withG x4 n4 y4).outs.length c7_2, .int .i64 (withG x4 n4 y4).pd] .a0 ?_
  refine Sx.G.nil (Sx.E.next (Sx.C.seq (Sx.C.region ?_)))
  refine Sx.G.p (.slice A n c) ?_
  refine Sx.G.c 9 #[.slice A n c] (fun w9 S => (drawGuestAt A n c _ hn2 (hcode.below S.below)).mono fun e w9' hp => ?_)
  obtain ⟨x9, csx9, n9, rfl, ⟨hgx9, hrx9⟩, hwn9, hb⟩ := hp
  have hqx9 := hrx9
  obtain ⟨Px9_0, Px9_1, Px9_2, rfl, f0, f1, f2⟩ := wB_rd hqx9
  obtain ⟨Ax9_0, cx9_0, e0, -⟩ := lst_val f0
  subst e0
  obtain ⟨Ax9_1, cx9_1, e0, -⟩ := lst_val f1
  subst e0
  obtain ⟨Ax9_2, cx9_2, e0, -⟩ := lst_val f2
  subst e0
  clear f0 f1 f2
  refine ⟨_, _, rfl, (Sx.St.gotR (r := wB) S hb hrx9), ?_⟩
  clear S hb hrx9
  refine Sx.G.p (.tuple #[.agg #[.slice Ax9_0 x9.mem.length cx9_0, .slice Ax9_1 x9.gs.length cx9_1, .slice Ax9_2 x9.outs.length cx9_2, .int .i64 x9.pd], .int .i64 n9]) ?_
  refine Sx.G.p (.agg #[.slice Ax9_0 x9.mem.length cx9_0, .slice Ax9_1 x9.gs.length cx9_1, .slice Ax9_2 x9.outs.length cx9_2, .int .i64 x9.pd]) ?_
  refine Sx.G.p (.int .i64 n9) ?_
  refine Sx.G.ar [.slice none 0 0, .slice none 0 0, .slice none 0 0, .int .i64 0] (fun b10 => ?_)
  refine Sx.G.sw [.slice Ax9_0 x9.mem.length cx9_0, .slice Ax9_1 x9.gs.length cx9_1, .slice Ax9_2 x9.outs.length cx9_2, .int .i64 x9.pd] .a0 ?_
  refine Sx.G.p (.int .i64 n9) ?_
  refine Sx.G.nil (Sx.E.next (Sx.C.seq (Sx.C.region ?_)))
  refine Sx.G.lw .m0 ?_
  refine Sx.G.p (.int .i64 n9) ?_
  refine Sx.G.c 10 #[.agg #[.slice Ax9_0 x9.mem.length cx9_0, .slice Ax9_1 x9.gs.length cx9_1, .slice Ax9_2 x9.outs.length cx9_2, .int .i64 x9.pd], .int .i64 n9] (fun w11 S => (impl_gat x9 _ n9 _ (bD_wf hgx9) (bD_sm hgx9) (Sx.St.rdc S 1 rfl) hwn9).mono fun e w11' hp => ?_)
  obtain ⟨cs, F, rfl, ho, hF, hb⟩ := hp
  have hrd := wG.reads ho
  clear ho hF
  obtain ⟨P11_0, P11_1, P11_2, P11_3, rfl, f0, f1, f2, f3⟩ := wG_rd hrd
  obtain ⟨A11_0, c11_0, e0, -⟩ := lst_val f0
  subst e0
  obtain ⟨A11_1, c11_1, e0, -⟩ := lst_val f1
  subst e0
  obtain ⟨A11_2, c11_2, e0, -⟩ := lst_val f2
  subst e0
  obtain ⟨A11_3, c11_3, e0, -⟩ := lst_val f3
  subst e0
  clear f0 f1 f2 f3
  refine ⟨_, _, rfl, (Sx.St.gotR (r := wG) S hb hrd), ?_⟩
  clear S hb hrd
  refine Sx.G.p (.tuple #[.agg #[.slice A11_0 ((guestAt x9 n9).1).prog.length c11_0, .int .i64 ((guestAt x9 n9).1).a, .int .i64 ((guestAt x9 n9).1).pc, .slice A11_1 ((guestAt x9 n9).1).wr.length c11_1, .slice A11_2 ((guestAt x9 n9).1).lv.length c11_2, .int .i64 ((guestAt x9 n9).1).t.1, .int .i64 ((guestAt x9 n9).1).t.2.1, .bool ((guestAt x9 n9).1).t.2.2, .int .i64 ((guestAt x9 n9).1).pd, .int .i64 ((guestAt x9 n9).1).x.1, .int .i64 ((guestAt x9 n9).1).x.2.1, .bool ((guestAt x9 n9).1).x.2.2.1, .int .i64 ((guestAt x9 n9).1).x.2.2.2, .bool ((guestAt x9 n9).1).hl, .slice A11_3 ((guestAt x9 n9).1).seen.length c11_3], .bool (guestAt x9 n9).2]) ?_
  refine Sx.G.p (.agg #[.slice A11_0 ((guestAt x9 n9).1).prog.length c11_0, .int .i64 ((guestAt x9 n9).1).a, .int .i64 ((guestAt x9 n9).1).pc, .slice A11_1 ((guestAt x9 n9).1).wr.length c11_1, .slice A11_2 ((guestAt x9 n9).1).lv.length c11_2, .int .i64 ((guestAt x9 n9).1).t.1, .int .i64 ((guestAt x9 n9).1).t.2.1, .bool ((guestAt x9 n9).1).t.2.2, .int .i64 ((guestAt x9 n9).1).pd, .int .i64 ((guestAt x9 n9).1).x.1, .int .i64 ((guestAt x9 n9).1).x.2.1, .bool ((guestAt x9 n9).1).x.2.2.1, .int .i64 ((guestAt x9 n9).1).x.2.2.2, .bool ((guestAt x9 n9).1).hl, .slice A11_3 ((guestAt x9 n9).1).seen.length c11_3]) ?_
  refine Sx.G.p (.bool ((guestAt x9 n9).2)) ?_
  refine Sx.G.ar [.slice none 0 0, .int .i64 0, .int .i64 0, .slice none 0 0, .slice none 0 0, .int .i64 0, .int .i64 0, .bool false, .int .i64 0, .int .i64 0, .int .i64 0, .bool false, .int .i64 0, .bool false, .slice none 0 0] (fun b12 => ?_)
  refine Sx.G.sw [.slice A11_0 ((guestAt x9 n9).1).prog.length c11_0, .int .i64 ((guestAt x9 n9).1).a, .int .i64 ((guestAt x9 n9).1).pc, .slice A11_1 ((guestAt x9 n9).1).wr.length c11_1, .slice A11_2 ((guestAt x9 n9).1).lv.length c11_2, .int .i64 ((guestAt x9 n9).1).t.1, .int .i64 ((guestAt x9 n9).1).t.2.1, .bool ((guestAt x9 n9).1).t.2.2, .int .i64 ((guestAt x9 n9).1).pd, .int .i64 ((guestAt x9 n9).1).x.1, .int .i64 ((guestAt x9 n9).1).x.2.1, .bool ((guestAt x9 n9).1).x.2.2.1, .int .i64 ((guestAt x9 n9).1).x.2.2.2, .bool ((guestAt x9 n9).1).hl, .slice A11_3 ((guestAt x9 n9).1).seen.length c11_3] .a0 ?_
  refine Sx.G.p (.bool ((guestAt x9 n9).2)) ?_
  refine Sx.G.nil (Sx.E.next (Sx.C.seq (Sx.C.region ?_)))
  refine Sx.G.lw .m2 ?_
  refine Sx.G.p (.int .i64 n9) ?_
  refine Sx.G.c 11 #[.agg #[.slice Ax9_0 x9.mem.length cx9_0, .slice Ax9_1 x9.gs.length cx9_1, .slice Ax9_2 x9.outs.length cx9_2, .int .i64 x9.pd], .int .i64 n9] (fun w13 S => (specx_gat x9 _ n9 _ (bD_sm hgx9) (Sx.St.rdc S 3 rfl)).mono fun e w13' hp => ?_)
  obtain ⟨cs, F, rfl, ho, hF, hb⟩ := hp
  have hrd := wG.reads ho
  clear ho hF
  obtain ⟨P13_0, P13_1, P13_2, P13_3, rfl, f0, f1, f2, f3⟩ := wG_rd hrd
  obtain ⟨A13_0, c13_0, e0, -⟩ := lst_val f0
  subst e0
  obtain ⟨A13_1, c13_1, e0, -⟩ := lst_val f1
  subst e0
  obtain ⟨A13_2, c13_2, e0, -⟩ := lst_val f2
  subst e0
  obtain ⟨A13_3, c13_3, e0, -⟩ := lst_val f3
  subst e0
  clear f0 f1 f2 f3
  refine ⟨_, _, rfl, (Sx.St.gotR (r := wG) S hb hrd), ?_⟩
  clear S hb hrd
  refine Sx.G.p (.tuple #[.agg #[.slice A13_0 ((guestAt x9 n9).1).prog.length c13_0, .int .i64 ((guestAt x9 n9).1).a, .int .i64 ((guestAt x9 n9).1).pc, .slice A13_1 ((guestAt x9 n9).1).wr.length c13_1, .slice A13_2 ((guestAt x9 n9).1).lv.length c13_2, .int .i64 ((guestAt x9 n9).1).t.1, .int .i64 ((guestAt x9 n9).1).t.2.1, .bool ((guestAt x9 n9).1).t.2.2, .int .i64 ((guestAt x9 n9).1).pd, .int .i64 ((guestAt x9 n9).1).x.1, .int .i64 ((guestAt x9 n9).1).x.2.1, .bool ((guestAt x9 n9).1).x.2.2.1, .int .i64 ((guestAt x9 n9).1).x.2.2.2, .bool ((guestAt x9 n9).1).hl, .slice A13_3 ((guestAt x9 n9).1).seen.length c13_3], .bool (guestAt x9 n9).2]) ?_
  refine Sx.G.p (.agg #[.slice A13_0 ((guestAt x9 n9).1).prog.length c13_0, .int .i64 ((guestAt x9 n9).1).a, .int .i64 ((guestAt x9 n9).1).pc, .slice A13_1 ((guestAt x9 n9).1).wr.length c13_1, .slice A13_2 ((guestAt x9 n9).1).lv.length c13_2, .int .i64 ((guestAt x9 n9).1).t.1, .int .i64 ((guestAt x9 n9).1).t.2.1, .bool ((guestAt x9 n9).1).t.2.2, .int .i64 ((guestAt x9 n9).1).pd, .int .i64 ((guestAt x9 n9).1).x.1, .int .i64 ((guestAt x9 n9).1).x.2.1, .bool ((guestAt x9 n9).1).x.2.2.1, .int .i64 ((guestAt x9 n9).1).x.2.2.2, .bool ((guestAt x9 n9).1).hl, .slice A13_3 ((guestAt x9 n9).1).seen.length c13_3]) ?_
  refine Sx.G.p (.bool ((guestAt x9 n9).2)) ?_
  refine Sx.G.ar [.slice none 0 0, .int .i64 0, .int .i64 0, .slice none 0 0, .slice none 0 0, .int .i64 0, .int .i64 0, .bool false, .int .i64 0, .int .i64 0, .int .i64 0, .bool false, .int .i64 0, .bool false, .slice none 0 0] (fun b14 => ?_)
  refine Sx.G.sw [.slice A13_0 ((guestAt x9 n9).1).prog.length c13_0, .int .i64 ((guestAt x9 n9).1).a, .int .i64 ((guestAt x9 n9).1).pc, .slice A13_1 ((guestAt x9 n9).1).wr.length c13_1, .slice A13_2 ((guestAt x9 n9).1).lv.length c13_2, .int .i64 ((guestAt x9 n9).1).t.1, .int .i64 ((guestAt x9 n9).1).t.2.1, .bool ((guestAt x9 n9).1).t.2.2, .int .i64 ((guestAt x9 n9).1).pd, .int .i64 ((guestAt x9 n9).1).x.1, .int .i64 ((guestAt x9 n9).1).x.2.1, .bool ((guestAt x9 n9).1).x.2.2.1, .int .i64 ((guestAt x9 n9).1).x.2.2.2, .bool ((guestAt x9 n9).1).hl, .slice A13_3 ((guestAt x9 n9).1).seen.length c13_3] .a0 ?_
  refine Sx.G.p (.bool ((guestAt x9 n9).2)) ?_
  refine Sx.G.nil (Sx.E.next (Sx.C.seq (Sx.C.region ?_)))
  refine Sx.G.p (.slice A n c) ?_
  refine Sx.G.c 12 #[.slice A n c] (fun w15 S => (drawPutOut A n c _ hn2 (hcode.below S.below)).mono fun e w15' hp => ?_)
  obtain ⟨x15, csx15, n15, rfl, ⟨hgx15, hrx15⟩, hwn15, hb⟩ := hp
  have hqx15 := hrx15
  obtain ⟨Px15_0, Px15_1, Px15_2, rfl, f0, f1, f2⟩ := wB_rd hqx15
  obtain ⟨Ax15_0, cx15_0, e0, -⟩ := lst_val f0
  subst e0
  obtain ⟨Ax15_1, cx15_1, e0, -⟩ := lst_val f1
  subst e0
  obtain ⟨Ax15_2, cx15_2, e0, -⟩ := lst_val f2
  subst e0
  clear f0 f1 f2
  refine ⟨_, _, rfl, (Sx.St.gotR (r := wB) S hb hrx15), ?_⟩
  clear S hb hrx15
  refine Sx.G.p (.tuple #[.agg #[.slice Ax15_0 x15.mem.length cx15_0, .slice Ax15_1 x15.gs.length cx15_1, .slice Ax15_2 x15.outs.length cx15_2, .int .i64 x15.pd], .int .i64 n15]) ?_
  refine Sx.G.p (.agg #[.slice Ax15_0 x15.mem.length cx15_0, .slice Ax15_1 x15.gs.length cx15_1, .slice Ax15_2 x15.outs.length cx15_2, .int .i64 x15.pd]) ?_
  refine Sx.G.p (.int .i64 n15) ?_
  refine Sx.G.ar [.slice none 0 0, .slice none 0 0, .slice none 0 0, .int .i64 0] (fun b16 => ?_)
  refine Sx.G.sw [.slice Ax15_0 x15.mem.length cx15_0, .slice Ax15_1 x15.gs.length cx15_1, .slice Ax15_2 x15.outs.length cx15_2, .int .i64 x15.pd] .a0 ?_
  refine Sx.G.p (.int .i64 n15) ?_
  refine Sx.G.nil (Sx.E.next (Sx.C.seq (Sx.C.region ?_)))
  refine Sx.G.p (.slice A n c) ?_
  refine Sx.G.c 13 #[.slice A n c] (fun w17 S => (drawSameBare A n c _ hn2 (hcode.below S.below)).mono fun e w17' hp => ?_)
  obtain ⟨x17, csx17, y17, csy17, rfl, ⟨hgx17, hrx17⟩, ⟨hgy17, hry17⟩, hb⟩ := hp
  have hqx17 := hrx17
  obtain ⟨Px17_0, Px17_1, Px17_2, rfl, f0, f1, f2⟩ := wB_rd hqx17
  obtain ⟨Ax17_0, cx17_0, e0, -⟩ := lst_val f0
  subst e0
  obtain ⟨Ax17_1, cx17_1, e0, -⟩ := lst_val f1
  subst e0
  obtain ⟨Ax17_2, cx17_2, e0, -⟩ := lst_val f2
  subst e0
  clear f0 f1 f2
  have hqy17 := hry17
  obtain ⟨Py17_0, Py17_1, Py17_2, rfl, f0, f1, f2⟩ := wB_rd hqy17
  obtain ⟨Ay17_0, cy17_0, e0, -⟩ := lst_val f0
  subst e0
  obtain ⟨Ay17_1, cy17_1, e0, -⟩ := lst_val f1
  subst e0
  obtain ⟨Ay17_2, cy17_2, e0, -⟩ := lst_val f2
  subst e0
  clear f0 f1 f2
  refine ⟨_, _, rfl, (Sx.St.gotR2 (r := wB) (q := wB) S hb hrx17 hry17), ?_⟩
  clear S hb hrx17 hry17
  refine Sx.G.p (.tuple #[.agg #[.slice Ax17_0 x17.mem.length cx17_0, .slice Ax17_1 x17.gs.length cx17_1, .slice Ax17_2 x17.outs.length cx17_2, .int .i64 x17.pd], .agg #[.slice Ay17_0 y17.mem.length cy17_0, .slice Ay17_1 y17.gs.length cy17_1, .slice Ay17_2 y17.outs.length cy17_2, .int .i64 y17.pd]]) ?_
  refine Sx.G.p (.agg #[.slice Ax17_0 x17.mem.length cx17_0, .slice Ax17_1 x17.gs.length cx17_1, .slice Ax17_2 x17.outs.length cx17_2, .int .i64 x17.pd]) ?_
  refine Sx.G.p (.agg #[.slice Ay17_0 y17.mem.length cy17_0, .slice Ay17_1 y17.gs.length cy17_1, .slice Ay17_2 y17.outs.length cy17_2, .int .i64 y17.pd]) ?_
  refine Sx.G.ar [.slice none 0 0, .slice none 0 0, .slice none 0 0, .int .i64 0] (fun b18 => ?_)
  refine Sx.G.ar [.slice none 0 0, .slice none 0 0, .slice none 0 0, .int .i64 0] (fun b19 => ?_)
  refine Sx.G.sw [.slice Ax17_0 x17.mem.length cx17_0, .slice Ax17_1 x17.gs.length cx17_1, .slice Ax17_2 x17.outs.length cx17_2, .int .i64 x17.pd] .a1 ?_
  refine Sx.G.sw [.slice Ay17_0 y17.mem.length cy17_0, .slice Ay17_1 y17.gs.length cy17_1, .slice Ay17_2 y17.outs.length cy17_2, .int .i64 y17.pd] .a0 ?_
  refine Sx.G.nil (Sx.E.next (Sx.C.seq (Sx.C.region ?_)))
  refine Sx.G.p (.slice A n c) ?_
  refine Sx.G.c 14 #[.slice A n c] (fun w20 S => (drawBareOk A n c _ hn2 (hcode.below S.below)).mono fun e w20' hp => ?_)
  obtain ⟨x20, csx20, rfl, ⟨hgx20, hrx20⟩, hb⟩ := hp
  have hqx20 := hrx20
  obtain ⟨Px20_0, Px20_1, Px20_2, rfl, f0, f1, f2⟩ := wB_rd hqx20
  obtain ⟨Ax20_0, cx20_0, e0, -⟩ := lst_val f0
  subst e0
  obtain ⟨Ax20_1, cx20_1, e0, -⟩ := lst_val f1
  subst e0
  obtain ⟨Ax20_2, cx20_2, e0, -⟩ := lst_val f2
  subst e0
  clear f0 f1 f2
  refine ⟨_, _, rfl, (Sx.St.gotR (r := wB) S hb hrx20), ?_⟩
  clear S hb hrx20
  refine Sx.G.ar [.slice none 0 0, .slice none 0 0, .slice none 0 0, .int .i64 0] (fun b21 => ?_)
  refine Sx.G.sw [.slice Ax20_0 x20.mem.length cx20_0, .slice Ax20_1 x20.gs.length cx20_1, .slice Ax20_2 x20.outs.length cx20_2, .int .i64 x20.pd] .a0 ?_
  refine Sx.G.nil (Sx.E.next (Sx.C.seq (Sx.C.seq ?_)))
  refine Sx.C.draw (.take 0 (.take 1 (.alone 2 (.alone 3 (.take 4 (.take 5 (.take 6 (.take 7 (.take 8 (.take 9 (.alone 10 (.alone 11 (.take 12 (.take 13 (.take 14 (.take 15 (.take 16 (.take 17 (.take 18 (.take 19 (.take 20 (.take 21 (.alone 22 (.take 23 (.take 24 (.take 25 (.take 26 (.take 27 (.take 29 (.take 30 (.alone 28 (.alone 31 (.alone 32 (.take 33 (.take 34 (.take 35 (.take 36 (.take 37 (.take 39 (.take 40 (.alone 38 (.alone 41 (.take 42 (.take 43 (.take 44 (.take 45 (.take 47 (.alone 46 (.alone 48 (.take 49 (.take 50 .nil))))))))))))))))))))))))))))))))))))))))))))))))))) [vr b21 [.slice Ax20_0 x20.mem.length cx20_0, .slice Ax20_1 x20.gs.length cx20_1, .slice Ax20_2 x20.outs.length cx20_2, .int .i64 x20.pd], vr b19 [.slice Ay17_0 y17.mem.length cy17_0, .slice Ay17_1 y17.gs.length cy17_1, .slice Ay17_2 y17.outs.length cy17_2, .int .i64 y17.pd], vr b18 [.slice Ax17_0 x17.mem.length cx17_0, .slice Ax17_1 x17.gs.length cx17_1, .slice Ax17_2 x17.outs.length cx17_2, .int .i64 x17.pd], vr b16 [.slice Ax15_0 x15.mem.length cx15_0, .slice Ax15_1 x15.gs.length cx15_1, .slice Ax15_2 x15.outs.length cx15_2, .int .i64 x15.pd], vr b14 [.slice A13_0 ((guestAt x9 n9).1).prog.length c13_0, .int .i64 ((guestAt x9 n9).1).a, .int .i64 ((guestAt x9 n9).1).pc, .slice A13_1 ((guestAt x9 n9).1).wr.length c13_1, .slice A13_2 ((guestAt x9 n9).1).lv.length c13_2, .int .i64 ((guestAt x9 n9).1).t.1, .int .i64 ((guestAt x9 n9).1).t.2.1, .bool ((guestAt x9 n9).1).t.2.2, .int .i64 ((guestAt x9 n9).1).pd, .int .i64 ((guestAt x9 n9).1).x.1, .int .i64 ((guestAt x9 n9).1).x.2.1, .bool ((guestAt x9 n9).1).x.2.2.1, .int .i64 ((guestAt x9 n9).1).x.2.2.2, .bool ((guestAt x9 n9).1).hl, .slice A13_3 ((guestAt x9 n9).1).seen.length c13_3], vr b12 [.slice A11_0 ((guestAt x9 n9).1).prog.length c11_0, .int .i64 ((guestAt x9 n9).1).a, .int .i64 ((guestAt x9 n9).1).pc, .slice A11_1 ((guestAt x9 n9).1).wr.length c11_1, .slice A11_2 ((guestAt x9 n9).1).lv.length c11_2, .int .i64 ((guestAt x9 n9).1).t.1, .int .i64 ((guestAt x9 n9).1).t.2.1, .bool ((guestAt x9 n9).1).t.2.2, .int .i64 ((guestAt x9 n9).1).pd, .int .i64 ((guestAt x9 n9).1).x.1, .int .i64 ((guestAt x9 n9).1).x.2.1, .bool ((guestAt x9 n9).1).x.2.2.1, .int .i64 ((guestAt x9 n9).1).x.2.2.2, .bool ((guestAt x9 n9).1).hl, .slice A11_3 ((guestAt x9 n9).1).seen.length c11_3], vr b8 [.slice A7_0 (withG x4 n4 y4).mem.length c7_0, .slice A7_1 (withG x4 n4 y4).gs.length c7_1, .slice A7_2 (withG x4 n4 y4).outs.length c7_2, .int .i64 (withG x4 n4 y4).pd], vr b6 [.slice Ay4_0 y4.prog.length cy4_0, .int .i64 y4.a, .int .i64 y4.pc, .slice Ay4_1 y4.wr.length cy4_1, .slice Ay4_2 y4.lv.length cy4_2, .int .i64 y4.t.1, .int .i64 y4.t.2.1, .bool y4.t.2.2, .int .i64 y4.pd, .int .i64 y4.x.1, .int .i64 y4.x.2.1, .bool y4.x.2.2.1, .int .i64 y4.x.2.2.2, .bool y4.hl, .slice Ay4_3 y4.seen.length cy4_3], vr b5 [.slice Ax4_0 x4.mem.length cx4_0, .slice Ax4_1 x4.gs.length cx4_1, .slice Ax4_2 x4.outs.length cx4_2, .int .i64 x4.pd], vr b3 [.slice A2_0 (newB l1).mem.length c2_0, .slice A2_1 (newB l1).gs.length c2_1, .slice A2_2 (newB l1).outs.length c2_2, .int .i64 (newB l1).pd]] (fun w S => St.pick S [0, 2, 3, 5, 7, 9, 13, 15, 16, 18] _ rfl (by decide)) (by kernel_rfl) (by kernel_rfl) (by kernel_rfl) ?_
  refine Sx.GT.lw .m9 ?_
  refine Sx.GT.p (.slice Al1 l1.length cl1) ?_
  refine Sx.GT.alone (Sx.Alone.c 16 #[.slice Al1 l1.length cl1] (fun w22 S => (((specx_bnew l1 _ _ _ (progs_cap hgl1) (Sx.St.rdc S 20 rfl)).mono weak_B)).mono fun e w22' hp => ?_))
  obtain ⟨cs, F, rfl, ho, hF, hb⟩ := hp
  have hrd := wB.reads ho
  clear ho hF
  obtain ⟨P22_0, P22_1, P22_2, rfl, f0, f1, f2⟩ := wB_rd hrd
  obtain ⟨A22_0, c22_0, e0, -⟩ := lst_val f0
  subst e0
  obtain ⟨A22_1, c22_1, e0, -⟩ := lst_val f1
  subst e0
  obtain ⟨A22_2, c22_2, e0, -⟩ := lst_val f2
  subst e0
  clear f0 f1 f2
  refine ⟨_, _, rfl, (Sx.St.gotR (r := wB) S hb hrd), (fun w S => St.pick S [1, 3, 4, 6, 8, 10, 14, 16, 17, 19] _ rfl (by decide)), ?_⟩
  clear S hb hrd
  refine Sx.GT.alone (Sx.Alone.cp 15 #[.agg #[.slice A2_0 (newB l1).mem.length c2_0, .slice A2_1 (newB l1).gs.length c2_1, .slice A2_2 (newB l1).outs.length c2_2, .int .i64 (newB l1).pd], .agg #[.slice A22_0 (newB l1).mem.length c22_0, .slice A22_1 (newB l1).gs.length c22_1, .slice A22_2 (newB l1).outs.length c22_2, .int .i64 (newB l1).pd]] (.bool true) (fun w S => by exact ((lawx_bsame (newB l1) (newB l1) _ _ _ (newB_cap hgl1) (newB_cap hgl1) (Sx.St.rdc S 20 rfl) (Sx.St.rdc S 0 rfl)).mono fun e w' h => And.intro (h.1.trans (by rw [eqv_true rfl])) h.2)) (fun w S => St.pick S [1, 3, 4, 6, 8, 10, 14, 16, 17, 19] _ rfl (by decide)) ?_)
  refine Sx.GT.p (.bool false) ?_
  refine Sx.GT.p (.bool false) ?_
  refine Sx.GT.lw .m6 ?_
  refine Sx.GT.lw .m8 ?_
  refine Sx.GT.p (.int .i64 n4) ?_
  refine Sx.GT.lw .m7 ?_
  refine Sx.GT.alone (Sx.Alone.c 17 #[.agg #[.slice Ax4_0 x4.mem.length cx4_0, .slice Ax4_1 x4.gs.length cx4_1, .slice Ax4_2 x4.outs.length cx4_2, .int .i64 x4.pd], .int .i64 n4, .agg #[.slice Ay4_0 y4.prog.length cy4_0, .int .i64 y4.a, .int .i64 y4.pc, .slice Ay4_1 y4.wr.length cy4_1, .slice Ay4_2 y4.lv.length cy4_2, .int .i64 y4.t.1, .int .i64 y4.t.2.1, .bool y4.t.2.2, .int .i64 y4.pd, .int .i64 y4.x.1, .int .i64 y4.x.2.1, .bool y4.x.2.2.1, .int .i64 y4.x.2.2.2, .bool y4.hl, .slice Ay4_3 y4.seen.length cy4_3]] (fun w23 S => (((specx_withg x4 _ n4 y4 _ _ (bD_sm hgx4) (gD.cap hgy4) (Sx.St.rdca S 18 rfl) (Sx.St.rdcb S 18 rfl)).mono weak_B)).mono fun e w23' hp => ?_))
  obtain ⟨cs, F, rfl, ho, hF, hb⟩ := hp
  have hrd := wB.reads ho
  clear ho hF
  obtain ⟨P23_0, P23_1, P23_2, rfl, f0, f1, f2⟩ := wB_rd hrd
  obtain ⟨A23_0, c23_0, e0, -⟩ := lst_val f0
  subst e0
  obtain ⟨A23_1, c23_1, e0, -⟩ := lst_val f1
  subst e0
  obtain ⟨A23_2, c23_2, e0, -⟩ := lst_val f2
  subst e0
  clear f0 f1 f2
  refine ⟨_, _, rfl, (Sx.St.gotR (r := wB) S hb hrd), (fun w S => St.pick S [2, 4, 5, 7, 9, 11, 15, 17, 18, 20] _ rfl (by decide)), ?_⟩
  clear S hb hrd
  refine Sx.GT.alone (Sx.Alone.cp 15 #[.agg #[.slice A7_0 (withG x4 n4 y4).mem.length c7_0, .slice A7_1 (withG x4 n4 y4).gs.length c7_1, .slice A7_2 (withG x4 n4 y4).outs.length c7_2, .int .i64 (withG x4 n4 y4).pd], .agg #[.slice A23_0 (withG x4 n4 y4).mem.length c23_0, .slice A23_1 (withG x4 n4 y4).gs.length c23_1, .slice A23_2 (withG x4 n4 y4).outs.length c23_2, .int .i64 (withG x4 n4 y4).pd]] (.bool true) (fun w S => by exact ((lawx_bsame (withG x4 n4 y4) (withG x4 n4 y4) _ _ _ (cap_withG n4 (bD_sm hgx4) (gD.cap hgy4)) (cap_withG n4 (bD_sm hgx4) (gD.cap hgy4)) (Sx.St.rdc S 16 rfl) (Sx.St.rdc S 0 rfl)).mono fun e w' h => And.intro (h.1.trans (by rw [eqv_true rfl])) h.2)) (fun w S => St.pick S [2, 4, 5, 7, 9, 11, 15, 17, 18, 20] _ rfl (by decide)) ?_)
  refine Sx.GT.p (.bool false) ?_
  refine Sx.GT.p (.bool false) ?_
  refine Sx.GT.p (.bool false) ?_
  refine Sx.GT.p (.bool ((guestAt x9 n9).2)) ?_
  refine Sx.GT.p (.bool ((guestAt x9 n9).2)) ?_
  refine Sx.GT.q (.bool (((guestAt x9 n9).2) != ((guestAt x9 n9).2))) (.bool false) (congrArg Value.bool (bne_self_eq_false _)) ?_
  refine Sx.GT.p (.bool false) ?_
  refine Sx.GT.p (.bool false) ?_
  refine Sx.GT.lw .m5 ?_
  refine Sx.GT.lw .m4 ?_
  refine Sx.GT.alone (Sx.Alone.cp 18 #[.agg #[.slice A11_0 ((guestAt x9 n9).1).prog.length c11_0, .int .i64 ((guestAt x9 n9).1).a, .int .i64 ((guestAt x9 n9).1).pc, .slice A11_1 ((guestAt x9 n9).1).wr.length c11_1, .slice A11_2 ((guestAt x9 n9).1).lv.length c11_2, .int .i64 ((guestAt x9 n9).1).t.1, .int .i64 ((guestAt x9 n9).1).t.2.1, .bool ((guestAt x9 n9).1).t.2.2, .int .i64 ((guestAt x9 n9).1).pd, .int .i64 ((guestAt x9 n9).1).x.1, .int .i64 ((guestAt x9 n9).1).x.2.1, .bool ((guestAt x9 n9).1).x.2.2.1, .int .i64 ((guestAt x9 n9).1).x.2.2.2, .bool ((guestAt x9 n9).1).hl, .slice A11_3 ((guestAt x9 n9).1).seen.length c11_3], .agg #[.slice A13_0 ((guestAt x9 n9).1).prog.length c13_0, .int .i64 ((guestAt x9 n9).1).a, .int .i64 ((guestAt x9 n9).1).pc, .slice A13_1 ((guestAt x9 n9).1).wr.length c13_1, .slice A13_2 ((guestAt x9 n9).1).lv.length c13_2, .int .i64 ((guestAt x9 n9).1).t.1, .int .i64 ((guestAt x9 n9).1).t.2.1, .bool ((guestAt x9 n9).1).t.2.2, .int .i64 ((guestAt x9 n9).1).pd, .int .i64 ((guestAt x9 n9).1).x.1, .int .i64 ((guestAt x9 n9).1).x.2.1, .bool ((guestAt x9 n9).1).x.2.2.1, .int .i64 ((guestAt x9 n9).1).x.2.2.2, .bool ((guestAt x9 n9).1).hl, .slice A13_3 ((guestAt x9 n9).1).seen.length c13_3]] (.bool true) (fun w S => by exact ((((Guests.law_sameG ((guestAt x9 n9).1) ((guestAt x9 n9).1) _ _ _ (cap_G (cap_guestAt n9 (bD_sm hgx9))) (cap_G (cap_guestAt n9 (bD_sm hgx9))) (rd_G (Sx.St.rdc S 12 rfl)) (rd_G (Sx.St.rdc S 10 rfl))).mono fun e w' h => And.intro (h.1.trans (by rw [sameG_eqv])) h.2)).mono fun e w' h => And.intro (h.1.trans (by rw [eqv_true rfl])) h.2)) (fun w S => St.pick S [2, 4, 5, 7, 9, 11, 15, 17, 18, 20] _ rfl (by decide)) ?_)
  refine Sx.GT.p (.bool false) ?_
  refine Sx.GT.p (.bool false) ?_
  refine Sx.GT.p (.bool false) ?_
  refine Sx.GT.lw .m3 ?_
  refine Sx.GT.p (.int .i64 n15) ?_
  refine Sx.GT.lw .m3 ?_
  refine Sx.GT.p (.int .i64 n15) ?_
  refine Sx.GT.alone (Sx.Alone.c 19 #[.agg #[.slice Ax15_0 x15.mem.length cx15_0, .slice Ax15_1 x15.gs.length cx15_1, .slice Ax15_2 x15.outs.length cx15_2, .int .i64 x15.pd], .int .i64 n15] (fun w24 S => (impl_putout x15 _ n15 _ (bD_wf hgx15) (bD_sm hgx15) (Sx.St.rdc S 8 rfl) hwn15).mono fun e w24' hp => ?_))
  obtain ⟨cs, F, rfl, ho, hF, hb⟩ := hp
  have hrd := wB.reads ho
  clear ho hF
  obtain ⟨P24_0, P24_1, P24_2, rfl, f0, f1, f2⟩ := wB_rd hrd
  obtain ⟨A24_0, c24_0, e0, -⟩ := lst_val f0
  subst e0
  obtain ⟨A24_1, c24_1, e0, -⟩ := lst_val f1
  subst e0
  obtain ⟨A24_2, c24_2, e0, -⟩ := lst_val f2
  subst e0
  clear f0 f1 f2
  refine ⟨_, _, rfl, (Sx.St.gotR (r := wB) S hb hrd), (fun w S => St.pick S [3, 5, 6, 8, 10, 12, 16, 18, 19, 21] _ rfl (by decide)), ?_⟩
  clear S hb hrd
  refine Sx.GT.alone (Sx.Alone.c 20 #[.agg #[.slice Ax15_0 x15.mem.length cx15_0, .slice Ax15_1 x15.gs.length cx15_1, .slice Ax15_2 x15.outs.length cx15_2, .int .i64 x15.pd], .int .i64 n15] (fun w25 S => (((specx_putout x15 _ n15 _ (bD_sm hgx15) (Sx.St.rdc S 9 rfl)).mono weak_B)).mono fun e w25' hp => ?_))
  obtain ⟨cs, F, rfl, ho, hF, hb⟩ := hp
  have hrd := wB.reads ho
  clear ho hF
  obtain ⟨P25_0, P25_1, P25_2, rfl, f0, f1, f2⟩ := wB_rd hrd
  obtain ⟨A25_0, c25_0, e0, -⟩ := lst_val f0
  subst e0
  obtain ⟨A25_1, c25_1, e0, -⟩ := lst_val f1
  subst e0
  obtain ⟨A25_2, c25_2, e0, -⟩ := lst_val f2
  subst e0
  clear f0 f1 f2
  refine ⟨_, _, rfl, (Sx.St.gotR (r := wB) S hb hrd), (fun w S => St.pick S [4, 6, 7, 9, 11, 13, 17, 19, 20, 22] _ rfl (by decide)), ?_⟩
  clear S hb hrd
  refine Sx.GT.alone (Sx.Alone.cp 15 #[.agg #[.slice A24_0 (putB x15 n15).mem.length c24_0, .slice A24_1 (putB x15 n15).gs.length c24_1, .slice A24_2 (putB x15 n15).outs.length c24_2, .int .i64 (putB x15 n15).pd], .agg #[.slice A25_0 (putB x15 n15).mem.length c25_0, .slice A25_1 (putB x15 n15).gs.length c25_1, .slice A25_2 (putB x15 n15).outs.length c25_2, .int .i64 (putB x15 n15).pd]] (.bool true) (fun w S => by exact ((lawx_bsame (putB x15 n15) (putB x15 n15) _ _ _ (cap_putB n15 (bD_sm hgx15)) (cap_putB n15 (bD_sm hgx15)) (Sx.St.rdc S 1 rfl) (Sx.St.rdc S 0 rfl)).mono fun e w' h => And.intro (h.1.trans (by rw [eqv_true rfl])) h.2)) (fun w S => St.pick S [4, 6, 7, 9, 11, 13, 17, 19, 20, 22] _ rfl (by decide)) ?_)
  refine Sx.GT.p (.bool false) ?_
  refine Sx.GT.p (.bool false) ?_
  refine Sx.GT.p (.bool false) ?_
  refine Sx.GT.lw .m2 ?_
  refine Sx.GT.lw .m1 ?_
  refine Sx.GT.lw .m2 ?_
  refine Sx.GT.lw .m1 ?_
  refine Sx.GT.alone (Sx.Alone.cp 21 #[.agg #[.slice Ax17_0 x17.mem.length cx17_0, .slice Ax17_1 x17.gs.length cx17_1, .slice Ax17_2 x17.outs.length cx17_2, .int .i64 x17.pd], .agg #[.slice Ay17_0 y17.mem.length cy17_0, .slice Ay17_1 y17.gs.length cy17_1, .slice Ay17_2 y17.outs.length cy17_2, .int .i64 y17.pd]] (.bool (eqv x17 y17)) (fun w S => by exact impl_bsame x17 y17 _ _ _ (bD_wf hgx17) (bD_wf hgy17) (bD_sm hgx17) (bD_sm hgy17) (Sx.St.rdca S 8 rfl) (Sx.St.rdcb S 8 rfl)) (fun w S => St.pick S [4, 6, 7, 9, 11, 13, 17, 19, 20, 22] _ rfl (by decide)) ?_)
  refine Sx.GT.alone (Sx.Alone.cp 15 #[.agg #[.slice Ax17_0 x17.mem.length cx17_0, .slice Ax17_1 x17.gs.length cx17_1, .slice Ax17_2 x17.outs.length cx17_2, .int .i64 x17.pd], .agg #[.slice Ay17_0 y17.mem.length cy17_0, .slice Ay17_1 y17.gs.length cy17_1, .slice Ay17_2 y17.outs.length cy17_2, .int .i64 y17.pd]] (.bool (eqv x17 y17)) (fun w S => by exact lawx_bsame x17 y17 _ _ _ (bD_sm hgx17) (bD_sm hgy17) (Sx.St.rdca S 8 rfl) (Sx.St.rdcb S 8 rfl)) (fun w S => St.pick S [4, 6, 7, 9, 11, 13, 17, 19, 20, 22] _ rfl (by decide)) ?_)
  refine Sx.GT.q (.bool ((eqv x17 y17) != (eqv x17 y17))) (.bool false) (congrArg Value.bool (bne_self_eq_false _)) ?_
  refine Sx.GT.p (.bool false) ?_
  refine Sx.GT.p (.bool false) ?_
  refine Sx.GT.lw .m0 ?_
  refine Sx.GT.lw .m0 ?_
  refine Sx.GT.alone (Sx.Alone.cp 22 #[.agg #[.slice Ax20_0 x20.mem.length cx20_0, .slice Ax20_1 x20.gs.length cx20_1, .slice Ax20_2 x20.outs.length cx20_2, .int .i64 x20.pd]] (.bool (bareOk x20)) (fun w S => by exact impl_bok x20 _ _ (bD_wf hgx20) (bD_sm hgx20) (Sx.St.rdc S 5 rfl)) (fun w S => St.pick S [4, 6, 7, 9, 11, 13, 17, 19, 20, 22] _ rfl (by decide)) ?_)
  refine Sx.GT.alone (Sx.Alone.cp 23 #[.agg #[.slice Ax20_0 x20.mem.length cx20_0, .slice Ax20_1 x20.gs.length cx20_1, .slice Ax20_2 x20.outs.length cx20_2, .int .i64 x20.pd]] (.bool (bareOk x20)) (fun w S => by exact specx_bok x20 _ _ (bD_sm hgx20) (Sx.St.rdc S 5 rfl)) (fun w S => St.pick S [4, 6, 7, 9, 11, 13, 17, 19, 20, 22] _ rfl (by decide)) ?_)
  refine Sx.GT.q (.bool ((bareOk x20) != (bareOk x20))) (.bool false) (congrArg Value.bool (bne_self_eq_false _)) ?_
  refine Sx.GT.p (.bool false) ?_
  refine Sx.GT.nil (Sx.E.next ?_)
  refine Sx.C.no (by kernel_rfl) (by kernel_rfl) ?_
  refine Sx.C.skip (Sx.E.next (Sx.C.seq (Sx.C.region ?_)))
  refine Sx.G.lw .m17 ?_
  refine Sx.G.p (.int .i64 n4) ?_
  refine Sx.G.c 10 #[.agg #[.slice A7_0 (withG x4 n4 y4).mem.length c7_0, .slice A7_1 (withG x4 n4 y4).gs.length c7_1, .slice A7_2 (withG x4 n4 y4).outs.length c7_2, .int .i64 (withG x4 n4 y4).pd], .int .i64 n4] (fun w26 S => (impl_gat (withG x4 n4 y4) _ n4 _ (wf_withG n4 (bD_wf hgx4) hgy4.1) (cap_withG n4 (bD_sm hgx4) (gD.cap hgy4)) (Sx.St.rdc S 18 rfl) hwn4).mono fun e w26' hp => ?_)
  obtain ⟨cs, F, rfl, ho, hF, hb⟩ := hp
  have hrd := wG.reads ho
  clear ho hF
  obtain ⟨P26_0, P26_1, P26_2, P26_3, rfl, f0, f1, f2, f3⟩ := wG_rd hrd
  obtain ⟨A26_0, c26_0, e0, -⟩ := lst_val f0
  subst e0
  obtain ⟨A26_1, c26_1, e0, -⟩ := lst_val f1
  subst e0
  obtain ⟨A26_2, c26_2, e0, -⟩ := lst_val f2
  subst e0
  obtain ⟨A26_3, c26_3, e0, -⟩ := lst_val f3
  subst e0
  clear f0 f1 f2 f3
  refine ⟨_, _, rfl, (Sx.St.gotR (r := wG) S hb hrd), ?_⟩
  clear S hb hrd
  refine Sx.G.p (.tuple #[.agg #[.slice A26_0 ((guestAt (withG x4 n4 y4) n4).1).prog.length c26_0, .int .i64 ((guestAt (withG x4 n4 y4) n4).1).a, .int .i64 ((guestAt (withG x4 n4 y4) n4).1).pc, .slice A26_1 ((guestAt (withG x4 n4 y4) n4).1).wr.length c26_1, .slice A26_2 ((guestAt (withG x4 n4 y4) n4).1).lv.length c26_2, .int .i64 ((guestAt (withG x4 n4 y4) n4).1).t.1, .int .i64 ((guestAt (withG x4 n4 y4) n4).1).t.2.1, .bool ((guestAt (withG x4 n4 y4) n4).1).t.2.2, .int .i64 ((guestAt (withG x4 n4 y4) n4).1).pd, .int .i64 ((guestAt (withG x4 n4 y4) n4).1).x.1, .int .i64 ((guestAt (withG x4 n4 y4) n4).1).x.2.1, .bool ((guestAt (withG x4 n4 y4) n4).1).x.2.2.1, .int .i64 ((guestAt (withG x4 n4 y4) n4).1).x.2.2.2, .bool ((guestAt (withG x4 n4 y4) n4).1).hl, .slice A26_3 ((guestAt (withG x4 n4 y4) n4).1).seen.length c26_3], .bool (guestAt (withG x4 n4 y4) n4).2]) ?_
  refine Sx.G.p (.agg #[.slice A26_0 ((guestAt (withG x4 n4 y4) n4).1).prog.length c26_0, .int .i64 ((guestAt (withG x4 n4 y4) n4).1).a, .int .i64 ((guestAt (withG x4 n4 y4) n4).1).pc, .slice A26_1 ((guestAt (withG x4 n4 y4) n4).1).wr.length c26_1, .slice A26_2 ((guestAt (withG x4 n4 y4) n4).1).lv.length c26_2, .int .i64 ((guestAt (withG x4 n4 y4) n4).1).t.1, .int .i64 ((guestAt (withG x4 n4 y4) n4).1).t.2.1, .bool ((guestAt (withG x4 n4 y4) n4).1).t.2.2, .int .i64 ((guestAt (withG x4 n4 y4) n4).1).pd, .int .i64 ((guestAt (withG x4 n4 y4) n4).1).x.1, .int .i64 ((guestAt (withG x4 n4 y4) n4).1).x.2.1, .bool ((guestAt (withG x4 n4 y4) n4).1).x.2.2.1, .int .i64 ((guestAt (withG x4 n4 y4) n4).1).x.2.2.2, .bool ((guestAt (withG x4 n4 y4) n4).1).hl, .slice A26_3 ((guestAt (withG x4 n4 y4) n4).1).seen.length c26_3]) ?_
  refine Sx.G.p (.bool ((guestAt (withG x4 n4 y4) n4).2)) ?_
  refine Sx.G.ar [.slice none 0 0, .int .i64 0, .int .i64 0, .slice none 0 0, .slice none 0 0, .int .i64 0, .int .i64 0, .bool false, .int .i64 0, .int .i64 0, .int .i64 0, .bool false, .int .i64 0, .bool false, .slice none 0 0] (fun b27 => ?_)
  refine Sx.G.sw [.slice A26_0 ((guestAt (withG x4 n4 y4) n4).1).prog.length c26_0, .int .i64 ((guestAt (withG x4 n4 y4) n4).1).a, .int .i64 ((guestAt (withG x4 n4 y4) n4).1).pc, .slice A26_1 ((guestAt (withG x4 n4 y4) n4).1).wr.length c26_1, .slice A26_2 ((guestAt (withG x4 n4 y4) n4).1).lv.length c26_2, .int .i64 ((guestAt (withG x4 n4 y4) n4).1).t.1, .int .i64 ((guestAt (withG x4 n4 y4) n4).1).t.2.1, .bool ((guestAt (withG x4 n4 y4) n4).1).t.2.2, .int .i64 ((guestAt (withG x4 n4 y4) n4).1).pd, .int .i64 ((guestAt (withG x4 n4 y4) n4).1).x.1, .int .i64 ((guestAt (withG x4 n4 y4) n4).1).x.2.1, .bool ((guestAt (withG x4 n4 y4) n4).1).x.2.2.1, .int .i64 ((guestAt (withG x4 n4 y4) n4).1).x.2.2.2, .bool ((guestAt (withG x4 n4 y4) n4).1).hl, .slice A26_3 ((guestAt (withG x4 n4 y4) n4).1).seen.length c26_3] .a0 ?_
  refine Sx.G.p (.bool ((guestAt (withG x4 n4 y4) n4).2)) ?_
  refine Sx.G.nil (Sx.E.next (Sx.C.seq (Sx.C.region ?_)))
  refine Sx.G.p (.bool ((guestAt (withG x4 n4 y4) n4).2)) ?_
  refine Sx.G.p (.bool (!((guestAt (withG x4 n4 y4) n4).2))) ?_
  refine Sx.G.p (.bool (!((guestAt (withG x4 n4 y4) n4).2))) ?_
  cases hc28 : ((guestAt (withG x4 n4 y4) n4).2)
  ·
   have hb28 := hc28
   have hin : (decide (n4 ≥ 0) && decide (n4 < ((x4.gs.length : Nat) : Int))) = false := by rw [← in_len, ← withG_at x4 n4 y4]; exact hc28
   refine Sx.G.k ?_
   refine Sx.G.k ?_
   refine Sx.G.k ?_
   refine Sx.G.p (.bool true) ?_
   refine Sx.G.p (.bool true) ?_
   refine Sx.G.p (.bool false) ?_
   refine Sx.G.p (.int .i64 n4) ?_
   refine Sx.G.p (.bool (decide (n4 ≥ 0))) ?_
   refine Sx.G.p (.bool (decide (n4 ≥ 0))) ?_
   cases hc29 : (decide (n4 ≥ 0))
   ·
    have hb29 := hc29
    replace hc29 := of_decide_eq_false hc29
    refine Sx.G.k ?_
    refine Sx.G.k ?_
    refine Sx.G.k ?_
    refine Sx.G.k ?_
    refine Sx.G.k ?_
    refine Sx.G.p (.bool false) ?_
    refine Sx.G.p (.bool true) ?_
    refine Sx.G.p (.bool true) ?_
    refine Sx.G.p (.bool true) ?_
    refine Sx.G.p (.agg #[.int .i64 7, .int .i64 0]) ?_
    refine Sx.G.made 55 [.int .i64 7, .int .i64 0] 1 (by kernel_rfl) (fun w => by kernel_rfl) (fun b30 => ?_)
    refine Sx.G.block 32 [.slice (some ⟨b30, 0, none⟩) 1 1] 1 (by kernel_rfl) (fun w => by kernel_rfl) (fun b31 => ?_)
    refine Sx.G.c 6 #[.slice (some ⟨b31, 0, none⟩) 1 1] (fun w32 S => (impl_bnew [[(7, 0)]] _ _ _ one_pw one_pc (bk_one S 0 1 rfl rfl)).mono fun e w32' hp => ?_)
    obtain ⟨cs, F, rfl, ho, hF, hb⟩ := hp
    have hrd := wB.reads ho
    clear ho hF
    obtain ⟨P32_0, P32_1, P32_2, rfl, f0, f1, f2⟩ := wB_rd hrd
    obtain ⟨A32_0, c32_0, e0, -⟩ := lst_val f0
    subst e0
    obtain ⟨A32_1, c32_1, e0, -⟩ := lst_val f1
    subst e0
    obtain ⟨A32_2, c32_2, e0, -⟩ := lst_val f2
    subst e0
    clear f0 f1 f2
    refine ⟨_, _, rfl, (Sx.St.gotR (r := wB) S hb hrd), ?_⟩
    clear S hb hrd
    refine Sx.G.p (.slice A32_1 (newB [[(7, 0)]]).gs.length c32_1) ?_
    refine Sx.G.p (.int .i64 (((newB [[(7, 0)]]).gs.length : Nat) : Int)) ?_
    refine Sx.G.q (.bool ((((newB [[(7, 0)]]).gs.length : Nat) : Int) == 1)) (.bool true) (congrArg Value.bool (by rw [one_len]; rfl)) ?_
    refine Sx.G.p (.bool true) ?_
    refine Sx.G.p (.bool true) ?_
    refine Sx.G.p (.agg #[.int .i64 7, .int .i64 0]) ?_
    refine Sx.G.made 55 [.int .i64 7, .int .i64 0] 1 (by kernel_rfl) (fun w => by kernel_rfl) (fun b33 => ?_)
    refine Sx.G.block 32 [.slice (some ⟨b33, 0, none⟩) 1 1] 1 (by kernel_rfl) (fun w => by kernel_rfl) (fun b34 => ?_)
    refine Sx.G.c 6 #[.slice (some ⟨b34, 0, none⟩) 1 1] (fun w35 S => (impl_bnew [[(7, 0)]] _ _ _ one_pw one_pc (bk_one S 0 1 rfl rfl)).mono fun e w35' hp => ?_)
    obtain ⟨cs, F, rfl, ho, hF, hb⟩ := hp
    have hrd := wB.reads ho
    clear ho hF
    obtain ⟨P35_0, P35_1, P35_2, rfl, f0, f1, f2⟩ := wB_rd hrd
    obtain ⟨A35_0, c35_0, e0, -⟩ := lst_val f0
    subst e0
    obtain ⟨A35_1, c35_1, e0, -⟩ := lst_val f1
    subst e0
    obtain ⟨A35_2, c35_2, e0, -⟩ := lst_val f2
    subst e0
    clear f0 f1 f2
    refine ⟨_, _, rfl, (Sx.St.gotR (r := wB) S hb hrd), ?_⟩
    clear S hb hrd
    refine Sx.G.cp 22 #[.agg #[.slice A35_0 (newB [[(7, 0)]]).mem.length c35_0, .slice A35_1 (newB [[(7, 0)]]).gs.length c35_1, .slice A35_2 (newB [[(7, 0)]]).outs.length c35_2, .int .i64 (newB [[(7, 0)]]).pd]] (.bool true) (fun w S => by exact ((impl_bok (newB [[(7, 0)]]) _ _ (bD_wf one_sm) (bD_sm one_sm) (Sx.St.rdc S 0 rfl)).mono fun e w' h => And.intro (h.1.trans (by rw [one_ok])) h.2)) ?_
    refine Sx.G.p (.bool true) ?_
    refine Sx.G.p (.bool true) ?_
    refine Sx.G.nil (Sx.E.next (Sx.C.ret ?_))
    refine Sx.E.ret1 (.bool true) rfl (by kernel_rfl) (fun w S => ?_)
    exact ⟨rfl, S.below⟩
   ·
    have hb29 := hc29
    replace hc29 := of_decide_eq_true hc29
    rw [hb29, Bool.true_and] at hin
    refine Sx.G.p (.int .i64 n4) ?_
    refine Sx.G.p (.pointer (some ⟨b5, 1, none⟩)) ?_
    refine Sx.G.g (.slice Ax4_1 x4.gs.length cx4_1) .m22 .m1 ?_
    refine Sx.G.p (.int .i64 ((x4.gs.length : Nat) : Int)) ?_
    refine Sx.G.p (.bool (decide (n4 < ((x4.gs.length : Nat) : Int)))) ?_
    refine Sx.G.p (.bool (decide (n4 < ((x4.gs.length : Nat) : Int)))) ?_
    refine Sx.G.q (.bool (false == (decide (n4 < ((x4.gs.length : Nat) : Int))))) (.bool true) (congrArg Value.bool (by rw [hin]; rfl)) ?_
    refine Sx.G.p (.bool true) ?_
    refine Sx.G.p (.bool true) ?_
    refine Sx.G.p (.agg #[.int .i64 7, .int .i64 0]) ?_
    refine Sx.G.made 55 [.int .i64 7, .int .i64 0] 1 (by kernel_rfl) (fun w => by kernel_rfl) (fun b36 => ?_)
    refine Sx.G.block 32 [.slice (some ⟨b36, 0, none⟩) 1 1] 1 (by kernel_rfl) (fun w => by kernel_rfl) (fun b37 => ?_)
    refine Sx.G.c 6 #[.slice (some ⟨b37, 0, none⟩) 1 1] (fun w38 S => (impl_bnew [[(7, 0)]] _ _ _ one_pw one_pc (bk_one S 0 1 rfl rfl)).mono fun e w38' hp => ?_)
    obtain ⟨cs, F, rfl, ho, hF, hb⟩ := hp
    have hrd := wB.reads ho
    clear ho hF
    obtain ⟨P38_0, P38_1, P38_2, rfl, f0, f1, f2⟩ := wB_rd hrd
    obtain ⟨A38_0, c38_0, e0, -⟩ := lst_val f0
    subst e0
    obtain ⟨A38_1, c38_1, e0, -⟩ := lst_val f1
    subst e0
    obtain ⟨A38_2, c38_2, e0, -⟩ := lst_val f2
    subst e0
    clear f0 f1 f2
    refine ⟨_, _, rfl, (Sx.St.gotR (r := wB) S hb hrd), ?_⟩
    clear S hb hrd
    refine Sx.G.p (.slice A38_1 (newB [[(7, 0)]]).gs.length c38_1) ?_
    refine Sx.G.p (.int .i64 (((newB [[(7, 0)]]).gs.length : Nat) : Int)) ?_
    refine Sx.G.q (.bool ((((newB [[(7, 0)]]).gs.length : Nat) : Int) == 1)) (.bool true) (congrArg Value.bool (by rw [one_len]; rfl)) ?_
    refine Sx.G.p (.bool true) ?_
    refine Sx.G.p (.bool true) ?_
    refine Sx.G.p (.agg #[.int .i64 7, .int .i64 0]) ?_
    refine Sx.G.made 55 [.int .i64 7, .int .i64 0] 1 (by kernel_rfl) (fun w => by kernel_rfl) (fun b39 => ?_)
    refine Sx.G.block 32 [.slice (some ⟨b39, 0, none⟩) 1 1] 1 (by kernel_rfl) (fun w => by kernel_rfl) (fun b40 => ?_)
    refine Sx.G.c 6 #[.slice (some ⟨b40, 0, none⟩) 1 1] (fun w41 S => (impl_bnew [[(7, 0)]] _ _ _ one_pw one_pc (bk_one S 0 1 rfl rfl)).mono fun e w41' hp => ?_)
    obtain ⟨cs, F, rfl, ho, hF, hb⟩ := hp
    have hrd := wB.reads ho
    clear ho hF
    obtain ⟨P41_0, P41_1, P41_2, rfl, f0, f1, f2⟩ := wB_rd hrd
    obtain ⟨A41_0, c41_0, e0, -⟩ := lst_val f0
    subst e0
    obtain ⟨A41_1, c41_1, e0, -⟩ := lst_val f1
    subst e0
    obtain ⟨A41_2, c41_2, e0, -⟩ := lst_val f2
    subst e0
    clear f0 f1 f2
    refine ⟨_, _, rfl, (Sx.St.gotR (r := wB) S hb hrd), ?_⟩
    clear S hb hrd
    refine Sx.G.cp 22 #[.agg #[.slice A41_0 (newB [[(7, 0)]]).mem.length c41_0, .slice A41_1 (newB [[(7, 0)]]).gs.length c41_1, .slice A41_2 (newB [[(7, 0)]]).outs.length c41_2, .int .i64 (newB [[(7, 0)]]).pd]] (.bool true) (fun w S => by exact ((impl_bok (newB [[(7, 0)]]) _ _ (bD_wf one_sm) (bD_sm one_sm) (Sx.St.rdc S 0 rfl)).mono fun e w' h => And.intro (h.1.trans (by rw [one_ok])) h.2)) ?_
    refine Sx.G.p (.bool true) ?_
    refine Sx.G.p (.bool true) ?_
    refine Sx.G.nil (Sx.E.next (Sx.C.ret ?_))
    refine Sx.E.ret1 (.bool true) rfl (by kernel_rfl) (fun w S => ?_)
    exact ⟨rfl, S.below⟩
  ·
   have hb28 := hc28
   have hin : (decide (n4 ≥ 0) && decide (n4 < ((x4.gs.length : Nat) : Int))) = true := by rw [← in_len, ← withG_at x4 n4 y4]; exact hc28
   refine Sx.G.lw .m0 ?_
   refine Sx.G.lw .m21 ?_
   refine Sx.G.cp 18 #[.agg #[.slice A26_0 ((guestAt (withG x4 n4 y4) n4).1).prog.length c26_0, .int .i64 ((guestAt (withG x4 n4 y4) n4).1).a, .int .i64 ((guestAt (withG x4 n4 y4) n4).1).pc, .slice A26_1 ((guestAt (withG x4 n4 y4) n4).1).wr.length c26_1, .slice A26_2 ((guestAt (withG x4 n4 y4) n4).1).lv.length c26_2, .int .i64 ((guestAt (withG x4 n4 y4) n4).1).t.1, .int .i64 ((guestAt (withG x4 n4 y4) n4).1).t.2.1, .bool ((guestAt (withG x4 n4 y4) n4).1).t.2.2, .int .i64 ((guestAt (withG x4 n4 y4) n4).1).pd, .int .i64 ((guestAt (withG x4 n4 y4) n4).1).x.1, .int .i64 ((guestAt (withG x4 n4 y4) n4).1).x.2.1, .bool ((guestAt (withG x4 n4 y4) n4).1).x.2.2.1, .int .i64 ((guestAt (withG x4 n4 y4) n4).1).x.2.2.2, .bool ((guestAt (withG x4 n4 y4) n4).1).hl, .slice A26_3 ((guestAt (withG x4 n4 y4) n4).1).seen.length c26_3], .agg #[.slice Ay4_0 y4.prog.length cy4_0, .int .i64 y4.a, .int .i64 y4.pc, .slice Ay4_1 y4.wr.length cy4_1, .slice Ay4_2 y4.lv.length cy4_2, .int .i64 y4.t.1, .int .i64 y4.t.2.1, .bool y4.t.2.2, .int .i64 y4.pd, .int .i64 y4.x.1, .int .i64 y4.x.2.1, .bool y4.x.2.2.1, .int .i64 y4.x.2.2.2, .bool y4.hl, .slice Ay4_3 y4.seen.length cy4_3]] (.bool true) (fun w S => by exact ((((Guests.law_sameG ((guestAt (withG x4 n4 y4) n4).1) y4 _ _ _ (cap_G (cap_guestAt n4 (cap_withG n4 (bD_sm hgx4) (gD.cap hgy4)))) (cap_G (gD.cap hgy4)) (rd_G (Sx.St.rdc S 1 rfl)) (rd_G (Sx.St.rdcb S 23 rfl))).mono fun e w' h => And.intro (h.1.trans (by rw [sameG_eqv])) h.2)).mono fun e w' h => And.intro (h.1.trans (by rw [eqv_true (withG_get x4 n4 y4 hc28)])) h.2)) ?_
   refine Sx.G.p (.bool true) ?_
   refine Sx.G.p (.bool true) ?_
   refine Sx.G.p (.bool true) ?_
   refine Sx.G.p (.int .i64 n4) ?_
   refine Sx.G.p (.bool (decide (n4 ≥ 0))) ?_
   refine Sx.G.p (.bool (decide (n4 ≥ 0))) ?_
   cases hc42 : (decide (n4 ≥ 0))
   ·
    have hb42 := hc42
    replace hc42 := of_decide_eq_false hc42
    exact absurd hin (by rw [hb42]; intro h; cases h)
   ·
    have hb42 := hc42
    replace hc42 := of_decide_eq_true hc42
    rw [hb42, Bool.true_and] at hin
    refine Sx.G.p (.int .i64 n4) ?_
    refine Sx.G.p (.pointer (some ⟨b5, 1, none⟩)) ?_
    refine Sx.G.g (.slice Ax4_1 x4.gs.length cx4_1) .m22 .m1 ?_
    refine Sx.G.p (.int .i64 ((x4.gs.length : Nat) : Int)) ?_
    refine Sx.G.p (.bool (decide (n4 < ((x4.gs.length : Nat) : Int)))) ?_
    refine Sx.G.p (.bool (decide (n4 < ((x4.gs.length : Nat) : Int)))) ?_
    refine Sx.G.q (.bool (true == (decide (n4 < ((x4.gs.length : Nat) : Int))))) (.bool true) (congrArg Value.bool (by rw [hin]; rfl)) ?_
    refine Sx.G.p (.bool true) ?_
    refine Sx.G.p (.bool true) ?_
    refine Sx.G.p (.agg #[.int .i64 7, .int .i64 0]) ?_
    refine Sx.G.made 55 [.int .i64 7, .int .i64 0] 1 (by kernel_rfl) (fun w => by kernel_rfl) (fun b43 => ?_)
    refine Sx.G.block 32 [.slice (some ⟨b43, 0, none⟩) 1 1] 1 (by kernel_rfl) (fun w => by kernel_rfl) (fun b44 => ?_)
    refine Sx.G.c 6 #[.slice (some ⟨b44, 0, none⟩) 1 1] (fun w45 S => (impl_bnew [[(7, 0)]] _ _ _ one_pw one_pc (bk_one S 0 1 rfl rfl)).mono fun e w45' hp => ?_)
    obtain ⟨cs, F, rfl, ho, hF, hb⟩ := hp
    have hrd := wB.reads ho
    clear ho hF
    obtain ⟨P45_0, P45_1, P45_2, rfl, f0, f1, f2⟩ := wB_rd hrd
    obtain ⟨A45_0, c45_0, e0, -⟩ := lst_val f0
    subst e0
    obtain ⟨A45_1, c45_1, e0, -⟩ := lst_val f1
    subst e0
    obtain ⟨A45_2, c45_2, e0, -⟩ := lst_val f2
    subst e0
    clear f0 f1 f2
    refine ⟨_, _, rfl, (Sx.St.gotR (r := wB) S hb hrd), ?_⟩
    clear S hb hrd
    refine Sx.G.p (.slice A45_1 (newB [[(7, 0)]]).gs.length c45_1) ?_
    refine Sx.G.p (.int .i64 (((newB [[(7, 0)]]).gs.length : Nat) : Int)) ?_
    refine Sx.G.q (.bool ((((newB [[(7, 0)]]).gs.length : Nat) : Int) == 1)) (.bool true) (congrArg Value.bool (by rw [one_len]; rfl)) ?_
    refine Sx.G.p (.bool true) ?_
    refine Sx.G.p (.bool true) ?_
    refine Sx.G.p (.agg #[.int .i64 7, .int .i64 0]) ?_
    refine Sx.G.made 55 [.int .i64 7, .int .i64 0] 1 (by kernel_rfl) (fun w => by kernel_rfl) (fun b46 => ?_)
    refine Sx.G.block 32 [.slice (some ⟨b46, 0, none⟩) 1 1] 1 (by kernel_rfl) (fun w => by kernel_rfl) (fun b47 => ?_)
    refine Sx.G.c 6 #[.slice (some ⟨b47, 0, none⟩) 1 1] (fun w48 S => (impl_bnew [[(7, 0)]] _ _ _ one_pw one_pc (bk_one S 0 1 rfl rfl)).mono fun e w48' hp => ?_)
    obtain ⟨cs, F, rfl, ho, hF, hb⟩ := hp
    have hrd := wB.reads ho
    clear ho hF
    obtain ⟨P48_0, P48_1, P48_2, rfl, f0, f1, f2⟩ := wB_rd hrd
    obtain ⟨A48_0, c48_0, e0, -⟩ := lst_val f0
    subst e0
    obtain ⟨A48_1, c48_1, e0, -⟩ := lst_val f1
    subst e0
    obtain ⟨A48_2, c48_2, e0, -⟩ := lst_val f2
    subst e0
    clear f0 f1 f2
    refine ⟨_, _, rfl, (Sx.St.gotR (r := wB) S hb hrd), ?_⟩
    clear S hb hrd
    refine Sx.G.cp 22 #[.agg #[.slice A48_0 (newB [[(7, 0)]]).mem.length c48_0, .slice A48_1 (newB [[(7, 0)]]).gs.length c48_1, .slice A48_2 (newB [[(7, 0)]]).outs.length c48_2, .int .i64 (newB [[(7, 0)]]).pd]] (.bool true) (fun w S => by exact ((impl_bok (newB [[(7, 0)]]) _ _ (bD_wf one_sm) (bD_sm one_sm) (Sx.St.rdc S 0 rfl)).mono fun e w' h => And.intro (h.1.trans (by rw [one_ok])) h.2)) ?_
    refine Sx.G.p (.bool true) ?_
    refine Sx.G.p (.bool true) ?_
    refine Sx.G.nil (Sx.E.next (Sx.C.ret ?_))
    refine Sx.E.ret1 (.bool true) rfl (by kernel_rfl) (fun w S => ?_)
    exact ⟨rfl, S.below⟩
theorem lifted (os : Os) (started : os.Started) (H : Type) (enc : TypeId × Value → H) :
  ReturnsInHanded {} Tryz.checked os 3 .any (Rows.fnBareSpec.pre6 enc Tryz.prog Tryz.f3 Rows.fnBareRow.domain false) (Rows.fnBareSpec.post enc Tryz.prog Tryz.f3 false true false false) := by
 refine returnsInHanded_of_change (C := Tryz.checked) Base.own started (by kernel_rfl) Tryz.func3
  (ChangeSpec.witness6 (enc := enc) (C := Tryz.checked) false ⟨#[], #[.slice none 0 0], []⟩ 8 (by kernel_rfl) (by kernel_rfl) (by kernel_rfl) (by kernel_rfl)) ?_
 intro W base args ds gs before hval0 hW hcnd _
 have hval : ∀ (j : Nat) t v, Tryz.f3.params[j]? = some t → args[j]? = some v → Value.okWide Tryz.prog W .any base t v := hval0
 have hW' := hW
 obtain ⟨p, q, hA0, hV, rfl, hfz, hnd⟩ := hW
 have hA : DataW.TrodAll enc Tryz.prog W 0 (fun _ => true) true Tryz.f3.params.toList args.toList ds p := hA0
 have hA1 := hA
 rw [Tryz.params3] at hA hval
 obtain ⟨v0, vs0, d0, ds0, p0, q0, hargs, rfl, rfl, h0, r0⟩ := trodAll_cons hA
 obtain ⟨rfl, rfl, rfl⟩ := trodAll_nil r0
 obtain rfl : args = #[v0] := by cases args; simp_all
 obtain ⟨rfl, rfl⟩ := trodVars_none hV
 obtain ⟨A0, n0, c0, rfl, hn0, hcode0, _⟩ := Draw.open_code (hval 0 22 v0 rfl rfl) h0
 clear hA0 hval0
 rw [List.append_nil] at hW'
 refine (walk A0 n0 c0 hn0 hcode0).mono fun e W' ⟨he, hg⟩ => ?_
 subst he
 exact ⟨_, rfl, Mem.post_args Slots.laid (by kernel_rfl) rfl rfl rfl hW' hA1 hg (fun _ _ _ => (trodAll_cons_mk (shut_bool Tryz.underlying4 _) trodAll_mk0)) (ok_one (by kernel_rfl) rfl (okWide_bool_mk Tryz.underlying4 _))⟩
theorem over : Rows.fnBareRow.holds Tryz.pinned (OpenSpec.ofChange Rows.fnBareSpec) :=
 OpenClaim.holds_of_wide 3 Tryz.f3 rfl rfl rfl rfl rfl rfl rfl ⟨rfl, rfl, rfl, rfl, rfl⟩ rfl rfl rfl rfl rfl (by kernel_rfl) Tryz.func3 (by kernel_rfl)
  (of_decide_eq_true (by kernel_rfl)) (by unfold Func.isWrapper; first | (rw [if_pos (by decide +kernel)]; kernel_rfl) | (rw [if_neg (by decide +kernel)]; exact ⟨rfl, rfl⟩))
  (fun os started H enc _ => lifted os started H enc)
theorem proved : Rows.FnBareSaid :=
 over
#print axioms proved
end Go.Proofs.YtldgadmpclgfhaaGreat.fnBare
