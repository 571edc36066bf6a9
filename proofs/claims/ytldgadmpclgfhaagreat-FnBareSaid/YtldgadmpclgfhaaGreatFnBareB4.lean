/-
  The texts that FnBare wants, part 4: BareDraws GuestLaw BareSL BareLaw BareM IrqImpl ExitImpl CtlImpl InsImpl. No condition.
-/
import Derived.Test.YtldgadmpclgfhaaGreatFnBareB3
import Derived.RangeFuncFrom
import Derived.RangeFuncBound
import Derived.RangeFuncCalls
import Derived.RangeFuncLeaves
import Derived.Shelf.Abstract
import Derived.WalkKit
import Derived.OwnWalkIn
import Derived.TacticsInMore
import Derived.LoopNIn
import Derived.LoopIn
import Derived.Laws.Build
import Derived.Laws.StructEq
import Derived.BigQuiet
namespace Go.Proofs.YtldgadmpclgfhaaGreat.Kit
set_option maxHeartbeats 8000000
set_option maxRecDepth 100000
open Go.ChangeShapes Go.WideShapes Go.ChangeAt Go.RowKit Go.Deep
open Go.Proofs.YtldgadmpclgfhaaGreat.Base Go.Proofs.YtldgadmpclgfhaaGreat.Mem Go.Proofs.YtldgadmpclgfhaaGreat.Data Go.Proofs.YtldgadmpclgfhaaGreat.Stt Go.Proofs.YtldgadmpclgfhaaGreat.Guests Go.Proofs.YtldgadmpclgfhaaGreat.Ctls Go.Proofs.YtldgadmpclgfhaaGreat.Exits Go.Proofs.YtldgadmpclgfhaaGreat.Irqs Go.Proofs.YtldgadmpclgfhaaGreat.Inss Go.Proofs.YtldgadmpclgfhaaGreat.Draw Go.Proofs.YtldgadmpclgfhaaGreat.SDraw
set_option linter.unusedVariables false
set_option linter.unusedSimpArgs false
def progD (p : List (Int × Int)) : Prop := Inss.wfJL p ∧ p.length ≤ 20
def progsD (l : List (List (Int × Int))) : Prop := l.length ≤ 4 ∧ ∀ p ∈ l, progD p
theorem kd_prog (w0 : World) (A : Option Addr) (n c g : Nat) (w : World) (hn : n ≤ 1048576) (hcode : CodeAt w0 A n) (hcur : Cur w0 A n c w g) : Calls Tryz.prog 27 #[.pointer (some ⟨g, 0, none⟩)] w (fun e w' => ∃ l a b lo hi F, progD l ∧ Sx.Drawn w0 A n c w g (.slice a l.length b) [ow (Sx.rRo (rLsw (rPair rInt rInt))) lo hi l [.slice a l.length b] F] e w') :=
 (prog_any w0 A n c g w hn hcode hcur).mono fun e w' h => by
  obtain ⟨b, m, cap, l, rfl, hl, h1, hM, hw, hown, hc, hg⟩ := h
  rw [← pcells_j] at hown
  subst hl
  have H1 := Sx.Fresh.one (w0 := w0) (w := w) _ (Sx.row_pairs rfl hown) hcur.1.size (Nat.le_refl _) (Nat.le_refl _)
  obtain ⟨F, H⟩ := Sx.Fresh.ro (r := (rLsw (rPair rInt rInt))) (x := l) (cs := [.slice (some ⟨b, 0, none⟩) l.length cap]) H1 (fun v hv => H1.rdIn 0 rfl hv)
  exact ⟨l, _, cap, _, _, F, ⟨hw, hM⟩, rfl, hc, hg, H⟩
theorem kd_anyprog (w0 : World) (A : Option Addr) (n c g : Nat) (w : World) (hn : n ≤ 1048576) (hcode : CodeAt w0 A n) (hcur : Cur w0 A n c w g) : Calls Tryz.prog 28 #[.pointer (some ⟨g, 0, none⟩)] w (fun e w' => ∃ l a b lo hi F, progD l ∧ Sx.Drawn w0 A n c w g (.slice a l.length b) [ow (Sx.rRo (rLsw (rPair rInt rInt))) lo hi l [.slice a l.length b] F] e w') :=
 (anyProg_cap w0 A n c g w hn hcode hcur).mono fun e w' h => by
  obtain ⟨b, m, cap, l, rfl, hl, hM, hw, hown, hc, hg⟩ := h
  rw [← pcells_j] at hown
  subst hl
  have H1 := Sx.Fresh.one (w0 := w0) (w := w) _ (Sx.lies_rp rfl hM.2 hown) hcur.1.size (Nat.le_refl _) (Nat.le_refl _)
  obtain ⟨F, H⟩ := Sx.Fresh.ro (r := (rLsw (rPair rInt rInt))) (x := l) (cs := [.slice (some ⟨b, 0, none⟩) l.length cap]) H1 (fun v hv => H1.rpIn 0 rfl hv)
  exact ⟨l, _, cap, _, _, F, ⟨hw, hM.1⟩, rfl, hc, hg, H⟩
def BOne (w : World) (e : Ending) (w' : World) : Prop := ∃ x cs, e = .returned (.agg cs.toArray) ∧ (bD x ∧ wB.rd w' w.heap.size w'.heap.size x cs) ∧ Below w.heap.size w w'
def BNum (w : World) (e : Ending) (w' : World) : Prop := ∃ x cs n, e = .returned (.tuple #[.agg cs.toArray, .int .i64 n]) ∧ (bD x ∧ wB.rd w' w.heap.size w'.heap.size x cs) ∧ numD n ∧ Below w.heap.size w w'
def BGue (w : World) (e : Ending) (w' : World) : Prop := ∃ x cs n y ds, e = .returned (.tuple #[.agg cs.toArray, .int .i64 n, .agg ds.toArray]) ∧ (bD x ∧ wB.rd w' w.heap.size w'.heap.size x cs) ∧ numD n ∧ (gD y ∧ wG.rd w' w.heap.size w'.heap.size y ds) ∧ Below w.heap.size w w'
def BTwo (w : World) (e : Ending) (w' : World) : Prop := ∃ x cs y ds, e = .returned (.tuple #[.agg cs.toArray, .agg ds.toArray]) ∧ (bD x ∧ wB.rd w' w.heap.size w'.heap.size x cs) ∧ (bD y ∧ wB.rd w' w.heap.size w'.heap.size y ds) ∧ Below w.heap.size w w'
def BProgs (w : World) (e : Ending) (w' : World) : Prop := ∃ l a b, e = .returned (.slice a l.length b) ∧ progsD l ∧ rdLst (rLsw (rPair rInt rInt)) w' w.heap.size w'.heap.size l [.slice a l.length b] ∧ Below w.heap.size w w'
theorem bD_sm {b : bT} (h : bD b) : wB.cap b := ⟨⟨by have := h.1.1; show b.mem.length ≤ 1048576; omega, fun p hp => ⟨by have := (h.1.2 p hp).1; omega, fun _ _ => trivial⟩⟩, ⟨by have := h.2.1.1; show b.gs.length ≤ 1048576; omega, fun g hg => (h.2.1.2 g hg).cap⟩, ⟨by have := h.2.2.1.1; show b.outs.length ≤ 1048576; omega, fun _ _ => trivial⟩, trivial⟩
theorem bD_wf {b : bT} (h : bD b) : wB.wf b := ⟨⟨Nat.le_trans h.1.1 (by decide), fun p hp => ⟨Nat.le_trans (h.1.2 p hp).1 (by decide), (h.1.2 p hp).2⟩⟩, ⟨Nat.le_trans h.2.1.1 (by decide), fun g hg => (h.2.1.2 g hg).1⟩, ⟨Nat.le_trans h.2.2.1.1 (by decide), h.2.2.1.2⟩, h.2.2.2⟩
theorem kd_progs (w0 : World) (A : Option Addr) (n c g : Nat) (w : World) (hn : n ≤ 1048576) (hcode : CodeAt w0 A n) (hcur : Cur w0 A n c w g) : Calls Tryz.prog 25 #[.pointer (some ⟨g, 0, none⟩)] w (fun e w' => ∃ l a b lo hi F, progsD l ∧ l.length ≤ 2 ∧ Sx.Drawn w0 A n c w g (.slice a l.length b) [ow (rLst 32 (Sx.rRo (rLsw (rPair rInt rInt)))) lo hi l [.slice a l.length b] F] e w') := by
 have hs0 := Sx.st_cur hcur
 have hb0 := hcur.1
 clear hcur
 refine Sx.enterS (args := [.pointer (some ⟨g, 0, none⟩)]) hs0 Tryz.func25 rfl Tryz.ntmps25 rfl ?_
 refine Sx.C.seq (Sx.C.region ?_)
 refine Sx.G.p (.slice none 0 0) ?_
 refine Sx.G.nil (Sx.E.next (Sx.C.seq (Sx.C.region ?_)))
 refine Sx.G.fresh 32 (rLsw (rPair rInt rInt)) (by kernel_rfl) (fun w => by kernel_rfl) (fun b1 hi1 => ?_)
 refine Sx.G.p (.slice (some ⟨b1, 0, none⟩) 0 0) ?_
 refine Sx.G.nil (Sx.E.next (Sx.C.seq (Sx.C.seq (Sx.C.region ?_))))
 refine Sx.G.p (.int .i64 0) ?_
 refine Sx.G.nil (Sx.E.next (Sx.C.block ?_))
 refine Sx.C.loop (α := Nat × (List (List (Int × Int))) × Option Addr × Nat × List Nat × Nat × Nat) (fun x => x.1 ≤ 2 ∧ x.2.1.length = x.1 ∧ ∀ y ∈ x.2.1, progD y) (fun x => [(4, .int .i64 (x.1 : Int)), (3, .slice x.2.2.1 x.2.1.length x.2.2.2.1), (0, .pointer (some ⟨g, 0, none⟩)), (2, .slice none 0 0)]) (fun x => [ow (rLst 32 (Sx.rRo (rLsw (rPair rInt rInt)))) x.2.2.2.2.2.1 x.2.2.2.2.2.2 x.2.1 [.slice x.2.2.1 x.2.1.length x.2.2.2.1] x.2.2.2.2.1, Sx.cu A n c g, Sx.frm w0 w g]) (fun x => 2 + 1 - x.1) (0, [], (some ⟨b1, 0, none⟩), 0, [b1], b1, hi1) ⟨Nat.zero_le _, rfl, fun y hy => by cases hy⟩ (fun a hA => (Sx.Ag.and hA (Sx.Ag.and hA (Sx.Ag.and hA (Sx.Ag.and hA (Sx.Ag.none hA) _ _ (by kernel_rfl)) _ _ (by kernel_rfl)) _ _ (by kernel_rfl)) _ _ (by kernel_rfl))) (fun w S => St.pick S [0, 1, 2] _ rfl (by decide)) (fun x hx => ?_)
 obtain ⟨xip, xsp, xAp, xcp, xFp, xlop, xhip⟩ := x
 dsimp only at hx
 obtain ⟨hbp, hlp, hpp⟩ := hx
 refine Sx.C.seq (Sx.C.seq (Sx.C.region ?_))
 refine Sx.G.p (.int .i64 (xip : Int)) ?_
 refine Sx.G.p (.pointer (some ⟨g, 0, none⟩)) ?_
 refine Sx.G.c 39 #[.pointer (some ⟨g, 0, none⟩), .int .i64 2] (fun w2 S => (below_any w0 A n c g _ 2 (by decide) (by decide) hn hcode (Sx.St.cur S 1 rfl)).mono fun e w2' hp => ?_)
 obtain ⟨x2, rfl, hx2, hy2, hcur, hgr⟩ := hp
 refine ⟨_, _, rfl, Sx.St.moved S 1 rfl hcur hgr, ?_⟩
 clear S hcur hgr
 refine Sx.G.q (.int .i64 (IntKind.i64.wrap (1 + x2))) (.int .i64 (1 + x2)) (congrArg (Value.int .i64) (by rw [IntKind.wrap_i64]; omega)) ?_
 refine Sx.G.p (.bool (decide ((xip : Int) < (1 + x2)))) ?_
 refine Sx.G.nil (Sx.E.next ?_)
 cases hc3 : (decide ((xip : Int) < (1 + x2)))
 ·
  have hb3 := hc3
  replace hc3 := of_decide_eq_false hc3
  refine Sx.C.no (by kernel_rfl) (by kernel_rfl) ?_
  refine Sx.C.exit (Sx.E.then_exit (Sx.E.then_exit (Sx.E.block_hit (Sx.E.next (Sx.C.seq (Sx.C.region ?_))))))
  refine Sx.G.p (.slice xAp xsp.length xcp) ?_
  refine Sx.G.p (.slice xAp xsp.length xcp) ?_
  refine Sx.G.nil (Sx.E.next (Sx.C.ret ?_))
  refine Sx.E.ret1 (.slice xAp xsp.length xcp) rfl (by kernel_rfl) (fun w S => ?_)
  exact ⟨xsp, _, _, _, _, _, ⟨by omega, hpp⟩, by omega, Sx.Drawn.made hb0 (St.pick S [1, 2, 0] _ rfl (by decide))⟩
 ·
  have hb3 := hc3
  replace hc3 := of_decide_eq_true hc3
  refine Sx.C.yes (by kernel_rfl) (by kernel_rfl) ?_
  refine Sx.C.skip (Sx.E.next (Sx.C.seq (Sx.C.block (Sx.C.region ?_))))
  refine Sx.G.p (.slice xAp xsp.length xcp) ?_
  refine Sx.G.p (.pointer (some ⟨g, 0, none⟩)) ?_
  refine Sx.G.c 27 #[.pointer (some ⟨g, 0, none⟩)] (fun w4 S => (kd_prog w0 A n c g _ hn hcode (Sx.St.cur S 1 rfl)).mono fun e w4' hp => ?_)
  obtain ⟨l4, a4, b4, lo4, hi4, F4, hg4, rfl, hcur, hgr, hfr⟩ := hp
  refine ⟨_, _, rfl, Sx.St.joinD S (Sx.St.moved S 1 rfl hcur hgr) hfr, ?_⟩
  clear S hcur hgr hfr
  refine Sx.G.made 32 [.slice a4 l4.length b4] 1 (by kernel_rfl) (fun w => by kernel_rfl) (fun b5 => ?_)
  refine Sx.G.pk (.c .m2 (.c .m1 (.c .m0 (.c .m3 (.c .m4 .n))))) ?_
  refine Sx.G.appr (.tmp 13) (.tmp 16) 24 1 24 1 rfl (by kernel_rfl) (by kernel_rfl) rfl (by kernel_rfl) (by kernel_rfl) (by kernel_rfl) (by simp only [maxLen]; omega) (by omega) (xsp ++ [l4]) rfl (xsp ++ [l4]).length (by simp) (fun A6 c6 F6 hi6 hm6 => ?_)
  refine Sx.G.p (.slice A6 (xsp ++ [l4]).length c6) ?_
  refine Sx.G.nil (Sx.E.block_normal (Sx.E.next (Sx.C.region ?_)))
  refine Sx.G.p (.int .i64 (xip : Int)) ?_
  refine Sx.G.q (.int .i64 (IntKind.i64.wrap ((xip : Int) + 1))) (.int .i64 ((xip + 1 : Nat) : Int)) (congrArg (Value.int .i64) (Sx.wrap_up xip (by omega))) ?_
  refine Sx.G.p (.int .i64 ((xip + 1 : Nat) : Int)) ?_
  refine Sx.G.nil ?_
  have HN : xip + 1 ≤ 2 ∧ (xsp ++ [l4]).length = xip + 1 ∧ ∀ y ∈ xsp ++ [l4], progD y := ⟨by omega, by simp [hlp], fun y hy => by rcases List.mem_append.1 hy with h | h; exact hpp y h; rw [List.mem_singleton.1 h]; exact hg4⟩
  exact Sx.E.again (xip + 1, (xsp ++ [l4]), A6, c6, F6, w0.heap.size, hi6) HN (by show 2 + 1 - (xip + 1) < 2 + 1 - xip; omega) (fun a hA => (Sx.Ag.and hA (Sx.Ag.and hA (Sx.Ag.and hA (Sx.Ag.and hA (Sx.Ag.none hA) _ _ (by kernel_rfl)) _ _ (by kernel_rfl)) _ _ (by kernel_rfl)) _ _ (by kernel_rfl))) (fun w S => St.pick S [0, 1, 2] _ rfl (by decide))
theorem kd_at (w0 : World) (A : Option Addr) (n c g : Nat) (w : World) (hn : n ≤ 1048576) (hcode : CodeAt w0 A n) (hcur : Cur w0 A n c w g) : Calls Tryz.prog 32 #[.pointer (some ⟨g, 0, none⟩)] w (fun e w' => ∃ x, numD x ∧ Sx.Drawn w0 A n c w g (.int .i64 x) [] e w') := by
 have hs0 := Sx.st_cur hcur
 have hb0 := hcur.1
 clear hcur
 refine Sx.enterS (args := [.pointer (some ⟨g, 0, none⟩)]) hs0 Tryz.func32 rfl Tryz.ntmps32 rfl ?_
 refine Sx.C.seq (Sx.C.region ?_)
 refine Sx.G.p (.int .i64 0) ?_
 refine Sx.G.nil (Sx.E.next (Sx.C.seq (Sx.C.region ?_)))
 refine Sx.G.p (.pointer (some ⟨g, 0, none⟩)) ?_
 refine Sx.G.block 3 [.int .i64 0, .int .i64 0, .int .i64 1, .int .i64 1, .int .i64 2, .int .i64 (-1), .int .i64 9223372036854775807] 7 (by kernel_rfl) (fun w => by kernel_rfl) (fun b1 => ?_)
 refine Sx.G.c 71 #[.pointer (some ⟨g, 0, none⟩), .slice (some ⟨b1, 0, none⟩) 7 7] (fun w2 S => (pick_any w0 A n c g _ b1 7 [0, 0, 1, 1, 2, (-1), 9223372036854775807] (by decide) (by decide) hn hcode (Sx.St.cur S 1 rfl) (Sx.St.bk_ne S 0 1 rfl rfl (by decide)) rfl (St.at_ S 0 rfl)).mono fun e w2' hp => ?_)
 obtain ⟨x2, rfl, hx2, hcur, hgr⟩ := hp
 have hw2 : (Lit.int .i64 x2).wf = true := (show ∀ y ∈ ([0, 0, 1, 1, 2, (-1), 9223372036854775807] : List Int), (Lit.int .i64 y).wf = true by decide) _ hx2
 refine ⟨_, _, rfl, Sx.St.moved S 1 rfl hcur hgr, ?_⟩
 clear S hcur hgr
 refine Sx.G.p (.int .i64 x2) ?_
 refine Sx.G.nil (Sx.E.next (Sx.C.ret ?_))
 refine Sx.E.ret1 (.int .i64 x2) rfl (by kernel_rfl) (fun w S => ?_)
 exact ⟨x2, hw2, Sx.Drawn.made hb0 (St.pick S [1, 2] _ rfl (by decide))⟩
theorem drawBareNew (A : Option Addr) (n c : Nat) (w0 : World) (hn : n ≤ 1048576) (hcode : CodeAt w0 A n) : Calls Tryz.prog 5 #[.slice A n c] w0 (BProgs w0) := by
 refine Sx.enter (args := [.slice A n c]) Tryz.func5 rfl Tryz.ntmps5 rfl ?_
 refine Sx.C.seq (Sx.C.region ?_)
 refine Sx.G.p (.slice none 0 0) ?_
 refine Sx.G.nil (Sx.E.next (Sx.C.seq (Sx.C.region ?_)))
 refine Sx.G.p (.slice A n c) ?_
 refine Sx.G.c 24 #[.slice A n c] (fun w1 S => (Sx.new_g A n c _ hn (hcode.below S.below)).mono fun e w1' hp => ?_)
 obtain ⟨g, rfl, hcs, hlo, hhi, hb⟩ := hp
 refine ⟨_, _, rfl, (S.add hb (Sx.cu A n c g) hcs hlo hhi), ?_⟩
 clear S hcs hlo hhi hb
 refine Sx.G.p (.pointer (some ⟨g, 0, none⟩)) ?_
 refine Sx.G.nil (Sx.E.next (Sx.C.seq (Sx.C.region ?_)))
 refine Sx.G.p (.pointer (some ⟨g, 0, none⟩)) ?_
 refine Sx.G.c 25 #[.pointer (some ⟨g, 0, none⟩)] (fun w2 S => (kd_progs w0 A n c g _ hn hcode (Sx.St.cur S 0 rfl)).mono fun e w2' hp => ?_)
 obtain ⟨l2, a2, b2, lo2, hi2, F2, hg2, hq2, rfl, hcur, hgr, hfr⟩ := hp
 refine ⟨_, _, rfl, Sx.St.joinD S (Sx.St.moved S 0 rfl hcur hgr) hfr, ?_⟩
 clear S hcur hgr hfr
 refine Sx.G.p (.slice a2 l2.length b2) ?_
 refine Sx.G.nil (Sx.E.next (Sx.C.seq (Sx.C.seq (Sx.C.region ?_))))
 refine Sx.G.p (.pointer (some ⟨g, 0, none⟩)) ?_
 refine Sx.G.c 26 #[.pointer (some ⟨g, 0, none⟩), .int .i64 4] (fun w3 S => (once_any w0 A n c g _ 4 (by decide) (by decide) hn hcode (Sx.St.cur S 1 rfl)).mono fun e w3' hp => ?_)
 obtain ⟨x3, rfl, hcur, hgr⟩ := hp
 refine ⟨_, _, rfl, Sx.St.moved S 1 rfl hcur hgr, ?_⟩
 clear S hcur hgr
 refine Sx.G.nil (Sx.E.next ?_)
 cases hc4 : (x3)
 ·
  have hb4 := hc4
  refine Sx.C.no (by kernel_rfl) (by kernel_rfl) ?_
  refine Sx.C.skip (Sx.E.next (Sx.C.seq (Sx.C.region ?_)))
  refine Sx.G.p (.slice a2 l2.length b2) ?_
  refine Sx.G.p (.slice a2 l2.length b2) ?_
  refine Sx.G.nil (Sx.E.next (Sx.C.ret ?_))
  refine Sx.E.ret1 (.slice a2 l2.length b2) rfl (by kernel_rfl) (fun w S => ?_)
  exact ⟨l2, _, _, rfl, hg2, Sx.rdLst_of (r := (Sx.rRo (rLsw (rPair rInt rInt)))) (q := (rLsw (rPair rInt rInt))) (fun _ _ _ _ _ h => h) rfl (show rdLst (Sx.rRo (rLsw (rPair rInt rInt))) _ _ _ _ _ from Sx.St.owIn S 0 rfl), S.below⟩
 ·
  have hb4 := hc4
  refine Sx.C.yes (by kernel_rfl) (by kernel_rfl) ?_
  refine Sx.C.region ?_
  refine Sx.G.p (.slice a2 l2.length b2) ?_
  refine Sx.G.p (.pointer (some ⟨g, 0, none⟩)) ?_
  refine Sx.G.c 27 #[.pointer (some ⟨g, 0, none⟩)] (fun w5 S => (kd_prog w0 A n c g _ hn hcode (Sx.St.cur S 1 rfl)).mono fun e w5' hp => ?_)
  obtain ⟨l5, a5, b5, lo5, hi5, F5, hg5, rfl, hcur, hgr, hfr⟩ := hp
  refine ⟨_, _, rfl, Sx.St.joinD S (Sx.St.moved S 1 rfl hcur hgr) hfr, ?_⟩
  clear S hcur hgr hfr
  refine Sx.G.p (.pointer (some ⟨g, 0, none⟩)) ?_
  refine Sx.G.c 28 #[.pointer (some ⟨g, 0, none⟩)] (fun w6 S => (kd_anyprog w0 A n c g _ hn hcode (Sx.St.cur S 2 rfl)).mono fun e w6' hp => ?_)
  obtain ⟨l6, a6, b6, lo6, hi6, F6, hg6, rfl, hcur, hgr, hfr⟩ := hp
  refine ⟨_, _, rfl, Sx.St.joinD S (Sx.St.moved S 2 rfl hcur hgr) hfr, ?_⟩
  clear S hcur hgr hfr
  refine Sx.G.made 32 [.slice a5 l5.length b5, .slice a6 l6.length b6] 2 (by kernel_rfl) (fun w => by kernel_rfl) (fun b7 => ?_)
  refine Sx.G.pk (.c .m2 (.c .m1 (.c .m0 (.c .m3 (.c .m4 .n))))) ?_
  refine Sx.G.turn (ι := Nat) (p := fun _ => True) (fun H8 => [ow (rPair (Sx.rRo (rLsw (rPair rInt rInt))) (Sx.rRo (rLsw (rPair rInt rInt)))) w0.heap.size H8 (l5, l6) [.slice a5 l5.length b5, .slice a6 l6.length b6] (F5 ++ F6), vr b7 [.slice a5 l5.length b5, .slice a6 l6.length b6], ow (rLst 32 (Sx.rRo (rLsw (rPair rInt rInt)))) lo2 hi2 l2 [.slice a2 l2.length b2] F2, Sx.cu A n c g]) (fun w S => ⟨w.heap.size, trivial, Sx.St.pair S⟩) (fun H8 _ => ?_)
  refine Sx.G.pk (.c .m2 (.c .m0 (.c .m1 (.c .m3 .n)))) ?_
  refine Sx.G.appr2 (.tmp 11) (.tmp 16) 24 1 24 2 rfl (by kernel_rfl) (by kernel_rfl) rfl (by kernel_rfl) (by kernel_rfl) (by kernel_rfl) (by simp only [maxLen]; omega) (by omega) (l2 ++ [l5, l6]) rfl (l2 ++ [l5, l6]).length (by simp) (fun A9 c9 F9 hi9 hm9 => ?_)
  refine Sx.G.p (.slice A9 (l2 ++ [l5, l6]).length c9) ?_
  refine Sx.G.nil (Sx.E.next (Sx.C.seq (Sx.C.region ?_)))
  refine Sx.G.p (.slice A9 (l2 ++ [l5, l6]).length c9) ?_
  refine Sx.G.p (.slice A9 (l2 ++ [l5, l6]).length c9) ?_
  refine Sx.G.nil (Sx.E.next (Sx.C.ret ?_))
  refine Sx.E.ret1 (.slice A9 (l2 ++ [l5, l6]).length c9) rfl (by kernel_rfl) (fun w S => ?_)
  exact ⟨(l2 ++ [l5, l6]), _, _, rfl, ⟨by simp only [List.length_append, List.length_cons, List.length_nil]; omega, fun q hq => by rcases List.mem_append.1 hq with h | h; exact hg2.2 q h; simp only [List.mem_cons, List.not_mem_nil, or_false] at h; rcases h with h | h; rw [h]; exact hg5; rw [h]; exact hg6⟩, Sx.rdLst_of (r := (Sx.rRo (rLsw (rPair rInt rInt)))) (q := (rLsw (rPair rInt rInt))) (fun _ _ _ _ _ h => h) rfl (show rdLst (Sx.rRo (rLsw (rPair rInt rInt))) _ _ _ _ _ from Sx.St.owIn S 0 rfl), S.below⟩
theorem drawBareOk (A : Option Addr) (n c : Nat) (w0 : World) (hn : n ≤ 1048576) (hcode : CodeAt w0 A n) : Calls Tryz.prog 14 #[.slice A n c] w0 (BOne w0) := by
 refine Sx.enter (args := [.slice A n c]) Tryz.func14 rfl Tryz.ntmps14 rfl ?_
 refine Sx.C.seq (Sx.C.region ?_)
 refine Sx.G.ar [.slice none 0 0, .slice none 0 0, .slice none 0 0, .int .i64 0] (fun b1 => ?_)
 refine Sx.G.nil (Sx.E.next (Sx.C.seq (Sx.C.region ?_)))
 refine Sx.G.p (.slice A n c) ?_
 refine Sx.G.c 24 #[.slice A n c] (fun w2 S => (Sx.new_g A n c _ hn (hcode.below S.below)).mono fun e w2' hp => ?_)
 obtain ⟨g, rfl, hcs, hlo, hhi, hb⟩ := hp
 refine ⟨_, _, rfl, (S.add hb (Sx.cu A n c g) hcs hlo hhi), ?_⟩
 clear S hcs hlo hhi hb
 refine Sx.G.c 31 #[.pointer (some ⟨g, 0, none⟩)] (fun w3 S => (kd_any w0 A n c g _ hn hcode (Sx.St.cur S 0 rfl)).mono fun e w3' hp => ?_)
 obtain ⟨z3, cs3, lo3, hi3, F3, hg3, rfl, hcur, hgr, hfr⟩ := hp
 obtain ⟨P3_0, P3_1, P3_2, e3, f3_0, f3_1, f3_2⟩ := wB_rd ((Sx.rRo wB).reads (hfr.says 0 _ rfl).1)
 subst e3
 obtain ⟨A3_0, c3_0, e3_0, -⟩ := lst_val f3_0
 subst e3_0
 obtain ⟨A3_1, c3_1, e3_1, -⟩ := lst_val f3_1
 subst e3_1
 obtain ⟨A3_2, c3_2, e3_2, -⟩ := lst_val f3_2
 subst e3_2
 refine ⟨_, _, rfl, Sx.St.joinD S (Sx.St.moved S 0 rfl hcur hgr) hfr, ?_⟩
 clear S hcur hgr hfr f3_0 f3_1 f3_2
 refine Sx.G.sw [.slice A3_0 z3.mem.length c3_0, .slice A3_1 z3.gs.length c3_1, .slice A3_2 z3.outs.length c3_2, .int .i64 z3.pd] .a2 ?_
 refine Sx.G.nil (Sx.E.next (Sx.C.ret ?_))
 refine Sx.E.retc b1 2 [.slice A3_0 z3.mem.length c3_0, .slice A3_1 z3.gs.length c3_1, .slice A3_2 z3.outs.length c3_2, .int .i64 z3.pd] rfl (by kernel_rfl) rfl (by kernel_rfl) (by kernel_rfl) (fun w S => ?_)
 exact ⟨z3, _, rfl, ⟨hg3.1, (Sx.St.owIn (r := (Sx.rRo wB)) S 0 rfl)⟩, S.below⟩
theorem drawGuestAt (A : Option Addr) (n c : Nat) (w0 : World) (hn : n ≤ 1048576) (hcode : CodeAt w0 A n) : Calls Tryz.prog 9 #[.slice A n c] w0 (BNum w0) := by
 refine Sx.enter (args := [.slice A n c]) Tryz.func9 rfl Tryz.ntmps9 rfl ?_
 refine Sx.C.seq (Sx.C.region ?_)
 refine Sx.G.ar [.slice none 0 0, .slice none 0 0, .slice none 0 0, .int .i64 0] (fun b1 => ?_)
 refine Sx.G.p (.int .i64 0) ?_
 refine Sx.G.nil (Sx.E.next (Sx.C.seq (Sx.C.region ?_)))
 refine Sx.G.p (.slice A n c) ?_
 refine Sx.G.c 24 #[.slice A n c] (fun w2 S => (Sx.new_g A n c _ hn (hcode.below S.below)).mono fun e w2' hp => ?_)
 obtain ⟨g, rfl, hcs, hlo, hhi, hb⟩ := hp
 refine ⟨_, _, rfl, (S.add hb (Sx.cu A n c g) hcs hlo hhi), ?_⟩
 clear S hcs hlo hhi hb
 refine Sx.G.p (.pointer (some ⟨g, 0, none⟩)) ?_
 refine Sx.G.nil (Sx.E.next (Sx.C.seq (Sx.C.region ?_)))
 refine Sx.G.p (.pointer (some ⟨g, 0, none⟩)) ?_
 refine Sx.G.c 31 #[.pointer (some ⟨g, 0, none⟩)] (fun w3 S => (kd_any w0 A n c g _ hn hcode (Sx.St.cur S 0 rfl)).mono fun e w3' hp => ?_)
 obtain ⟨z3, cs3, lo3, hi3, F3, hg3, rfl, hcur, hgr, hfr⟩ := hp
 obtain ⟨P3_0, P3_1, P3_2, e3, f3_0, f3_1, f3_2⟩ := wB_rd ((Sx.rRo wB).reads (hfr.says 0 _ rfl).1)
 subst e3
 obtain ⟨A3_0, c3_0, e3_0, -⟩ := lst_val f3_0
 subst e3_0
 obtain ⟨A3_1, c3_1, e3_1, -⟩ := lst_val f3_1
 subst e3_1
 obtain ⟨A3_2, c3_2, e3_2, -⟩ := lst_val f3_2
 subst e3_2
 refine ⟨_, _, rfl, Sx.St.joinD S (Sx.St.moved S 0 rfl hcur hgr) hfr, ?_⟩
 clear S hcur hgr hfr f3_0 f3_1 f3_2
 refine Sx.G.p (.pointer (some ⟨g, 0, none⟩)) ?_
 refine Sx.G.c 32 #[.pointer (some ⟨g, 0, none⟩)] (fun w4 S => (kd_at w0 A n c g _ hn hcode (Sx.St.cur S 1 rfl)).mono fun e w4' hp => ?_)
 obtain ⟨x4, hw4, rfl, hcur, hgr, -⟩ := hp
 refine ⟨_, _, rfl, Sx.St.moved S 1 rfl hcur hgr, ?_⟩
 clear S hcur hgr
 refine Sx.G.sw [.slice A3_0 z3.mem.length c3_0, .slice A3_1 z3.gs.length c3_1, .slice A3_2 z3.outs.length c3_2, .int .i64 z3.pd] .a2 ?_
 refine Sx.G.p (.int .i64 x4) ?_
 refine Sx.G.nil (Sx.E.next (Sx.C.ret ?_))
 refine Sx.E.retg2 (.agg #[.slice A3_0 z3.mem.length c3_0, .slice A3_1 z3.gs.length c3_1, .slice A3_2 z3.outs.length c3_2, .int .i64 z3.pd]) (.int .i64 x4) rfl (Sx.IsRes.row b1 2 [.slice A3_0 z3.mem.length c3_0, .slice A3_1 z3.gs.length c3_1, .slice A3_2 z3.outs.length c3_2, .int .i64 z3.pd] (by kernel_rfl) rfl (by kernel_rfl) (by kernel_rfl)) (Sx.IsRes.slot (by kernel_rfl)) (fun w S => ?_)
 exact ⟨z3, _, _, rfl, ⟨hg3.1, (Sx.St.owIn (r := (Sx.rRo wB)) S 0 rfl)⟩, hw4, S.below⟩
theorem drawPutOut (A : Option Addr) (n c : Nat) (w0 : World) (hn : n ≤ 1048576) (hcode : CodeAt w0 A n) : Calls Tryz.prog 12 #[.slice A n c] w0 (BNum w0) := by
 refine Sx.enter (args := [.slice A n c]) Tryz.func12 rfl Tryz.ntmps12 rfl ?_
 refine Sx.C.seq (Sx.C.region ?_)
 refine Sx.G.ar [.slice none 0 0, .slice none 0 0, .slice none 0 0, .int .i64 0] (fun b1 => ?_)
 refine Sx.G.p (.int .i64 0) ?_
 refine Sx.G.nil (Sx.E.next (Sx.C.seq (Sx.C.region ?_)))
 refine Sx.G.p (.slice A n c) ?_
 refine Sx.G.c 24 #[.slice A n c] (fun w2 S => (Sx.new_g A n c _ hn (hcode.below S.below)).mono fun e w2' hp => ?_)
 obtain ⟨g, rfl, hcs, hlo, hhi, hb⟩ := hp
 refine ⟨_, _, rfl, (S.add hb (Sx.cu A n c g) hcs hlo hhi), ?_⟩
 clear S hcs hlo hhi hb
 refine Sx.G.p (.pointer (some ⟨g, 0, none⟩)) ?_
 refine Sx.G.nil (Sx.E.next (Sx.C.seq (Sx.C.region ?_)))
 refine Sx.G.p (.pointer (some ⟨g, 0, none⟩)) ?_
 refine Sx.G.c 31 #[.pointer (some ⟨g, 0, none⟩)] (fun w3 S => (kd_any w0 A n c g _ hn hcode (Sx.St.cur S 0 rfl)).mono fun e w3' hp => ?_)
 obtain ⟨z3, cs3, lo3, hi3, F3, hg3, rfl, hcur, hgr, hfr⟩ := hp
 obtain ⟨P3_0, P3_1, P3_2, e3, f3_0, f3_1, f3_2⟩ := wB_rd ((Sx.rRo wB).reads (hfr.says 0 _ rfl).1)
 subst e3
 obtain ⟨A3_0, c3_0, e3_0, -⟩ := lst_val f3_0
 subst e3_0
 obtain ⟨A3_1, c3_1, e3_1, -⟩ := lst_val f3_1
 subst e3_1
 obtain ⟨A3_2, c3_2, e3_2, -⟩ := lst_val f3_2
 subst e3_2
 refine ⟨_, _, rfl, Sx.St.joinD S (Sx.St.moved S 0 rfl hcur hgr) hfr, ?_⟩
 clear S hcur hgr hfr f3_0 f3_1 f3_2
 refine Sx.G.p (.pointer (some ⟨g, 0, none⟩)) ?_
 refine Sx.G.c 39 #[.pointer (some ⟨g, 0, none⟩), .int .i64 100] (fun w4 S => (below_any w0 A n c g _ 100 (by decide) (by decide) hn hcode (Sx.St.cur S 1 rfl)).mono fun e w4' hp => ?_)
 obtain ⟨x4, rfl, hx4, hy4, hcur, hgr⟩ := hp
 refine ⟨_, _, rfl, Sx.St.moved S 1 rfl hcur hgr, ?_⟩
 clear S hcur hgr
 refine Sx.G.sw [.slice A3_0 z3.mem.length c3_0, .slice A3_1 z3.gs.length c3_1, .slice A3_2 z3.outs.length c3_2, .int .i64 z3.pd] .a2 ?_
 refine Sx.G.p (.int .i64 x4) ?_
 refine Sx.G.nil (Sx.E.next (Sx.C.ret ?_))
 refine Sx.E.retg2 (.agg #[.slice A3_0 z3.mem.length c3_0, .slice A3_1 z3.gs.length c3_1, .slice A3_2 z3.outs.length c3_2, .int .i64 z3.pd]) (.int .i64 x4) rfl (Sx.IsRes.row b1 2 [.slice A3_0 z3.mem.length c3_0, .slice A3_1 z3.gs.length c3_1, .slice A3_2 z3.outs.length c3_2, .int .i64 z3.pd] (by kernel_rfl) rfl (by kernel_rfl) (by kernel_rfl)) (Sx.IsRes.slot (by kernel_rfl)) (fun w S => ?_)
 exact ⟨z3, _, _, rfl, ⟨hg3.1, (Sx.St.owIn (r := (Sx.rRo wB)) S 0 rfl)⟩, (Sx.wf_small hx4 (Int.lt_trans hy4 (by decide))), S.below⟩
theorem drawWithGuest (A : Option Addr) (n c : Nat) (w0 : World) (hn : n ≤ 1048576) (hcode : CodeAt w0 A n) : Calls Tryz.prog 7 #[.slice A n c] w0 (BGue w0) := by
 refine Sx.enter (args := [.slice A n c]) Tryz.func7 rfl Tryz.ntmps7 rfl ?_
 refine Sx.C.seq (Sx.C.region ?_)
 refine Sx.G.ar [.slice none 0 0, .slice none 0 0, .slice none 0 0, .int .i64 0] (fun b1 => ?_)
 refine Sx.G.p (.int .i64 0) ?_
 refine Sx.G.ar [.slice none 0 0, .int .i64 0, .int .i64 0, .slice none 0 0, .slice none 0 0, .int .i64 0, .int .i64 0, .bool false, .int .i64 0, .int .i64 0, .int .i64 0, .bool false, .int .i64 0, .bool false, .slice none 0 0] (fun b2 => ?_)
 refine Sx.G.nil (Sx.E.next (Sx.C.seq (Sx.C.region ?_)))
 refine Sx.G.p (.slice A n c) ?_
 refine Sx.G.c 24 #[.slice A n c] (fun w3 S => (Sx.new_g A n c _ hn (hcode.below S.below)).mono fun e w3' hp => ?_)
 obtain ⟨g, rfl, hcs, hlo, hhi, hb⟩ := hp
 refine ⟨_, _, rfl, (S.add hb (Sx.cu A n c g) hcs hlo hhi), ?_⟩
 clear S hcs hlo hhi hb
 refine Sx.G.p (.pointer (some ⟨g, 0, none⟩)) ?_
 refine Sx.G.nil (Sx.E.next (Sx.C.seq (Sx.C.region ?_)))
 refine Sx.G.p (.pointer (some ⟨g, 0, none⟩)) ?_
 refine Sx.G.c 31 #[.pointer (some ⟨g, 0, none⟩)] (fun w4 S => (kd_any w0 A n c g _ hn hcode (Sx.St.cur S 0 rfl)).mono fun e w4' hp => ?_)
 obtain ⟨z4, cs4, lo4, hi4, F4, hg4, rfl, hcur, hgr, hfr⟩ := hp
 obtain ⟨P4_0, P4_1, P4_2, e4, f4_0, f4_1, f4_2⟩ := wB_rd ((Sx.rRo wB).reads (hfr.says 0 _ rfl).1)
 subst e4
 obtain ⟨A4_0, c4_0, e4_0, -⟩ := lst_val f4_0
 subst e4_0
 obtain ⟨A4_1, c4_1, e4_1, -⟩ := lst_val f4_1
 subst e4_1
 obtain ⟨A4_2, c4_2, e4_2, -⟩ := lst_val f4_2
 subst e4_2
 refine ⟨_, _, rfl, Sx.St.joinD S (Sx.St.moved S 0 rfl hcur hgr) hfr, ?_⟩
 clear S hcur hgr hfr f4_0 f4_1 f4_2
 refine Sx.G.p (.pointer (some ⟨g, 0, none⟩)) ?_
 refine Sx.G.c 32 #[.pointer (some ⟨g, 0, none⟩)] (fun w5 S => (kd_at w0 A n c g _ hn hcode (Sx.St.cur S 1 rfl)).mono fun e w5' hp => ?_)
 obtain ⟨x5, hw5, rfl, hcur, hgr, -⟩ := hp
 refine ⟨_, _, rfl, Sx.St.moved S 1 rfl hcur hgr, ?_⟩
 clear S hcur hgr
 refine Sx.G.p (.pointer (some ⟨g, 0, none⟩)) ?_
 refine Sx.G.c 33 #[.pointer (some ⟨g, 0, none⟩)] (fun w6 S => (kd_gany w0 A n c g _ hn hcode (Sx.St.cur S 1 rfl)).mono fun e w6' hp => ?_)
 obtain ⟨z6, cs6, lo6, hi6, F6, hg6, rfl, hcur, hgr, hfr⟩ := hp
 obtain ⟨P6_0, P6_1, P6_2, P6_3, e6, f6_0, f6_1, f6_2, f6_3⟩ := wG_rd ((Sx.rRo wG).reads (hfr.says 0 _ rfl).1)
 subst e6
 obtain ⟨A6_0, c6_0, e6_0, -⟩ := lst_val f6_0
 subst e6_0
 obtain ⟨A6_1, c6_1, e6_1, -⟩ := lst_val f6_1
 subst e6_1
 obtain ⟨A6_2, c6_2, e6_2, -⟩ := lst_val f6_2
 subst e6_2
 obtain ⟨A6_3, c6_3, e6_3, -⟩ := lst_val f6_3
 subst e6_3
 refine ⟨_, _, rfl, Sx.St.joinD S (Sx.St.moved S 1 rfl hcur hgr) hfr, ?_⟩
 clear S hcur hgr hfr f6_0 f6_1 f6_2 f6_3
 refine Sx.G.sw [.slice A4_0 z4.mem.length c4_0, .slice A4_1 z4.gs.length c4_1, .slice A4_2 z4.outs.length c4_2, .int .i64 z4.pd] .a4 ?_
 refine Sx.G.p (.int .i64 x5) ?_
 refine Sx.G.sw [.slice A6_0 z6.prog.length c6_0, .int .i64 z6.a, .int .i64 z6.pc, .slice A6_1 z6.wr.length c6_1, .slice A6_2 z6.lv.length c6_2, .int .i64 z6.t.1, .int .i64 z6.t.2.1, .bool z6.t.2.2, .int .i64 z6.pd, .int .i64 z6.x.1, .int .i64 z6.x.2.1, .bool z6.x.2.2.1, .int .i64 z6.x.2.2.2, .bool z6.hl, .slice A6_3 z6.seen.length c6_3] .a3 ?_
 refine Sx.G.nil (Sx.E.next (Sx.C.ret ?_))
 refine Sx.E.retg3 (.agg #[.slice A4_0 z4.mem.length c4_0, .slice A4_1 z4.gs.length c4_1, .slice A4_2 z4.outs.length c4_2, .int .i64 z4.pd]) (.int .i64 x5) (.agg #[.slice A6_0 z6.prog.length c6_0, .int .i64 z6.a, .int .i64 z6.pc, .slice A6_1 z6.wr.length c6_1, .slice A6_2 z6.lv.length c6_2, .int .i64 z6.t.1, .int .i64 z6.t.2.1, .bool z6.t.2.2, .int .i64 z6.pd, .int .i64 z6.x.1, .int .i64 z6.x.2.1, .bool z6.x.2.2.1, .int .i64 z6.x.2.2.2, .bool z6.hl, .slice A6_3 z6.seen.length c6_3]) rfl (Sx.IsRes.row b1 4 [.slice A4_0 z4.mem.length c4_0, .slice A4_1 z4.gs.length c4_1, .slice A4_2 z4.outs.length c4_2, .int .i64 z4.pd] (by kernel_rfl) rfl (by kernel_rfl) (by kernel_rfl)) (Sx.IsRes.slot (by kernel_rfl)) (Sx.IsRes.row b2 3 [.slice A6_0 z6.prog.length c6_0, .int .i64 z6.a, .int .i64 z6.pc, .slice A6_1 z6.wr.length c6_1, .slice A6_2 z6.lv.length c6_2, .int .i64 z6.t.1, .int .i64 z6.t.2.1, .bool z6.t.2.2, .int .i64 z6.pd, .int .i64 z6.x.1, .int .i64 z6.x.2.1, .bool z6.x.2.2.1, .int .i64 z6.x.2.2.2, .bool z6.hl, .slice A6_3 z6.seen.length c6_3] (by kernel_rfl) rfl (by kernel_rfl) (by kernel_rfl)) (fun w S => ?_)
 exact ⟨z4, _, _, z6, _, rfl, ⟨hg4.1, (Sx.St.owIn (r := (Sx.rRo wB)) S 1 rfl)⟩, hw5, ⟨hg6, (Sx.St.owIn (r := (Sx.rRo wG)) S 0 rfl)⟩, S.below⟩
theorem drawSameBare (A : Option Addr) (n c : Nat) (w0 : World) (hn : n ≤ 1048576) (hcode : CodeAt w0 A n) : Calls Tryz.prog 13 #[.slice A n c] w0 (BTwo w0) := by
 refine Sx.enter (args := [.slice A n c]) Tryz.func13 rfl Tryz.ntmps13 rfl ?_
 refine Sx.C.seq (Sx.C.region ?_)
 refine Sx.G.ar [.slice none 0 0, .slice none 0 0, .slice none 0 0, .int .i64 0] (fun b1 => ?_)
 refine Sx.G.ar [.slice none 0 0, .slice none 0 0, .slice none 0 0, .int .i64 0] (fun b2 => ?_)
 refine Sx.G.nil (Sx.E.next (Sx.C.seq (Sx.C.region ?_)))
 refine Sx.G.p (.slice A n c) ?_
 refine Sx.G.c 24 #[.slice A n c] (fun w3 S => (Sx.new_g A n c _ hn (hcode.below S.below)).mono fun e w3' hp => ?_)
 obtain ⟨g, rfl, hcs, hlo, hhi, hb⟩ := hp
 refine ⟨_, _, rfl, (S.add hb (Sx.cu A n c g) hcs hlo hhi), ?_⟩
 clear S hcs hlo hhi hb
 refine Sx.G.p (.pointer (some ⟨g, 0, none⟩)) ?_
 refine Sx.G.nil (Sx.E.next (Sx.C.seq (Sx.C.region ?_)))
 refine Sx.G.p (.pointer (some ⟨g, 0, none⟩)) ?_
 refine Sx.G.c 31 #[.pointer (some ⟨g, 0, none⟩)] (fun w4 S => (kd_any w0 A n c g _ hn hcode (Sx.St.cur S 0 rfl)).mono fun e w4' hp => ?_)
 obtain ⟨z4, cs4, lo4, hi4, F4, hg4, rfl, hcur, hgr, hfr⟩ := hp
 obtain ⟨P4_0, P4_1, P4_2, e4, f4_0, f4_1, f4_2⟩ := wB_rd ((Sx.rRo wB).reads (hfr.says 0 _ rfl).1)
 subst e4
 obtain ⟨A4_0, c4_0, e4_0, -⟩ := lst_val f4_0
 subst e4_0
 obtain ⟨A4_1, c4_1, e4_1, -⟩ := lst_val f4_1
 subst e4_1
 obtain ⟨A4_2, c4_2, e4_2, -⟩ := lst_val f4_2
 subst e4_2
 refine ⟨_, _, rfl, Sx.St.joinD S (Sx.St.moved S 0 rfl hcur hgr) hfr, ?_⟩
 clear S hcur hgr hfr f4_0 f4_1 f4_2
 refine Sx.G.ar [.slice none 0 0, .slice none 0 0, .slice none 0 0, .int .i64 0] (fun b5 => ?_)
 refine Sx.G.sw [.slice A4_0 z4.mem.length c4_0, .slice A4_1 z4.gs.length c4_1, .slice A4_2 z4.outs.length c4_2, .int .i64 z4.pd] .a0 ?_
 refine Sx.G.nil (Sx.E.next (Sx.C.seq (Sx.C.region ?_)))
 refine Sx.G.lw .m0 ?_
 have hol : z4.outs.length ≤ 45 := hg4.2
 refine Sx.G.c 40 #[.agg #[.slice A4_0 z4.mem.length c4_0, .slice A4_1 z4.gs.length c4_1, .slice A4_2 z4.outs.length c4_2, .int .i64 z4.pd]] (fun w6 S => (specx_bcopy z4 _ _ (bD_sm hg4.1) (St.reads (r := (Sx.rRo wB)) S 1 rfl)).mono fun e w6' hp => ?_)
 obtain ⟨cs, F, rfl, ho, hF, hb⟩ := hp
 obtain ⟨P6_0, P6_1, P6_2, G6_0, G6_1, G6_2, rfl, S'⟩ := rB_open (St.got S hb ho hF)
 obtain ⟨A6_0, c6_0, e6_0, -⟩ := lst_val (S'.reads 0 rfl)
 subst e6_0
 obtain ⟨A6_1, c6_1, e6_1, -⟩ := lst_val (S'.reads 1 rfl)
 subst e6_1
 obtain ⟨A6_2, c6_2, e6_2, -⟩ := lst_val (S'.reads 2 rfl)
 subst e6_2
 refine ⟨_, _, rfl, S', ?_⟩
 clear S S' ho hF hb
 refine Sx.G.ar [.slice none 0 0, .slice none 0 0, .slice none 0 0, .int .i64 0] (fun b7 => ?_)
 refine Sx.G.sw [.slice A6_0 z4.mem.length c6_0, .slice A6_1 z4.gs.length c6_1, .slice A6_2 z4.outs.length c6_2, .int .i64 z4.pd] .a0 ?_
 refine Sx.G.nil (Sx.E.next (Sx.C.seq (Sx.C.seq (Sx.C.region ?_))))
 refine Sx.G.p (.pointer (some ⟨g, 0, none⟩)) ?_
 refine Sx.G.c 39 #[.pointer (some ⟨g, 0, none⟩), .int .i64 5] (fun w8 S => (below_any w0 A n c g _ 5 (by decide) (by decide) hn hcode (Sx.St.cur S 6 rfl)).mono fun e w8' hp => ?_)
 obtain ⟨x8, rfl, hx8, hy8, hcur, hgr⟩ := hp
 refine ⟨_, _, rfl, Sx.St.moved S 6 rfl hcur hgr, ?_⟩
 clear S hcur hgr
 refine Sx.G.nil (Sx.E.next (Sx.C.block (Sx.C.seq (Sx.C.region ?_))))
 refine Sx.G.p (.bool (x8 == 0)) ?_
 refine Sx.G.p (.bool (x8 == 0)) ?_
 refine Sx.G.nil (Sx.E.next ?_)
 cases hc9 : (x8 == 0)
 ·
  have hb9 := hc9
  refine Sx.C.no (by kernel_rfl) (by kernel_rfl) ?_
  refine Sx.C.seq (Sx.C.region ?_)
  refine Sx.G.p (.bool (x8 == 1)) ?_
  refine Sx.G.p (.bool (x8 == 1)) ?_
  refine Sx.G.nil (Sx.E.next ?_)
  cases hc10 : (x8 == 1)
  ·
   have hb10 := hc10
   refine Sx.C.no (by kernel_rfl) (by kernel_rfl) ?_
   refine Sx.C.seq (Sx.C.region ?_)
   refine Sx.G.p (.bool (x8 == 2)) ?_
   refine Sx.G.p (.bool (x8 == 2)) ?_
   refine Sx.G.nil (Sx.E.next ?_)
   cases hc11 : (x8 == 2)
   ·
    have hb11 := hc11
    refine Sx.C.no (by kernel_rfl) (by kernel_rfl) ?_
    refine Sx.C.skip (Sx.E.block_normal (Sx.E.next (Sx.C.seq ?_)))
    refine Sx.C.draw (.take 0 (.take 1 (.alone 2 (.alone 3 .nil)))) [vr b7 [.slice A6_0 z4.mem.length c6_0, .slice A6_1 z4.gs.length c6_1, .slice A6_2 z4.outs.length c6_2, .int .i64 z4.pd], vr b5 [.slice A4_0 z4.mem.length c4_0, .slice A4_1 z4.gs.length c4_1, .slice A4_2 z4.outs.length c4_2, .int .i64 z4.pd]] (fun w S => St.pick S [0, 4] _ rfl (by decide)) (by kernel_rfl) (by kernel_rfl) (by kernel_rfl) ?_
    refine Sx.GT.lw .m1 ?_
    refine Sx.GT.lw .m0 ?_
    refine Sx.GT.alone (Sx.Alone.sw [.slice A4_0 z4.mem.length c4_0, .slice A4_1 z4.gs.length c4_1, .slice A4_2 z4.outs.length c4_2, .int .i64 z4.pd] .a8 (fun w S => St.pick S [0, 4] _ rfl (by decide)) ?_)
    refine Sx.GT.alone (Sx.Alone.sw [.slice A6_0 z4.mem.length c6_0, .slice A6_1 z4.gs.length c6_1, .slice A6_2 z4.outs.length c6_2, .int .i64 z4.pd] .a7 (fun w S => St.pick S [0, 4] _ rfl (by decide)) ?_)
    refine Sx.GT.nil (Sx.E.next (Sx.C.ret ?_))
    refine Sx.E.retg2 (.agg #[.slice A4_0 z4.mem.length c4_0, .slice A4_1 z4.gs.length c4_1, .slice A4_2 z4.outs.length c4_2, .int .i64 z4.pd]) (.agg #[.slice A6_0 z4.mem.length c6_0, .slice A6_1 z4.gs.length c6_1, .slice A6_2 z4.outs.length c6_2, .int .i64 z4.pd]) rfl (Sx.IsRes.row b1 8 [.slice A4_0 z4.mem.length c4_0, .slice A4_1 z4.gs.length c4_1, .slice A4_2 z4.outs.length c4_2, .int .i64 z4.pd] (by kernel_rfl) rfl (by kernel_rfl) (by kernel_rfl)) (Sx.IsRes.row b2 7 [.slice A6_0 z4.mem.length c6_0, .slice A6_1 z4.gs.length c6_1, .slice A6_2 z4.outs.length c6_2, .int .i64 z4.pd] (by kernel_rfl) rfl (by kernel_rfl) (by kernel_rfl)) (fun w S => ?_)
    exact ⟨z4, _, ({ mem := z4.mem, gs := z4.gs, outs := z4.outs, pd := z4.pd } : bT), _, rfl, ⟨hg4.1, (Sx.St.owIn (r := (Sx.rRo wB)) S 5 rfl)⟩, ⟨⟨hg4.1.1, hg4.1.2.1, hg4.1.2.2.1, hg4.1.2.2.2⟩, (wB_rd_mk (g := ({ mem := z4.mem, gs := z4.gs, outs := z4.outs, pd := z4.pd } : bT)) (Sx.St.owIn S 1 rfl) (Sx.St.owIn S 2 rfl) (show rdLst rInt _ _ _ (z4.outs) _ from Sx.St.owIn (r := rLst 3 rInt) S 3 rfl))⟩, S.below⟩
   ·
    have hb11 := hc11
    refine Sx.C.yes (by kernel_rfl) (by kernel_rfl) ?_
    refine Sx.C.seq ?_
    refine Sx.C.draw (.take 0 (.take 1 (.alone 2 (.alone 3 (.alone 4 .nil))))) [vr b5 [.slice A4_0 z4.mem.length c4_0, .slice A4_1 z4.gs.length c4_1, .slice A4_2 z4.outs.length c4_2, .int .i64 z4.pd]] (fun w S => St.pick S [4] _ rfl (by decide)) (by kernel_rfl) (by kernel_rfl) (by kernel_rfl) ?_
    refine Sx.GT.lw .m0 ?_
    refine Sx.GT.p (.pointer (some ⟨g, 0, none⟩)) ?_
    refine Sx.GT.alone (Sx.Alone.c 31 #[.pointer (some ⟨g, 0, none⟩)] (fun w12 S => (kd_any w0 A n c g _ hn hcode (Sx.St.cur S 6 rfl)).mono fun e w12' hp => ?_))
    obtain ⟨z12, cs12, lo12, hi12, F12, hg12, rfl, hcur, hgr, hfr⟩ := hp
    obtain ⟨P12_0, P12_1, P12_2, e12, f12_0, f12_1, f12_2⟩ := wB_rd ((Sx.rRo wB).reads (hfr.says 0 _ rfl).1)
    subst e12
    obtain ⟨A12_0, c12_0, e12_0, -⟩ := lst_val f12_0
    subst e12_0
    obtain ⟨A12_1, c12_1, e12_1, -⟩ := lst_val f12_1
    subst e12_1
    obtain ⟨A12_2, c12_2, e12_2, -⟩ := lst_val f12_2
    subst e12_2
    refine ⟨_, _, rfl, Sx.St.joinD S (Sx.St.moved S 6 rfl hcur hgr) hfr, (fun w S => St.pick S [5] _ rfl (by decide)), ?_⟩
    clear S hcur hgr hfr f12_0 f12_1 f12_2
    refine Sx.GT.alone (Sx.Alone.sw [.slice A4_0 z4.mem.length c4_0, .slice A4_1 z4.gs.length c4_1, .slice A4_2 z4.outs.length c4_2, .int .i64 z4.pd] .a9 (fun w S => St.pick S [5] _ rfl (by decide)) ?_)
    refine Sx.GT.alone (Sx.Alone.sw [.slice A12_0 z12.mem.length c12_0, .slice A12_1 z12.gs.length c12_1, .slice A12_2 z12.outs.length c12_2, .int .i64 z12.pd] .a8 (fun w S => St.pick S [5] _ rfl (by decide)) ?_)
    refine Sx.GT.nil (Sx.E.next (Sx.C.ret (Sx.E.block_ret (Sx.E.then_ret ?_))))
    refine Sx.E.retg2 (.agg #[.slice A4_0 z4.mem.length c4_0, .slice A4_1 z4.gs.length c4_1, .slice A4_2 z4.outs.length c4_2, .int .i64 z4.pd]) (.agg #[.slice A12_0 z12.mem.length c12_0, .slice A12_1 z12.gs.length c12_1, .slice A12_2 z12.outs.length c12_2, .int .i64 z12.pd]) rfl (Sx.IsRes.row b1 9 [.slice A4_0 z4.mem.length c4_0, .slice A4_1 z4.gs.length c4_1, .slice A4_2 z4.outs.length c4_2, .int .i64 z4.pd] (by kernel_rfl) rfl (by kernel_rfl) (by kernel_rfl)) (Sx.IsRes.row b2 8 [.slice A12_0 z12.mem.length c12_0, .slice A12_1 z12.gs.length c12_1, .slice A12_2 z12.outs.length c12_2, .int .i64 z12.pd] (by kernel_rfl) rfl (by kernel_rfl) (by kernel_rfl)) (fun w S => ?_)
    exact ⟨z4, _, z12, _, rfl, ⟨hg4.1, (Sx.St.owIn (r := (Sx.rRo wB)) S 6 rfl)⟩, ⟨hg12.1, (Sx.St.owIn (r := (Sx.rRo wB)) S 0 rfl)⟩, S.below⟩
  ·
   have hb10 := hc10
   refine Sx.C.yes (by kernel_rfl) (by kernel_rfl) ?_
   refine Sx.C.region ?_
   refine Sx.G.p (.pointer (some ⟨b7, 2, none⟩)) ?_
   refine Sx.G.g (.slice A6_2 z4.outs.length c6_2) .m0 .m2 ?_
   refine Sx.G.made 3 [.int .i64 7] 1 (by kernel_rfl) (fun w => by kernel_rfl) (fun b13 => ?_)
   refine Sx.G.apps 4 rfl (z4.outs ++ [7]) (fun w S => S.box 0 rfl rfl 1 (Nat.le_refl _)) rfl ((z4.outs ++ [7]).length) (by simp) flat_int (.tmp 24) (.tmp 25) 28 1 8 rfl rfl (by kernel_rfl) (by kernel_rfl) rfl (by kernel_rfl) (by kernel_rfl) (by simp only [maxLen, List.length_nil, List.length_cons]; omega) (by simp only [List.length_nil, List.length_cons]; omega) (fun A14 c14 F14 hi14 hm14 => ?_)
   refine Sx.G.p (.pointer (some ⟨b7, 2, none⟩)) ?_
   refine Sx.G.s (.slice A14 ((z4.outs ++ [7]).length) c14) .a1 .a2 ?_
   refine Sx.G.nil (Sx.E.block_normal (Sx.E.next (Sx.C.seq ?_)))
   refine Sx.C.draw (.take 0 (.take 1 (.alone 2 (.alone 3 .nil)))) [vr b7 [.slice A6_0 z4.mem.length c6_0, .slice A6_1 z4.gs.length c6_1, .slice A14 ((z4.outs ++ [7]).length) c14, .int .i64 z4.pd], vr b5 [.slice A4_0 z4.mem.length c4_0, .slice A4_1 z4.gs.length c4_1, .slice A4_2 z4.outs.length c4_2, .int .i64 z4.pd]] (fun w S => St.pick S [1, 5] _ rfl (by decide)) (by kernel_rfl) (by kernel_rfl) (by kernel_rfl) ?_
   refine Sx.GT.lw .m1 ?_
   refine Sx.GT.lw .m0 ?_
   refine Sx.GT.alone (Sx.Alone.sw [.slice A4_0 z4.mem.length c4_0, .slice A4_1 z4.gs.length c4_1, .slice A4_2 z4.outs.length c4_2, .int .i64 z4.pd] .a9 (fun w S => St.pick S [1, 5] _ rfl (by decide)) ?_)
   refine Sx.GT.alone (Sx.Alone.sw [.slice A6_0 z4.mem.length c6_0, .slice A6_1 z4.gs.length c6_1, .slice A14 ((z4.outs ++ [7]).length) c14, .int .i64 z4.pd] .a8 (fun w S => St.pick S [1, 5] _ rfl (by decide)) ?_)
   refine Sx.GT.nil (Sx.E.next (Sx.C.ret ?_))
   refine Sx.E.retg2 (.agg #[.slice A4_0 z4.mem.length c4_0, .slice A4_1 z4.gs.length c4_1, .slice A4_2 z4.outs.length c4_2, .int .i64 z4.pd]) (.agg #[.slice A6_0 z4.mem.length c6_0, .slice A6_1 z4.gs.length c6_1, .slice A14 ((z4.outs ++ [7]).length) c14, .int .i64 z4.pd]) rfl (Sx.IsRes.row b1 9 [.slice A4_0 z4.mem.length c4_0, .slice A4_1 z4.gs.length c4_1, .slice A4_2 z4.outs.length c4_2, .int .i64 z4.pd] (by kernel_rfl) rfl (by kernel_rfl) (by kernel_rfl)) (Sx.IsRes.row b2 8 [.slice A6_0 z4.mem.length c6_0, .slice A6_1 z4.gs.length c6_1, .slice A14 ((z4.outs ++ [7]).length) c14, .int .i64 z4.pd] (by kernel_rfl) rfl (by kernel_rfl) (by kernel_rfl)) (fun w S => ?_)
   exact ⟨z4, _, ({ mem := z4.mem, gs := z4.gs, outs := z4.outs ++ [7], pd := z4.pd } : bT), _, rfl, ⟨hg4.1, (Sx.St.owIn (r := (Sx.rRo wB)) S 6 rfl)⟩, ⟨⟨hg4.1.1, hg4.1.2.1, ⟨by have := hol; show (z4.outs ++ [7]).length ≤ 50; simp only [List.length_append, List.length_cons, List.length_nil]; omega, fun q hq => by rcases List.mem_append.1 hq with h | h; exact hg4.1.2.2.1.2 q h; rw [List.mem_singleton.1 h]; exact (show (Lit.int .i64 7).wf = true by decide)⟩, hg4.1.2.2.2⟩, (wB_rd_mk (g := ({ mem := z4.mem, gs := z4.gs, outs := z4.outs ++ [7], pd := z4.pd } : bT)) (Sx.St.owIn S 2 rfl) (Sx.St.owIn S 3 rfl) (show rdLst rInt _ _ _ (z4.outs ++ [7]) _ from Sx.St.owIn (r := rLst 3 rInt) S 4 rfl))⟩, S.below⟩
 ·
  have hb9 := hc9
  refine Sx.C.yes (by kernel_rfl) (by kernel_rfl) ?_
  refine Sx.C.region ?_
  refine Sx.G.p (.pointer (some ⟨b7, 3, none⟩)) ?_
  refine Sx.G.g (.int .i64 z4.pd) .m0 .m3 ?_
  refine Sx.G.p (.int .i64 (IntKind.i64.wrap (z4.pd + 1))) ?_
  refine Sx.G.p (.pointer (some ⟨b7, 3, none⟩)) ?_
  refine Sx.G.s (.int .i64 (IntKind.i64.wrap (z4.pd + 1))) .a0 .a3 ?_
  refine Sx.G.nil (Sx.E.block_normal (Sx.E.next (Sx.C.seq ?_)))
  refine Sx.C.draw (.take 0 (.take 1 (.alone 2 (.alone 3 .nil)))) [vr b7 [.slice A6_0 z4.mem.length c6_0, .slice A6_1 z4.gs.length c6_1, .slice A6_2 z4.outs.length c6_2, .int .i64 (IntKind.i64.wrap (z4.pd + 1))], vr b5 [.slice A4_0 z4.mem.length c4_0, .slice A4_1 z4.gs.length c4_1, .slice A4_2 z4.outs.length c4_2, .int .i64 z4.pd]] (fun w S => St.pick S [0, 4] _ rfl (by decide)) (by kernel_rfl) (by kernel_rfl) (by kernel_rfl) ?_
  refine Sx.GT.lw .m1 ?_
  refine Sx.GT.lw .m0 ?_
  refine Sx.GT.alone (Sx.Alone.sw [.slice A4_0 z4.mem.length c4_0, .slice A4_1 z4.gs.length c4_1, .slice A4_2 z4.outs.length c4_2, .int .i64 z4.pd] .a8 (fun w S => St.pick S [0, 4] _ rfl (by decide)) ?_)
  refine Sx.GT.alone (Sx.Alone.sw [.slice A6_0 z4.mem.length c6_0, .slice A6_1 z4.gs.length c6_1, .slice A6_2 z4.outs.length c6_2, .int .i64 (IntKind.i64.wrap (z4.pd + 1))] .a7 (fun w S => St.pick S [0, 4] _ rfl (by decide)) ?_)
  refine Sx.GT.nil (Sx.E.next (Sx.C.ret ?_))
  refine Sx.E.retg2 (.agg #[.slice A4_0 z4.mem.length c4_0, .slice A4_1 z4.gs.length c4_1, .slice A4_2 z4.outs.length c4_2, .int .i64 z4.pd]) (.agg #[.slice A6_0 z4.mem.length c6_0, .slice A6_1 z4.gs.length c6_1, .slice A6_2 z4.outs.length c6_2, .int .i64 (IntKind.i64.wrap (z4.pd + 1))]) rfl (Sx.IsRes.row b1 8 [.slice A4_0 z4.mem.length c4_0, .slice A4_1 z4.gs.length c4_1, .slice A4_2 z4.outs.length c4_2, .int .i64 z4.pd] (by kernel_rfl) rfl (by kernel_rfl) (by kernel_rfl)) (Sx.IsRes.row b2 7 [.slice A6_0 z4.mem.length c6_0, .slice A6_1 z4.gs.length c6_1, .slice A6_2 z4.outs.length c6_2, .int .i64 (IntKind.i64.wrap (z4.pd + 1))] (by kernel_rfl) rfl (by kernel_rfl) (by kernel_rfl)) (fun w S => ?_)
  exact ⟨z4, _, ({ mem := z4.mem, gs := z4.gs, outs := z4.outs, pd := (IntKind.i64.wrap (z4.pd + 1)) } : bT), _, rfl, ⟨hg4.1, (Sx.St.owIn (r := (Sx.rRo wB)) S 5 rfl)⟩, ⟨⟨hg4.1.1, hg4.1.2.1, hg4.1.2.2.1, (show (Lit.int .i64 (IntKind.i64.wrap _)).wf = true from wf_wrap _ _)⟩, (wB_rd_mk (g := ({ mem := z4.mem, gs := z4.gs, outs := z4.outs, pd := (IntKind.i64.wrap (z4.pd + 1)) } : bT)) (Sx.St.owIn S 1 rfl) (Sx.St.owIn S 2 rfl) (show rdLst rInt _ _ _ (z4.outs) _ from Sx.St.owIn (r := rLst 3 rInt) S 3 rfl))⟩, S.below⟩
end Go.Proofs.YtldgadmpclgfhaaGreat.Kit
namespace Go.Proofs.YtldgadmpclgfhaaGreat.Guests
set_option maxHeartbeats 8000000
set_option maxRecDepth 100000
open Go.ChangeShapes Go.WideShapes Go.ChangeAt Go.RowKit
open Go.Proofs.YtldgadmpclgfhaaGreat.Base Go.Proofs.YtldgadmpclgfhaaGreat.Mem Go.Proofs.YtldgadmpclgfhaaGreat.Data Go.Proofs.YtldgadmpclgfhaaGreat.Slots Go.Proofs.YtldgadmpclgfhaaGreat.Ints Go.Proofs.YtldgadmpclgfhaaGreat.Ctls Go.Proofs.YtldgadmpclgfhaaGreat.Exits Go.Proofs.YtldgadmpclgfhaaGreat.Stt Go.Proofs.YtldgadmpclgfhaaGreat.Irqs Go.Proofs.YtldgadmpclgfhaaGreat.Inss
set_option linter.unusedVariables false
set_option linter.unusedSimpArgs false
theorem new_wf {l : List (Int × Int)} (h : l.length ≤ 20) (hw : Inss.wfJL l) : wfGuest (newG l) :=
 ⟨⟨Nat.le_trans h (by decide), hw⟩, (show (Lit.int .i64 0).wf = true by decide), (show (Lit.int .i64 0).wf = true by decide), ⟨(by simp [newG, Slots.nosL]), fun s hs => by have : s = (-1, 0) := (List.mem_replicate.1 hs).2; subst this; decide⟩, ⟨(by simp [newG, Slots.nosL]), fun s hs => by have : s = (-1, 0) := (List.mem_replicate.1 hs).2; subst this; decide⟩,
  ⟨(show (Lit.int .i64 0).wf = true by decide), (show (Lit.int .i64 0).wf = true by decide), trivial⟩, (show (Lit.int .i64 0).wf = true by decide), ⟨(show (Lit.int .i64 0).wf = true by decide), (show (Lit.int .i64 0).wf = true by decide), trivial, (show (Lit.int .i64 0).wf = true by decide)⟩, trivial, ⟨(by simp [newG]), fun s hs => by cases hs⟩⟩
theorem rd_nil (w : World) (lo hi : Nat) : rdLst (rPair rInt rInt) w lo hi [] [.slice none 0 0] := ⟨none, 0, [], rfl, Nat.le_refl _, rfl, Lies.nil⟩
end Go.Proofs.YtldgadmpclgfhaaGreat.Guests
namespace Go.Proofs.YtldgadmpclgfhaaGreat.Kit
set_option maxHeartbeats 8000000
set_option maxRecDepth 100000
open Go.ChangeShapes Go.WideShapes Go.ChangeAt Go.RowKit Go.Deep
open Go.Proofs.YtldgadmpclgfhaaGreat.Base Go.Proofs.YtldgadmpclgfhaaGreat.Mem Go.Proofs.YtldgadmpclgfhaaGreat.Data Go.Proofs.YtldgadmpclgfhaaGreat.Stt Go.Proofs.YtldgadmpclgfhaaGreat.Guests Go.Proofs.YtldgadmpclgfhaaGreat.Ctls Go.Proofs.YtldgadmpclgfhaaGreat.Exits
set_option linter.unusedVariables false
set_option linter.unusedSimpArgs false
theorem lawx_ints (xs ys : (List Int)) (A : Option Addr) (c : Nat) (B : Option Addr) (d : Nat) (w : World) (hc : (rLsw rInt).cap xs) (hd : (rLsw rInt).cap ys) (h : rdLst rInt w 0 w.heap.size xs [.slice A xs.length c]) (j : rdLst rInt w 0 w.heap.size ys [.slice B ys.length d]) : Calls Tryz.prog 43 #[.slice A xs.length c, .slice B ys.length d] w (fun e w' => e = .returned (.bool (eqv xs ys)) ∧ Below w.heap.size w w') := by
 obtain ⟨hl, hcx⟩ := hc
 obtain ⟨hm, hcy⟩ := hd
 refine Sx.enter (args := [.slice A xs.length c, .slice B ys.length d]) Tryz.func43 rfl Tryz.ntmps43 rfl ?_
 refine Sx.C.seq (Sx.C.region ?_)
 refine Sx.G.p (.bool false) ?_
 refine Sx.G.nil (Sx.E.next (Sx.C.seq (Sx.C.seq (Sx.C.region ?_))))
 refine Sx.G.p (.slice A xs.length c) ?_
 refine Sx.G.p (.int .i64 ((xs.length : Nat) : Int)) ?_
 refine Sx.G.p (.slice B ys.length d) ?_
 refine Sx.G.p (.int .i64 ((ys.length : Nat) : Int)) ?_
 refine Sx.G.p (.bool (((xs.length : Nat) : Int) != ((ys.length : Nat) : Int))) ?_
 refine Sx.G.nil (Sx.E.next ?_)
 cases hc1 : (((xs.length : Nat) : Int) != ((ys.length : Nat) : Int))
 ·
  have hb1 := hc1
  have hlen : xs.length = ys.length := by have := bne_eq_false_iff_eq.1 hc1; omega
  refine Sx.C.no (by kernel_rfl) (by kernel_rfl) ?_
  refine Sx.C.skip (Sx.E.next (Sx.C.seq (Sx.C.seq (Sx.C.region ?_))))
  refine Sx.G.p (.int .i64 0) ?_
  refine Sx.G.nil (Sx.E.next (Sx.C.block ?_))
  refine Sx.C.loop (α := Nat) (fun i => i ≤ xs.length ∧ xs.take i = ys.take i) (fun i => [(5, .int .i64 (i : Int)), (0, .slice A xs.length c), (1, .slice B ys.length d), (4, .bool false)]) (fun i => []) (fun i => xs.length - i) 0 ⟨Nat.zero_le _, rfl⟩ (fun a hA => (Sx.Ag.and hA (Sx.Ag.and hA (Sx.Ag.and hA (Sx.Ag.and hA (Sx.Ag.none hA) _ _ (by kernel_rfl)) _ _ (by kernel_rfl)) _ _ (by kernel_rfl)) _ _ (by kernel_rfl))) (fun w S => S) (fun i hx => ?_)
  have hxi := hx.1
  refine Sx.C.seq (Sx.C.seq (Sx.C.region ?_))
  refine Sx.G.p (.int .i64 (i : Int)) ?_
  refine Sx.G.p (.slice A xs.length c) ?_
  refine Sx.G.p (.int .i64 ((xs.length : Nat) : Int)) ?_
  refine Sx.G.p (.bool (decide ((i : Int) < ((xs.length : Nat) : Int)))) ?_
  refine Sx.G.nil (Sx.E.next ?_)
  cases hc2 : (decide ((i : Int) < ((xs.length : Nat) : Int)))
  ·
   have hb2 := hc2
   replace hc2 := of_decide_eq_false hc2
   refine Sx.C.no (by kernel_rfl) (by kernel_rfl) ?_
   refine Sx.C.exit (Sx.E.then_exit (Sx.E.then_exit (Sx.E.block_hit (Sx.E.next (Sx.C.seq (Sx.C.region ?_))))))
   refine Sx.G.p (.bool true) ?_
   refine Sx.G.nil (Sx.E.next (Sx.C.ret ?_))
   refine Sx.E.ret1 (.bool true) rfl (by kernel_rfl) (fun w S => ?_)
   have he : xs = ys := by have h2 := hx.2; rwa [List.take_of_length_le (by omega), List.take_of_length_le (by omega)] at h2
   exact ⟨by rw [eqv_true he], S.below⟩
  ·
   have hb2 := hc2
   replace hc2 := of_decide_eq_true hc2
   refine Sx.C.yes (by kernel_rfl) (by kernel_rfl) ?_
   refine Sx.C.skip (Sx.E.next (Sx.C.seq (Sx.C.block (Sx.C.seq ?_))))
   refine Sx.C.draw (.take 0 (.take 1 (.take 2 (.take 3 (.take 4 (.take 5 (.take 6 (.take 7 (.take 8 .nil))))))))) [] (fun w S => St.pick S [] _ rfl (by decide)) (by kernel_rfl) (by kernel_rfl) (by kernel_rfl) ?_
   refine Sx.GT.p (.slice A xs.length c) ?_
   refine Sx.GT.p (.int .i64 (i : Int)) ?_
   obtain ⟨b3, f3, es3, eA3, hr3, hl3, hm3⟩ := Sx.old_elem (by decide) h i (by omega)
   subst eA3
   obtain ⟨x3, hx3⟩ : ∃ z_, z_ = (xs[i]'(by omega)) := ⟨_, rfl⟩
   rw [← hx3] at hr3
   obtain rfl := Kit.rd_Int hr3
   refine Sx.GT.elem 28 3 (.tmp 17) (.tmp 18) 1 8 b3 f3 xs.length c i 2 (by rfl) (by rfl) (by kernel_rfl) (by kernel_rfl) (by kernel_rfl) (by kernel_rfl) (by omega) ?_
   refine Sx.GT.ldr1 3 (.tmp 19) b3 ((f3 + i * 1) + 0) (.int .i64 x3) 3 (by rfl) (by rfl) (by kernel_rfl) (by kernel_rfl) (fun w S => hm3 w _ S 0 _ rfl) (by kernel_rfl) ?_
   refine Sx.GT.p (.slice B ys.length d) ?_
   refine Sx.GT.p (.int .i64 (i : Int)) ?_
   obtain ⟨b4, f4, es4, eA4, hr4, hl4, hm4⟩ := Sx.old_elem (by decide) j i (by omega)
   subst eA4
   obtain ⟨x4, hx4⟩ : ∃ z_, z_ = (ys[i]'(by omega)) := ⟨_, rfl⟩
   rw [← hx4] at hr4
   obtain rfl := Kit.rd_Int hr4
   refine Sx.GT.elem 28 3 (.tmp 21) (.tmp 22) 1 8 b4 f4 ys.length d i 6 (by rfl) (by rfl) (by kernel_rfl) (by kernel_rfl) (by kernel_rfl) (by kernel_rfl) (by omega) ?_
   refine Sx.GT.ldr1 3 (.tmp 23) b4 ((f4 + i * 1) + 0) (.int .i64 x4) 7 (by rfl) (by rfl) (by kernel_rfl) (by kernel_rfl) (fun w S => hm4 w _ S 0 _ rfl) (by kernel_rfl) ?_
   refine Sx.GT.p (.bool (x3 != x4)) ?_
   refine Sx.GT.nil (Sx.E.next ?_)
   cases hc5 : (x3 != x4)
   ·
    have hb5 := hc5
    refine Sx.C.no (by kernel_rfl) (by kernel_rfl) ?_
    refine Sx.C.skip (Sx.E.block_normal (Sx.E.next (Sx.C.region ?_)))
    refine Sx.G.p (.int .i64 (i : Int)) ?_
    refine Sx.G.q (.int .i64 (IntKind.i64.wrap ((i : Int) + 1))) (.int .i64 ((i + 1 : Nat) : Int)) (congrArg (Value.int .i64) (Sx.wrap_up i (by omega))) ?_
    refine Sx.G.p (.int .i64 ((i + 1 : Nat) : Int)) ?_
    refine Sx.G.nil ?_
    have hup : xs.take (i + 1) = ys.take (i + 1) := take_up (by omega) (by omega) hx.2 (by rw [← hx3, ← hx4]; exact bne_eq_false_iff_eq.1 hc5)
    exact Sx.E.again (i + 1) ⟨by omega, hup⟩ (by omega) (fun a hA => (Sx.Ag.and hA (Sx.Ag.and hA (Sx.Ag.and hA (Sx.Ag.and hA (Sx.Ag.none hA) _ _ (by kernel_rfl)) _ _ (by kernel_rfl)) _ _ (by kernel_rfl)) _ _ (by kernel_rfl))) (fun w S => S)
   ·
    have hb5 := hc5
    refine Sx.C.yes (by kernel_rfl) (by kernel_rfl) ?_
    refine Sx.C.seq (Sx.C.region ?_)
    refine Sx.G.p (.bool false) ?_
    refine Sx.G.nil (Sx.E.next (Sx.C.ret (Sx.E.block_ret (Sx.E.then_ret (Sx.E.then_ret (Sx.E.block_ret (Sx.E.then_ret ?_)))))))
    refine Sx.E.ret1 (.bool false) rfl (by kernel_rfl) (fun w S => ?_)
    have hne : xs ≠ ys := take_ne (xs := xs) (ys := ys) (i := i) (by omega) (by omega) (by rw [← hx3, ← hx4]; exact bne_iff_ne.1 hc5)
    exact ⟨by rw [eqv_false hne], S.below⟩
 ·
  have hb1 := hc1
  refine Sx.C.yes (by kernel_rfl) (by kernel_rfl) ?_
  refine Sx.C.seq (Sx.C.region ?_)
  refine Sx.G.p (.bool false) ?_
  refine Sx.G.nil (Sx.E.next (Sx.C.ret (Sx.E.then_ret ?_)))
  refine Sx.E.ret1 (.bool false) rfl (by kernel_rfl) (fun w S => ?_)
  have hne : xs ≠ ys := fun e => by subst e; simp at *
  exact ⟨by rw [eqv_false hne], S.below⟩
theorem lawx_lists (xs ys : (List (List Int))) (A : Option Addr) (c : Nat) (B : Option Addr) (d : Nat) (w : World) (hc : (rLsw (rLsw rInt)).cap xs) (hd : (rLsw (rLsw rInt)).cap ys) (h : rdLst (rLsw rInt) w 0 w.heap.size xs [.slice A xs.length c]) (j : rdLst (rLsw rInt) w 0 w.heap.size ys [.slice B ys.length d]) : Calls Tryz.prog 41 #[.slice A xs.length c, .slice B ys.length d] w (fun e w' => e = .returned (.bool (eqv xs ys)) ∧ Below w.heap.size w w') := by
 obtain ⟨hl, hcx⟩ := hc
 obtain ⟨hm, hcy⟩ := hd
 refine Sx.enter (args := [.slice A xs.length c, .slice B ys.length d]) Tryz.func41 rfl Tryz.ntmps41 rfl ?_
 refine Sx.C.seq (Sx.C.region ?_)
 refine Sx.G.p (.bool false) ?_
 refine Sx.G.nil (Sx.E.next (Sx.C.seq (Sx.C.seq (Sx.C.region ?_))))
 refine Sx.G.p (.slice A xs.length c) ?_
 refine Sx.G.p (.int .i64 ((xs.length : Nat) : Int)) ?_
 refine Sx.G.p (.slice B ys.length d) ?_
 refine Sx.G.p (.int .i64 ((ys.length : Nat) : Int)) ?_
 refine Sx.G.p (.bool (((xs.length : Nat) : Int) != ((ys.length : Nat) : Int))) ?_
 refine Sx.G.nil (Sx.E.next ?_)
 cases hc1 : (((xs.length : Nat) : Int) != ((ys.length : Nat) : Int))
 ·
  have hb1 := hc1
  have hlen : xs.length = ys.length := by have := bne_eq_false_iff_eq.1 hc1; omega
  refine Sx.C.no (by kernel_rfl) (by kernel_rfl) ?_
  refine Sx.C.skip (Sx.E.next (Sx.C.seq (Sx.C.seq (Sx.C.region ?_))))
  refine Sx.G.p (.int .i64 0) ?_
  refine Sx.G.nil (Sx.E.next (Sx.C.block ?_))
  refine Sx.C.loop (α := Nat) (fun i => i ≤ xs.length ∧ xs.take i = ys.take i) (fun i => [(5, .int .i64 (i : Int)), (0, .slice A xs.length c), (1, .slice B ys.length d), (4, .bool false)]) (fun i => []) (fun i => xs.length - i) 0 ⟨Nat.zero_le _, rfl⟩ (fun a hA => (Sx.Ag.and hA (Sx.Ag.and hA (Sx.Ag.and hA (Sx.Ag.and hA (Sx.Ag.none hA) _ _ (by kernel_rfl)) _ _ (by kernel_rfl)) _ _ (by kernel_rfl)) _ _ (by kernel_rfl))) (fun w S => S) (fun i hx => ?_)
  have hxi := hx.1
  refine Sx.C.seq (Sx.C.seq (Sx.C.region ?_))
  refine Sx.G.p (.int .i64 (i : Int)) ?_
  refine Sx.G.p (.slice A xs.length c) ?_
  refine Sx.G.p (.int .i64 ((xs.length : Nat) : Int)) ?_
  refine Sx.G.p (.bool (decide ((i : Int) < ((xs.length : Nat) : Int)))) ?_
  refine Sx.G.nil (Sx.E.next ?_)
  cases hc2 : (decide ((i : Int) < ((xs.length : Nat) : Int)))
  ·
   have hb2 := hc2
   replace hc2 := of_decide_eq_false hc2
   refine Sx.C.no (by kernel_rfl) (by kernel_rfl) ?_
   refine Sx.C.exit (Sx.E.then_exit (Sx.E.then_exit (Sx.E.block_hit (Sx.E.next (Sx.C.seq (Sx.C.region ?_))))))
   refine Sx.G.p (.bool true) ?_
   refine Sx.G.nil (Sx.E.next (Sx.C.ret ?_))
   refine Sx.E.ret1 (.bool true) rfl (by kernel_rfl) (fun w S => ?_)
   have he : xs = ys := by have h2 := hx.2; rwa [List.take_of_length_le (by omega), List.take_of_length_le (by omega)] at h2
   exact ⟨by rw [eqv_true he], S.below⟩
  ·
   have hb2 := hc2
   replace hc2 := of_decide_eq_true hc2
   refine Sx.C.yes (by kernel_rfl) (by kernel_rfl) ?_
   refine Sx.C.skip (Sx.E.next (Sx.C.seq (Sx.C.block (Sx.C.seq ?_))))
   refine Sx.C.draw (.take 0 (.take 1 (.take 2 (.take 3 (.take 4 (.take 5 (.take 6 (.take 7 (.alone 8 (.take 9 .nil)))))))))) [] (fun w S => St.pick S [] _ rfl (by decide)) (by kernel_rfl) (by kernel_rfl) (by kernel_rfl) ?_
   refine Sx.GT.p (.slice A xs.length c) ?_
   refine Sx.GT.p (.int .i64 (i : Int)) ?_
   obtain ⟨b3, f3, es3, eA3, hr3, hl3, hm3⟩ := Sx.old_elem (by decide) h i (by omega)
   subst eA3
   obtain ⟨x3, hx3⟩ : ∃ z_, z_ = (xs[i]'(by omega)) := ⟨_, rfl⟩
   rw [← hx3] at hr3
   replace hr3 : rdLst rInt w 0 w.heap.size x3 es3 := hr3
   obtain ⟨P3, rfl⟩ := lst_rd hr3
   obtain ⟨A3, c3, e3, -⟩ := lst_val hr3
   subst e3
   refine Sx.GT.elem 26 28 (.tmp 17) (.tmp 18) 1 24 b3 f3 xs.length c i 2 (by rfl) (by rfl) (by kernel_rfl) (by kernel_rfl) (by kernel_rfl) (by kernel_rfl) (by omega) ?_
   refine Sx.GT.ldr1 28 (.tmp 19) b3 ((f3 + i * 1) + 0) (.slice A3 x3.length c3) 3 (by rfl) (by rfl) (by kernel_rfl) (by kernel_rfl) (fun w S => hm3 w _ S 0 _ rfl) (by kernel_rfl) ?_
   refine Sx.GT.p (.slice B ys.length d) ?_
   refine Sx.GT.p (.int .i64 (i : Int)) ?_
   obtain ⟨b4, f4, es4, eA4, hr4, hl4, hm4⟩ := Sx.old_elem (by decide) j i (by omega)
   subst eA4
   obtain ⟨x4, hx4⟩ : ∃ z_, z_ = (ys[i]'(by omega)) := ⟨_, rfl⟩
   rw [← hx4] at hr4
   replace hr4 : rdLst rInt w 0 w.heap.size x4 es4 := hr4
   obtain ⟨P4, rfl⟩ := lst_rd hr4
   obtain ⟨A4, c4, e4, -⟩ := lst_val hr4
   subst e4
   refine Sx.GT.elem 26 28 (.tmp 21) (.tmp 22) 1 24 b4 f4 ys.length d i 6 (by rfl) (by rfl) (by kernel_rfl) (by kernel_rfl) (by kernel_rfl) (by kernel_rfl) (by omega) ?_
   refine Sx.GT.ldr1 28 (.tmp 23) b4 ((f4 + i * 1) + 0) (.slice A4 x4.length c4) 7 (by rfl) (by rfl) (by kernel_rfl) (by kernel_rfl) (fun w S => hm4 w _ S 0 _ rfl) (by kernel_rfl) ?_
   refine Sx.GT.alone (Sx.Alone.cp 43 #[.slice A3 x3.length c3, .slice A4 x4.length c4] (.bool (eqv x3 x4)) (fun w S => by exact lawx_ints x3 x4 A3 c3 A4 c4 _ (hcx _ (hx3 ▸ List.getElem_mem _)) (hcy _ (hx4 ▸ List.getElem_mem _)) (St.old (r := (rLsw rInt)) S hr3) (St.old (r := (rLsw rInt)) S hr4)) (fun w S => St.pick S [] _ rfl (by decide)) ?_)
   refine Sx.GT.p (.bool (!(eqv x3 x4))) ?_
   refine Sx.GT.nil (Sx.E.next ?_)
   cases hc5 : (eqv x3 x4)
   ·
    have hb5 := hc5
    refine Sx.C.yes (by kernel_rfl) (by kernel_rfl) ?_
    refine Sx.C.seq (Sx.C.region ?_)
    refine Sx.G.p (.bool false) ?_
    refine Sx.G.nil (Sx.E.next (Sx.C.ret (Sx.E.block_ret (Sx.E.then_ret (Sx.E.then_ret (Sx.E.block_ret (Sx.E.then_ret ?_)))))))
    refine Sx.E.ret1 (.bool false) rfl (by kernel_rfl) (fun w S => ?_)
    have hne : xs ≠ ys := take_ne (xs := xs) (ys := ys) (i := i) (by omega) (by omega) (by rw [← hx3, ← hx4]; exact ne_of_eqv hc5)
    exact ⟨by rw [eqv_false hne], S.below⟩
   ·
    have hb5 := hc5
    refine Sx.C.no (by kernel_rfl) (by kernel_rfl) ?_
    refine Sx.C.skip (Sx.E.block_normal (Sx.E.next (Sx.C.region ?_)))
    refine Sx.G.p (.int .i64 (i : Int)) ?_
    refine Sx.G.q (.int .i64 (IntKind.i64.wrap ((i : Int) + 1))) (.int .i64 ((i + 1 : Nat) : Int)) (congrArg (Value.int .i64) (Sx.wrap_up i (by omega))) ?_
    refine Sx.G.p (.int .i64 ((i + 1 : Nat) : Int)) ?_
    refine Sx.G.nil ?_
    have hup : xs.take (i + 1) = ys.take (i + 1) := take_up (by omega) (by omega) hx.2 (by rw [← hx3, ← hx4]; exact eqv_iff.1 hc5)
    exact Sx.E.again (i + 1) ⟨by omega, hup⟩ (by omega) (fun a hA => (Sx.Ag.and hA (Sx.Ag.and hA (Sx.Ag.and hA (Sx.Ag.and hA (Sx.Ag.none hA) _ _ (by kernel_rfl)) _ _ (by kernel_rfl)) _ _ (by kernel_rfl)) _ _ (by kernel_rfl))) (fun w S => S)
 ·
  have hb1 := hc1
  refine Sx.C.yes (by kernel_rfl) (by kernel_rfl) ?_
  refine Sx.C.seq (Sx.C.region ?_)
  refine Sx.G.p (.bool false) ?_
  refine Sx.G.nil (Sx.E.next (Sx.C.ret (Sx.E.then_ret ?_)))
  refine Sx.E.ret1 (.bool false) rfl (by kernel_rfl) (fun w S => ?_)
  have hne : xs ≠ ys := fun e => by subst e; simp at *
  exact ⟨by rw [eqv_false hne], S.below⟩
theorem lawx_gs (xs ys : (List gT)) (A : Option Addr) (c : Nat) (B : Option Addr) (d : Nat) (w : World) (hc : (rLsw wG).cap xs) (hd : (rLsw wG).cap ys) (h : rdLst wG w 0 w.heap.size xs [.slice A xs.length c]) (j : rdLst wG w 0 w.heap.size ys [.slice B ys.length d]) : Calls Tryz.prog 42 #[.slice A xs.length c, .slice B ys.length d] w (fun e w' => e = .returned (.bool (eqv xs ys)) ∧ Below w.heap.size w w') := by
 obtain ⟨hl, hcx⟩ := hc
 obtain ⟨hm, hcy⟩ := hd
 refine Sx.enter (args := [.slice A xs.length c, .slice B ys.length d]) Tryz.func42 rfl Tryz.ntmps42 rfl ?_
 refine Sx.C.seq (Sx.C.region ?_)
 refine Sx.G.p (.bool false) ?_
 refine Sx.G.nil (Sx.E.next (Sx.C.seq (Sx.C.seq (Sx.C.region ?_))))
 refine Sx.G.p (.slice A xs.length c) ?_
 refine Sx.G.p (.int .i64 ((xs.length : Nat) : Int)) ?_
 refine Sx.G.p (.slice B ys.length d) ?_
 refine Sx.G.p (.int .i64 ((ys.length : Nat) : Int)) ?_
 refine Sx.G.p (.bool (((xs.length : Nat) : Int) != ((ys.length : Nat) : Int))) ?_
 refine Sx.G.nil (Sx.E.next ?_)
 cases hc1 : (((xs.length : Nat) : Int) != ((ys.length : Nat) : Int))
 ·
  have hb1 := hc1
  have hlen : xs.length = ys.length := by have := bne_eq_false_iff_eq.1 hc1; omega
  refine Sx.C.no (by kernel_rfl) (by kernel_rfl) ?_
  refine Sx.C.skip (Sx.E.next (Sx.C.seq (Sx.C.seq (Sx.C.region ?_))))
  refine Sx.G.p (.int .i64 0) ?_
  refine Sx.G.nil (Sx.E.next (Sx.C.block ?_))
  refine Sx.C.loop (α := Nat) (fun i => i ≤ xs.length ∧ xs.take i = ys.take i) (fun i => [(5, .int .i64 (i : Int)), (0, .slice A xs.length c), (1, .slice B ys.length d), (4, .bool false)]) (fun i => []) (fun i => xs.length - i) 0 ⟨Nat.zero_le _, rfl⟩ (fun a hA => (Sx.Ag.and hA (Sx.Ag.and hA (Sx.Ag.and hA (Sx.Ag.and hA (Sx.Ag.none hA) _ _ (by kernel_rfl)) _ _ (by kernel_rfl)) _ _ (by kernel_rfl)) _ _ (by kernel_rfl))) (fun w S => S) (fun i hx => ?_)
  have hxi := hx.1
  refine Sx.C.seq (Sx.C.seq (Sx.C.region ?_))
  refine Sx.G.p (.int .i64 (i : Int)) ?_
  refine Sx.G.p (.slice A xs.length c) ?_
  refine Sx.G.p (.int .i64 ((xs.length : Nat) : Int)) ?_
  refine Sx.G.p (.bool (decide ((i : Int) < ((xs.length : Nat) : Int)))) ?_
  refine Sx.G.nil (Sx.E.next ?_)
  cases hc2 : (decide ((i : Int) < ((xs.length : Nat) : Int)))
  ·
   have hb2 := hc2
   replace hc2 := of_decide_eq_false hc2
   refine Sx.C.no (by kernel_rfl) (by kernel_rfl) ?_
   refine Sx.C.exit (Sx.E.then_exit (Sx.E.then_exit (Sx.E.block_hit (Sx.E.next (Sx.C.seq (Sx.C.region ?_))))))
   refine Sx.G.p (.bool true) ?_
   refine Sx.G.nil (Sx.E.next (Sx.C.ret ?_))
   refine Sx.E.ret1 (.bool true) rfl (by kernel_rfl) (fun w S => ?_)
   have he : xs = ys := by have h2 := hx.2; rwa [List.take_of_length_le (by omega), List.take_of_length_le (by omega)] at h2
   exact ⟨by rw [eqv_true he], S.below⟩
  ·
   have hb2 := hc2
   replace hc2 := of_decide_eq_true hc2
   refine Sx.C.yes (by kernel_rfl) (by kernel_rfl) ?_
   refine Sx.C.skip (Sx.E.next (Sx.C.seq (Sx.C.block (Sx.C.seq ?_))))
   refine Sx.C.draw (.take 0 (.take 1 (.take 2 (.take 3 (.take 4 (.take 5 (.take 6 (.take 7 (.alone 8 (.take 9 .nil)))))))))) [] (fun w S => St.pick S [] _ rfl (by decide)) (by kernel_rfl) (by kernel_rfl) (by kernel_rfl) ?_
   refine Sx.GT.p (.slice A xs.length c) ?_
   refine Sx.GT.p (.int .i64 (i : Int)) ?_
   obtain ⟨b3, f3, es3, eA3, hr3, hl3, hm3⟩ := Sx.old_elem (by decide) h i (by omega)
   subst eA3
   obtain ⟨x3, hx3⟩ : ∃ z_, z_ = (xs[i]'(by omega)) := ⟨_, rfl⟩
   rw [← hx3] at hr3
   have hR3 := hr3
   obtain ⟨P3_0, P3_1, P3_2, P3_3, rfl, hf3_0, hf3_1, hf3_2, hf3_3⟩ := wG_rd hr3
   obtain ⟨A3_0, c3_0, e3_0, -⟩ := lst_val hf3_0
   subst e3_0
   obtain ⟨A3_1, c3_1, e3_1, -⟩ := lst_val hf3_1
   subst e3_1
   obtain ⟨A3_2, c3_2, e3_2, -⟩ := lst_val hf3_2
   subst e3_2
   obtain ⟨A3_3, c3_3, e3_3, -⟩ := lst_val hf3_3
   subst e3_3
   refine Sx.GT.elem 27 39 (.tmp 17) (.tmp 18) 15 184 b3 f3 xs.length c i 2 (by rfl) (by rfl) (by kernel_rfl) (by kernel_rfl) (by kernel_rfl) (by kernel_rfl) (by omega) ?_
   refine Sx.GT.ldr 39 (.tmp 19) b3 (f3 + i * 15) [.slice A3_0 x3.prog.length c3_0, .int .i64 x3.a, .int .i64 x3.pc, .slice A3_1 x3.wr.length c3_1, .slice A3_2 x3.lv.length c3_2, .int .i64 x3.t.1, .int .i64 x3.t.2.1, .bool x3.t.2.2, .int .i64 x3.pd, .int .i64 x3.x.1, .int .i64 x3.x.2.1, .bool x3.x.2.2.1, .int .i64 x3.x.2.2.2, .bool x3.hl, .slice A3_3 x3.seen.length c3_3] 3 (by rfl) (by rfl) (by kernel_rfl) (by kernel_rfl) (fun w S => hm3 w _ S) (by kernel_rfl) (by kernel_rfl) ?_
   refine Sx.GT.p (.slice B ys.length d) ?_
   refine Sx.GT.p (.int .i64 (i : Int)) ?_
   obtain ⟨b4, f4, es4, eA4, hr4, hl4, hm4⟩ := Sx.old_elem (by decide) j i (by omega)
   subst eA4
   obtain ⟨x4, hx4⟩ : ∃ z_, z_ = (ys[i]'(by omega)) := ⟨_, rfl⟩
   rw [← hx4] at hr4
   have hR4 := hr4
   obtain ⟨P4_0, P4_1, P4_2, P4_3, rfl, hf4_0, hf4_1, hf4_2, hf4_3⟩ := wG_rd hr4
   obtain ⟨A4_0, c4_0, e4_0, -⟩ := lst_val hf4_0
   subst e4_0
   obtain ⟨A4_1, c4_1, e4_1, -⟩ := lst_val hf4_1
   subst e4_1
   obtain ⟨A4_2, c4_2, e4_2, -⟩ := lst_val hf4_2
   subst e4_2
   obtain ⟨A4_3, c4_3, e4_3, -⟩ := lst_val hf4_3
   subst e4_3
   refine Sx.GT.elem 27 39 (.tmp 21) (.tmp 22) 15 184 b4 f4 ys.length d i 6 (by rfl) (by rfl) (by kernel_rfl) (by kernel_rfl) (by kernel_rfl) (by kernel_rfl) (by omega) ?_
   refine Sx.GT.ldr 39 (.tmp 23) b4 (f4 + i * 15) [.slice A4_0 x4.prog.length c4_0, .int .i64 x4.a, .int .i64 x4.pc, .slice A4_1 x4.wr.length c4_1, .slice A4_2 x4.lv.length c4_2, .int .i64 x4.t.1, .int .i64 x4.t.2.1, .bool x4.t.2.2, .int .i64 x4.pd, .int .i64 x4.x.1, .int .i64 x4.x.2.1, .bool x4.x.2.2.1, .int .i64 x4.x.2.2.2, .bool x4.hl, .slice A4_3 x4.seen.length c4_3] 7 (by rfl) (by rfl) (by kernel_rfl) (by kernel_rfl) (fun w S => hm4 w _ S) (by kernel_rfl) (by kernel_rfl) ?_
   refine Sx.GT.alone (Sx.Alone.cp 18 #[.agg #[.slice A3_0 x3.prog.length c3_0, .int .i64 x3.a, .int .i64 x3.pc, .slice A3_1 x3.wr.length c3_1, .slice A3_2 x3.lv.length c3_2, .int .i64 x3.t.1, .int .i64 x3.t.2.1, .bool x3.t.2.2, .int .i64 x3.pd, .int .i64 x3.x.1, .int .i64 x3.x.2.1, .bool x3.x.2.2.1, .int .i64 x3.x.2.2.2, .bool x3.hl, .slice A3_3 x3.seen.length c3_3], .agg #[.slice A4_0 x4.prog.length c4_0, .int .i64 x4.a, .int .i64 x4.pc, .slice A4_1 x4.wr.length c4_1, .slice A4_2 x4.lv.length c4_2, .int .i64 x4.t.1, .int .i64 x4.t.2.1, .bool x4.t.2.2, .int .i64 x4.pd, .int .i64 x4.x.1, .int .i64 x4.x.2.1, .bool x4.x.2.2.1, .int .i64 x4.x.2.2.2, .bool x4.hl, .slice A4_3 x4.seen.length c4_3]] (.bool (eqv x3 x4)) (fun w S => by exact ((Guests.law_sameG x3 x4 _ _ _ (cap_G (hcx _ (hx3 ▸ List.getElem_mem _))) (cap_G (hcy _ (hx4 ▸ List.getElem_mem _))) (rd_G (St.old S hR3)) (rd_G (St.old S hR4))).mono fun e w' h => And.intro (h.1.trans (by rw [sameG_eqv])) h.2)) (fun w S => St.pick S [] _ rfl (by decide)) ?_)
   refine Sx.GT.p (.bool (!(eqv x3 x4))) ?_
   refine Sx.GT.nil (Sx.E.next ?_)
   cases hc5 : (eqv x3 x4)
   ·
    have hb5 := hc5
    refine Sx.C.yes (by kernel_rfl) (by kernel_rfl) ?_
    refine Sx.C.seq (Sx.C.region ?_)
    refine Sx.G.p (.bool false) ?_
    refine Sx.G.nil (Sx.E.next (Sx.C.ret (Sx.E.block_ret (Sx.E.then_ret (Sx.E.then_ret (Sx.E.block_ret (Sx.E.then_ret ?_)))))))
    refine Sx.E.ret1 (.bool false) rfl (by kernel_rfl) (fun w S => ?_)
    have hne : xs ≠ ys := take_ne (xs := xs) (ys := ys) (i := i) (by omega) (by omega) (by rw [← hx3, ← hx4]; exact ne_of_eqv hc5)
    exact ⟨by rw [eqv_false hne], S.below⟩
   ·
    have hb5 := hc5
    refine Sx.C.no (by kernel_rfl) (by kernel_rfl) ?_
    refine Sx.C.skip (Sx.E.block_normal (Sx.E.next (Sx.C.region ?_)))
    refine Sx.G.p (.int .i64 (i : Int)) ?_
    refine Sx.G.q (.int .i64 (IntKind.i64.wrap ((i : Int) + 1))) (.int .i64 ((i + 1 : Nat) : Int)) (congrArg (Value.int .i64) (Sx.wrap_up i (by omega))) ?_
    refine Sx.G.p (.int .i64 ((i + 1 : Nat) : Int)) ?_
    refine Sx.G.nil ?_
    have hup : xs.take (i + 1) = ys.take (i + 1) := take_up (by omega) (by omega) hx.2 (by rw [← hx3, ← hx4]; exact eqv_iff.1 hc5)
    exact Sx.E.again (i + 1) ⟨by omega, hup⟩ (by omega) (fun a hA => (Sx.Ag.and hA (Sx.Ag.and hA (Sx.Ag.and hA (Sx.Ag.and hA (Sx.Ag.none hA) _ _ (by kernel_rfl)) _ _ (by kernel_rfl)) _ _ (by kernel_rfl)) _ _ (by kernel_rfl))) (fun w S => S)
 ·
  have hb1 := hc1
  refine Sx.C.yes (by kernel_rfl) (by kernel_rfl) ?_
  refine Sx.C.seq (Sx.C.region ?_)
  refine Sx.G.p (.bool false) ?_
  refine Sx.G.nil (Sx.E.next (Sx.C.ret (Sx.E.then_ret ?_)))
  refine Sx.E.ret1 (.bool false) rfl (by kernel_rfl) (fun w S => ?_)
  have hne : xs ≠ ys := fun e => by subst e; simp at *
  exact ⟨by rw [eqv_false hne], S.below⟩
theorem lawx_bsame (x y : bT) (cs ds : List Value) (w : World) (hc : wB.cap x) (hd : wB.cap y) (h : wB.rd w 0 w.heap.size x cs) (j : wB.rd w 0 w.heap.size y ds) : Calls Tryz.prog 15 #[.agg cs.toArray, .agg ds.toArray] w (fun e w' => e = .returned (.bool (eqv x y)) ∧ Below w.heap.size w w') := by
 obtain ⟨hcap0, hcap1, hcap2, hcap3⟩ := hc
 obtain ⟨hdap0, hdap1, hdap2, hdap3⟩ := hd
 have hR := h
 obtain ⟨hP0, hP1, hP2, rfl, hf0, hf1, hf2⟩ := wB_rd h
 obtain ⟨hA0, hK0, he0, -⟩ := lst_val hf0
 subst he0
 obtain ⟨hA1, hK1, he1, -⟩ := lst_val hf1
 subst he1
 obtain ⟨hA2, hK2, he2, -⟩ := lst_val hf2
 subst he2
 have jR := j
 obtain ⟨jP0, jP1, jP2, rfl, jf0, jf1, jf2⟩ := wB_rd j
 obtain ⟨jA0, jK0, je0, -⟩ := lst_val jf0
 subst je0
 obtain ⟨jA1, jK1, je1, -⟩ := lst_val jf1
 subst je1
 obtain ⟨jA2, jK2, je2, -⟩ := lst_val jf2
 subst je2
 refine Sx.enter (args := [.agg #[.slice hA0 x.mem.length hK0, .slice hA1 x.gs.length hK1, .slice hA2 x.outs.length hK2, .int .i64 x.pd], .agg #[.slice jA0 y.mem.length jK0, .slice jA1 y.gs.length jK1, .slice jA2 y.outs.length jK2, .int .i64 y.pd]]) Tryz.func15 rfl Tryz.ntmps15 rfl ?_
 refine Sx.C.seq (Sx.C.region ?_)
 refine Sx.G.b [.slice hA0 x.mem.length hK0, .slice hA1 x.gs.length hK1, .slice hA2 x.outs.length hK2, .int .i64 x.pd] (fun b1 => ?_)
 refine Sx.G.b [.slice jA0 y.mem.length jK0, .slice jA1 y.gs.length jK1, .slice jA2 y.outs.length jK2, .int .i64 y.pd] (fun b2 => ?_)
 refine Sx.G.p (.bool false) ?_
 refine Sx.G.nil (Sx.E.next (Sx.C.seq (Sx.C.region ?_)))
 refine Sx.G.p (.pointer (some ⟨b1, 0, none⟩)) ?_
 refine Sx.G.g (.slice hA0 x.mem.length hK0) .m1 .m0 ?_
 refine Sx.G.p (.pointer (some ⟨b2, 0, none⟩)) ?_
 refine Sx.G.g (.slice jA0 y.mem.length jK0) .m0 .m0 ?_
 refine Sx.G.cp 41 #[.slice hA0 x.mem.length hK0, .slice jA0 y.mem.length jK0] (.bool (eqv x.mem y.mem)) (fun w S => by exact lawx_lists x.mem y.mem hA0 hK0 jA0 jK0 _ hcap0 hdap0 (St.old (r := (rLsw (rLsw rInt))) S hf0) (St.old (r := (rLsw (rLsw rInt))) S jf0)) ?_
 refine Sx.G.p (.bool (eqv x.mem y.mem)) ?_
 cases hc3 : (eqv x.mem y.mem)
 ·
  have hb3 := hc3
  refine Sx.G.k ?_
  refine Sx.G.k ?_
  refine Sx.G.k ?_
  refine Sx.G.k ?_
  refine Sx.G.k ?_
  refine Sx.G.p (.bool false) ?_
  refine Sx.G.p (.bool false) ?_
  refine Sx.G.k ?_
  refine Sx.G.k ?_
  refine Sx.G.k ?_
  refine Sx.G.k ?_
  refine Sx.G.k ?_
  refine Sx.G.p (.bool false) ?_
  refine Sx.G.p (.bool false) ?_
  refine Sx.G.k ?_
  refine Sx.G.k ?_
  refine Sx.G.k ?_
  refine Sx.G.k ?_
  refine Sx.G.k ?_
  refine Sx.G.p (.bool false) ?_
  refine Sx.G.p (.bool false) ?_
  refine Sx.G.nil (Sx.E.next (Sx.C.ret ?_))
  refine Sx.E.ret1 (.bool false) rfl (by kernel_rfl) (fun w S => ?_)
  exact ⟨congrArg Ending.returned (congrArg Value.bool (by simp only [eqv_B, hb3, Bool.and_true, Bool.and_false, Bool.false_and, Bool.true_and])), S.below⟩
 ·
  have hb3 := hc3
  refine Sx.G.p (.pointer (some ⟨b1, 1, none⟩)) ?_
  refine Sx.G.g (.slice hA1 x.gs.length hK1) .m1 .m1 ?_
  refine Sx.G.p (.pointer (some ⟨b2, 1, none⟩)) ?_
  refine Sx.G.g (.slice jA1 y.gs.length jK1) .m0 .m1 ?_
  refine Sx.G.cp 42 #[.slice hA1 x.gs.length hK1, .slice jA1 y.gs.length jK1] (.bool (eqv x.gs y.gs)) (fun w S => by exact lawx_gs x.gs y.gs hA1 hK1 jA1 jK1 _ hcap1 hdap1 (St.old (r := (rLsw wG)) S hf1) (St.old (r := (rLsw wG)) S jf1)) ?_
  refine Sx.G.p (.bool (eqv x.gs y.gs)) ?_
  refine Sx.G.p (.bool (eqv x.gs y.gs)) ?_
  cases hc4 : (eqv x.gs y.gs)
  ·
   have hb4 := hc4
   refine Sx.G.k ?_
   refine Sx.G.k ?_
   refine Sx.G.k ?_
   refine Sx.G.k ?_
   refine Sx.G.k ?_
   refine Sx.G.p (.bool false) ?_
   refine Sx.G.p (.bool false) ?_
   refine Sx.G.k ?_
   refine Sx.G.k ?_
   refine Sx.G.k ?_
   refine Sx.G.k ?_
   refine Sx.G.k ?_
   refine Sx.G.p (.bool false) ?_
   refine Sx.G.p (.bool false) ?_
   refine Sx.G.nil (Sx.E.next (Sx.C.ret ?_))
   refine Sx.E.ret1 (.bool false) rfl (by kernel_rfl) (fun w S => ?_)
   exact ⟨congrArg Ending.returned (congrArg Value.bool (by simp only [eqv_B, hb3, hb4, Bool.and_true, Bool.and_false, Bool.false_and, Bool.true_and])), S.below⟩
  ·
   have hb4 := hc4
   refine Sx.G.p (.pointer (some ⟨b1, 2, none⟩)) ?_
   refine Sx.G.g (.slice hA2 x.outs.length hK2) .m1 .m2 ?_
   refine Sx.G.p (.pointer (some ⟨b2, 2, none⟩)) ?_
   refine Sx.G.g (.slice jA2 y.outs.length jK2) .m0 .m2 ?_
   refine Sx.G.cp 43 #[.slice hA2 x.outs.length hK2, .slice jA2 y.outs.length jK2] (.bool (eqv x.outs y.outs)) (fun w S => by exact lawx_ints x.outs y.outs hA2 hK2 jA2 jK2 _ hcap2 hdap2 (St.old (r := (rLsw rInt)) S hf2) (St.old (r := (rLsw rInt)) S jf2)) ?_
   refine Sx.G.p (.bool (eqv x.outs y.outs)) ?_
   refine Sx.G.p (.bool (eqv x.outs y.outs)) ?_
   cases hc5 : (eqv x.outs y.outs)
   ·
    have hb5 := hc5
    refine Sx.G.k ?_
    refine Sx.G.k ?_
    refine Sx.G.k ?_
    refine Sx.G.k ?_
    refine Sx.G.k ?_
    refine Sx.G.p (.bool false) ?_
    refine Sx.G.p (.bool false) ?_
    refine Sx.G.nil (Sx.E.next (Sx.C.ret ?_))
    refine Sx.E.ret1 (.bool false) rfl (by kernel_rfl) (fun w S => ?_)
    exact ⟨congrArg Ending.returned (congrArg Value.bool (by simp only [eqv_B, hb3, hb4, hb5, Bool.and_true, Bool.and_false, Bool.false_and, Bool.true_and])), S.below⟩
   ·
    have hb5 := hc5
    refine Sx.G.p (.pointer (some ⟨b1, 3, none⟩)) ?_
    refine Sx.G.g (.int .i64 x.pd) .m1 .m3 ?_
    refine Sx.G.p (.pointer (some ⟨b2, 3, none⟩)) ?_
    refine Sx.G.g (.int .i64 y.pd) .m0 .m3 ?_
    refine Sx.G.p (.bool (x.pd == y.pd)) ?_
    refine Sx.G.p (.bool (x.pd == y.pd)) ?_
    refine Sx.G.p (.bool (x.pd == y.pd)) ?_
    refine Sx.G.nil (Sx.E.next (Sx.C.ret ?_))
    refine Sx.E.ret1 (.bool (x.pd == y.pd)) rfl (by kernel_rfl) (fun w S => ?_)
    exact ⟨congrArg Ending.returned (congrArg Value.bool (by simp only [eqv_B, hb3, hb4, hb5, Bool.and_true, Bool.and_false, Bool.false_and, Bool.true_and])), S.below⟩
end Go.Proofs.YtldgadmpclgfhaaGreat.Kit
namespace Go.Proofs.YtldgadmpclgfhaaGreat.Kit
set_option maxHeartbeats 8000000
set_option maxRecDepth 100000
open Go.ChangeShapes Go.WideShapes Go.ChangeAt Go.RowKit Go.Deep
open Go.Proofs.YtldgadmpclgfhaaGreat.Base Go.Proofs.YtldgadmpclgfhaaGreat.Mem Go.Proofs.YtldgadmpclgfhaaGreat.Data Go.Proofs.YtldgadmpclgfhaaGreat.Stt Go.Proofs.YtldgadmpclgfhaaGreat.Guests Go.Proofs.YtldgadmpclgfhaaGreat.Ctls Go.Proofs.YtldgadmpclgfhaaGreat.Exits Go.Proofs.YtldgadmpclgfhaaGreat.Irqs Go.Proofs.YtldgadmpclgfhaaGreat.Inss Go.Proofs.YtldgadmpclgfhaaGreat.Draw
set_option linter.unusedVariables false
set_option linter.unusedSimpArgs false
theorem withG_at (b : bT) (g : Int) (y : gT) : (guestAt (withG b g y) g).2 = inB g 0 ((b.gs.length : Int) - 1) := by
 unfold guestAt withG
 by_cases h : inB g 0 ((b.gs.length : Int) - 1) = true
 ·
  rw [if_pos h]; simp only [List.length_set]; rw [if_pos h, h]
 ·
  rw [if_neg h, if_neg h]; simp only [Bool.not_eq_true] at h; rw [h]
theorem withG_get (b : bT) (g : Int) (y : gT) (h : (guestAt (withG b g y) g).2 = true) : (guestAt (withG b g y) g).1 = y := by
 rw [withG_at] at h
 have hb := inB_iff.1 h
 unfold guestAt withG
 rw [if_pos h]
 simp only [List.length_set]
 rw [if_pos h]
 simp only [List.getD_eq_getElem?_getD]
 rw [List.getElem?_set_self (by omega)]
 rfl
theorem in_len (g : Int) (n : Nat) : inB g 0 ((n : Int) - 1) = (decide (g ≥ 0) && decide (g < (n : Int))) := by
 have e : (inB g 0 ((n : Int) - 1) = true) ↔ ((decide (g ≥ 0) && decide (g < (n : Int))) = true) := by
  rw [inB_iff]; simp only [Bool.and_eq_true, decide_eq_true_eq]; omega
 exact Bool.eq_iff_iff.2 e
theorem one_ok : bareOk (newB [[(7, 0)]]) = true := by decide +kernel
theorem one_len : ((newB [[(7, 0)]]).gs.length : Int) = 1 := by decide +kernel
theorem one_sm : bD (newB [[(7, 0)]]) := by
 refine ⟨⟨by decide +kernel, fun p hp => ?_⟩, ⟨by decide +kernel, fun g hg => ?_⟩, ⟨Nat.zero_le _, fun x hx => by cases hx⟩, (show (Lit.int .i64 0).wf = true by decide)⟩
 ·
  have : p = [0, 0, 0, 0] := (List.mem_replicate.1 hp).2
  subst this
  exact ⟨by decide, fun x hx => by simp only [List.mem_cons, List.not_mem_nil, or_false] at hx; rcases hx with h | h | h | h <;> (rw [h]; exact (show (Lit.int .i64 0).wf = true by decide))⟩
 ·
  have : g = newG [(7, 0)] := by simpa [newB] using hg
  subst this
  exact ⟨new_wf (by decide) (fun s hs => by have : s = (7, 0) := by simpa using hs
                       subst this; exact ⟨(show (Lit.int .i64 7).wf = true by decide), (show (Lit.int .i64 0).wf = true by decide)⟩), by decide +kernel, by decide +kernel, by decide +kernel, by decide +kernel⟩
theorem bk_one {w0 w : World} {L : List Res} {b d : Nat} {t : TypeId} (S : St w0 w L) (i j : Nat) (h : L[i]? = some (Sx.bk b [.slice (some ⟨d, 0, none⟩) 1 1] t)) (h' : L[j]? = some (vr d [.int .i64 7, .int .i64 0])) : rdLst (rLsw (rPair rInt rInt)) w 0 w.heap.size [[(7, 0)]] [.slice (some ⟨b, 0, none⟩) 1 1] := by
 have hb : w.heap[b]? = some (.cells #[.slice (some ⟨d, 0, none⟩) 1 1] t (0, 0)) := S.at_ i h
 have hlt : b < w.heap.size := by rw [Array.getElem?_eq_some_iff] at hb; exact hb.1
 have hV : Var w d [.int .i64 7, .int .i64 0] := S.at_ j h'
 refine ⟨_, 1, [.slice (some ⟨d, 0, none⟩) 1 1], rfl, Nat.le_refl _, ⟨[_], [], rfl, ?_, rfl⟩, fun q u hu => ⟨b, 0, rfl, Nat.zero_le _, hlt, ?_⟩⟩
 ·
  exact Sx.vr_rd (r := rPair rInt rInt) (xs := [(7, 0)]) (ds := pcells [(7, 0)]) hV (fun _ _ h => h) (p2_all _ _ _ _) ⟨Nat.zero_le _, hV.2⟩ (Nat.le_refl _)
 ·
  rcases q with _ | q
  ·
   cases hu; simp [World.cell?, hb]
  ·
   simp at hu
end Go.Proofs.YtldgadmpclgfhaaGreat.Kit
namespace Go.Proofs.YtldgadmpclgfhaaGreat.Kit
set_option maxHeartbeats 8000000
set_option maxRecDepth 100000
open Go.ChangeShapes Go.WideShapes Go.ChangeAt Go.RowKit Go.Deep
open Go.Proofs.YtldgadmpclgfhaaGreat.Base Go.Proofs.YtldgadmpclgfhaaGreat.Mem Go.Proofs.YtldgadmpclgfhaaGreat.Data Go.Proofs.YtldgadmpclgfhaaGreat.Stt Go.Proofs.YtldgadmpclgfhaaGreat.Guests Go.Proofs.YtldgadmpclgfhaaGreat.Ctls Go.Proofs.YtldgadmpclgfhaaGreat.Exits
set_option linter.unusedVariables false
set_option linter.unusedSimpArgs false
theorem cap_new {p : List (Int × Int)} (h : p.length ≤ 1048576) : wG.cap (newG p) :=
 ⟨⟨h, fun _ _ => ⟨trivial, trivial⟩⟩, trivial, trivial, ⟨by simp [newG, Slots.nosL], fun _ _ => ⟨trivial, trivial⟩⟩, ⟨by simp [newG, Slots.nosL], fun _ _ => ⟨trivial, trivial⟩⟩, ⟨trivial, trivial, trivial⟩, trivial, ⟨trivial, trivial, trivial, trivial⟩, trivial, ⟨by simp [newG], fun _ _ => trivial⟩⟩
theorem cap_mem0 : (rLsw (rLsw rInt)).cap (List.replicate 8 ([0, 0, 0, 0] : List Int)) := ⟨by decide, fun x hx => by rw [(List.mem_replicate.1 hx).2]; exact ⟨by decide, fun _ _ => trivial⟩⟩
theorem cap_newB {xs : List (List (Int × Int))} (h : (rLsw (rLsw (rPair rInt rInt))).cap xs) : wB.cap (newB xs) := by
 refine ⟨cap_mem0, ⟨?_, fun g hg => ?_⟩, ⟨by simp [newB], fun _ _ => trivial⟩, trivial⟩
 ·
  show ((xs.take 2).map newG).length ≤ _
  rw [List.length_map, List.length_take]; omega
 ·
  obtain ⟨p, hp, rfl⟩ := List.mem_map.1 (show g ∈ (xs.take 2).map newG from hg)
  exact cap_new (h.2 p (List.mem_of_mem_take hp)).1
theorem cap_putB {b : bT} (n : Int) (h : wB.cap b) : wB.cap (putB b n) := by
 unfold putB
 split
 ·
  exact ⟨h.1, h.2.1, ⟨by show (b.outs ++ [n]).length ≤ _; rw [List.length_append, List.length_singleton]; omega, fun _ _ => trivial⟩, trivial⟩
 ·
  exact h
theorem cap_withG {b : bT} {y : gT} (g : Int) (h : wB.cap b) (hy : wG.cap y) : wB.cap (withG b g y) := by
 unfold withG
 split
 ·
  refine ⟨h.1, ⟨by show (b.gs.set g.toNat y).length ≤ _; rw [List.length_set]; exact h.2.1.1, fun z hz => ?_⟩, h.2.2.1, trivial⟩
  rcases List.mem_or_eq_of_mem_set hz with hz | rfl
  ·
   exact h.2.1.2 z hz
  ·
   exact hy
 ·
  exact h
theorem cap_zeroG : wG.cap zeroG := ⟨⟨by decide, fun _ _ => ⟨trivial, trivial⟩⟩, trivial, trivial, ⟨by decide, fun _ _ => ⟨trivial, trivial⟩⟩, ⟨by decide, fun _ _ => ⟨trivial, trivial⟩⟩, ⟨trivial, trivial, trivial⟩, trivial, ⟨trivial, trivial, trivial, trivial⟩, trivial, ⟨by decide, fun _ _ => trivial⟩⟩
theorem at_facts {b : bT} {g : Int} (h : inB g 0 ((b.gs.length : Int) - 1) = true) : b.gs.getD g.toNat zeroG ∈ b.gs := by
 have hj := inB_iff.1 h
 have : g.toNat < b.gs.length := by omega
 rw [List.getD_eq_getElem?_getD, List.getElem?_eq_getElem this]
 exact List.getElem_mem _
theorem cap_guestAt {b : bT} (g : Int) (h : wB.cap b) : wG.cap (guestAt b g).1 := by
 unfold guestAt
 split
 ·
  rename_i hi; exact h.2.1.2 _ (at_facts hi)
 ·
  exact cap_zeroG
end Go.Proofs.YtldgadmpclgfhaaGreat.Kit
namespace Go.Proofs.YtldgadmpclgfhaaGreat.Irqs
set_option maxHeartbeats 8000000
set_option maxRecDepth 100000
open Go.ChangeShapes Go.WideShapes Go.ChangeAt Go.RowKit
open Go.Proofs.YtldgadmpclgfhaaGreat.Base Go.Proofs.YtldgadmpclgfhaaGreat.Mem
set_option linter.unusedVariables false
set_option linter.unusedSimpArgs false
attribute [local go_sem] Oper.semAt_some
section
variable (p n : Int) (w : World)
theorem impl_postOk' : Calls Tryz.prog 91 #[.int .i64 n] w fun e w' => e = .returned (.bool (pend n)) ∧ w = w' := by
 have hv : pend n = (decide (n ≥ 0) && decide (n ≤ 255)) := rfl
 cases h1 : decide (n ≥ 0)
 all_goals
  cases h2 : decide (n ≤ 255)
  all_goals
   rw [h1, h2] at hv
   simp only [Bool.and_false, Bool.and_true] at hv
   rw [hv]; clear hv
   go_enter Tryz.func91, Tryz.ntmps91
   go_wp2
   go_ret
   exact ⟨rfl, rfl⟩
theorem impl_pend' : Calls Tryz.prog 57 #[.int .i64 p] w fun e w' => e = .returned (.bool (pend p)) ∧ w = w' := by
 have K := Lib.hid (fun V : World => impl_postOk' p V)
 generalize pend p = x at K ⊢
 go_enter Tryz.func57, Tryz.ntmps57
 go_wp2_with fail
 refine (K.out _).mono ?_
 rintro e w' ⟨rfl, rfl⟩
 go_wp2_with fail
 go_ret
 exact ⟨rfl, rfl⟩
theorem impl_pend (wp : (Lit.int .i64 p).wf = true) : Calls Tryz.prog 57 #[.int .i64 p] w fun e w' => e = .returned (.bool (pend p)) ∧ Below w.heap.size w w' :=
 (impl_pend' p w).mono fun e w' h => ⟨h.1, h.2 ▸ Below.refl _ _⟩
end
end Go.Proofs.YtldgadmpclgfhaaGreat.Irqs
namespace Go.Proofs.YtldgadmpclgfhaaGreat.Exits
set_option maxHeartbeats 8000000
set_option maxRecDepth 100000
open Go.ChangeShapes Go.WideShapes Go.ChangeAt Go.RowKit
open Go.Proofs.YtldgadmpclgfhaaGreat.Base Go.Proofs.YtldgadmpclgfhaaGreat.Mem Go.Proofs.YtldgadmpclgfhaaGreat.Data
set_option linter.unusedVariables false
set_option linter.unusedSimpArgs false
def usedV (k p : Int) (q : Bool) (n : Int) : Value :=
 if k = 0 then .iface 139 (.agg #[]) else if k = 1 then .iface 141 (.agg #[.int .i64 p, .bool q]) else if k = 2 then .iface 143 (.agg #[.int .i64 n]) else if k = 3 then .iface 144 (.agg #[.int .i64 n])
 else if k = 4 then .iface 145 (.agg #[]) else .nilIface
theorem usedV_0 (p : Int) (q : Bool) (n : Int) : usedV 0 p q n = .iface 139 (.agg #[]) := rfl
theorem usedV_1 (p : Int) (q : Bool) (n : Int) : usedV 1 p q n = .iface 141 (.agg #[.int .i64 p, .bool q]) := rfl
theorem usedV_2 (p : Int) (q : Bool) (n : Int) : usedV 2 p q n = .iface 143 (.agg #[.int .i64 n]) := rfl
theorem usedV_3 (p : Int) (q : Bool) (n : Int) : usedV 3 p q n = .iface 144 (.agg #[.int .i64 n]) := rfl
theorem usedV_4 (p : Int) (q : Bool) (n : Int) : usedV 4 p q n = .iface 145 (.agg #[]) := rfl
theorem usedV_else {k : Int} (p : Int) (q : Bool) (n : Int) (h : (k == 0) = false ∧ (k == 1) = false ∧ (k == 2) = false ∧ (k == 3) = false ∧ (k == 4) = false) : usedV k p q n = .nilIface := by
 simp only [beq_eq_false_iff_ne, ne_eq] at h
 simp [usedV, h]
theorem impl_usedBy (k p : Int) (q : Bool) (n : Int) (w : World) :
  Calls Tryz.prog 129 #[.agg #[.int .i64 k, .int .i64 p, .bool q, .int .i64 n]] w fun e w' => e = .returned (usedV k p q n) ∧ Below w.heap.size w w' := by
 rcases kind_cases k with rfl | rfl | rfl | rfl | rfl | h
 ·
  have HV := Lib.hid (usedV_0 p q n)
  have HB := Lib.hid (show Below w.heap.size w (w.alloc (.cells #[.int .i64 0, .int .i64 p, .bool q, .int .i64 n] 37)) from (Below.refl _ _).alloc (Nat.le_refl _) _)
  go_enter Tryz.func129, Tryz.ntmps129
  go_wp2_with fail
  go_ret
  exact ⟨by rw [HV.out]; rfl, HB.out⟩
 ·
  have HV := Lib.hid (usedV_4 p q n)
  have HB := Lib.hid (show Below w.heap.size w (w.alloc (.cells #[.int .i64 4, .int .i64 p, .bool q, .int .i64 n] 37)) from (Below.refl _ _).alloc (Nat.le_refl _) _)
  go_enter Tryz.func129, Tryz.ntmps129
  go_wp2_with fail
  go_ret
  exact ⟨by rw [HV.out]; rfl, HB.out⟩
 ·
  have HV := Lib.hid (usedV_1 p q n)
  have HB := Lib.hid (show Below w.heap.size w (w.alloc (.cells #[.int .i64 1, .int .i64 p, .bool q, .int .i64 n] 37)) from (Below.refl _ _).alloc (Nat.le_refl _) _)
  go_enter Tryz.func129, Tryz.ntmps129
  go_wp2_with fail
  go_ret
  exact ⟨by rw [HV.out]; rfl, HB.out⟩
 ·
  have HV := Lib.hid (usedV_2 p q n)
  have HB := Lib.hid (show Below w.heap.size w (w.alloc (.cells #[.int .i64 2, .int .i64 p, .bool q, .int .i64 n] 37)) from (Below.refl _ _).alloc (Nat.le_refl _) _)
  go_enter Tryz.func129, Tryz.ntmps129
  go_wp2_with fail
  go_ret
  exact ⟨by rw [HV.out]; rfl, HB.out⟩
 ·
  have HV := Lib.hid (usedV_3 p q n)
  have HB := Lib.hid (show Below w.heap.size w (w.alloc (.cells #[.int .i64 3, .int .i64 p, .bool q, .int .i64 n] 37)) from (Below.refl _ _).alloc (Nat.le_refl _) _)
  go_enter Tryz.func129, Tryz.ntmps129
  go_wp2_with fail
  go_ret
  exact ⟨by rw [HV.out]; rfl, HB.out⟩
 ·
  have HV := Lib.hid (usedV_else (k := k) p q n h)
  obtain ⟨h0, h1, h2, h3, h4⟩ := h
  have HB := Lib.hid (show Below w.heap.size w (w.alloc (.cells #[.int .i64 k, .int .i64 p, .bool q, .int .i64 n] 37)) from (Below.refl _ _).alloc (Nat.le_refl _) _)
  go_enter Tryz.func129, Tryz.ntmps129
  go_wp2_with fail
  go_ret
  exact ⟨by rw [HV.out]; rfl, HB.out⟩
theorem impl_cellOkE (v : Int) (w : World) :
  Calls Tryz.prog 108 #[.int .i64 v] w fun e w' => e = .returned (.bool (inB v 0 99)) ∧ Below w.heap.size w w' := by
 by_cases h0 : v < 0
 ·
  have HV := Lib.hid (inB_false.2 (show v < 0 ∨ 99 < v from .inl h0))
  have h1 : ¬ v ≥ 0 := by omega
  clear h0
  go_enter Tryz.func108, Tryz.ntmps108
  go_wp2_with fail
  go_ret
  exact ⟨by rw [HV.out]; rfl, Below.refl _ _⟩
 ·
  have h1 : v ≥ 0 := by omega
  by_cases h2 : v ≤ 99
  ·
   have HV := Lib.hid (inB_iff.2 (show 0 ≤ v ∧ v ≤ 99 from ⟨h1, h2⟩))
   clear h0
   go_enter Tryz.func108, Tryz.ntmps108
   go_wp2_with fail
   go_ret
   exact ⟨by rw [HV.out]; rfl, Below.refl _ _⟩
  ·
   have HV := Lib.hid (inB_false.2 (show v < 0 ∨ 99 < v from .inr (by omega)))
   clear h0
   go_enter Tryz.func108, Tryz.ntmps108
   go_wp2_with fail
   go_ret
   exact ⟨by rw [HV.out]; rfl, Below.refl _ _⟩
theorem impl_fault' (p : Int) (q : Bool) (w : World) :
  Calls Tryz.prog 130 #[.int .i64 p, .bool q] w (ExitP w (1, p, q, 0)) := by
 have HB := Lib.hid (show Below w.heap.size w (w.alloc (.cells #[.int .i64 1, .int .i64 p, .bool q, .int .i64 0] 37)) from (Below.refl _ _).alloc (Nat.le_refl _) _)
 have t1 : Var (w.alloc (.cells #[.int .i64 1, .int .i64 p, .bool q, .int .i64 0] 37)) w.heap.size [.int .i64 1, .int .i64 p, .bool q, .int .i64 0] := Var.new w [.int .i64 1, .int .i64 p, .bool q, .int .i64 0] 37
 have c0 := t1.cell 0 (v := .int .i64 1) rfl
 have c1 := t1.cell 1 (v := .int .i64 p) rfl
 have c2 := t1.cell 2 (v := .bool q) rfl
 have c3 := t1.cell 3 (v := .int .i64 0) rfl
 clear t1
 go_enter Tryz.func130, Tryz.ntmps130
 go_wp2_with fail
 generalize w.alloc (.cells #[.int .i64 1, .int .i64 p, .bool q, .int .i64 0] 37) = WF at c0 c1 c2 c3 HB ⊢
 exact bodyPost_ret (v := .agg #[.int .i64 1, .int .i64 p, .bool q, .int .i64 0]) (by simp [results, Tryz.results130, go_sem, c0, c1, c2, c3]) rfl ⟨rfl, HB.out⟩
theorem impl_call' (n : Int) (w : World) :
  Calls Tryz.prog 131 #[.int .i64 n] w (ExitP w (2, 0, false, n)) := by
 have HB := Lib.hid (show Below w.heap.size w (w.alloc (.cells #[.int .i64 2, .int .i64 0, .bool false, .int .i64 n] 37)) from (Below.refl _ _).alloc (Nat.le_refl _) _)
 have t1 : Var (w.alloc (.cells #[.int .i64 2, .int .i64 0, .bool false, .int .i64 n] 37)) w.heap.size [.int .i64 2, .int .i64 0, .bool false, .int .i64 n] := Var.new w [.int .i64 2, .int .i64 0, .bool false, .int .i64 n] 37
 have c0 := t1.cell 0 (v := .int .i64 2) rfl
 have c1 := t1.cell 1 (v := .int .i64 0) rfl
 have c2 := t1.cell 2 (v := .bool false) rfl
 have c3 := t1.cell 3 (v := .int .i64 n) rfl
 clear t1
 go_enter Tryz.func131, Tryz.ntmps131
 go_wp2_with fail
 generalize w.alloc (.cells #[.int .i64 2, .int .i64 0, .bool false, .int .i64 n] 37) = WF at c0 c1 c2 c3 HB ⊢
 exact bodyPost_ret (v := .agg #[.int .i64 2, .int .i64 0, .bool false, .int .i64 n]) (by simp [results, Tryz.results131, go_sem, c0, c1, c2, c3]) rfl ⟨rfl, HB.out⟩
theorem impl_out' (n : Int) (w : World) :
  Calls Tryz.prog 132 #[.int .i64 n] w (ExitP w (3, 0, false, n)) := by
 have HB := Lib.hid (show Below w.heap.size w (w.alloc (.cells #[.int .i64 3, .int .i64 0, .bool false, .int .i64 n] 37)) from (Below.refl _ _).alloc (Nat.le_refl _) _)
 have t1 : Var (w.alloc (.cells #[.int .i64 3, .int .i64 0, .bool false, .int .i64 n] 37)) w.heap.size [.int .i64 3, .int .i64 0, .bool false, .int .i64 n] := Var.new w [.int .i64 3, .int .i64 0, .bool false, .int .i64 n] 37
 have c0 := t1.cell 0 (v := .int .i64 3) rfl
 have c1 := t1.cell 1 (v := .int .i64 0) rfl
 have c2 := t1.cell 2 (v := .bool false) rfl
 have c3 := t1.cell 3 (v := .int .i64 n) rfl
 clear t1
 go_enter Tryz.func132, Tryz.ntmps132
 go_wp2_with fail
 generalize w.alloc (.cells #[.int .i64 3, .int .i64 0, .bool false, .int .i64 n] 37) = WF at c0 c1 c2 c3 HB ⊢
 exact bodyPost_ret (v := .agg #[.int .i64 3, .int .i64 0, .bool false, .int .i64 n]) (by simp [results, Tryz.results132, go_sem, c0, c1, c2, c3]) rfl ⟨rfl, HB.out⟩
theorem as_no_no (x : Value) (W : World) : (Instr.typeAssert (.iface 139 x) 20 139 true).run Tryz.prog W = .ok (.tuple #[x, .bool true]) W := by kernel_rfl
theorem as_fault_no (x : Value) (W : World) : (Instr.typeAssert (.iface 141 x) 20 139 true).run Tryz.prog W = .ok (.tuple #[.agg #[], .bool false]) W := by kernel_rfl
theorem as_fault_fault (x : Value) (W : World) : (Instr.typeAssert (.iface 141 x) 20 141 true).run Tryz.prog W = .ok (.tuple #[x, .bool true]) W := by kernel_rfl
theorem as_call_no (x : Value) (W : World) : (Instr.typeAssert (.iface 143 x) 20 139 true).run Tryz.prog W = .ok (.tuple #[.agg #[], .bool false]) W := by kernel_rfl
theorem as_call_fault (x : Value) (W : World) : (Instr.typeAssert (.iface 143 x) 20 141 true).run Tryz.prog W = .ok (.tuple #[.agg #[.int .i64 0, .bool false], .bool false]) W := by kernel_rfl
theorem as_call_call (x : Value) (W : World) : (Instr.typeAssert (.iface 143 x) 20 143 true).run Tryz.prog W = .ok (.tuple #[x, .bool true]) W := by kernel_rfl
theorem as_out_no (x : Value) (W : World) : (Instr.typeAssert (.iface 144 x) 20 139 true).run Tryz.prog W = .ok (.tuple #[.agg #[], .bool false]) W := by kernel_rfl
theorem as_out_fault (x : Value) (W : World) : (Instr.typeAssert (.iface 144 x) 20 141 true).run Tryz.prog W = .ok (.tuple #[.agg #[.int .i64 0, .bool false], .bool false]) W := by kernel_rfl
theorem as_out_call (x : Value) (W : World) : (Instr.typeAssert (.iface 144 x) 20 143 true).run Tryz.prog W = .ok (.tuple #[.agg #[.int .i64 0], .bool false]) W := by kernel_rfl
theorem as_out_out (x : Value) (W : World) : (Instr.typeAssert (.iface 144 x) 20 144 true).run Tryz.prog W = .ok (.tuple #[x, .bool true]) W := by kernel_rfl
theorem as_halt_no (x : Value) (W : World) : (Instr.typeAssert (.iface 145 x) 20 139 true).run Tryz.prog W = .ok (.tuple #[.agg #[], .bool false]) W := by kernel_rfl
theorem as_halt_fault (x : Value) (W : World) : (Instr.typeAssert (.iface 145 x) 20 141 true).run Tryz.prog W = .ok (.tuple #[.agg #[.int .i64 0, .bool false], .bool false]) W := by kernel_rfl
theorem as_halt_call (x : Value) (W : World) : (Instr.typeAssert (.iface 145 x) 20 143 true).run Tryz.prog W = .ok (.tuple #[.agg #[.int .i64 0], .bool false]) W := by kernel_rfl
theorem as_halt_out (x : Value) (W : World) : (Instr.typeAssert (.iface 145 x) 20 144 true).run Tryz.prog W = .ok (.tuple #[.agg #[.int .i64 0], .bool false]) W := by kernel_rfl
theorem as_halt_halt (x : Value) (W : World) : (Instr.typeAssert (.iface 145 x) 20 145 true).run Tryz.prog W = .ok (.tuple #[x, .bool true]) W := by kernel_rfl
theorem as_nil_no (W : World) : (Instr.typeAssert .nilIface 20 139 true).run Tryz.prog W = .ok (.tuple #[.agg #[], .bool false]) W := by kernel_rfl
theorem as_nil_fault (W : World) : (Instr.typeAssert .nilIface 20 141 true).run Tryz.prog W = .ok (.tuple #[.agg #[.int .i64 0, .bool false], .bool false]) W := by kernel_rfl
theorem as_nil_call (W : World) : (Instr.typeAssert .nilIface 20 143 true).run Tryz.prog W = .ok (.tuple #[.agg #[.int .i64 0], .bool false]) W := by kernel_rfl
theorem as_nil_out (W : World) : (Instr.typeAssert .nilIface 20 144 true).run Tryz.prog W = .ok (.tuple #[.agg #[.int .i64 0], .bool false]) W := by kernel_rfl
theorem as_nil_halt (W : World) : (Instr.typeAssert .nilIface 20 145 true).run Tryz.prog W = .ok (.tuple #[.agg #[], .bool false]) W := by kernel_rfl
theorem impl_exitOk (k p : Int) (q : Bool) (n : Int) (w : World) (ws : wfQ (k, p, q, n)) :
  Calls Tryz.prog 124 #[.agg #[.int .i64 k, .int .i64 p, .bool q, .int .i64 n]] w fun e w' => e = .returned (.bool (exitOk (k, p, q, n))) ∧ Below w.heap.size w w' := by
 clear ws
 rcases kind_cases k with rfl | rfl | rfl | rfl | rfl | h
 ·
  by_cases hp : p = 0 <;> by_cases hn : n = 0 <;> cases q
  ·
   subst hp
   subst hn
   have HV := Lib.hid (show exitOk (0, 0, false, 0) = true from by simp [exitOk])
   have HU := Lib.hid (fun V : World => impl_usedBy 0 0 false 0 V)
   rw [usedV_0] at HU
   have hb0 : Below w.heap.size w (w.alloc (.cells #[.int .i64 0, .int .i64 0, .bool false, .int .i64 0] 37)) := (Below.refl _ _).alloc (Nat.le_refl _) _
   have t0 : Var (w.alloc (.cells #[.int .i64 0, .int .i64 0, .bool false, .int .i64 0] 37)) w.heap.size [.int .i64 0, .int .i64 0, .bool false, .int .i64 0] := Var.new w [.int .i64 0, .int .i64 0, .bool false, .int .i64 0] 37
   have hz : w.heap.size < (w.alloc (.cells #[.int .i64 0, .int .i64 0, .bool false, .int .i64 0] 37)).heap.size := by simp
   go_enter Tryz.func124, Tryz.ntmps124
   go_wp2_with fail
   generalize w.alloc (.cells #[.int .i64 0, .int .i64 0, .bool false, .int .i64 0] 37) = W0 at t0 hb0 hz ⊢
   refine (HU.out _).mono ?_
   rintro e w1 ⟨rfl, hb1⟩
   have hb := btr hb0 hb1
   have T := t0.below hb1 hz
   have hz1 : w.heap.size < w1.heap.size := T.2
   clear hb0 hb1 t0 hz HU
   have as0 := as_no_no (.agg #[])
   have hA : Below w1.heap.size w1 (w1.alloc (.cells #[] 139)) := (Below.refl _ _).alloc (Nat.le_refl _) _
   have T2 := T.below hA hz1
   have v0 := T2.cell 0 (v := .int .i64 0) rfl
   have v1 := T2.cell 1 (v := .int .i64 0) rfl
   have v2 := T2.cell 2 (v := .bool false) rfl
   have v3 := T2.cell 3 (v := .int .i64 0) rfl
   have HB := Lib.hid (btr hb hA)
   clear T T2 hA hb hz1
   go_wp2_with fail
   go_ret
   exact ⟨by rw [HV.out]; rfl, HB.out⟩
  ·
   subst hp
   subst hn
   have HV := Lib.hid (show exitOk (0, 0, true, 0) = false from by simp [exitOk])
   have HU := Lib.hid (fun V : World => impl_usedBy 0 0 true 0 V)
   rw [usedV_0] at HU
   have hb0 : Below w.heap.size w (w.alloc (.cells #[.int .i64 0, .int .i64 0, .bool true, .int .i64 0] 37)) := (Below.refl _ _).alloc (Nat.le_refl _) _
   have t0 : Var (w.alloc (.cells #[.int .i64 0, .int .i64 0, .bool true, .int .i64 0] 37)) w.heap.size [.int .i64 0, .int .i64 0, .bool true, .int .i64 0] := Var.new w [.int .i64 0, .int .i64 0, .bool true, .int .i64 0] 37
   have hz : w.heap.size < (w.alloc (.cells #[.int .i64 0, .int .i64 0, .bool true, .int .i64 0] 37)).heap.size := by simp
   go_enter Tryz.func124, Tryz.ntmps124
   go_wp2_with fail
   generalize w.alloc (.cells #[.int .i64 0, .int .i64 0, .bool true, .int .i64 0] 37) = W0 at t0 hb0 hz ⊢
   refine (HU.out _).mono ?_
   rintro e w1 ⟨rfl, hb1⟩
   have hb := btr hb0 hb1
   have T := t0.below hb1 hz
   have hz1 : w.heap.size < w1.heap.size := T.2
   clear hb0 hb1 t0 hz HU
   have as0 := as_no_no (.agg #[])
   have hA : Below w1.heap.size w1 (w1.alloc (.cells #[] 139)) := (Below.refl _ _).alloc (Nat.le_refl _) _
   have T2 := T.below hA hz1
   have v0 := T2.cell 0 (v := .int .i64 0) rfl
   have v1 := T2.cell 1 (v := .int .i64 0) rfl
   have v2 := T2.cell 2 (v := .bool true) rfl
   have v3 := T2.cell 3 (v := .int .i64 0) rfl
   have HB := Lib.hid (btr hb hA)
   clear T T2 hA hb hz1
   go_wp2_with fail
   go_ret
   exact ⟨by rw [HV.out]; rfl, HB.out⟩
  ·
   subst hp
   have hn' : (n == 0) = false := by simpa using hn
   have HV := Lib.hid (show exitOk (0, 0, false, n) = false from by simp [exitOk, hn])
   have HU := Lib.hid (fun V : World => impl_usedBy 0 0 false n V)
   rw [usedV_0] at HU
   have hb0 : Below w.heap.size w (w.alloc (.cells #[.int .i64 0, .int .i64 0, .bool false, .int .i64 n] 37)) := (Below.refl _ _).alloc (Nat.le_refl _) _
   have t0 : Var (w.alloc (.cells #[.int .i64 0, .int .i64 0, .bool false, .int .i64 n] 37)) w.heap.size [.int .i64 0, .int .i64 0, .bool false, .int .i64 n] := Var.new w [.int .i64 0, .int .i64 0, .bool false, .int .i64 n] 37
   have hz : w.heap.size < (w.alloc (.cells #[.int .i64 0, .int .i64 0, .bool false, .int .i64 n] 37)).heap.size := by simp
   go_enter Tryz.func124, Tryz.ntmps124
   go_wp2_with fail
   generalize w.alloc (.cells #[.int .i64 0, .int .i64 0, .bool false, .int .i64 n] 37) = W0 at t0 hb0 hz ⊢
   refine (HU.out _).mono ?_
   rintro e w1 ⟨rfl, hb1⟩
   have hb := btr hb0 hb1
   have T := t0.below hb1 hz
   have hz1 : w.heap.size < w1.heap.size := T.2
   clear hb0 hb1 t0 hz HU
   have as0 := as_no_no (.agg #[])
   have hA : Below w1.heap.size w1 (w1.alloc (.cells #[] 139)) := (Below.refl _ _).alloc (Nat.le_refl _) _
   have T2 := T.below hA hz1
   have v0 := T2.cell 0 (v := .int .i64 0) rfl
   have v1 := T2.cell 1 (v := .int .i64 0) rfl
   have v2 := T2.cell 2 (v := .bool false) rfl
   have v3 := T2.cell 3 (v := .int .i64 n) rfl
   have HB := Lib.hid (btr hb hA)
   clear T T2 hA hb hz1
   go_wp2_with fail
   go_ret
   exact ⟨by rw [HV.out]; rfl, HB.out⟩
  ·
   subst hp
   have hn' : (n == 0) = false := by simpa using hn
   have HV := Lib.hid (show exitOk (0, 0, true, n) = false from by simp [exitOk, hn])
   have HU := Lib.hid (fun V : World => impl_usedBy 0 0 true n V)
   rw [usedV_0] at HU
   have hb0 : Below w.heap.size w (w.alloc (.cells #[.int .i64 0, .int .i64 0, .bool true, .int .i64 n] 37)) := (Below.refl _ _).alloc (Nat.le_refl _) _
   have t0 : Var (w.alloc (.cells #[.int .i64 0, .int .i64 0, .bool true, .int .i64 n] 37)) w.heap.size [.int .i64 0, .int .i64 0, .bool true, .int .i64 n] := Var.new w [.int .i64 0, .int .i64 0, .bool true, .int .i64 n] 37
   have hz : w.heap.size < (w.alloc (.cells #[.int .i64 0, .int .i64 0, .bool true, .int .i64 n] 37)).heap.size := by simp
   go_enter Tryz.func124, Tryz.ntmps124
   go_wp2_with fail
   generalize w.alloc (.cells #[.int .i64 0, .int .i64 0, .bool true, .int .i64 n] 37) = W0 at t0 hb0 hz ⊢
   refine (HU.out _).mono ?_
   rintro e w1 ⟨rfl, hb1⟩
   have hb := btr hb0 hb1
   have T := t0.below hb1 hz
   have hz1 : w.heap.size < w1.heap.size := T.2
   clear hb0 hb1 t0 hz HU
   have as0 := as_no_no (.agg #[])
   have hA : Below w1.heap.size w1 (w1.alloc (.cells #[] 139)) := (Below.refl _ _).alloc (Nat.le_refl _) _
   have T2 := T.below hA hz1
   have v0 := T2.cell 0 (v := .int .i64 0) rfl
   have v1 := T2.cell 1 (v := .int .i64 0) rfl
   have v2 := T2.cell 2 (v := .bool true) rfl
   have v3 := T2.cell 3 (v := .int .i64 n) rfl
   have HB := Lib.hid (btr hb hA)
   clear T T2 hA hb hz1
   go_wp2_with fail
   go_ret
   exact ⟨by rw [HV.out]; rfl, HB.out⟩
  ·
   have hp' : (p == 0) = false := by simpa using hp
   subst hn
   have HV := Lib.hid (show exitOk (0, p, false, 0) = false from by simp [exitOk, hp])
   have HU := Lib.hid (fun V : World => impl_usedBy 0 p false 0 V)
   rw [usedV_0] at HU
   have hb0 : Below w.heap.size w (w.alloc (.cells #[.int .i64 0, .int .i64 p, .bool false, .int .i64 0] 37)) := (Below.refl _ _).alloc (Nat.le_refl _) _
   have t0 : Var (w.alloc (.cells #[.int .i64 0, .int .i64 p, .bool false, .int .i64 0] 37)) w.heap.size [.int .i64 0, .int .i64 p, .bool false, .int .i64 0] := Var.new w [.int .i64 0, .int .i64 p, .bool false, .int .i64 0] 37
   have hz : w.heap.size < (w.alloc (.cells #[.int .i64 0, .int .i64 p, .bool false, .int .i64 0] 37)).heap.size := by simp
   go_enter Tryz.func124, Tryz.ntmps124
   go_wp2_with fail
   generalize w.alloc (.cells #[.int .i64 0, .int .i64 p, .bool false, .int .i64 0] 37) = W0 at t0 hb0 hz ⊢
   refine (HU.out _).mono ?_
   rintro e w1 ⟨rfl, hb1⟩
   have hb := btr hb0 hb1
   have T := t0.below hb1 hz
   have hz1 : w.heap.size < w1.heap.size := T.2
   clear hb0 hb1 t0 hz HU
   have as0 := as_no_no (.agg #[])
   have hA : Below w1.heap.size w1 (w1.alloc (.cells #[] 139)) := (Below.refl _ _).alloc (Nat.le_refl _) _
   have T2 := T.below hA hz1
   have v0 := T2.cell 0 (v := .int .i64 0) rfl
   have v1 := T2.cell 1 (v := .int .i64 p) rfl
   have v2 := T2.cell 2 (v := .bool false) rfl
   have v3 := T2.cell 3 (v := .int .i64 0) rfl
   have HB := Lib.hid (btr hb hA)
   clear T T2 hA hb hz1
   go_wp2_with fail
   go_ret
   exact ⟨by rw [HV.out]; rfl, HB.out⟩
  ·
   have hp' : (p == 0) = false := by simpa using hp
   subst hn
   have HV := Lib.hid (show exitOk (0, p, true, 0) = false from by simp [exitOk, hp])
   have HU := Lib.hid (fun V : World => impl_usedBy 0 p true 0 V)
   rw [usedV_0] at HU
   have hb0 : Below w.heap.size w (w.alloc (.cells #[.int .i64 0, .int .i64 p, .bool true, .int .i64 0] 37)) := (Below.refl _ _).alloc (Nat.le_refl _) _
   have t0 : Var (w.alloc (.cells #[.int .i64 0, .int .i64 p, .bool true, .int .i64 0] 37)) w.heap.size [.int .i64 0, .int .i64 p, .bool true, .int .i64 0] := Var.new w [.int .i64 0, .int .i64 p, .bool true, .int .i64 0] 37
   have hz : w.heap.size < (w.alloc (.cells #[.int .i64 0, .int .i64 p, .bool true, .int .i64 0] 37)).heap.size := by simp
   go_enter Tryz.func124, Tryz.ntmps124
   go_wp2_with fail
   generalize w.alloc (.cells #[.int .i64 0, .int .i64 p, .bool true, .int .i64 0] 37) = W0 at t0 hb0 hz ⊢
   refine (HU.out _).mono ?_
   rintro e w1 ⟨rfl, hb1⟩
   have hb := btr hb0 hb1
   have T := t0.below hb1 hz
   have hz1 : w.heap.size < w1.heap.size := T.2
   clear hb0 hb1 t0 hz HU
   have as0 := as_no_no (.agg #[])
   have hA : Below w1.heap.size w1 (w1.alloc (.cells #[] 139)) := (Below.refl _ _).alloc (Nat.le_refl _) _
   have T2 := T.below hA hz1
   have v0 := T2.cell 0 (v := .int .i64 0) rfl
   have v1 := T2.cell 1 (v := .int .i64 p) rfl
   have v2 := T2.cell 2 (v := .bool true) rfl
   have v3 := T2.cell 3 (v := .int .i64 0) rfl
   have HB := Lib.hid (btr hb hA)
   clear T T2 hA hb hz1
   go_wp2_with fail
   go_ret
   exact ⟨by rw [HV.out]; rfl, HB.out⟩
  ·
   have hp' : (p == 0) = false := by simpa using hp
   have hn' : (n == 0) = false := by simpa using hn
   have HV := Lib.hid (show exitOk (0, p, false, n) = false from by simp [exitOk, hp, hn])
   have HU := Lib.hid (fun V : World => impl_usedBy 0 p false n V)
   rw [usedV_0] at HU
   have hb0 : Below w.heap.size w (w.alloc (.cells #[.int .i64 0, .int .i64 p, .bool false, .int .i64 n] 37)) := (Below.refl _ _).alloc (Nat.le_refl _) _
   have t0 : Var (w.alloc (.cells #[.int .i64 0, .int .i64 p, .bool false, .int .i64 n] 37)) w.heap.size [.int .i64 0, .int .i64 p, .bool false, .int .i64 n] := Var.new w [.int .i64 0, .int .i64 p, .bool false, .int .i64 n] 37
   have hz : w.heap.size < (w.alloc (.cells #[.int .i64 0, .int .i64 p, .bool false, .int .i64 n] 37)).heap.size := by simp
   go_enter Tryz.func124, Tryz.ntmps124
   go_wp2_with fail
   generalize w.alloc (.cells #[.int .i64 0, .int .i64 p, .bool false, .int .i64 n] 37) = W0 at t0 hb0 hz ⊢
   refine (HU.out _).mono ?_
   rintro e w1 ⟨rfl, hb1⟩
   have hb := btr hb0 hb1
   have T := t0.below hb1 hz
   have hz1 : w.heap.size < w1.heap.size := T.2
   clear hb0 hb1 t0 hz HU
   have as0 := as_no_no (.agg #[])
   have hA : Below w1.heap.size w1 (w1.alloc (.cells #[] 139)) := (Below.refl _ _).alloc (Nat.le_refl _) _
   have T2 := T.below hA hz1
   have v0 := T2.cell 0 (v := .int .i64 0) rfl
   have v1 := T2.cell 1 (v := .int .i64 p) rfl
   have v2 := T2.cell 2 (v := .bool false) rfl
   have v3 := T2.cell 3 (v := .int .i64 n) rfl
   have HB := Lib.hid (btr hb hA)
   clear T T2 hA hb hz1
   go_wp2_with fail
   go_ret
   exact ⟨by rw [HV.out]; rfl, HB.out⟩
  ·
   have hp' : (p == 0) = false := by simpa using hp
   have hn' : (n == 0) = false := by simpa using hn
   have HV := Lib.hid (show exitOk (0, p, true, n) = false from by simp [exitOk, hp, hn])
   have HU := Lib.hid (fun V : World => impl_usedBy 0 p true n V)
   rw [usedV_0] at HU
   have hb0 : Below w.heap.size w (w.alloc (.cells #[.int .i64 0, .int .i64 p, .bool true, .int .i64 n] 37)) := (Below.refl _ _).alloc (Nat.le_refl _) _
   have t0 : Var (w.alloc (.cells #[.int .i64 0, .int .i64 p, .bool true, .int .i64 n] 37)) w.heap.size [.int .i64 0, .int .i64 p, .bool true, .int .i64 n] := Var.new w [.int .i64 0, .int .i64 p, .bool true, .int .i64 n] 37
   have hz : w.heap.size < (w.alloc (.cells #[.int .i64 0, .int .i64 p, .bool true, .int .i64 n] 37)).heap.size := by simp
   go_enter Tryz.func124, Tryz.ntmps124
   go_wp2_with fail
   generalize w.alloc (.cells #[.int .i64 0, .int .i64 p, .bool true, .int .i64 n] 37) = W0 at t0 hb0 hz ⊢
   refine (HU.out _).mono ?_
   rintro e w1 ⟨rfl, hb1⟩
   have hb := btr hb0 hb1
   have T := t0.below hb1 hz
   have hz1 : w.heap.size < w1.heap.size := T.2
   clear hb0 hb1 t0 hz HU
   have as0 := as_no_no (.agg #[])
   have hA : Below w1.heap.size w1 (w1.alloc (.cells #[] 139)) := (Below.refl _ _).alloc (Nat.le_refl _) _
   have T2 := T.below hA hz1
   have v0 := T2.cell 0 (v := .int .i64 0) rfl
   have v1 := T2.cell 1 (v := .int .i64 p) rfl
   have v2 := T2.cell 2 (v := .bool true) rfl
   have v3 := T2.cell 3 (v := .int .i64 n) rfl
   have HB := Lib.hid (btr hb hA)
   clear T T2 hA hb hz1
   go_wp2_with fail
   go_ret
   exact ⟨by rw [HV.out]; rfl, HB.out⟩
 ·
  by_cases hp : p = 0 <;> by_cases hn : n = 0 <;> cases q
  ·
   subst hp
   subst hn
   have HV := Lib.hid (show exitOk (4, 0, false, 0) = true from by simp [exitOk])
   have HU := Lib.hid (fun V : World => impl_usedBy 4 0 false 0 V)
   rw [usedV_4] at HU
   have hb0 : Below w.heap.size w (w.alloc (.cells #[.int .i64 4, .int .i64 0, .bool false, .int .i64 0] 37)) := (Below.refl _ _).alloc (Nat.le_refl _) _
   have t0 : Var (w.alloc (.cells #[.int .i64 4, .int .i64 0, .bool false, .int .i64 0] 37)) w.heap.size [.int .i64 4, .int .i64 0, .bool false, .int .i64 0] := Var.new w [.int .i64 4, .int .i64 0, .bool false, .int .i64 0] 37
   have hz : w.heap.size < (w.alloc (.cells #[.int .i64 4, .int .i64 0, .bool false, .int .i64 0] 37)).heap.size := by simp
   go_enter Tryz.func124, Tryz.ntmps124
   go_wp2_with fail
   generalize w.alloc (.cells #[.int .i64 4, .int .i64 0, .bool false, .int .i64 0] 37) = W0 at t0 hb0 hz ⊢
   refine (HU.out _).mono ?_
   rintro e w1 ⟨rfl, hb1⟩
   have hb := btr hb0 hb1
   have T := t0.below hb1 hz
   have hz1 : w.heap.size < w1.heap.size := T.2
   clear hb0 hb1 t0 hz HU
   have as0 := as_halt_no (.agg #[])
   have as1 := as_halt_fault (.agg #[])
   have as2 := as_halt_call (.agg #[])
   have as3 := as_halt_out (.agg #[])
   have as4 := as_halt_halt (.agg #[])
   have hA : Below w1.heap.size w1 (w1.alloc (.cells #[] 145)) := (Below.refl _ _).alloc (Nat.le_refl _) _
   have T2 := T.below hA hz1
   have v0 := T2.cell 0 (v := .int .i64 4) rfl
   have v1 := T2.cell 1 (v := .int .i64 0) rfl
   have v2 := T2.cell 2 (v := .bool false) rfl
   have v3 := T2.cell 3 (v := .int .i64 0) rfl
   have HB := Lib.hid (btr hb hA)
   clear T T2 hA hb hz1
   go_wp2_with fail
   go_ret
   exact ⟨by rw [HV.out]; rfl, HB.out⟩
  ·
   subst hp
   subst hn
   have HV := Lib.hid (show exitOk (4, 0, true, 0) = false from by simp [exitOk])
   have HU := Lib.hid (fun V : World => impl_usedBy 4 0 true 0 V)
   rw [usedV_4] at HU
   have hb0 : Below w.heap.size w (w.alloc (.cells #[.int .i64 4, .int .i64 0, .bool true, .int .i64 0] 37)) := (Below.refl _ _).alloc (Nat.le_refl _) _
   have t0 : Var (w.alloc (.cells #[.int .i64 4, .int .i64 0, .bool true, .int .i64 0] 37)) w.heap.size [.int .i64 4, .int .i64 0, .bool true, .int .i64 0] := Var.new w [.int .i64 4, .int .i64 0, .bool true, .int .i64 0] 37
   have hz : w.heap.size < (w.alloc (.cells #[.int .i64 4, .int .i64 0, .bool true, .int .i64 0] 37)).heap.size := by simp
   go_enter Tryz.func124, Tryz.ntmps124
   go_wp2_with fail
   generalize w.alloc (.cells #[.int .i64 4, .int .i64 0, .bool true, .int .i64 0] 37) = W0 at t0 hb0 hz ⊢
   refine (HU.out _).mono ?_
   rintro e w1 ⟨rfl, hb1⟩
   have hb := btr hb0 hb1
   have T := t0.below hb1 hz
   have hz1 : w.heap.size < w1.heap.size := T.2
   clear hb0 hb1 t0 hz HU
   have as0 := as_halt_no (.agg #[])
   have as1 := as_halt_fault (.agg #[])
   have as2 := as_halt_call (.agg #[])
   have as3 := as_halt_out (.agg #[])
   have as4 := as_halt_halt (.agg #[])
   have hA : Below w1.heap.size w1 (w1.alloc (.cells #[] 145)) := (Below.refl _ _).alloc (Nat.le_refl _) _
   have T2 := T.below hA hz1
   have v0 := T2.cell 0 (v := .int .i64 4) rfl
   have v1 := T2.cell 1 (v := .int .i64 0) rfl
   have v2 := T2.cell 2 (v := .bool true) rfl
   have v3 := T2.cell 3 (v := .int .i64 0) rfl
   have HB := Lib.hid (btr hb hA)
   clear T T2 hA hb hz1
   go_wp2_with fail
   go_ret
   exact ⟨by rw [HV.out]; rfl, HB.out⟩
  ·
   subst hp
   have hn' : (n == 0) = false := by simpa using hn
   have HV := Lib.hid (show exitOk (4, 0, false, n) = false from by simp [exitOk, hn])
   have HU := Lib.hid (fun V : World => impl_usedBy 4 0 false n V)
   rw [usedV_4] at HU
   have hb0 : Below w.heap.size w (w.alloc (.cells #[.int .i64 4, .int .i64 0, .bool false, .int .i64 n] 37)) := (Below.refl _ _).alloc (Nat.le_refl _) _
   have t0 : Var (w.alloc (.cells #[.int .i64 4, .int .i64 0, .bool false, .int .i64 n] 37)) w.heap.size [.int .i64 4, .int .i64 0, .bool false, .int .i64 n] := Var.new w [.int .i64 4, .int .i64 0, .bool false, .int .i64 n] 37
   have hz : w.heap.size < (w.alloc (.cells #[.int .i64 4, .int .i64 0, .bool false, .int .i64 n] 37)).heap.size := by simp
   go_enter Tryz.func124, Tryz.ntmps124
   go_wp2_with fail
   generalize w.alloc (.cells #[.int .i64 4, .int .i64 0, .bool false, .int .i64 n] 37) = W0 at t0 hb0 hz ⊢
   refine (HU.out _).mono ?_
   rintro e w1 ⟨rfl, hb1⟩
   have hb := btr hb0 hb1
   have T := t0.below hb1 hz
   have hz1 : w.heap.size < w1.heap.size := T.2
   clear hb0 hb1 t0 hz HU
   have as0 := as_halt_no (.agg #[])
   have as1 := as_halt_fault (.agg #[])
   have as2 := as_halt_call (.agg #[])
   have as3 := as_halt_out (.agg #[])
   have as4 := as_halt_halt (.agg #[])
   have hA : Below w1.heap.size w1 (w1.alloc (.cells #[] 145)) := (Below.refl _ _).alloc (Nat.le_refl _) _
   have T2 := T.below hA hz1
   have v0 := T2.cell 0 (v := .int .i64 4) rfl
   have v1 := T2.cell 1 (v := .int .i64 0) rfl
   have v2 := T2.cell 2 (v := .bool false) rfl
   have v3 := T2.cell 3 (v := .int .i64 n) rfl
   have HB := Lib.hid (btr hb hA)
   clear T T2 hA hb hz1
   go_wp2_with fail
   go_ret
   exact ⟨by rw [HV.out]; rfl, HB.out⟩
  ·
   subst hp
   have hn' : (n == 0) = false := by simpa using hn
   have HV := Lib.hid (show exitOk (4, 0, true, n) = false from by simp [exitOk, hn])
   have HU := Lib.hid (fun V : World => impl_usedBy 4 0 true n V)
   rw [usedV_4] at HU
   have hb0 : Below w.heap.size w (w.alloc (.cells #[.int .i64 4, .int .i64 0, .bool true, .int .i64 n] 37)) := (Below.refl _ _).alloc (Nat.le_refl _) _
   have t0 : Var (w.alloc (.cells #[.int .i64 4, .int .i64 0, .bool true, .int .i64 n] 37)) w.heap.size [.int .i64 4, .int .i64 0, .bool true, .int .i64 n] := Var.new w [.int .i64 4, .int .i64 0, .bool true, .int .i64 n] 37
   have hz : w.heap.size < (w.alloc (.cells #[.int .i64 4, .int .i64 0, .bool true, .int .i64 n] 37)).heap.size := by simp
   go_enter Tryz.func124, Tryz.ntmps124
   go_wp2_with fail
   generalize w.alloc (.cells #[.int .i64 4, .int .i64 0, .bool true, .int .i64 n] 37) = W0 at t0 hb0 hz ⊢
   refine (HU.out _).mono ?_
   rintro e w1 ⟨rfl, hb1⟩
   have hb := btr hb0 hb1
   have T := t0.below hb1 hz
   have hz1 : w.heap.size < w1.heap.size := T.2
   clear hb0 hb1 t0 hz HU
   have as0 := as_halt_no (.agg #[])
   have as1 := as_halt_fault (.agg #[])
   have as2 := as_halt_call (.agg #[])
   have as3 := as_halt_out (.agg #[])
   have as4 := as_halt_halt (.agg #[])
   have hA : Below w1.heap.size w1 (w1.alloc (.cells #[] 145)) := (Below.refl _ _).alloc (Nat.le_refl _) _
   have T2 := T.below hA hz1
   have v0 := T2.cell 0 (v := .int .i64 4) rfl
   have v1 := T2.cell 1 (v := .int .i64 0) rfl
   have v2 := T2.cell 2 (v := .bool true) rfl
   have v3 := T2.cell 3 (v := .int .i64 n) rfl
   have HB := Lib.hid (btr hb hA)
   clear T T2 hA hb hz1
   go_wp2_with fail
   go_ret
   exact ⟨by rw [HV.out]; rfl, HB.out⟩
  ·
   have hp' : (p == 0) = false := by simpa using hp
   subst hn
   have HV := Lib.hid (show exitOk (4, p, false, 0) = false from by simp [exitOk, hp])
   have HU := Lib.hid (fun V : World => impl_usedBy 4 p false 0 V)
   rw [usedV_4] at HU
   have hb0 : Below w.heap.size w (w.alloc (.cells #[.int .i64 4, .int .i64 p, .bool false, .int .i64 0] 37)) := (Below.refl _ _).alloc (Nat.le_refl _) _
   have t0 : Var (w.alloc (.cells #[.int .i64 4, .int .i64 p, .bool false, .int .i64 0] 37)) w.heap.size [.int .i64 4, .int .i64 p, .bool false, .int .i64 0] := Var.new w [.int .i64 4, .int .i64 p, .bool false, .int .i64 0] 37
   have hz : w.heap.size < (w.alloc (.cells #[.int .i64 4, .int .i64 p, .bool false, .int .i64 0] 37)).heap.size := by simp
   go_enter Tryz.func124, Tryz.ntmps124
   go_wp2_with fail
   generalize w.alloc (.cells #[.int .i64 4, .int .i64 p, .bool false, .int .i64 0] 37) = W0 at t0 hb0 hz ⊢
   refine (HU.out _).mono ?_
   rintro e w1 ⟨rfl, hb1⟩
   have hb := btr hb0 hb1
   have T := t0.below hb1 hz
   have hz1 : w.heap.size < w1.heap.size := T.2
   clear hb0 hb1 t0 hz HU
   have as0 := as_halt_no (.agg #[])
   have as1 := as_halt_fault (.agg #[])
   have as2 := as_halt_call (.agg #[])
   have as3 := as_halt_out (.agg #[])
   have as4 := as_halt_halt (.agg #[])
   have hA : Below w1.heap.size w1 (w1.alloc (.cells #[] 145)) := (Below.refl _ _).alloc (Nat.le_refl _) _
   have T2 := T.below hA hz1
   have v0 := T2.cell 0 (v := .int .i64 4) rfl
   have v1 := T2.cell 1 (v := .int .i64 p) rfl
   have v2 := T2.cell 2 (v := .bool false) rfl
   have v3 := T2.cell 3 (v := .int .i64 0) rfl
   have HB := Lib.hid (btr hb hA)
   clear T T2 hA hb hz1
   go_wp2_with fail
   go_ret
   exact ⟨by rw [HV.out]; rfl, HB.out⟩
  ·
   have hp' : (p == 0) = false := by simpa using hp
   subst hn
   have HV := Lib.hid (show exitOk (4, p, true, 0) = false from by simp [exitOk, hp])
   have HU := Lib.hid (fun V : World => impl_usedBy 4 p true 0 V)
   rw [usedV_4] at HU
   have hb0 : Below w.heap.size w (w.alloc (.cells #[.int .i64 4, .int .i64 p, .bool true, .int .i64 0] 37)) := (Below.refl _ _).alloc (Nat.le_refl _) _
   have t0 : Var (w.alloc (.cells #[.int .i64 4, .int .i64 p, .bool true, .int .i64 0] 37)) w.heap.size [.int .i64 4, .int .i64 p, .bool true, .int .i64 0] := Var.new w [.int .i64 4, .int .i64 p, .bool true, .int .i64 0] 37
   have hz : w.heap.size < (w.alloc (.cells #[.int .i64 4, .int .i64 p, .bool true, .int .i64 0] 37)).heap.size := by simp
   go_enter Tryz.func124, Tryz.ntmps124
   go_wp2_with fail
   generalize w.alloc (.cells #[.int .i64 4, .int .i64 p, .bool true, .int .i64 0] 37) = W0 at t0 hb0 hz ⊢
   refine (HU.out _).mono ?_
   rintro e w1 ⟨rfl, hb1⟩
   have hb := btr hb0 hb1
   have T := t0.below hb1 hz
   have hz1 : w.heap.size < w1.heap.size := T.2
   clear hb0 hb1 t0 hz HU
   have as0 := as_halt_no (.agg #[])
   have as1 := as_halt_fault (.agg #[])
   have as2 := as_halt_call (.agg #[])
   have as3 := as_halt_out (.agg #[])
   have as4 := as_halt_halt (.agg #[])
   have hA : Below w1.heap.size w1 (w1.alloc (.cells #[] 145)) := (Below.refl _ _).alloc (Nat.le_refl _) _
   have T2 := T.below hA hz1
   have v0 := T2.cell 0 (v := .int .i64 4) rfl
   have v1 := T2.cell 1 (v := .int .i64 p) rfl
   have v2 := T2.cell 2 (v := .bool true) rfl
   have v3 := T2.cell 3 (v := .int .i64 0) rfl
   have HB := Lib.hid (btr hb hA)
   clear T T2 hA hb hz1
   go_wp2_with fail
   go_ret
   exact ⟨by rw [HV.out]; rfl, HB.out⟩
  ·
   have hp' : (p == 0) = false := by simpa using hp
   have hn' : (n == 0) = false := by simpa using hn
   have HV := Lib.hid (show exitOk (4, p, false, n) = false from by simp [exitOk, hp, hn])
   have HU := Lib.hid (fun V : World => impl_usedBy 4 p false n V)
   rw [usedV_4] at HU
   have hb0 : Below w.heap.size w (w.alloc (.cells #[.int .i64 4, .int .i64 p, .bool false, .int .i64 n] 37)) := (Below.refl _ _).alloc (Nat.le_refl _) _
   have t0 : Var (w.alloc (.cells #[.int .i64 4, .int .i64 p, .bool false, .int .i64 n] 37)) w.heap.size [.int .i64 4, .int .i64 p, .bool false, .int .i64 n] := Var.new w [.int .i64 4, .int .i64 p, .bool false, .int .i64 n] 37
   have hz : w.heap.size < (w.alloc (.cells #[.int .i64 4, .int .i64 p, .bool false, .int .i64 n] 37)).heap.size := by simp
   go_enter Tryz.func124, Tryz.ntmps124
   go_wp2_with fail
   generalize w.alloc (.cells #[.int .i64 4, .int .i64 p, .bool false, .int .i64 n] 37) = W0 at t0 hb0 hz ⊢
   refine (HU.out _).mono ?_
   rintro e w1 ⟨rfl, hb1⟩
   have hb := btr hb0 hb1
   have T := t0.below hb1 hz
   have hz1 : w.heap.size < w1.heap.size := T.2
   clear hb0 hb1 t0 hz HU
   have as0 := as_halt_no (.agg #[])
   have as1 := as_halt_fault (.agg #[])
   have as2 := as_halt_call (.agg #[])
   have as3 := as_halt_out (.agg #[])
   have as4 := as_halt_halt (.agg #[])
   have hA : Below w1.heap.size w1 (w1.alloc (.cells #[] 145)) := (Below.refl _ _).alloc (Nat.le_refl _) _
   have T2 := T.below hA hz1
   have v0 := T2.cell 0 (v := .int .i64 4) rfl
   have v1 := T2.cell 1 (v := .int .i64 p) rfl
   have v2 := T2.cell 2 (v := .bool false) rfl
   have v3 := T2.cell 3 (v := .int .i64 n) rfl
   have HB := Lib.hid (btr hb hA)
   clear T T2 hA hb hz1
   go_wp2_with fail
   go_ret
   exact ⟨by rw [HV.out]; rfl, HB.out⟩
  ·
   have hp' : (p == 0) = false := by simpa using hp
   have hn' : (n == 0) = false := by simpa using hn
   have HV := Lib.hid (show exitOk (4, p, true, n) = false from by simp [exitOk, hp, hn])
   have HU := Lib.hid (fun V : World => impl_usedBy 4 p true n V)
   rw [usedV_4] at HU
   have hb0 : Below w.heap.size w (w.alloc (.cells #[.int .i64 4, .int .i64 p, .bool true, .int .i64 n] 37)) := (Below.refl _ _).alloc (Nat.le_refl _) _
   have t0 : Var (w.alloc (.cells #[.int .i64 4, .int .i64 p, .bool true, .int .i64 n] 37)) w.heap.size [.int .i64 4, .int .i64 p, .bool true, .int .i64 n] := Var.new w [.int .i64 4, .int .i64 p, .bool true, .int .i64 n] 37
   have hz : w.heap.size < (w.alloc (.cells #[.int .i64 4, .int .i64 p, .bool true, .int .i64 n] 37)).heap.size := by simp
   go_enter Tryz.func124, Tryz.ntmps124
   go_wp2_with fail
   generalize w.alloc (.cells #[.int .i64 4, .int .i64 p, .bool true, .int .i64 n] 37) = W0 at t0 hb0 hz ⊢
   refine (HU.out _).mono ?_
   rintro e w1 ⟨rfl, hb1⟩
   have hb := btr hb0 hb1
   have T := t0.below hb1 hz
   have hz1 : w.heap.size < w1.heap.size := T.2
   clear hb0 hb1 t0 hz HU
   have as0 := as_halt_no (.agg #[])
   have as1 := as_halt_fault (.agg #[])
   have as2 := as_halt_call (.agg #[])
   have as3 := as_halt_out (.agg #[])
   have as4 := as_halt_halt (.agg #[])
   have hA : Below w1.heap.size w1 (w1.alloc (.cells #[] 145)) := (Below.refl _ _).alloc (Nat.le_refl _) _
   have T2 := T.below hA hz1
   have v0 := T2.cell 0 (v := .int .i64 4) rfl
   have v1 := T2.cell 1 (v := .int .i64 p) rfl
   have v2 := T2.cell 2 (v := .bool true) rfl
   have v3 := T2.cell 3 (v := .int .i64 n) rfl
   have HB := Lib.hid (btr hb hA)
   clear T T2 hA hb hz1
   go_wp2_with fail
   go_ret
   exact ⟨by rw [HV.out]; rfl, HB.out⟩
 ·
  have HM := Lib.hid (fun V : World => impl_fault' p q V)
  unfold ExitP at HM
  dsimp only at HM
  by_cases h0 : p < 0
  ·
   have HV := Lib.hid (show exitOk (1, p, q, n) = false from by simp [exitOk, inB_false.2 (show p < 0 ∨ 3 < p from .inl h0)])
   have h9 : ¬ p ≥ 0 := by omega
   have h8 : decide (p ≥ 0) = false := decide_eq_false h9
   clear h0 HM
   have HU := Lib.hid (fun V : World => impl_usedBy 1 p q n V)
   rw [usedV_1] at HU
   have hb0 : Below w.heap.size w (w.alloc (.cells #[.int .i64 1, .int .i64 p, .bool q, .int .i64 n] 37)) := (Below.refl _ _).alloc (Nat.le_refl _) _
   have t0 : Var (w.alloc (.cells #[.int .i64 1, .int .i64 p, .bool q, .int .i64 n] 37)) w.heap.size [.int .i64 1, .int .i64 p, .bool q, .int .i64 n] := Var.new w [.int .i64 1, .int .i64 p, .bool q, .int .i64 n] 37
   have hz : w.heap.size < (w.alloc (.cells #[.int .i64 1, .int .i64 p, .bool q, .int .i64 n] 37)).heap.size := by simp
   go_enter Tryz.func124, Tryz.ntmps124
   go_wp2_with fail
   generalize w.alloc (.cells #[.int .i64 1, .int .i64 p, .bool q, .int .i64 n] 37) = W0 at t0 hb0 hz ⊢
   refine (HU.out _).mono ?_
   rintro e w1 ⟨rfl, hb1⟩
   have hb := btr hb0 hb1
   have T := t0.below hb1 hz
   have hz1 : w.heap.size < w1.heap.size := T.2
   clear hb0 hb1 t0 hz HU
   have as0 := as_fault_no (.agg #[.int .i64 p, .bool q])
   have as1 := as_fault_fault (.agg #[.int .i64 p, .bool q])
   have t2 : Var (w1.alloc (.cells #[.int .i64 p, .bool q] 141)) w1.heap.size [.int .i64 p, .bool q] := Var.new w1 [.int .i64 p, .bool q] 141
   have hA : Below w1.heap.size w1 (w1.alloc (.cells #[.int .i64 p, .bool q] 141)) := (Below.refl _ _).alloc (Nat.le_refl _) _
   have hB2 := btr hb hA
   have T2 := T.below hA hz1
   have hz2 : w1.heap.size < (w1.alloc (.cells #[.int .i64 p, .bool q] 141)).heap.size := by simp
   have hz3 : w.heap.size < (w1.alloc (.cells #[.int .i64 p, .bool q] 141)).heap.size := Nat.lt_trans hz1 hz2
   clear T hA hb
   go_wp2_with fail
   generalize w1.alloc (.cells #[.int .i64 p, .bool q] 141) = W2 at t2 T2 hB2 hz2 hz3 ⊢
   refine Ord.wp_region_ord (fun w' => w'.cell? ⟨w.heap.size, 0, none⟩ = some (.int .i64 1) ∧ w'.cell? ⟨w.heap.size, 1, none⟩ = some (.int .i64 p) ∧ w'.cell? ⟨w.heap.size, 2, none⟩ = some (.bool q) ∧ w'.cell? ⟨w.heap.size, 3, none⟩ = some (.int .i64 n) ∧ w'.cell? ⟨w1.heap.size, 0, none⟩ = some (.int .i64 p) ∧ w'.cell? ⟨w1.heap.size, 1, none⟩ = some (.bool q)) [(0, true), (1, true), (2, true), (3, true), (4, true), (5, true), (6, true), (7, true), (8, true), (9, true), (10, true), (11, true), (12, true), (13, true), (14, false), (15, true), (16, true), (17, true)] (by kernel_rfl) (by kernel_rfl) rfl (by kernel_rfl) (⟨T2.cell 0 (v := .int .i64 1) rfl, T2.cell 1 (v := .int .i64 p) rfl, T2.cell 2 (v := .bool q) rfl, T2.cell 3 (v := .int .i64 n) rfl, t2.cell 0 (v := .int .i64 p) rfl, t2.cell 1 (v := .bool q) rfl⟩) ?_
   simp only [Ord.ordOps, List.getElem?_toArray, List.getElem?_cons_zero, List.getElem?_cons_succ]
   repeat (first
    | (refine Ord.ord_plain (v := ?_) rfl (fun w' hS => ?_) ?_; rotate_left; (focus ((try dsimp only at hS); go_simp; first | done | with_reducible rfl)); simp only [Act.put, List.setIfInBounds_toArray, List.set_cons_zero, List.set_cons_succ])
    | (refine Ord.ord_skip (by rfl) ?_; simp only [Act.put, List.setIfInBounds_toArray, List.set_cons_zero, List.set_cons_succ])
    | (refine Ord.ord_take (v := ?_) (by rfl) (fun w' hS => ?_) ?_; rotate_left; (focus ((try dsimp only at hS); go_simp; first | done | with_reducible rfl)); simp only [Act.put, List.setIfInBounds_toArray, List.set_cons_zero, List.set_cons_succ]))
   have hbd : Below W2.heap.size W2 W2.drew := (Below.refl _ _).drew
   have hB3 := btr hB2 hbd
   have T3 := T2.below hbd hz3
   have t3 := t2.below hbd hz2
   have hz4 : W2.heap.size ≤ W2.drew.heap.size := hbd.size
   clear hbd
   refine Ord.ord_not (by rfl) (fun K hK => ?_)
   simp only [Act.put, List.setIfInBounds_toArray, List.set_cons_zero, List.set_cons_succ]
   refine hK.out _ _ (⟨T3.cell 0 (v := .int .i64 1) rfl, T3.cell 1 (v := .int .i64 p) rfl, T3.cell 2 (v := .bool q) rfl, T3.cell 3 (v := .int .i64 n) rfl, t3.cell 0 (v := .int .i64 p) rfl, t3.cell 1 (v := .bool q) rfl⟩) ?_
   clear hK K
   repeat (first
    | (refine Ord.ord_plain (v := ?_) rfl (fun w' hS => ?_) ?_; rotate_left; (focus ((try dsimp only at hS); go_simp; first | done | with_reducible rfl)); simp only [Act.put, List.setIfInBounds_toArray, List.set_cons_zero, List.set_cons_succ])
    | (refine Ord.ord_skip (by rfl) ?_; simp only [Act.put, List.setIfInBounds_toArray, List.set_cons_zero, List.set_cons_succ])
    | (refine Ord.ord_take (v := ?_) (by rfl) (fun w' hS => ?_) ?_; rotate_left; (focus ((try dsimp only at hS); go_simp; first | done | with_reducible rfl)); simp only [Act.put, List.setIfInBounds_toArray, List.set_cons_zero, List.set_cons_succ]))
   refine Ord.ord_nil ?_
   have HBF := Lib.hid hB3
   clear hB2 hB3
   go_wp2_with fail
   go_ret
   exact ⟨by rw [HV.out]; rfl, HBF.out⟩
  ·
   by_cases h1 : p < 4
   ·
    by_cases hn : n = 0
    ·
     subst hn
     have HV := Lib.hid (show exitOk (1, p, q, 0) = true from by simp [exitOk, inB_iff.2 (show 0 ≤ p ∧ p ≤ 3 from ⟨by omega, by omega⟩)])
     have h9 : p ≥ 0 := by omega
     clear h0
     have HU := Lib.hid (fun V : World => impl_usedBy 1 p q 0 V)
     rw [usedV_1] at HU
     have hb0 : Below w.heap.size w (w.alloc (.cells #[.int .i64 1, .int .i64 p, .bool q, .int .i64 0] 37)) := (Below.refl _ _).alloc (Nat.le_refl _) _
     have t0 : Var (w.alloc (.cells #[.int .i64 1, .int .i64 p, .bool q, .int .i64 0] 37)) w.heap.size [.int .i64 1, .int .i64 p, .bool q, .int .i64 0] := Var.new w [.int .i64 1, .int .i64 p, .bool q, .int .i64 0] 37
     have hz : w.heap.size < (w.alloc (.cells #[.int .i64 1, .int .i64 p, .bool q, .int .i64 0] 37)).heap.size := by simp
     go_enter Tryz.func124, Tryz.ntmps124
     go_wp2_with fail
     generalize w.alloc (.cells #[.int .i64 1, .int .i64 p, .bool q, .int .i64 0] 37) = W0 at t0 hb0 hz ⊢
     refine (HU.out _).mono ?_
     rintro e w1 ⟨rfl, hb1⟩
     have hb := btr hb0 hb1
     have T := t0.below hb1 hz
     have hz1 : w.heap.size < w1.heap.size := T.2
     clear hb0 hb1 t0 hz HU
     have as0 := as_fault_no (.agg #[.int .i64 p, .bool q])
     have as1 := as_fault_fault (.agg #[.int .i64 p, .bool q])
     have t2 : Var (w1.alloc (.cells #[.int .i64 p, .bool q] 141)) w1.heap.size [.int .i64 p, .bool q] := Var.new w1 [.int .i64 p, .bool q] 141
     have hA : Below w1.heap.size w1 (w1.alloc (.cells #[.int .i64 p, .bool q] 141)) := (Below.refl _ _).alloc (Nat.le_refl _) _
     have hB2 := btr hb hA
     have T2 := T.below hA hz1
     have hz2 : w1.heap.size < (w1.alloc (.cells #[.int .i64 p, .bool q] 141)).heap.size := by simp
     have hz3 : w.heap.size < (w1.alloc (.cells #[.int .i64 p, .bool q] 141)).heap.size := Nat.lt_trans hz1 hz2
     clear T hA hb
     go_wp2_with fail
     generalize w1.alloc (.cells #[.int .i64 p, .bool q] 141) = W2 at t2 T2 hB2 hz2 hz3 ⊢
     refine Ord.wp_region_ord (fun w' => w'.cell? ⟨w.heap.size, 0, none⟩ = some (.int .i64 1) ∧ w'.cell? ⟨w.heap.size, 1, none⟩ = some (.int .i64 p) ∧ w'.cell? ⟨w.heap.size, 2, none⟩ = some (.bool q) ∧ w'.cell? ⟨w.heap.size, 3, none⟩ = some (.int .i64 0) ∧ w'.cell? ⟨w1.heap.size, 0, none⟩ = some (.int .i64 p) ∧ w'.cell? ⟨w1.heap.size, 1, none⟩ = some (.bool q)) [(0, true), (1, true), (2, true), (3, true), (4, true), (5, true), (6, true), (7, true), (8, true), (9, true), (10, true), (11, true), (12, true), (13, true), (14, false), (15, true), (16, true), (17, true)] (by kernel_rfl) (by kernel_rfl) rfl (by kernel_rfl) (⟨T2.cell 0 (v := .int .i64 1) rfl, T2.cell 1 (v := .int .i64 p) rfl, T2.cell 2 (v := .bool q) rfl, T2.cell 3 (v := .int .i64 0) rfl, t2.cell 0 (v := .int .i64 p) rfl, t2.cell 1 (v := .bool q) rfl⟩) ?_
     simp only [Ord.ordOps, List.getElem?_toArray, List.getElem?_cons_zero, List.getElem?_cons_succ]
     repeat (first
      | (refine Ord.ord_plain (v := ?_) rfl (fun w' hS => ?_) ?_; rotate_left; (focus ((try dsimp only at hS); go_simp; first | done | with_reducible rfl)); simp only [Act.put, List.setIfInBounds_toArray, List.set_cons_zero, List.set_cons_succ])
      | (refine Ord.ord_skip (by rfl) ?_; simp only [Act.put, List.setIfInBounds_toArray, List.set_cons_zero, List.set_cons_succ])
      | (refine Ord.ord_take (v := ?_) (by rfl) (fun w' hS => ?_) ?_; rotate_left; (focus ((try dsimp only at hS); go_simp; first | done | with_reducible rfl)); simp only [Act.put, List.setIfInBounds_toArray, List.set_cons_zero, List.set_cons_succ]))
     have hbd : Below W2.heap.size W2 W2.drew := (Below.refl _ _).drew
     have hB3 := btr hB2 hbd
     have T3 := T2.below hbd hz3
     have t3 := t2.below hbd hz2
     have hz4 : W2.heap.size ≤ W2.drew.heap.size := hbd.size
     clear hbd
     refine Ord.ord_call (fun K hK => ?_)
     go_simp
     refine (HM.out _).mono ?_
     rintro e v4' ⟨rfl, hb4⟩
     have hB4 := btr hB3 hb4
     have T4 := T3.below hb4 (by omega)
     have t4 := t3.below hb4 (by omega)
     have hy4 := hb4.size
     refine hK.out _ _ (⟨T4.cell 0 (v := .int .i64 1) rfl, T4.cell 1 (v := .int .i64 p) rfl, T4.cell 2 (v := .bool q) rfl, T4.cell 3 (v := .int .i64 0) rfl, t4.cell 0 (v := .int .i64 p) rfl, t4.cell 1 (v := .bool q) rfl⟩) ?_
     clear hK K
     repeat (first
      | (refine Ord.ord_plain (v := ?_) rfl (fun w' hS => ?_) ?_; rotate_left; (focus ((try dsimp only at hS); go_simp; first | done | with_reducible rfl)); simp only [Act.put, List.setIfInBounds_toArray, List.set_cons_zero, List.set_cons_succ])
      | (refine Ord.ord_skip (by rfl) ?_; simp only [Act.put, List.setIfInBounds_toArray, List.set_cons_zero, List.set_cons_succ])
      | (refine Ord.ord_take (v := ?_) (by rfl) (fun w' hS => ?_) ?_; rotate_left; (focus ((try dsimp only at hS); go_simp; first | done | with_reducible rfl)); simp only [Act.put, List.setIfInBounds_toArray, List.set_cons_zero, List.set_cons_succ]))
     refine Ord.ord_nil ?_
     have HBF := Lib.hid hB4
     clear hB2 hB3 hB4
     go_wp2_with fail
     go_ret
     exact ⟨by rw [HV.out]; rfl, HBF.out⟩
    ·
     have hn' : (n == 0) = false := by simpa using hn
     have HV := Lib.hid (show exitOk (1, p, q, n) = false from by simp [exitOk, inB_iff.2 (show 0 ≤ p ∧ p ≤ 3 from ⟨by omega, by omega⟩), hn])
     have h9 : p ≥ 0 := by omega
     clear h0 hn
     have HU := Lib.hid (fun V : World => impl_usedBy 1 p q n V)
     rw [usedV_1] at HU
     have hb0 : Below w.heap.size w (w.alloc (.cells #[.int .i64 1, .int .i64 p, .bool q, .int .i64 n] 37)) := (Below.refl _ _).alloc (Nat.le_refl _) _
     have t0 : Var (w.alloc (.cells #[.int .i64 1, .int .i64 p, .bool q, .int .i64 n] 37)) w.heap.size [.int .i64 1, .int .i64 p, .bool q, .int .i64 n] := Var.new w [.int .i64 1, .int .i64 p, .bool q, .int .i64 n] 37
     have hz : w.heap.size < (w.alloc (.cells #[.int .i64 1, .int .i64 p, .bool q, .int .i64 n] 37)).heap.size := by simp
     go_enter Tryz.func124, Tryz.ntmps124
     go_wp2_with fail
     generalize w.alloc (.cells #[.int .i64 1, .int .i64 p, .bool q, .int .i64 n] 37) = W0 at t0 hb0 hz ⊢
     refine (HU.out _).mono ?_
     rintro e w1 ⟨rfl, hb1⟩
     have hb := btr hb0 hb1
     have T := t0.below hb1 hz
     have hz1 : w.heap.size < w1.heap.size := T.2
     clear hb0 hb1 t0 hz HU
     have as0 := as_fault_no (.agg #[.int .i64 p, .bool q])
     have as1 := as_fault_fault (.agg #[.int .i64 p, .bool q])
     have t2 : Var (w1.alloc (.cells #[.int .i64 p, .bool q] 141)) w1.heap.size [.int .i64 p, .bool q] := Var.new w1 [.int .i64 p, .bool q] 141
     have hA : Below w1.heap.size w1 (w1.alloc (.cells #[.int .i64 p, .bool q] 141)) := (Below.refl _ _).alloc (Nat.le_refl _) _
     have hB2 := btr hb hA
     have T2 := T.below hA hz1
     have hz2 : w1.heap.size < (w1.alloc (.cells #[.int .i64 p, .bool q] 141)).heap.size := by simp
     have hz3 : w.heap.size < (w1.alloc (.cells #[.int .i64 p, .bool q] 141)).heap.size := Nat.lt_trans hz1 hz2
     clear T hA hb
     go_wp2_with fail
     generalize w1.alloc (.cells #[.int .i64 p, .bool q] 141) = W2 at t2 T2 hB2 hz2 hz3 ⊢
     refine Ord.wp_region_ord (fun w' => w'.cell? ⟨w.heap.size, 0, none⟩ = some (.int .i64 1) ∧ w'.cell? ⟨w.heap.size, 1, none⟩ = some (.int .i64 p) ∧ w'.cell? ⟨w.heap.size, 2, none⟩ = some (.bool q) ∧ w'.cell? ⟨w.heap.size, 3, none⟩ = some (.int .i64 n) ∧ w'.cell? ⟨w1.heap.size, 0, none⟩ = some (.int .i64 p) ∧ w'.cell? ⟨w1.heap.size, 1, none⟩ = some (.bool q)) [(0, true), (1, true), (2, true), (3, true), (4, true), (5, true), (6, true), (7, true), (8, true), (9, true), (10, true), (11, true), (12, true), (13, true), (14, false), (15, true), (16, true), (17, true)] (by kernel_rfl) (by kernel_rfl) rfl (by kernel_rfl) (⟨T2.cell 0 (v := .int .i64 1) rfl, T2.cell 1 (v := .int .i64 p) rfl, T2.cell 2 (v := .bool q) rfl, T2.cell 3 (v := .int .i64 n) rfl, t2.cell 0 (v := .int .i64 p) rfl, t2.cell 1 (v := .bool q) rfl⟩) ?_
     simp only [Ord.ordOps, List.getElem?_toArray, List.getElem?_cons_zero, List.getElem?_cons_succ]
     repeat (first
      | (refine Ord.ord_plain (v := ?_) rfl (fun w' hS => ?_) ?_; rotate_left; (focus ((try dsimp only at hS); go_simp; first | done | with_reducible rfl)); simp only [Act.put, List.setIfInBounds_toArray, List.set_cons_zero, List.set_cons_succ])
      | (refine Ord.ord_skip (by rfl) ?_; simp only [Act.put, List.setIfInBounds_toArray, List.set_cons_zero, List.set_cons_succ])
      | (refine Ord.ord_take (v := ?_) (by rfl) (fun w' hS => ?_) ?_; rotate_left; (focus ((try dsimp only at hS); go_simp; first | done | with_reducible rfl)); simp only [Act.put, List.setIfInBounds_toArray, List.set_cons_zero, List.set_cons_succ]))
     have hbd : Below W2.heap.size W2 W2.drew := (Below.refl _ _).drew
     have hB3 := btr hB2 hbd
     have T3 := T2.below hbd hz3
     have t3 := t2.below hbd hz2
     have hz4 : W2.heap.size ≤ W2.drew.heap.size := hbd.size
     clear hbd
     refine Ord.ord_call (fun K hK => ?_)
     go_simp
     refine (HM.out _).mono ?_
     rintro e v4' ⟨rfl, hb4⟩
     have hB4 := btr hB3 hb4
     have T4 := T3.below hb4 (by omega)
     have t4 := t3.below hb4 (by omega)
     have hy4 := hb4.size
     refine hK.out _ _ (⟨T4.cell 0 (v := .int .i64 1) rfl, T4.cell 1 (v := .int .i64 p) rfl, T4.cell 2 (v := .bool q) rfl, T4.cell 3 (v := .int .i64 n) rfl, t4.cell 0 (v := .int .i64 p) rfl, t4.cell 1 (v := .bool q) rfl⟩) ?_
     clear hK K
     repeat (first
      | (refine Ord.ord_plain (v := ?_) rfl (fun w' hS => ?_) ?_; rotate_left; (focus ((try dsimp only at hS); go_simp; first | done | with_reducible rfl)); simp only [Act.put, List.setIfInBounds_toArray, List.set_cons_zero, List.set_cons_succ])
      | (refine Ord.ord_skip (by rfl) ?_; simp only [Act.put, List.setIfInBounds_toArray, List.set_cons_zero, List.set_cons_succ])
      | (refine Ord.ord_take (v := ?_) (by rfl) (fun w' hS => ?_) ?_; rotate_left; (focus ((try dsimp only at hS); go_simp; first | done | with_reducible rfl)); simp only [Act.put, List.setIfInBounds_toArray, List.set_cons_zero, List.set_cons_succ]))
     refine Ord.ord_nil ?_
     have HBF := Lib.hid hB4
     clear hB2 hB3 hB4
     go_wp2_with fail
     go_ret
     exact ⟨by rw [HV.out]; rfl, HBF.out⟩
   ·
    have HV := Lib.hid (show exitOk (1, p, q, n) = false from by simp [exitOk, inB_false.2 (show p < 0 ∨ 3 < p from .inr (by omega))])
    have h9 : p ≥ 0 := by omega
    have h8 : decide (p < 4) = false := decide_eq_false h1
    clear h0 HM
    have HU := Lib.hid (fun V : World => impl_usedBy 1 p q n V)
    rw [usedV_1] at HU
    have hb0 : Below w.heap.size w (w.alloc (.cells #[.int .i64 1, .int .i64 p, .bool q, .int .i64 n] 37)) := (Below.refl _ _).alloc (Nat.le_refl _) _
    have t0 : Var (w.alloc (.cells #[.int .i64 1, .int .i64 p, .bool q, .int .i64 n] 37)) w.heap.size [.int .i64 1, .int .i64 p, .bool q, .int .i64 n] := Var.new w [.int .i64 1, .int .i64 p, .bool q, .int .i64 n] 37
    have hz : w.heap.size < (w.alloc (.cells #[.int .i64 1, .int .i64 p, .bool q, .int .i64 n] 37)).heap.size := by simp
    go_enter Tryz.func124, Tryz.ntmps124
    go_wp2_with fail
    generalize w.alloc (.cells #[.int .i64 1, .int .i64 p, .bool q, .int .i64 n] 37) = W0 at t0 hb0 hz ⊢
    refine (HU.out _).mono ?_
    rintro e w1 ⟨rfl, hb1⟩
    have hb := btr hb0 hb1
    have T := t0.below hb1 hz
    have hz1 : w.heap.size < w1.heap.size := T.2
    clear hb0 hb1 t0 hz HU
    have as0 := as_fault_no (.agg #[.int .i64 p, .bool q])
    have as1 := as_fault_fault (.agg #[.int .i64 p, .bool q])
    have t2 : Var (w1.alloc (.cells #[.int .i64 p, .bool q] 141)) w1.heap.size [.int .i64 p, .bool q] := Var.new w1 [.int .i64 p, .bool q] 141
    have hA : Below w1.heap.size w1 (w1.alloc (.cells #[.int .i64 p, .bool q] 141)) := (Below.refl _ _).alloc (Nat.le_refl _) _
    have hB2 := btr hb hA
    have T2 := T.below hA hz1
    have hz2 : w1.heap.size < (w1.alloc (.cells #[.int .i64 p, .bool q] 141)).heap.size := by simp
    have hz3 : w.heap.size < (w1.alloc (.cells #[.int .i64 p, .bool q] 141)).heap.size := Nat.lt_trans hz1 hz2
    clear T hA hb
    go_wp2_with fail
    generalize w1.alloc (.cells #[.int .i64 p, .bool q] 141) = W2 at t2 T2 hB2 hz2 hz3 ⊢
    refine Ord.wp_region_ord (fun w' => w'.cell? ⟨w.heap.size, 0, none⟩ = some (.int .i64 1) ∧ w'.cell? ⟨w.heap.size, 1, none⟩ = some (.int .i64 p) ∧ w'.cell? ⟨w.heap.size, 2, none⟩ = some (.bool q) ∧ w'.cell? ⟨w.heap.size, 3, none⟩ = some (.int .i64 n) ∧ w'.cell? ⟨w1.heap.size, 0, none⟩ = some (.int .i64 p) ∧ w'.cell? ⟨w1.heap.size, 1, none⟩ = some (.bool q)) [(0, true), (1, true), (2, true), (3, true), (4, true), (5, true), (6, true), (7, true), (8, true), (9, true), (10, true), (11, true), (12, true), (13, true), (14, false), (15, true), (16, true), (17, true)] (by kernel_rfl) (by kernel_rfl) rfl (by kernel_rfl) (⟨T2.cell 0 (v := .int .i64 1) rfl, T2.cell 1 (v := .int .i64 p) rfl, T2.cell 2 (v := .bool q) rfl, T2.cell 3 (v := .int .i64 n) rfl, t2.cell 0 (v := .int .i64 p) rfl, t2.cell 1 (v := .bool q) rfl⟩) ?_
    simp only [Ord.ordOps, List.getElem?_toArray, List.getElem?_cons_zero, List.getElem?_cons_succ]
    repeat (first
     | (refine Ord.ord_plain (v := ?_) rfl (fun w' hS => ?_) ?_; rotate_left; (focus ((try dsimp only at hS); go_simp; first | done | with_reducible rfl)); simp only [Act.put, List.setIfInBounds_toArray, List.set_cons_zero, List.set_cons_succ])
     | (refine Ord.ord_skip (by rfl) ?_; simp only [Act.put, List.setIfInBounds_toArray, List.set_cons_zero, List.set_cons_succ])
     | (refine Ord.ord_take (v := ?_) (by rfl) (fun w' hS => ?_) ?_; rotate_left; (focus ((try dsimp only at hS); go_simp; first | done | with_reducible rfl)); simp only [Act.put, List.setIfInBounds_toArray, List.set_cons_zero, List.set_cons_succ]))
    have hbd : Below W2.heap.size W2 W2.drew := (Below.refl _ _).drew
    have hB3 := btr hB2 hbd
    have T3 := T2.below hbd hz3
    have t3 := t2.below hbd hz2
    have hz4 : W2.heap.size ≤ W2.drew.heap.size := hbd.size
    clear hbd
    refine Ord.ord_not (by rfl) (fun K hK => ?_)
    simp only [Act.put, List.setIfInBounds_toArray, List.set_cons_zero, List.set_cons_succ]
    refine hK.out _ _ (⟨T3.cell 0 (v := .int .i64 1) rfl, T3.cell 1 (v := .int .i64 p) rfl, T3.cell 2 (v := .bool q) rfl, T3.cell 3 (v := .int .i64 n) rfl, t3.cell 0 (v := .int .i64 p) rfl, t3.cell 1 (v := .bool q) rfl⟩) ?_
    clear hK K
    repeat (first
     | (refine Ord.ord_plain (v := ?_) rfl (fun w' hS => ?_) ?_; rotate_left; (focus ((try dsimp only at hS); go_simp; first | done | with_reducible rfl)); simp only [Act.put, List.setIfInBounds_toArray, List.set_cons_zero, List.set_cons_succ])
     | (refine Ord.ord_skip (by rfl) ?_; simp only [Act.put, List.setIfInBounds_toArray, List.set_cons_zero, List.set_cons_succ])
     | (refine Ord.ord_take (v := ?_) (by rfl) (fun w' hS => ?_) ?_; rotate_left; (focus ((try dsimp only at hS); go_simp; first | done | with_reducible rfl)); simp only [Act.put, List.setIfInBounds_toArray, List.set_cons_zero, List.set_cons_succ]))
    refine Ord.ord_nil ?_
    have HBF := Lib.hid hB3
    clear hB2 hB3
    go_wp2_with fail
    go_ret
    exact ⟨by rw [HV.out]; rfl, HBF.out⟩
 ·
  have HM := Lib.hid (fun V : World => impl_call' n V)
  unfold ExitP at HM
  dsimp only at HM
  have hC := fun V : World => impl_cellOkE n V
  cases hi : inB n 0 99
  ·
   have HV := Lib.hid (show exitOk (2, p, q, n) = false from by simp [exitOk, hi])
   rw [hi] at hC
   have HC := Lib.hid hC
   clear hC HM hi
   have HU := Lib.hid (fun V : World => impl_usedBy 2 p q n V)
   rw [usedV_2] at HU
   have hb0 : Below w.heap.size w (w.alloc (.cells #[.int .i64 2, .int .i64 p, .bool q, .int .i64 n] 37)) := (Below.refl _ _).alloc (Nat.le_refl _) _
   have t0 : Var (w.alloc (.cells #[.int .i64 2, .int .i64 p, .bool q, .int .i64 n] 37)) w.heap.size [.int .i64 2, .int .i64 p, .bool q, .int .i64 n] := Var.new w [.int .i64 2, .int .i64 p, .bool q, .int .i64 n] 37
   have hz : w.heap.size < (w.alloc (.cells #[.int .i64 2, .int .i64 p, .bool q, .int .i64 n] 37)).heap.size := by simp
   go_enter Tryz.func124, Tryz.ntmps124
   go_wp2_with fail
   generalize w.alloc (.cells #[.int .i64 2, .int .i64 p, .bool q, .int .i64 n] 37) = W0 at t0 hb0 hz ⊢
   refine (HU.out _).mono ?_
   rintro e w1 ⟨rfl, hb1⟩
   have hb := btr hb0 hb1
   have T := t0.below hb1 hz
   have hz1 : w.heap.size < w1.heap.size := T.2
   clear hb0 hb1 t0 hz HU
   have as0 := as_call_no (.agg #[.int .i64 n])
   have as1 := as_call_fault (.agg #[.int .i64 n])
   have as2 := as_call_call (.agg #[.int .i64 n])
   have t2 : Var (w1.alloc (.cells #[.int .i64 n] 143)) w1.heap.size [.int .i64 n] := Var.new w1 [.int .i64 n] 143
   have hA : Below w1.heap.size w1 (w1.alloc (.cells #[.int .i64 n] 143)) := (Below.refl _ _).alloc (Nat.le_refl _) _
   have hB2 := btr hb hA
   have T2 := T.below hA hz1
   have hz2 : w1.heap.size < (w1.alloc (.cells #[.int .i64 n] 143)).heap.size := by simp
   have hz3 : w.heap.size < (w1.alloc (.cells #[.int .i64 n] 143)).heap.size := Nat.lt_trans hz1 hz2
   clear T hA hb
   go_wp2_with fail
   generalize w1.alloc (.cells #[.int .i64 n] 143) = W2 at t2 T2 hB2 hz2 hz3 ⊢
   refine Ord.wp_region_ord (fun w' => w'.cell? ⟨w.heap.size, 0, none⟩ = some (.int .i64 2) ∧ w'.cell? ⟨w.heap.size, 1, none⟩ = some (.int .i64 p) ∧ w'.cell? ⟨w.heap.size, 2, none⟩ = some (.bool q) ∧ w'.cell? ⟨w.heap.size, 3, none⟩ = some (.int .i64 n) ∧ w'.cell? ⟨w1.heap.size, 0, none⟩ = some (.int .i64 n)) [(0, true), (1, true), (2, false), (3, true), (4, true), (5, true), (6, true), (7, false), (8, true), (9, true), (10, true)] (by kernel_rfl) (by kernel_rfl) rfl (by kernel_rfl) (⟨T2.cell 0 (v := .int .i64 2) rfl, T2.cell 1 (v := .int .i64 p) rfl, T2.cell 2 (v := .bool q) rfl, T2.cell 3 (v := .int .i64 n) rfl, t2.cell 0 (v := .int .i64 n) rfl⟩) ?_
   simp only [Ord.ordOps, List.getElem?_toArray, List.getElem?_cons_zero, List.getElem?_cons_succ]
   repeat (first
    | (refine Ord.ord_plain (v := ?_) rfl (fun w' hS => ?_) ?_; rotate_left; (focus ((try dsimp only at hS); go_simp; first | done | with_reducible rfl)); simp only [Act.put, List.setIfInBounds_toArray, List.set_cons_zero, List.set_cons_succ])
    | (refine Ord.ord_skip (by rfl) ?_; simp only [Act.put, List.setIfInBounds_toArray, List.set_cons_zero, List.set_cons_succ])
    | (refine Ord.ord_take (v := ?_) (by rfl) (fun w' hS => ?_) ?_; rotate_left; (focus ((try dsimp only at hS); go_simp; first | done | with_reducible rfl)); simp only [Act.put, List.setIfInBounds_toArray, List.set_cons_zero, List.set_cons_succ]))
   have hbd : Below W2.heap.size W2 W2.drew := (Below.refl _ _).drew
   have hB3 := btr hB2 hbd
   have T3 := T2.below hbd hz3
   have t3 := t2.below hbd hz2
   have hz4 : W2.heap.size ≤ W2.drew.heap.size := hbd.size
   clear hbd
   refine Ord.ord_call (fun K hK => ?_)
   go_simp
   refine (HC.out _).mono ?_
   rintro e v4' ⟨rfl, hb4⟩
   have hB4 := btr hB3 hb4
   have T4 := T3.below hb4 (by omega)
   have t4 := t3.below hb4 (by omega)
   have hy4 := hb4.size
   refine hK.out _ _ (⟨T4.cell 0 (v := .int .i64 2) rfl, T4.cell 1 (v := .int .i64 p) rfl, T4.cell 2 (v := .bool q) rfl, T4.cell 3 (v := .int .i64 n) rfl, t4.cell 0 (v := .int .i64 n) rfl⟩) ?_
   clear hK K
   repeat (first
    | (refine Ord.ord_plain (v := ?_) rfl (fun w' hS => ?_) ?_; rotate_left; (focus ((try dsimp only at hS); go_simp; first | done | with_reducible rfl)); simp only [Act.put, List.setIfInBounds_toArray, List.set_cons_zero, List.set_cons_succ])
    | (refine Ord.ord_skip (by rfl) ?_; simp only [Act.put, List.setIfInBounds_toArray, List.set_cons_zero, List.set_cons_succ])
    | (refine Ord.ord_take (v := ?_) (by rfl) (fun w' hS => ?_) ?_; rotate_left; (focus ((try dsimp only at hS); go_simp; first | done | with_reducible rfl)); simp only [Act.put, List.setIfInBounds_toArray, List.set_cons_zero, List.set_cons_succ]))
   refine Ord.ord_not (by rfl) (fun K hK => ?_)
   simp only [Act.put, List.setIfInBounds_toArray, List.set_cons_zero, List.set_cons_succ]
   refine hK.out _ _ (⟨T4.cell 0 (v := .int .i64 2) rfl, T4.cell 1 (v := .int .i64 p) rfl, T4.cell 2 (v := .bool q) rfl, T4.cell 3 (v := .int .i64 n) rfl, t4.cell 0 (v := .int .i64 n) rfl⟩) ?_
   clear hK K
   repeat (first
    | (refine Ord.ord_plain (v := ?_) rfl (fun w' hS => ?_) ?_; rotate_left; (focus ((try dsimp only at hS); go_simp; first | done | with_reducible rfl)); simp only [Act.put, List.setIfInBounds_toArray, List.set_cons_zero, List.set_cons_succ])
    | (refine Ord.ord_skip (by rfl) ?_; simp only [Act.put, List.setIfInBounds_toArray, List.set_cons_zero, List.set_cons_succ])
    | (refine Ord.ord_take (v := ?_) (by rfl) (fun w' hS => ?_) ?_; rotate_left; (focus ((try dsimp only at hS); go_simp; first | done | with_reducible rfl)); simp only [Act.put, List.setIfInBounds_toArray, List.set_cons_zero, List.set_cons_succ]))
   refine Ord.ord_nil ?_
   have HBF := Lib.hid hB4
   clear hB2 hB3 hB4
   go_wp2_with fail
   go_ret
   exact ⟨by rw [HV.out]; rfl, HBF.out⟩
  ·
   rw [hi] at hC
   have HC := Lib.hid hC
   clear hC
   by_cases hp : p = 0 <;> cases q
   ·
    subst hp
    have HV := Lib.hid (show exitOk (2, 0, false, n) = true from by simp [exitOk, hi])
    clear hi
    have HU := Lib.hid (fun V : World => impl_usedBy 2 0 false n V)
    rw [usedV_2] at HU
    have hb0 : Below w.heap.size w (w.alloc (.cells #[.int .i64 2, .int .i64 0, .bool false, .int .i64 n] 37)) := (Below.refl _ _).alloc (Nat.le_refl _) _
    have t0 : Var (w.alloc (.cells #[.int .i64 2, .int .i64 0, .bool false, .int .i64 n] 37)) w.heap.size [.int .i64 2, .int .i64 0, .bool false, .int .i64 n] := Var.new w [.int .i64 2, .int .i64 0, .bool false, .int .i64 n] 37
    have hz : w.heap.size < (w.alloc (.cells #[.int .i64 2, .int .i64 0, .bool false, .int .i64 n] 37)).heap.size := by simp
    go_enter Tryz.func124, Tryz.ntmps124
    go_wp2_with fail
    generalize w.alloc (.cells #[.int .i64 2, .int .i64 0, .bool false, .int .i64 n] 37) = W0 at t0 hb0 hz ⊢
    refine (HU.out _).mono ?_
    rintro e w1 ⟨rfl, hb1⟩
    have hb := btr hb0 hb1
    have T := t0.below hb1 hz
    have hz1 : w.heap.size < w1.heap.size := T.2
    clear hb0 hb1 t0 hz HU
    have as0 := as_call_no (.agg #[.int .i64 n])
    have as1 := as_call_fault (.agg #[.int .i64 n])
    have as2 := as_call_call (.agg #[.int .i64 n])
    have t2 : Var (w1.alloc (.cells #[.int .i64 n] 143)) w1.heap.size [.int .i64 n] := Var.new w1 [.int .i64 n] 143
    have hA : Below w1.heap.size w1 (w1.alloc (.cells #[.int .i64 n] 143)) := (Below.refl _ _).alloc (Nat.le_refl _) _
    have hB2 := btr hb hA
    have T2 := T.below hA hz1
    have hz2 : w1.heap.size < (w1.alloc (.cells #[.int .i64 n] 143)).heap.size := by simp
    have hz3 : w.heap.size < (w1.alloc (.cells #[.int .i64 n] 143)).heap.size := Nat.lt_trans hz1 hz2
    clear T hA hb
    go_wp2_with fail
    generalize w1.alloc (.cells #[.int .i64 n] 143) = W2 at t2 T2 hB2 hz2 hz3 ⊢
    refine Ord.wp_region_ord (fun w' => w'.cell? ⟨w.heap.size, 0, none⟩ = some (.int .i64 2) ∧ w'.cell? ⟨w.heap.size, 1, none⟩ = some (.int .i64 0) ∧ w'.cell? ⟨w.heap.size, 2, none⟩ = some (.bool false) ∧ w'.cell? ⟨w.heap.size, 3, none⟩ = some (.int .i64 n) ∧ w'.cell? ⟨w1.heap.size, 0, none⟩ = some (.int .i64 n)) [(0, true), (1, true), (2, false), (3, true), (4, true), (5, true), (6, true), (7, false), (8, true), (9, true), (10, true)] (by kernel_rfl) (by kernel_rfl) rfl (by kernel_rfl) (⟨T2.cell 0 (v := .int .i64 2) rfl, T2.cell 1 (v := .int .i64 0) rfl, T2.cell 2 (v := .bool false) rfl, T2.cell 3 (v := .int .i64 n) rfl, t2.cell 0 (v := .int .i64 n) rfl⟩) ?_
    simp only [Ord.ordOps, List.getElem?_toArray, List.getElem?_cons_zero, List.getElem?_cons_succ]
    repeat (first
     | (refine Ord.ord_plain (v := ?_) rfl (fun w' hS => ?_) ?_; rotate_left; (focus ((try dsimp only at hS); go_simp; first | done | with_reducible rfl)); simp only [Act.put, List.setIfInBounds_toArray, List.set_cons_zero, List.set_cons_succ])
     | (refine Ord.ord_skip (by rfl) ?_; simp only [Act.put, List.setIfInBounds_toArray, List.set_cons_zero, List.set_cons_succ])
     | (refine Ord.ord_take (v := ?_) (by rfl) (fun w' hS => ?_) ?_; rotate_left; (focus ((try dsimp only at hS); go_simp; first | done | with_reducible rfl)); simp only [Act.put, List.setIfInBounds_toArray, List.set_cons_zero, List.set_cons_succ]))
    have hbd : Below W2.heap.size W2 W2.drew := (Below.refl _ _).drew
    have hB3 := btr hB2 hbd
    have T3 := T2.below hbd hz3
    have t3 := t2.below hbd hz2
    have hz4 : W2.heap.size ≤ W2.drew.heap.size := hbd.size
    clear hbd
    refine Ord.ord_call (fun K hK => ?_)
    go_simp
    refine (HC.out _).mono ?_
    rintro e v4' ⟨rfl, hb4⟩
    have hB4 := btr hB3 hb4
    have T4 := T3.below hb4 (by omega)
    have t4 := t3.below hb4 (by omega)
    have hy4 := hb4.size
    refine hK.out _ _ (⟨T4.cell 0 (v := .int .i64 2) rfl, T4.cell 1 (v := .int .i64 0) rfl, T4.cell 2 (v := .bool false) rfl, T4.cell 3 (v := .int .i64 n) rfl, t4.cell 0 (v := .int .i64 n) rfl⟩) ?_
    clear hK K
    repeat (first
     | (refine Ord.ord_plain (v := ?_) rfl (fun w' hS => ?_) ?_; rotate_left; (focus ((try dsimp only at hS); go_simp; first | done | with_reducible rfl)); simp only [Act.put, List.setIfInBounds_toArray, List.set_cons_zero, List.set_cons_succ])
     | (refine Ord.ord_skip (by rfl) ?_; simp only [Act.put, List.setIfInBounds_toArray, List.set_cons_zero, List.set_cons_succ])
     | (refine Ord.ord_take (v := ?_) (by rfl) (fun w' hS => ?_) ?_; rotate_left; (focus ((try dsimp only at hS); go_simp; first | done | with_reducible rfl)); simp only [Act.put, List.setIfInBounds_toArray, List.set_cons_zero, List.set_cons_succ]))
    refine Ord.ord_call (fun K hK => ?_)
    go_simp
    refine (HM.out _).mono ?_
    rintro e v5' ⟨rfl, hb5⟩
    have hB5 := btr hB4 hb5
    have T5 := T4.below hb5 (by omega)
    have t5 := t4.below hb5 (by omega)
    have hy5 := hb5.size
    refine hK.out _ _ (⟨T5.cell 0 (v := .int .i64 2) rfl, T5.cell 1 (v := .int .i64 0) rfl, T5.cell 2 (v := .bool false) rfl, T5.cell 3 (v := .int .i64 n) rfl, t5.cell 0 (v := .int .i64 n) rfl⟩) ?_
    clear hK K
    repeat (first
     | (refine Ord.ord_plain (v := ?_) rfl (fun w' hS => ?_) ?_; rotate_left; (focus ((try dsimp only at hS); go_simp; first | done | with_reducible rfl)); simp only [Act.put, List.setIfInBounds_toArray, List.set_cons_zero, List.set_cons_succ])
     | (refine Ord.ord_skip (by rfl) ?_; simp only [Act.put, List.setIfInBounds_toArray, List.set_cons_zero, List.set_cons_succ])
     | (refine Ord.ord_take (v := ?_) (by rfl) (fun w' hS => ?_) ?_; rotate_left; (focus ((try dsimp only at hS); go_simp; first | done | with_reducible rfl)); simp only [Act.put, List.setIfInBounds_toArray, List.set_cons_zero, List.set_cons_succ]))
    refine Ord.ord_nil ?_
    have HBF := Lib.hid hB5
    clear hB2 hB3 hB4 hB5
    go_wp2_with fail
    go_ret
    exact ⟨by rw [HV.out]; rfl, HBF.out⟩
   ·
    subst hp
    have HV := Lib.hid (show exitOk (2, 0, true, n) = false from by simp [exitOk, hi])
    clear hi
    have HU := Lib.hid (fun V : World => impl_usedBy 2 0 true n V)
    rw [usedV_2] at HU
    have hb0 : Below w.heap.size w (w.alloc (.cells #[.int .i64 2, .int .i64 0, .bool true, .int .i64 n] 37)) := (Below.refl _ _).alloc (Nat.le_refl _) _
    have t0 : Var (w.alloc (.cells #[.int .i64 2, .int .i64 0, .bool true, .int .i64 n] 37)) w.heap.size [.int .i64 2, .int .i64 0, .bool true, .int .i64 n] := Var.new w [.int .i64 2, .int .i64 0, .bool true, .int .i64 n] 37
    have hz : w.heap.size < (w.alloc (.cells #[.int .i64 2, .int .i64 0, .bool true, .int .i64 n] 37)).heap.size := by simp
    go_enter Tryz.func124, Tryz.ntmps124
    go_wp2_with fail
    generalize w.alloc (.cells #[.int .i64 2, .int .i64 0, .bool true, .int .i64 n] 37) = W0 at t0 hb0 hz ⊢
    refine (HU.out _).mono ?_
    rintro e w1 ⟨rfl, hb1⟩
    have hb := btr hb0 hb1
    have T := t0.below hb1 hz
    have hz1 : w.heap.size < w1.heap.size := T.2
    clear hb0 hb1 t0 hz HU
    have as0 := as_call_no (.agg #[.int .i64 n])
    have as1 := as_call_fault (.agg #[.int .i64 n])
    have as2 := as_call_call (.agg #[.int .i64 n])
    have t2 : Var (w1.alloc (.cells #[.int .i64 n] 143)) w1.heap.size [.int .i64 n] := Var.new w1 [.int .i64 n] 143
    have hA : Below w1.heap.size w1 (w1.alloc (.cells #[.int .i64 n] 143)) := (Below.refl _ _).alloc (Nat.le_refl _) _
    have hB2 := btr hb hA
    have T2 := T.below hA hz1
    have hz2 : w1.heap.size < (w1.alloc (.cells #[.int .i64 n] 143)).heap.size := by simp
    have hz3 : w.heap.size < (w1.alloc (.cells #[.int .i64 n] 143)).heap.size := Nat.lt_trans hz1 hz2
    clear T hA hb
    go_wp2_with fail
    generalize w1.alloc (.cells #[.int .i64 n] 143) = W2 at t2 T2 hB2 hz2 hz3 ⊢
    refine Ord.wp_region_ord (fun w' => w'.cell? ⟨w.heap.size, 0, none⟩ = some (.int .i64 2) ∧ w'.cell? ⟨w.heap.size, 1, none⟩ = some (.int .i64 0) ∧ w'.cell? ⟨w.heap.size, 2, none⟩ = some (.bool true) ∧ w'.cell? ⟨w.heap.size, 3, none⟩ = some (.int .i64 n) ∧ w'.cell? ⟨w1.heap.size, 0, none⟩ = some (.int .i64 n)) [(0, true), (1, true), (2, false), (3, true), (4, true), (5, true), (6, true), (7, false), (8, true), (9, true), (10, true)] (by kernel_rfl) (by kernel_rfl) rfl (by kernel_rfl) (⟨T2.cell 0 (v := .int .i64 2) rfl, T2.cell 1 (v := .int .i64 0) rfl, T2.cell 2 (v := .bool true) rfl, T2.cell 3 (v := .int .i64 n) rfl, t2.cell 0 (v := .int .i64 n) rfl⟩) ?_
    simp only [Ord.ordOps, List.getElem?_toArray, List.getElem?_cons_zero, List.getElem?_cons_succ]
    repeat (first
     | (refine Ord.ord_plain (v := ?_) rfl (fun w' hS => ?_) ?_; rotate_left; (focus ((try dsimp only at hS); go_simp; first | done | with_reducible rfl)); simp only [Act.put, List.setIfInBounds_toArray, List.set_cons_zero, List.set_cons_succ])
     | (refine Ord.ord_skip (by rfl) ?_; simp only [Act.put, List.setIfInBounds_toArray, List.set_cons_zero, List.set_cons_succ])
     | (refine Ord.ord_take (v := ?_) (by rfl) (fun w' hS => ?_) ?_; rotate_left; (focus ((try dsimp only at hS); go_simp; first | done | with_reducible rfl)); simp only [Act.put, List.setIfInBounds_toArray, List.set_cons_zero, List.set_cons_succ]))
    have hbd : Below W2.heap.size W2 W2.drew := (Below.refl _ _).drew
    have hB3 := btr hB2 hbd
    have T3 := T2.below hbd hz3
    have t3 := t2.below hbd hz2
    have hz4 : W2.heap.size ≤ W2.drew.heap.size := hbd.size
    clear hbd
    refine Ord.ord_call (fun K hK => ?_)
    go_simp
    refine (HC.out _).mono ?_
    rintro e v4' ⟨rfl, hb4⟩
    have hB4 := btr hB3 hb4
    have T4 := T3.below hb4 (by omega)
    have t4 := t3.below hb4 (by omega)
    have hy4 := hb4.size
    refine hK.out _ _ (⟨T4.cell 0 (v := .int .i64 2) rfl, T4.cell 1 (v := .int .i64 0) rfl, T4.cell 2 (v := .bool true) rfl, T4.cell 3 (v := .int .i64 n) rfl, t4.cell 0 (v := .int .i64 n) rfl⟩) ?_
    clear hK K
    repeat (first
     | (refine Ord.ord_plain (v := ?_) rfl (fun w' hS => ?_) ?_; rotate_left; (focus ((try dsimp only at hS); go_simp; first | done | with_reducible rfl)); simp only [Act.put, List.setIfInBounds_toArray, List.set_cons_zero, List.set_cons_succ])
     | (refine Ord.ord_skip (by rfl) ?_; simp only [Act.put, List.setIfInBounds_toArray, List.set_cons_zero, List.set_cons_succ])
     | (refine Ord.ord_take (v := ?_) (by rfl) (fun w' hS => ?_) ?_; rotate_left; (focus ((try dsimp only at hS); go_simp; first | done | with_reducible rfl)); simp only [Act.put, List.setIfInBounds_toArray, List.set_cons_zero, List.set_cons_succ]))
    refine Ord.ord_call (fun K hK => ?_)
    go_simp
    refine (HM.out _).mono ?_
    rintro e v5' ⟨rfl, hb5⟩
    have hB5 := btr hB4 hb5
    have T5 := T4.below hb5 (by omega)
    have t5 := t4.below hb5 (by omega)
    have hy5 := hb5.size
    refine hK.out _ _ (⟨T5.cell 0 (v := .int .i64 2) rfl, T5.cell 1 (v := .int .i64 0) rfl, T5.cell 2 (v := .bool true) rfl, T5.cell 3 (v := .int .i64 n) rfl, t5.cell 0 (v := .int .i64 n) rfl⟩) ?_
    clear hK K
    repeat (first
     | (refine Ord.ord_plain (v := ?_) rfl (fun w' hS => ?_) ?_; rotate_left; (focus ((try dsimp only at hS); go_simp; first | done | with_reducible rfl)); simp only [Act.put, List.setIfInBounds_toArray, List.set_cons_zero, List.set_cons_succ])
     | (refine Ord.ord_skip (by rfl) ?_; simp only [Act.put, List.setIfInBounds_toArray, List.set_cons_zero, List.set_cons_succ])
     | (refine Ord.ord_take (v := ?_) (by rfl) (fun w' hS => ?_) ?_; rotate_left; (focus ((try dsimp only at hS); go_simp; first | done | with_reducible rfl)); simp only [Act.put, List.setIfInBounds_toArray, List.set_cons_zero, List.set_cons_succ]))
    refine Ord.ord_nil ?_
    have HBF := Lib.hid hB5
    clear hB2 hB3 hB4 hB5
    go_wp2_with fail
    go_ret
    exact ⟨by rw [HV.out]; rfl, HBF.out⟩
   ·
    have hp' : (p == 0) = false := by simpa using hp
    have HV := Lib.hid (show exitOk (2, p, false, n) = false from by simp [exitOk, hi, hp])
    clear hi hp
    have HU := Lib.hid (fun V : World => impl_usedBy 2 p false n V)
    rw [usedV_2] at HU
    have hb0 : Below w.heap.size w (w.alloc (.cells #[.int .i64 2, .int .i64 p, .bool false, .int .i64 n] 37)) := (Below.refl _ _).alloc (Nat.le_refl _) _
    have t0 : Var (w.alloc (.cells #[.int .i64 2, .int .i64 p, .bool false, .int .i64 n] 37)) w.heap.size [.int .i64 2, .int .i64 p, .bool false, .int .i64 n] := Var.new w [.int .i64 2, .int .i64 p, .bool false, .int .i64 n] 37
    have hz : w.heap.size < (w.alloc (.cells #[.int .i64 2, .int .i64 p, .bool false, .int .i64 n] 37)).heap.size := by simp
    go_enter Tryz.func124, Tryz.ntmps124
    go_wp2_with fail
    generalize w.alloc (.cells #[.int .i64 2, .int .i64 p, .bool false, .int .i64 n] 37) = W0 at t0 hb0 hz ⊢
    refine (HU.out _).mono ?_
    rintro e w1 ⟨rfl, hb1⟩
    have hb := btr hb0 hb1
    have T := t0.below hb1 hz
    have hz1 : w.heap.size < w1.heap.size := T.2
    clear hb0 hb1 t0 hz HU
    have as0 := as_call_no (.agg #[.int .i64 n])
    have as1 := as_call_fault (.agg #[.int .i64 n])
    have as2 := as_call_call (.agg #[.int .i64 n])
    have t2 : Var (w1.alloc (.cells #[.int .i64 n] 143)) w1.heap.size [.int .i64 n] := Var.new w1 [.int .i64 n] 143
    have hA : Below w1.heap.size w1 (w1.alloc (.cells #[.int .i64 n] 143)) := (Below.refl _ _).alloc (Nat.le_refl _) _
    have hB2 := btr hb hA
    have T2 := T.below hA hz1
    have hz2 : w1.heap.size < (w1.alloc (.cells #[.int .i64 n] 143)).heap.size := by simp
    have hz3 : w.heap.size < (w1.alloc (.cells #[.int .i64 n] 143)).heap.size := Nat.lt_trans hz1 hz2
    clear T hA hb
    go_wp2_with fail
    generalize w1.alloc (.cells #[.int .i64 n] 143) = W2 at t2 T2 hB2 hz2 hz3 ⊢
    refine Ord.wp_region_ord (fun w' => w'.cell? ⟨w.heap.size, 0, none⟩ = some (.int .i64 2) ∧ w'.cell? ⟨w.heap.size, 1, none⟩ = some (.int .i64 p) ∧ w'.cell? ⟨w.heap.size, 2, none⟩ = some (.bool false) ∧ w'.cell? ⟨w.heap.size, 3, none⟩ = some (.int .i64 n) ∧ w'.cell? ⟨w1.heap.size, 0, none⟩ = some (.int .i64 n)) [(0, true), (1, true), (2, false), (3, true), (4, true), (5, true), (6, true), (7, false), (8, true), (9, true), (10, true)] (by kernel_rfl) (by kernel_rfl) rfl (by kernel_rfl) (⟨T2.cell 0 (v := .int .i64 2) rfl, T2.cell 1 (v := .int .i64 p) rfl, T2.cell 2 (v := .bool false) rfl, T2.cell 3 (v := .int .i64 n) rfl, t2.cell 0 (v := .int .i64 n) rfl⟩) ?_
    simp only [Ord.ordOps, List.getElem?_toArray, List.getElem?_cons_zero, List.getElem?_cons_succ]
    repeat (first
     | (refine Ord.ord_plain (v := ?_) rfl (fun w' hS => ?_) ?_; rotate_left; (focus ((try dsimp only at hS); go_simp; first | done | with_reducible rfl)); simp only [Act.put, List.setIfInBounds_toArray, List.set_cons_zero, List.set_cons_succ])
     | (refine Ord.ord_skip (by rfl) ?_; simp only [Act.put, List.setIfInBounds_toArray, List.set_cons_zero, List.set_cons_succ])
     | (refine Ord.ord_take (v := ?_) (by rfl) (fun w' hS => ?_) ?_; rotate_left; (focus ((try dsimp only at hS); go_simp; first | done | with_reducible rfl)); simp only [Act.put, List.setIfInBounds_toArray, List.set_cons_zero, List.set_cons_succ]))
    have hbd : Below W2.heap.size W2 W2.drew := (Below.refl _ _).drew
    have hB3 := btr hB2 hbd
    have T3 := T2.below hbd hz3
    have t3 := t2.below hbd hz2
    have hz4 : W2.heap.size ≤ W2.drew.heap.size := hbd.size
    clear hbd
    refine Ord.ord_call (fun K hK => ?_)
    go_simp
    refine (HC.out _).mono ?_
    rintro e v4' ⟨rfl, hb4⟩
    have hB4 := btr hB3 hb4
    have T4 := T3.below hb4 (by omega)
    have t4 := t3.below hb4 (by omega)
    have hy4 := hb4.size
    refine hK.out _ _ (⟨T4.cell 0 (v := .int .i64 2) rfl, T4.cell 1 (v := .int .i64 p) rfl, T4.cell 2 (v := .bool false) rfl, T4.cell 3 (v := .int .i64 n) rfl, t4.cell 0 (v := .int .i64 n) rfl⟩) ?_
    clear hK K
    repeat (first
     | (refine Ord.ord_plain (v := ?_) rfl (fun w' hS => ?_) ?_; rotate_left; (focus ((try dsimp only at hS); go_simp; first | done | with_reducible rfl)); simp only [Act.put, List.setIfInBounds_toArray, List.set_cons_zero, List.set_cons_succ])
     | (refine Ord.ord_skip (by rfl) ?_; simp only [Act.put, List.setIfInBounds_toArray, List.set_cons_zero, List.set_cons_succ])
     | (refine Ord.ord_take (v := ?_) (by rfl) (fun w' hS => ?_) ?_; rotate_left; (focus ((try dsimp only at hS); go_simp; first | done | with_reducible rfl)); simp only [Act.put, List.setIfInBounds_toArray, List.set_cons_zero, List.set_cons_succ]))
    refine Ord.ord_call (fun K hK => ?_)
    go_simp
    refine (HM.out _).mono ?_
    rintro e v5' ⟨rfl, hb5⟩
    have hB5 := btr hB4 hb5
    have T5 := T4.below hb5 (by omega)
    have t5 := t4.below hb5 (by omega)
    have hy5 := hb5.size
    refine hK.out _ _ (⟨T5.cell 0 (v := .int .i64 2) rfl, T5.cell 1 (v := .int .i64 p) rfl, T5.cell 2 (v := .bool false) rfl, T5.cell 3 (v := .int .i64 n) rfl, t5.cell 0 (v := .int .i64 n) rfl⟩) ?_
    clear hK K
    repeat (first
     | (refine Ord.ord_plain (v := ?_) rfl (fun w' hS => ?_) ?_; rotate_left; (focus ((try dsimp only at hS); go_simp; first | done | with_reducible rfl)); simp only [Act.put, List.setIfInBounds_toArray, List.set_cons_zero, List.set_cons_succ])
     | (refine Ord.ord_skip (by rfl) ?_; simp only [Act.put, List.setIfInBounds_toArray, List.set_cons_zero, List.set_cons_succ])
     | (refine Ord.ord_take (v := ?_) (by rfl) (fun w' hS => ?_) ?_; rotate_left; (focus ((try dsimp only at hS); go_simp; first | done | with_reducible rfl)); simp only [Act.put, List.setIfInBounds_toArray, List.set_cons_zero, List.set_cons_succ]))
    refine Ord.ord_nil ?_
    have HBF := Lib.hid hB5
    clear hB2 hB3 hB4 hB5
    go_wp2_with fail
    go_ret
    exact ⟨by rw [HV.out]; rfl, HBF.out⟩
   ·
    have hp' : (p == 0) = false := by simpa using hp
    have HV := Lib.hid (show exitOk (2, p, true, n) = false from by simp [exitOk, hi, hp])
    clear hi hp
    have HU := Lib.hid (fun V : World => impl_usedBy 2 p true n V)
    rw [usedV_2] at HU
    have hb0 : Below w.heap.size w (w.alloc (.cells #[.int .i64 2, .int .i64 p, .bool true, .int .i64 n] 37)) := (Below.refl _ _).alloc (Nat.le_refl _) _
    have t0 : Var (w.alloc (.cells #[.int .i64 2, .int .i64 p, .bool true, .int .i64 n] 37)) w.heap.size [.int .i64 2, .int .i64 p, .bool true, .int .i64 n] := Var.new w [.int .i64 2, .int .i64 p, .bool true, .int .i64 n] 37
    have hz : w.heap.size < (w.alloc (.cells #[.int .i64 2, .int .i64 p, .bool true, .int .i64 n] 37)).heap.size := by simp
    go_enter Tryz.func124, Tryz.ntmps124
    go_wp2_with fail
    generalize w.alloc (.cells #[.int .i64 2, .int .i64 p, .bool true, .int .i64 n] 37) = W0 at t0 hb0 hz ⊢
    refine (HU.out _).mono ?_
    rintro e w1 ⟨rfl, hb1⟩
    have hb := btr hb0 hb1
    have T := t0.below hb1 hz
    have hz1 : w.heap.size < w1.heap.size := T.2
    clear hb0 hb1 t0 hz HU
    have as0 := as_call_no (.agg #[.int .i64 n])
    have as1 := as_call_fault (.agg #[.int .i64 n])
    have as2 := as_call_call (.agg #[.int .i64 n])
    have t2 : Var (w1.alloc (.cells #[.int .i64 n] 143)) w1.heap.size [.int .i64 n] := Var.new w1 [.int .i64 n] 143
    have hA : Below w1.heap.size w1 (w1.alloc (.cells #[.int .i64 n] 143)) := (Below.refl _ _).alloc (Nat.le_refl _) _
    have hB2 := btr hb hA
    have T2 := T.below hA hz1
    have hz2 : w1.heap.size < (w1.alloc (.cells #[.int .i64 n] 143)).heap.size := by simp
    have hz3 : w.heap.size < (w1.alloc (.cells #[.int .i64 n] 143)).heap.size := Nat.lt_trans hz1 hz2
    clear T hA hb
    go_wp2_with fail
    generalize w1.alloc (.cells #[.int .i64 n] 143) = W2 at t2 T2 hB2 hz2 hz3 ⊢
    refine Ord.wp_region_ord (fun w' => w'.cell? ⟨w.heap.size, 0, none⟩ = some (.int .i64 2) ∧ w'.cell? ⟨w.heap.size, 1, none⟩ = some (.int .i64 p) ∧ w'.cell? ⟨w.heap.size, 2, none⟩ = some (.bool true) ∧ w'.cell? ⟨w.heap.size, 3, none⟩ = some (.int .i64 n) ∧ w'.cell? ⟨w1.heap.size, 0, none⟩ = some (.int .i64 n)) [(0, true), (1, true), (2, false), (3, true), (4, true), (5, true), (6, true), (7, false), (8, true), (9, true), (10, true)] (by kernel_rfl) (by kernel_rfl) rfl (by kernel_rfl) (⟨T2.cell 0 (v := .int .i64 2) rfl, T2.cell 1 (v := .int .i64 p) rfl, T2.cell 2 (v := .bool true) rfl, T2.cell 3 (v := .int .i64 n) rfl, t2.cell 0 (v := .int .i64 n) rfl⟩) ?_
    simp only [Ord.ordOps, List.getElem?_toArray, List.getElem?_cons_zero, List.getElem?_cons_succ]
    repeat (first
     | (refine Ord.ord_plain (v := ?_) rfl (fun w' hS => ?_) ?_; rotate_left; (focus ((try dsimp only at hS); go_simp; first | done | with_reducible rfl)); simp only [Act.put, List.setIfInBounds_toArray, List.set_cons_zero, List.set_cons_succ])
     | (refine Ord.ord_skip (by rfl) ?_; simp only [Act.put, List.setIfInBounds_toArray, List.set_cons_zero, List.set_cons_succ])
     | (refine Ord.ord_take (v := ?_) (by rfl) (fun w' hS => ?_) ?_; rotate_left; (focus ((try dsimp only at hS); go_simp; first | done | with_reducible rfl)); simp only [Act.put, List.setIfInBounds_toArray, List.set_cons_zero, List.set_cons_succ]))
    have hbd : Below W2.heap.size W2 W2.drew := (Below.refl _ _).drew
    have hB3 := btr hB2 hbd
    have T3 := T2.below hbd hz3
    have t3 := t2.below hbd hz2
    have hz4 : W2.heap.size ≤ W2.drew.heap.size := hbd.size
    clear hbd
    refine Ord.ord_call (fun K hK => ?_)
    go_simp
    refine (HC.out _).mono ?_
    rintro e v4' ⟨rfl, hb4⟩
    have hB4 := btr hB3 hb4
    have T4 := T3.below hb4 (by omega)
    have t4 := t3.below hb4 (by omega)
    have hy4 := hb4.size
    refine hK.out _ _ (⟨T4.cell 0 (v := .int .i64 2) rfl, T4.cell 1 (v := .int .i64 p) rfl, T4.cell 2 (v := .bool true) rfl, T4.cell 3 (v := .int .i64 n) rfl, t4.cell 0 (v := .int .i64 n) rfl⟩) ?_
    clear hK K
    repeat (first
     | (refine Ord.ord_plain (v := ?_) rfl (fun w' hS => ?_) ?_; rotate_left; (focus ((try dsimp only at hS); go_simp; first | done | with_reducible rfl)); simp only [Act.put, List.setIfInBounds_toArray, List.set_cons_zero, List.set_cons_succ])
     | (refine Ord.ord_skip (by rfl) ?_; simp only [Act.put, List.setIfInBounds_toArray, List.set_cons_zero, List.set_cons_succ])
     | (refine Ord.ord_take (v := ?_) (by rfl) (fun w' hS => ?_) ?_; rotate_left; (focus ((try dsimp only at hS); go_simp; first | done | with_reducible rfl)); simp only [Act.put, List.setIfInBounds_toArray, List.set_cons_zero, List.set_cons_succ]))
    refine Ord.ord_call (fun K hK => ?_)
    go_simp
    refine (HM.out _).mono ?_
    rintro e v5' ⟨rfl, hb5⟩
    have hB5 := btr hB4 hb5
    have T5 := T4.below hb5 (by omega)
    have t5 := t4.below hb5 (by omega)
    have hy5 := hb5.size
    refine hK.out _ _ (⟨T5.cell 0 (v := .int .i64 2) rfl, T5.cell 1 (v := .int .i64 p) rfl, T5.cell 2 (v := .bool true) rfl, T5.cell 3 (v := .int .i64 n) rfl, t5.cell 0 (v := .int .i64 n) rfl⟩) ?_
    clear hK K
    repeat (first
     | (refine Ord.ord_plain (v := ?_) rfl (fun w' hS => ?_) ?_; rotate_left; (focus ((try dsimp only at hS); go_simp; first | done | with_reducible rfl)); simp only [Act.put, List.setIfInBounds_toArray, List.set_cons_zero, List.set_cons_succ])
     | (refine Ord.ord_skip (by rfl) ?_; simp only [Act.put, List.setIfInBounds_toArray, List.set_cons_zero, List.set_cons_succ])
     | (refine Ord.ord_take (v := ?_) (by rfl) (fun w' hS => ?_) ?_; rotate_left; (focus ((try dsimp only at hS); go_simp; first | done | with_reducible rfl)); simp only [Act.put, List.setIfInBounds_toArray, List.set_cons_zero, List.set_cons_succ]))
    refine Ord.ord_nil ?_
    have HBF := Lib.hid hB5
    clear hB2 hB3 hB4 hB5
    go_wp2_with fail
    go_ret
    exact ⟨by rw [HV.out]; rfl, HBF.out⟩
 ·
  have HM := Lib.hid (fun V : World => impl_out' n V)
  unfold ExitP at HM
  dsimp only at HM
  have hC := fun V : World => impl_cellOkE n V
  cases hi : inB n 0 99
  ·
   have HV := Lib.hid (show exitOk (3, p, q, n) = false from by simp [exitOk, hi])
   rw [hi] at hC
   have HC := Lib.hid hC
   clear hC HM hi
   have HU := Lib.hid (fun V : World => impl_usedBy 3 p q n V)
   rw [usedV_3] at HU
   have hb0 : Below w.heap.size w (w.alloc (.cells #[.int .i64 3, .int .i64 p, .bool q, .int .i64 n] 37)) := (Below.refl _ _).alloc (Nat.le_refl _) _
   have t0 : Var (w.alloc (.cells #[.int .i64 3, .int .i64 p, .bool q, .int .i64 n] 37)) w.heap.size [.int .i64 3, .int .i64 p, .bool q, .int .i64 n] := Var.new w [.int .i64 3, .int .i64 p, .bool q, .int .i64 n] 37
   have hz : w.heap.size < (w.alloc (.cells #[.int .i64 3, .int .i64 p, .bool q, .int .i64 n] 37)).heap.size := by simp
   go_enter Tryz.func124, Tryz.ntmps124
   go_wp2_with fail
   generalize w.alloc (.cells #[.int .i64 3, .int .i64 p, .bool q, .int .i64 n] 37) = W0 at t0 hb0 hz ⊢
   refine (HU.out _).mono ?_
   rintro e w1 ⟨rfl, hb1⟩
   have hb := btr hb0 hb1
   have T := t0.below hb1 hz
   have hz1 : w.heap.size < w1.heap.size := T.2
   clear hb0 hb1 t0 hz HU
   have as0 := as_out_no (.agg #[.int .i64 n])
   have as1 := as_out_fault (.agg #[.int .i64 n])
   have as2 := as_out_call (.agg #[.int .i64 n])
   have as3 := as_out_out (.agg #[.int .i64 n])
   have t2 : Var (w1.alloc (.cells #[.int .i64 n] 144)) w1.heap.size [.int .i64 n] := Var.new w1 [.int .i64 n] 144
   have hA : Below w1.heap.size w1 (w1.alloc (.cells #[.int .i64 n] 144)) := (Below.refl _ _).alloc (Nat.le_refl _) _
   have hB2 := btr hb hA
   have T2 := T.below hA hz1
   have hz2 : w1.heap.size < (w1.alloc (.cells #[.int .i64 n] 144)).heap.size := by simp
   have hz3 : w.heap.size < (w1.alloc (.cells #[.int .i64 n] 144)).heap.size := Nat.lt_trans hz1 hz2
   clear T hA hb
   go_wp2_with fail
   generalize w1.alloc (.cells #[.int .i64 n] 144) = W2 at t2 T2 hB2 hz2 hz3 ⊢
   refine Ord.wp_region_ord (fun w' => w'.cell? ⟨w.heap.size, 0, none⟩ = some (.int .i64 3) ∧ w'.cell? ⟨w.heap.size, 1, none⟩ = some (.int .i64 p) ∧ w'.cell? ⟨w.heap.size, 2, none⟩ = some (.bool q) ∧ w'.cell? ⟨w.heap.size, 3, none⟩ = some (.int .i64 n) ∧ w'.cell? ⟨w1.heap.size, 0, none⟩ = some (.int .i64 n)) [(0, true), (1, true), (2, false), (3, true), (4, true), (5, true), (6, true), (7, false), (8, true), (9, true), (10, true)] (by kernel_rfl) (by kernel_rfl) rfl (by kernel_rfl) (⟨T2.cell 0 (v := .int .i64 3) rfl, T2.cell 1 (v := .int .i64 p) rfl, T2.cell 2 (v := .bool q) rfl, T2.cell 3 (v := .int .i64 n) rfl, t2.cell 0 (v := .int .i64 n) rfl⟩) ?_
   simp only [Ord.ordOps, List.getElem?_toArray, List.getElem?_cons_zero, List.getElem?_cons_succ]
   repeat (first
    | (refine Ord.ord_plain (v := ?_) rfl (fun w' hS => ?_) ?_; rotate_left; (focus ((try dsimp only at hS); go_simp; first | done | with_reducible rfl)); simp only [Act.put, List.setIfInBounds_toArray, List.set_cons_zero, List.set_cons_succ])
    | (refine Ord.ord_skip (by rfl) ?_; simp only [Act.put, List.setIfInBounds_toArray, List.set_cons_zero, List.set_cons_succ])
    | (refine Ord.ord_take (v := ?_) (by rfl) (fun w' hS => ?_) ?_; rotate_left; (focus ((try dsimp only at hS); go_simp; first | done | with_reducible rfl)); simp only [Act.put, List.setIfInBounds_toArray, List.set_cons_zero, List.set_cons_succ]))
   have hbd : Below W2.heap.size W2 W2.drew := (Below.refl _ _).drew
   have hB3 := btr hB2 hbd
   have T3 := T2.below hbd hz3
   have t3 := t2.below hbd hz2
   have hz4 : W2.heap.size ≤ W2.drew.heap.size := hbd.size
   clear hbd
   refine Ord.ord_call (fun K hK => ?_)
   go_simp
   refine (HC.out _).mono ?_
   rintro e v4' ⟨rfl, hb4⟩
   have hB4 := btr hB3 hb4
   have T4 := T3.below hb4 (by omega)
   have t4 := t3.below hb4 (by omega)
   have hy4 := hb4.size
   refine hK.out _ _ (⟨T4.cell 0 (v := .int .i64 3) rfl, T4.cell 1 (v := .int .i64 p) rfl, T4.cell 2 (v := .bool q) rfl, T4.cell 3 (v := .int .i64 n) rfl, t4.cell 0 (v := .int .i64 n) rfl⟩) ?_
   clear hK K
   repeat (first
    | (refine Ord.ord_plain (v := ?_) rfl (fun w' hS => ?_) ?_; rotate_left; (focus ((try dsimp only at hS); go_simp; first | done | with_reducible rfl)); simp only [Act.put, List.setIfInBounds_toArray, List.set_cons_zero, List.set_cons_succ])
    | (refine Ord.ord_skip (by rfl) ?_; simp only [Act.put, List.setIfInBounds_toArray, List.set_cons_zero, List.set_cons_succ])
    | (refine Ord.ord_take (v := ?_) (by rfl) (fun w' hS => ?_) ?_; rotate_left; (focus ((try dsimp only at hS); go_simp; first | done | with_reducible rfl)); simp only [Act.put, List.setIfInBounds_toArray, List.set_cons_zero, List.set_cons_succ]))
   refine Ord.ord_not (by rfl) (fun K hK => ?_)
   simp only [Act.put, List.setIfInBounds_toArray, List.set_cons_zero, List.set_cons_succ]
   refine hK.out _ _ (⟨T4.cell 0 (v := .int .i64 3) rfl, T4.cell 1 (v := .int .i64 p) rfl, T4.cell 2 (v := .bool q) rfl, T4.cell 3 (v := .int .i64 n) rfl, t4.cell 0 (v := .int .i64 n) rfl⟩) ?_
   clear hK K
   repeat (first
    | (refine Ord.ord_plain (v := ?_) rfl (fun w' hS => ?_) ?_; rotate_left; (focus ((try dsimp only at hS); go_simp; first | done | with_reducible rfl)); simp only [Act.put, List.setIfInBounds_toArray, List.set_cons_zero, List.set_cons_succ])
    | (refine Ord.ord_skip (by rfl) ?_; simp only [Act.put, List.setIfInBounds_toArray, List.set_cons_zero, List.set_cons_succ])
    | (refine Ord.ord_take (v := ?_) (by rfl) (fun w' hS => ?_) ?_; rotate_left; (focus ((try dsimp only at hS); go_simp; first | done | with_reducible rfl)); simp only [Act.put, List.setIfInBounds_toArray, List.set_cons_zero, List.set_cons_succ]))
   refine Ord.ord_nil ?_
   have HBF := Lib.hid hB4
   clear hB2 hB3 hB4
   go_wp2_with fail
   go_ret
   exact ⟨by rw [HV.out]; rfl, HBF.out⟩
  ·
   rw [hi] at hC
   have HC := Lib.hid hC
   clear hC
   by_cases hp : p = 0 <;> cases q
   ·
    subst hp
    have HV := Lib.hid (show exitOk (3, 0, false, n) = true from by simp [exitOk, hi])
    clear hi
    have HU := Lib.hid (fun V : World => impl_usedBy 3 0 false n V)
    rw [usedV_3] at HU
    have hb0 : Below w.heap.size w (w.alloc (.cells #[.int .i64 3, .int .i64 0, .bool false, .int .i64 n] 37)) := (Below.refl _ _).alloc (Nat.le_refl _) _
    have t0 : Var (w.alloc (.cells #[.int .i64 3, .int .i64 0, .bool false, .int .i64 n] 37)) w.heap.size [.int .i64 3, .int .i64 0, .bool false, .int .i64 n] := Var.new w [.int .i64 3, .int .i64 0, .bool false, .int .i64 n] 37
    have hz : w.heap.size < (w.alloc (.cells #[.int .i64 3, .int .i64 0, .bool false, .int .i64 n] 37)).heap.size := by simp
    go_enter Tryz.func124, Tryz.ntmps124
    go_wp2_with fail
    generalize w.alloc (.cells #[.int .i64 3, .int .i64 0, .bool false, .int .i64 n] 37) = W0 at t0 hb0 hz ⊢
    refine (HU.out _).mono ?_
    rintro e w1 ⟨rfl, hb1⟩
    have hb := btr hb0 hb1
    have T := t0.below hb1 hz
    have hz1 : w.heap.size < w1.heap.size := T.2
    clear hb0 hb1 t0 hz HU
    have as0 := as_out_no (.agg #[.int .i64 n])
    have as1 := as_out_fault (.agg #[.int .i64 n])
    have as2 := as_out_call (.agg #[.int .i64 n])
    have as3 := as_out_out (.agg #[.int .i64 n])
    have t2 : Var (w1.alloc (.cells #[.int .i64 n] 144)) w1.heap.size [.int .i64 n] := Var.new w1 [.int .i64 n] 144
    have hA : Below w1.heap.size w1 (w1.alloc (.cells #[.int .i64 n] 144)) := (Below.refl _ _).alloc (Nat.le_refl _) _
    have hB2 := btr hb hA
    have T2 := T.below hA hz1
    have hz2 : w1.heap.size < (w1.alloc (.cells #[.int .i64 n] 144)).heap.size := by simp
    have hz3 : w.heap.size < (w1.alloc (.cells #[.int .i64 n] 144)).heap.size := Nat.lt_trans hz1 hz2
    clear T hA hb
    go_wp2_with fail
    generalize w1.alloc (.cells #[.int .i64 n] 144) = W2 at t2 T2 hB2 hz2 hz3 ⊢
    refine Ord.wp_region_ord (fun w' => w'.cell? ⟨w.heap.size, 0, none⟩ = some (.int .i64 3) ∧ w'.cell? ⟨w.heap.size, 1, none⟩ = some (.int .i64 0) ∧ w'.cell? ⟨w.heap.size, 2, none⟩ = some (.bool false) ∧ w'.cell? ⟨w.heap.size, 3, none⟩ = some (.int .i64 n) ∧ w'.cell? ⟨w1.heap.size, 0, none⟩ = some (.int .i64 n)) [(0, true), (1, true), (2, false), (3, true), (4, true), (5, true), (6, true), (7, false), (8, true), (9, true), (10, true)] (by kernel_rfl) (by kernel_rfl) rfl (by kernel_rfl) (⟨T2.cell 0 (v := .int .i64 3) rfl, T2.cell 1 (v := .int .i64 0) rfl, T2.cell 2 (v := .bool false) rfl, T2.cell 3 (v := .int .i64 n) rfl, t2.cell 0 (v := .int .i64 n) rfl⟩) ?_
    simp only [Ord.ordOps, List.getElem?_toArray, List.getElem?_cons_zero, List.getElem?_cons_succ]
    repeat (first
     | (refine Ord.ord_plain (v := ?_) rfl (fun w' hS => ?_) ?_; rotate_left; (focus ((try dsimp only at hS); go_simp; first | done | with_reducible rfl)); simp only [Act.put, List.setIfInBounds_toArray, List.set_cons_zero, List.set_cons_succ])
     | (refine Ord.ord_skip (by rfl) ?_; simp only [Act.put, List.setIfInBounds_toArray, List.set_cons_zero, List.set_cons_succ])
     | (refine Ord.ord_take (v := ?_) (by rfl) (fun w' hS => ?_) ?_; rotate_left; (focus ((try dsimp only at hS); go_simp; first | done | with_reducible rfl)); simp only [Act.put, List.setIfInBounds_toArray, List.set_cons_zero, List.set_cons_succ]))
    have hbd : Below W2.heap.size W2 W2.drew := (Below.refl _ _).drew
    have hB3 := btr hB2 hbd
    have T3 := T2.below hbd hz3
    have t3 := t2.below hbd hz2
    have hz4 : W2.heap.size ≤ W2.drew.heap.size := hbd.size
    clear hbd
    refine Ord.ord_call (fun K hK => ?_)
    go_simp
    refine (HC.out _).mono ?_
    rintro e v4' ⟨rfl, hb4⟩
    have hB4 := btr hB3 hb4
    have T4 := T3.below hb4 (by omega)
    have t4 := t3.below hb4 (by omega)
    have hy4 := hb4.size
    refine hK.out _ _ (⟨T4.cell 0 (v := .int .i64 3) rfl, T4.cell 1 (v := .int .i64 0) rfl, T4.cell 2 (v := .bool false) rfl, T4.cell 3 (v := .int .i64 n) rfl, t4.cell 0 (v := .int .i64 n) rfl⟩) ?_
    clear hK K
    repeat (first
     | (refine Ord.ord_plain (v := ?_) rfl (fun w' hS => ?_) ?_; rotate_left; (focus ((try dsimp only at hS); go_simp; first | done | with_reducible rfl)); simp only [Act.put, List.setIfInBounds_toArray, List.set_cons_zero, List.set_cons_succ])
     | (refine Ord.ord_skip (by rfl) ?_; simp only [Act.put, List.setIfInBounds_toArray, List.set_cons_zero, List.set_cons_succ])
     | (refine Ord.ord_take (v := ?_) (by rfl) (fun w' hS => ?_) ?_; rotate_left; (focus ((try dsimp only at hS); go_simp; first | done | with_reducible rfl)); simp only [Act.put, List.setIfInBounds_toArray, List.set_cons_zero, List.set_cons_succ]))
    refine Ord.ord_call (fun K hK => ?_)
    go_simp
    refine (HM.out _).mono ?_
    rintro e v5' ⟨rfl, hb5⟩
    have hB5 := btr hB4 hb5
    have T5 := T4.below hb5 (by omega)
    have t5 := t4.below hb5 (by omega)
    have hy5 := hb5.size
    refine hK.out _ _ (⟨T5.cell 0 (v := .int .i64 3) rfl, T5.cell 1 (v := .int .i64 0) rfl, T5.cell 2 (v := .bool false) rfl, T5.cell 3 (v := .int .i64 n) rfl, t5.cell 0 (v := .int .i64 n) rfl⟩) ?_
    clear hK K
    repeat (first
     | (refine Ord.ord_plain (v := ?_) rfl (fun w' hS => ?_) ?_; rotate_left; (focus ((try dsimp only at hS); go_simp; first | done | with_reducible rfl)); simp only [Act.put, List.setIfInBounds_toArray, List.set_cons_zero, List.set_cons_succ])
     | (refine Ord.ord_skip (by rfl) ?_; simp only [Act.put, List.setIfInBounds_toArray, List.set_cons_zero, List.set_cons_succ])
     | (refine Ord.ord_take (v := ?_) (by rfl) (fun w' hS => ?_) ?_; rotate_left; (focus ((try dsimp only at hS); go_simp; first | done | with_reducible rfl)); simp only [Act.put, List.setIfInBounds_toArray, List.set_cons_zero, List.set_cons_succ]))
    refine Ord.ord_nil ?_
    have HBF := Lib.hid hB5
    clear hB2 hB3 hB4 hB5
    go_wp2_with fail
    go_ret
    exact ⟨by rw [HV.out]; rfl, HBF.out⟩
   ·
    subst hp
    have HV := Lib.hid (show exitOk (3, 0, true, n) = false from by simp [exitOk, hi])
    clear hi
    have HU := Lib.hid (fun V : World => impl_usedBy 3 0 true n V)
    rw [usedV_3] at HU
    have hb0 : Below w.heap.size w (w.alloc (.cells #[.int .i64 3, .int .i64 0, .bool true, .int .i64 n] 37)) := (Below.refl _ _).alloc (Nat.le_refl _) _
    have t0 : Var (w.alloc (.cells #[.int .i64 3, .int .i64 0, .bool true, .int .i64 n] 37)) w.heap.size [.int .i64 3, .int .i64 0, .bool true, .int .i64 n] := Var.new w [.int .i64 3, .int .i64 0, .bool true, .int .i64 n] 37
    have hz : w.heap.size < (w.alloc (.cells #[.int .i64 3, .int .i64 0, .bool true, .int .i64 n] 37)).heap.size := by simp
    go_enter Tryz.func124, Tryz.ntmps124
    go_wp2_with fail
    generalize w.alloc (.cells #[.int .i64 3, .int .i64 0, .bool true, .int .i64 n] 37) = W0 at t0 hb0 hz ⊢
    refine (HU.out _).mono ?_
    rintro e w1 ⟨rfl, hb1⟩
    have hb := btr hb0 hb1
    have T := t0.below hb1 hz
    have hz1 : w.heap.size < w1.heap.size := T.2
    clear hb0 hb1 t0 hz HU
    have as0 := as_out_no (.agg #[.int .i64 n])
    have as1 := as_out_fault (.agg #[.int .i64 n])
    have as2 := as_out_call (.agg #[.int .i64 n])
    have as3 := as_out_out (.agg #[.int .i64 n])
    have t2 : Var (w1.alloc (.cells #[.int .i64 n] 144)) w1.heap.size [.int .i64 n] := Var.new w1 [.int .i64 n] 144
    have hA : Below w1.heap.size w1 (w1.alloc (.cells #[.int .i64 n] 144)) := (Below.refl _ _).alloc (Nat.le_refl _) _
    have hB2 := btr hb hA
    have T2 := T.below hA hz1
    have hz2 : w1.heap.size < (w1.alloc (.cells #[.int .i64 n] 144)).heap.size := by simp
    have hz3 : w.heap.size < (w1.alloc (.cells #[.int .i64 n] 144)).heap.size := Nat.lt_trans hz1 hz2
    clear T hA hb
    go_wp2_with fail
    generalize w1.alloc (.cells #[.int .i64 n] 144) = W2 at t2 T2 hB2 hz2 hz3 ⊢
    refine Ord.wp_region_ord (fun w' => w'.cell? ⟨w.heap.size, 0, none⟩ = some (.int .i64 3) ∧ w'.cell? ⟨w.heap.size, 1, none⟩ = some (.int .i64 0) ∧ w'.cell? ⟨w.heap.size, 2, none⟩ = some (.bool true) ∧ w'.cell? ⟨w.heap.size, 3, none⟩ = some (.int .i64 n) ∧ w'.cell? ⟨w1.heap.size, 0, none⟩ = some (.int .i64 n)) [(0, true), (1, true), (2, false), (3, true), (4, true), (5, true), (6, true), (7, false), (8, true), (9, true), (10, true)] (by kernel_rfl) (by kernel_rfl) rfl (by kernel_rfl) (⟨T2.cell 0 (v := .int .i64 3) rfl, T2.cell 1 (v := .int .i64 0) rfl, T2.cell 2 (v := .bool true) rfl, T2.cell 3 (v := .int .i64 n) rfl, t2.cell 0 (v := .int .i64 n) rfl⟩) ?_
    simp only [Ord.ordOps, List.getElem?_toArray, List.getElem?_cons_zero, List.getElem?_cons_succ]
    repeat (first
     | (refine Ord.ord_plain (v := ?_) rfl (fun w' hS => ?_) ?_; rotate_left; (focus ((try dsimp only at hS); go_simp; first | done | with_reducible rfl)); simp only [Act.put, List.setIfInBounds_toArray, List.set_cons_zero, List.set_cons_succ])
     | (refine Ord.ord_skip (by rfl) ?_; simp only [Act.put, List.setIfInBounds_toArray, List.set_cons_zero, List.set_cons_succ])
     | (refine Ord.ord_take (v := ?_) (by rfl) (fun w' hS => ?_) ?_; rotate_left; (focus ((try dsimp only at hS); go_simp; first | done | with_reducible rfl)); simp only [Act.put, List.setIfInBounds_toArray, List.set_cons_zero, List.set_cons_succ]))
    have hbd : Below W2.heap.size W2 W2.drew := (Below.refl _ _).drew
    have hB3 := btr hB2 hbd
    have T3 := T2.below hbd hz3
    have t3 := t2.below hbd hz2
    have hz4 : W2.heap.size ≤ W2.drew.heap.size := hbd.size
    clear hbd
    refine Ord.ord_call (fun K hK => ?_)
    go_simp
    refine (HC.out _).mono ?_
    rintro e v4' ⟨rfl, hb4⟩
    have hB4 := btr hB3 hb4
    have T4 := T3.below hb4 (by omega)
    have t4 := t3.below hb4 (by omega)
    have hy4 := hb4.size
    refine hK.out _ _ (⟨T4.cell 0 (v := .int .i64 3) rfl, T4.cell 1 (v := .int .i64 0) rfl, T4.cell 2 (v := .bool true) rfl, T4.cell 3 (v := .int .i64 n) rfl, t4.cell 0 (v := .int .i64 n) rfl⟩) ?_
    clear hK K
    repeat (first
     | (refine Ord.ord_plain (v := ?_) rfl (fun w' hS => ?_) ?_; rotate_left; (focus ((try dsimp only at hS); go_simp; first | done | with_reducible rfl)); simp only [Act.put, List.setIfInBounds_toArray, List.set_cons_zero, List.set_cons_succ])
     | (refine Ord.ord_skip (by rfl) ?_; simp only [Act.put, List.setIfInBounds_toArray, List.set_cons_zero, List.set_cons_succ])
     | (refine Ord.ord_take (v := ?_) (by rfl) (fun w' hS => ?_) ?_; rotate_left; (focus ((try dsimp only at hS); go_simp; first | done | with_reducible rfl)); simp only [Act.put, List.setIfInBounds_toArray, List.set_cons_zero, List.set_cons_succ]))
    refine Ord.ord_call (fun K hK => ?_)
    go_simp
    refine (HM.out _).mono ?_
    rintro e v5' ⟨rfl, hb5⟩
    have hB5 := btr hB4 hb5
    have T5 := T4.below hb5 (by omega)
    have t5 := t4.below hb5 (by omega)
    have hy5 := hb5.size
    refine hK.out _ _ (⟨T5.cell 0 (v := .int .i64 3) rfl, T5.cell 1 (v := .int .i64 0) rfl, T5.cell 2 (v := .bool true) rfl, T5.cell 3 (v := .int .i64 n) rfl, t5.cell 0 (v := .int .i64 n) rfl⟩) ?_
    clear hK K
    repeat (first
     | (refine Ord.ord_plain (v := ?_) rfl (fun w' hS => ?_) ?_; rotate_left; (focus ((try dsimp only at hS); go_simp; first | done | with_reducible rfl)); simp only [Act.put, List.setIfInBounds_toArray, List.set_cons_zero, List.set_cons_succ])
     | (refine Ord.ord_skip (by rfl) ?_; simp only [Act.put, List.setIfInBounds_toArray, List.set_cons_zero, List.set_cons_succ])
     | (refine Ord.ord_take (v := ?_) (by rfl) (fun w' hS => ?_) ?_; rotate_left; (focus ((try dsimp only at hS); go_simp; first | done | with_reducible rfl)); simp only [Act.put, List.setIfInBounds_toArray, List.set_cons_zero, List.set_cons_succ]))
    refine Ord.ord_nil ?_
    have HBF := Lib.hid hB5
    clear hB2 hB3 hB4 hB5
    go_wp2_with fail
    go_ret
    exact ⟨by rw [HV.out]; rfl, HBF.out⟩
   ·
    have hp' : (p == 0) = false := by simpa using hp
    have HV := Lib.hid (show exitOk (3, p, false, n) = false from by simp [exitOk, hi, hp])
    clear hi hp
    have HU := Lib.hid (fun V : World => impl_usedBy 3 p false n V)
    rw [usedV_3] at HU
    have hb0 : Below w.heap.size w (w.alloc (.cells #[.int .i64 3, .int .i64 p, .bool false, .int .i64 n] 37)) := (Below.refl _ _).alloc (Nat.le_refl _) _
    have t0 : Var (w.alloc (.cells #[.int .i64 3, .int .i64 p, .bool false, .int .i64 n] 37)) w.heap.size [.int .i64 3, .int .i64 p, .bool false, .int .i64 n] := Var.new w [.int .i64 3, .int .i64 p, .bool false, .int .i64 n] 37
    have hz : w.heap.size < (w.alloc (.cells #[.int .i64 3, .int .i64 p, .bool false, .int .i64 n] 37)).heap.size := by simp
    go_enter Tryz.func124, Tryz.ntmps124
    go_wp2_with fail
    generalize w.alloc (.cells #[.int .i64 3, .int .i64 p, .bool false, .int .i64 n] 37) = W0 at t0 hb0 hz ⊢
    refine (HU.out _).mono ?_
    rintro e w1 ⟨rfl, hb1⟩
    have hb := btr hb0 hb1
    have T := t0.below hb1 hz
    have hz1 : w.heap.size < w1.heap.size := T.2
    clear hb0 hb1 t0 hz HU
    have as0 := as_out_no (.agg #[.int .i64 n])
    have as1 := as_out_fault (.agg #[.int .i64 n])
    have as2 := as_out_call (.agg #[.int .i64 n])
    have as3 := as_out_out (.agg #[.int .i64 n])
    have t2 : Var (w1.alloc (.cells #[.int .i64 n] 144)) w1.heap.size [.int .i64 n] := Var.new w1 [.int .i64 n] 144
    have hA : Below w1.heap.size w1 (w1.alloc (.cells #[.int .i64 n] 144)) := (Below.refl _ _).alloc (Nat.le_refl _) _
    have hB2 := btr hb hA
    have T2 := T.below hA hz1
    have hz2 : w1.heap.size < (w1.alloc (.cells #[.int .i64 n] 144)).heap.size := by simp
    have hz3 : w.heap.size < (w1.alloc (.cells #[.int .i64 n] 144)).heap.size := Nat.lt_trans hz1 hz2
    clear T hA hb
    go_wp2_with fail
    generalize w1.alloc (.cells #[.int .i64 n] 144) = W2 at t2 T2 hB2 hz2 hz3 ⊢
    refine Ord.wp_region_ord (fun w' => w'.cell? ⟨w.heap.size, 0, none⟩ = some (.int .i64 3) ∧ w'.cell? ⟨w.heap.size, 1, none⟩ = some (.int .i64 p) ∧ w'.cell? ⟨w.heap.size, 2, none⟩ = some (.bool false) ∧ w'.cell? ⟨w.heap.size, 3, none⟩ = some (.int .i64 n) ∧ w'.cell? ⟨w1.heap.size, 0, none⟩ = some (.int .i64 n)) [(0, true), (1, true), (2, false), (3, true), (4, true), (5, true), (6, true), (7, false), (8, true), (9, true), (10, true)] (by kernel_rfl) (by kernel_rfl) rfl (by kernel_rfl) (⟨T2.cell 0 (v := .int .i64 3) rfl, T2.cell 1 (v := .int .i64 p) rfl, T2.cell 2 (v := .bool false) rfl, T2.cell 3 (v := .int .i64 n) rfl, t2.cell 0 (v := .int .i64 n) rfl⟩) ?_
    simp only [Ord.ordOps, List.getElem?_toArray, List.getElem?_cons_zero, List.getElem?_cons_succ]
    repeat (first
     | (refine Ord.ord_plain (v := ?_) rfl (fun w' hS => ?_) ?_; rotate_left; (focus ((try dsimp only at hS); go_simp; first | done | with_reducible rfl)); simp only [Act.put, List.setIfInBounds_toArray, List.set_cons_zero, List.set_cons_succ])
     | (refine Ord.ord_skip (by rfl) ?_; simp only [Act.put, List.setIfInBounds_toArray, List.set_cons_zero, List.set_cons_succ])
     | (refine Ord.ord_take (v := ?_) (by rfl) (fun w' hS => ?_) ?_; rotate_left; (focus ((try dsimp only at hS); go_simp; first | done | with_reducible rfl)); simp only [Act.put, List.setIfInBounds_toArray, List.set_cons_zero, List.set_cons_succ]))
    have hbd : Below W2.heap.size W2 W2.drew := (Below.refl _ _).drew
    have hB3 := btr hB2 hbd
    have T3 := T2.below hbd hz3
    have t3 := t2.below hbd hz2
    have hz4 : W2.heap.size ≤ W2.drew.heap.size := hbd.size
    clear hbd
    refine Ord.ord_call (fun K hK => ?_)
    go_simp
    refine (HC.out _).mono ?_
    rintro e v4' ⟨rfl, hb4⟩
    have hB4 := btr hB3 hb4
    have T4 := T3.below hb4 (by omega)
    have t4 := t3.below hb4 (by omega)
    have hy4 := hb4.size
    refine hK.out _ _ (⟨T4.cell 0 (v := .int .i64 3) rfl, T4.cell 1 (v := .int .i64 p) rfl, T4.cell 2 (v := .bool false) rfl, T4.cell 3 (v := .int .i64 n) rfl, t4.cell 0 (v := .int .i64 n) rfl⟩) ?_
    clear hK K
    repeat (first
     | (refine Ord.ord_plain (v := ?_) rfl (fun w' hS => ?_) ?_; rotate_left; (focus ((try dsimp only at hS); go_simp; first | done | with_reducible rfl)); simp only [Act.put, List.setIfInBounds_toArray, List.set_cons_zero, List.set_cons_succ])
     | (refine Ord.ord_skip (by rfl) ?_; simp only [Act.put, List.setIfInBounds_toArray, List.set_cons_zero, List.set_cons_succ])
     | (refine Ord.ord_take (v := ?_) (by rfl) (fun w' hS => ?_) ?_; rotate_left; (focus ((try dsimp only at hS); go_simp; first | done | with_reducible rfl)); simp only [Act.put, List.setIfInBounds_toArray, List.set_cons_zero, List.set_cons_succ]))
    refine Ord.ord_call (fun K hK => ?_)
    go_simp
    refine (HM.out _).mono ?_
    rintro e v5' ⟨rfl, hb5⟩
    have hB5 := btr hB4 hb5
    have T5 := T4.below hb5 (by omega)
    have t5 := t4.below hb5 (by omega)
    have hy5 := hb5.size
    refine hK.out _ _ (⟨T5.cell 0 (v := .int .i64 3) rfl, T5.cell 1 (v := .int .i64 p) rfl, T5.cell 2 (v := .bool false) rfl, T5.cell 3 (v := .int .i64 n) rfl, t5.cell 0 (v := .int .i64 n) rfl⟩) ?_
    clear hK K
    repeat (first
     | (refine Ord.ord_plain (v := ?_) rfl (fun w' hS => ?_) ?_; rotate_left; (focus ((try dsimp only at hS); go_simp; first | done | with_reducible rfl)); simp only [Act.put, List.setIfInBounds_toArray, List.set_cons_zero, List.set_cons_succ])
     | (refine Ord.ord_skip (by rfl) ?_; simp only [Act.put, List.setIfInBounds_toArray, List.set_cons_zero, List.set_cons_succ])
     | (refine Ord.ord_take (v := ?_) (by rfl) (fun w' hS => ?_) ?_; rotate_left; (focus ((try dsimp only at hS); go_simp; first | done | with_reducible rfl)); simp only [Act.put, List.setIfInBounds_toArray, List.set_cons_zero, List.set_cons_succ]))
    refine Ord.ord_nil ?_
    have HBF := Lib.hid hB5
    clear hB2 hB3 hB4 hB5
    go_wp2_with fail
    go_ret
    exact ⟨by rw [HV.out]; rfl, HBF.out⟩
   ·
    have hp' : (p == 0) = false := by simpa using hp
    have HV := Lib.hid (show exitOk (3, p, true, n) = false from by simp [exitOk, hi, hp])
    clear hi hp
    have HU := Lib.hid (fun V : World => impl_usedBy 3 p true n V)
    rw [usedV_3] at HU
    have hb0 : Below w.heap.size w (w.alloc (.cells #[.int .i64 3, .int .i64 p, .bool true, .int .i64 n] 37)) := (Below.refl _ _).alloc (Nat.le_refl _) _
    have t0 : Var (w.alloc (.cells #[.int .i64 3, .int .i64 p, .bool true, .int .i64 n] 37)) w.heap.size [.int .i64 3, .int .i64 p, .bool true, .int .i64 n] := Var.new w [.int .i64 3, .int .i64 p, .bool true, .int .i64 n] 37
    have hz : w.heap.size < (w.alloc (.cells #[.int .i64 3, .int .i64 p, .bool true, .int .i64 n] 37)).heap.size := by simp
    go_enter Tryz.func124, Tryz.ntmps124
    go_wp2_with fail
    generalize w.alloc (.cells #[.int .i64 3, .int .i64 p, .bool true, .int .i64 n] 37) = W0 at t0 hb0 hz ⊢
    refine (HU.out _).mono ?_
    rintro e w1 ⟨rfl, hb1⟩
    have hb := btr hb0 hb1
    have T := t0.below hb1 hz
    have hz1 : w.heap.size < w1.heap.size := T.2
    clear hb0 hb1 t0 hz HU
    have as0 := as_out_no (.agg #[.int .i64 n])
    have as1 := as_out_fault (.agg #[.int .i64 n])
    have as2 := as_out_call (.agg #[.int .i64 n])
    have as3 := as_out_out (.agg #[.int .i64 n])
    have t2 : Var (w1.alloc (.cells #[.int .i64 n] 144)) w1.heap.size [.int .i64 n] := Var.new w1 [.int .i64 n] 144
    have hA : Below w1.heap.size w1 (w1.alloc (.cells #[.int .i64 n] 144)) := (Below.refl _ _).alloc (Nat.le_refl _) _
    have hB2 := btr hb hA
    have T2 := T.below hA hz1
    have hz2 : w1.heap.size < (w1.alloc (.cells #[.int .i64 n] 144)).heap.size := by simp
    have hz3 : w.heap.size < (w1.alloc (.cells #[.int .i64 n] 144)).heap.size := Nat.lt_trans hz1 hz2
    clear T hA hb
    go_wp2_with fail
    generalize w1.alloc (.cells #[.int .i64 n] 144) = W2 at t2 T2 hB2 hz2 hz3 ⊢
    refine Ord.wp_region_ord (fun w' => w'.cell? ⟨w.heap.size, 0, none⟩ = some (.int .i64 3) ∧ w'.cell? ⟨w.heap.size, 1, none⟩ = some (.int .i64 p) ∧ w'.cell? ⟨w.heap.size, 2, none⟩ = some (.bool true) ∧ w'.cell? ⟨w.heap.size, 3, none⟩ = some (.int .i64 n) ∧ w'.cell? ⟨w1.heap.size, 0, none⟩ = some (.int .i64 n)) [(0, true), (1, true), (2, false), (3, true), (4, true), (5, true), (6, true), (7, false), (8, true), (9, true), (10, true)] (by kernel_rfl) (by kernel_rfl) rfl (by kernel_rfl) (⟨T2.cell 0 (v := .int .i64 3) rfl, T2.cell 1 (v := .int .i64 p) rfl, T2.cell 2 (v := .bool true) rfl, T2.cell 3 (v := .int .i64 n) rfl, t2.cell 0 (v := .int .i64 n) rfl⟩) ?_
    simp only [Ord.ordOps, List.getElem?_toArray, List.getElem?_cons_zero, List.getElem?_cons_succ]
    repeat (first
     | (refine Ord.ord_plain (v := ?_) rfl (fun w' hS => ?_) ?_; rotate_left; (focus ((try dsimp only at hS); go_simp; first | done | with_reducible rfl)); simp only [Act.put, List.setIfInBounds_toArray, List.set_cons_zero, List.set_cons_succ])
     | (refine Ord.ord_skip (by rfl) ?_; simp only [Act.put, List.setIfInBounds_toArray, List.set_cons_zero, List.set_cons_succ])
     | (refine Ord.ord_take (v := ?_) (by rfl) (fun w' hS => ?_) ?_; rotate_left; (focus ((try dsimp only at hS); go_simp; first | done | with_reducible rfl)); simp only [Act.put, List.setIfInBounds_toArray, List.set_cons_zero, List.set_cons_succ]))
    have hbd : Below W2.heap.size W2 W2.drew := (Below.refl _ _).drew
    have hB3 := btr hB2 hbd
    have T3 := T2.below hbd hz3
    have t3 := t2.below hbd hz2
    have hz4 : W2.heap.size ≤ W2.drew.heap.size := hbd.size
    clear hbd
    refine Ord.ord_call (fun K hK => ?_)
    go_simp
    refine (HC.out _).mono ?_
    rintro e v4' ⟨rfl, hb4⟩
    have hB4 := btr hB3 hb4
    have T4 := T3.below hb4 (by omega)
    have t4 := t3.below hb4 (by omega)
    have hy4 := hb4.size
    refine hK.out _ _ (⟨T4.cell 0 (v := .int .i64 3) rfl, T4.cell 1 (v := .int .i64 p) rfl, T4.cell 2 (v := .bool true) rfl, T4.cell 3 (v := .int .i64 n) rfl, t4.cell 0 (v := .int .i64 n) rfl⟩) ?_
    clear hK K
    repeat (first
     | (refine Ord.ord_plain (v := ?_) rfl (fun w' hS => ?_) ?_; rotate_left; (focus ((try dsimp only at hS); go_simp; first | done | with_reducible rfl)); simp only [Act.put, List.setIfInBounds_toArray, List.set_cons_zero, List.set_cons_succ])
     | (refine Ord.ord_skip (by rfl) ?_; simp only [Act.put, List.setIfInBounds_toArray, List.set_cons_zero, List.set_cons_succ])
     | (refine Ord.ord_take (v := ?_) (by rfl) (fun w' hS => ?_) ?_; rotate_left; (focus ((try dsimp only at hS); go_simp; first | done | with_reducible rfl)); simp only [Act.put, List.setIfInBounds_toArray, List.set_cons_zero, List.set_cons_succ]))
    refine Ord.ord_call (fun K hK => ?_)
    go_simp
    refine (HM.out _).mono ?_
    rintro e v5' ⟨rfl, hb5⟩
    have hB5 := btr hB4 hb5
    have T5 := T4.below hb5 (by omega)
    have t5 := t4.below hb5 (by omega)
    have hy5 := hb5.size
    refine hK.out _ _ (⟨T5.cell 0 (v := .int .i64 3) rfl, T5.cell 1 (v := .int .i64 p) rfl, T5.cell 2 (v := .bool true) rfl, T5.cell 3 (v := .int .i64 n) rfl, t5.cell 0 (v := .int .i64 n) rfl⟩) ?_
    clear hK K
    repeat (first
     | (refine Ord.ord_plain (v := ?_) rfl (fun w' hS => ?_) ?_; rotate_left; (focus ((try dsimp only at hS); go_simp; first | done | with_reducible rfl)); simp only [Act.put, List.setIfInBounds_toArray, List.set_cons_zero, List.set_cons_succ])
     | (refine Ord.ord_skip (by rfl) ?_; simp only [Act.put, List.setIfInBounds_toArray, List.set_cons_zero, List.set_cons_succ])
     | (refine Ord.ord_take (v := ?_) (by rfl) (fun w' hS => ?_) ?_; rotate_left; (focus ((try dsimp only at hS); go_simp; first | done | with_reducible rfl)); simp only [Act.put, List.setIfInBounds_toArray, List.set_cons_zero, List.set_cons_succ]))
    refine Ord.ord_nil ?_
    have HBF := Lib.hid hB5
    clear hB2 hB3 hB4 hB5
    go_wp2_with fail
    go_ret
    exact ⟨by rw [HV.out]; rfl, HBF.out⟩
 ·
  have HV := Lib.hid (exitOk_else (p := p) (n := n) (w := q) h)
  have HU := Lib.hid (fun V : World => impl_usedBy k p q n V)
  rw [usedV_else p q n h] at HU
  have hb0 : Below w.heap.size w (w.alloc (.cells #[.int .i64 k, .int .i64 p, .bool q, .int .i64 n] 37)) := (Below.refl _ _).alloc (Nat.le_refl _) _
  have t0 : Var (w.alloc (.cells #[.int .i64 k, .int .i64 p, .bool q, .int .i64 n] 37)) w.heap.size [.int .i64 k, .int .i64 p, .bool q, .int .i64 n] := Var.new w [.int .i64 k, .int .i64 p, .bool q, .int .i64 n] 37
  have hz : w.heap.size < (w.alloc (.cells #[.int .i64 k, .int .i64 p, .bool q, .int .i64 n] 37)).heap.size := by simp
  go_enter Tryz.func124, Tryz.ntmps124
  go_wp2_with fail
  generalize w.alloc (.cells #[.int .i64 k, .int .i64 p, .bool q, .int .i64 n] 37) = W0 at t0 hb0 hz ⊢
  refine (HU.out _).mono ?_
  rintro e w1 ⟨rfl, hb1⟩
  have hb := btr hb0 hb1
  have T := t0.below hb1 hz
  have hz1 : w.heap.size < w1.heap.size := T.2
  clear hb0 hb1 t0 hz HU
  have as0 := as_nil_no
  have as1 := as_nil_fault
  have as2 := as_nil_call
  have as3 := as_nil_out
  have as4 := as_nil_halt
  have HB := Lib.hid hb
  clear T hb hz1 h
  go_wp2_with fail
  go_ret
  exact ⟨by rw [HV.out]; rfl, HB.out⟩
end Go.Proofs.YtldgadmpclgfhaaGreat.Exits
namespace Go.Proofs.YtldgadmpclgfhaaGreat.Ctls
set_option maxHeartbeats 8000000
set_option maxRecDepth 100000
open Go.ChangeShapes Go.WideShapes Go.ChangeAt Go.RowKit
open Go.Proofs.YtldgadmpclgfhaaGreat.Base Go.Proofs.YtldgadmpclgfhaaGreat.Mem Go.Proofs.YtldgadmpclgfhaaGreat.Data Go.Proofs.YtldgadmpclgfhaaGreat.Ints Go.Proofs.YtldgadmpclgfhaaGreat.Slots
set_option linter.unusedVariables false
set_option linter.unusedSimpArgs false
theorem impl_trapsOk (n : Int) (w : World) :
  Calls Tryz.prog 134 #[.int .i64 n] w fun e w' => e = .returned (.bool (inB n 0 3)) ∧ w = w' := by
 have hv : inB n 0 3 = (decide (n ≥ 0) && decide (n ≤ 3)) := rfl
 cases h1 : decide (n ≥ 0)
 all_goals
  cases h2 : decide (n ≤ 3)
  all_goals
   rw [h1, h2] at hv
   simp only [Bool.and_false, Bool.and_true] at hv
   rw [hv]; clear hv
   go_enter Tryz.func134, Tryz.ntmps134
   go_wp2
   go_ret
   exact ⟨rfl, rfl⟩
theorem impl_postOk (n : Int) (w : World) :
  Calls Tryz.prog 91 #[.int .i64 n] w fun e w' => e = .returned (.bool (inB n 0 255)) ∧ w = w' := by
 have hv : inB n 0 255 = (decide (n ≥ 0) && decide (n ≤ 255)) := rfl
 cases h1 : decide (n ≥ 0)
 all_goals
  cases h2 : decide (n ≤ 255)
  all_goals
   rw [h1, h2] at hv
   simp only [Bool.and_false, Bool.and_true] at hv
   rw [hv]; clear hv
   go_enter Tryz.func91, Tryz.ntmps91
   go_wp2
   go_ret
   exact ⟨rfl, rfl⟩
def faultsL (p q r s : Bool) : List Int :=
 (if p = true then [1] else []) ++ ((if q = true then [2] else []) ++ ((if r = true then [3] else []) ++ (if s = true then [4] else [])))
def nextF (p q r s : Bool) (f : Int) : Int :=
 if f = 1 then (if p = true then 1 else if q = true then 2 else if r = true then 3 else if s = true then 4 else 0)
 else if f = 2 then (if q = true then 2 else if r = true then 3 else if s = true then 4 else 0)
 else if f = 3 then (if r = true then 3 else if s = true then 4 else 0)
 else if f = 4 then (if s = true then 4 else 0) else 0
def p1 (s : CT) : Bool := !inB s.1 0 3
def p2 (s : CT) : Bool := !inB s.2.1 0 255
def p3 (s : CT) : Bool := (s.2.1 != 0) && !s.2.2
def p4 (s : CT) : Bool := (s.2.1 != 0) && (s.1 == 2)
def nx (s : CT) (f : Int) : Int := nextF (p1 s) (p2 s) (p3 s) (p4 s) f
theorem ctlF_is (s : CT) : ctlF s = faultsL (p1 s) (p2 s) (p3 s) (p4 s) := by
 unfold ctlF faultsL p1 p2 p3 p4
 congr 1
 ·
  cases inB s.1 0 3 <;> simp
 ·
  congr 1
  ·
   cases inB s.2.1 0 255 <;> simp
  ·
   congr 1
   ·
    by_cases h : s.2.1 = 0 <;> cases s.2.2 <;> simp [h]
   ·
    by_cases h : s.2.1 = 0 <;> by_cases h2 : s.1 = 2 <;> simp [h, h2]
theorem ok_next : ∀ p q r s : Bool, ((faultsL p q r s).length == 0) = (nextF p q r s 1 == 0) := by decide +kernel
theorem ctlOk_is (s : CT) : ctlOk s = (nx s 1 == 0) := by unfold ctlOk nx; rw [ctlF_is]; exact ok_next _ _ _ _
theorem impl_faultFrom (a b f : Int) (o : Bool) (w : World) (hf : f = 1 ∨ f = 2 ∨ f = 3 ∨ f = 4 ∨ f = 5) :
  Calls Tryz.prog 128 #[.agg #[.int .i64 a, .int .i64 b, .bool o], .int .i64 f] w fun e w' => e = .returned (.int .i64 (nx (a, b, o) f)) ∧ Below w.heap.size w w' := by
 have hb0 : Below w.heap.size w (w.alloc (.cells #[.int .i64 a, .int .i64 b, .bool o] 35)) := (Below.refl _ _).alloc (Nat.le_refl _) _
 have t0 := Var.new w [.int .i64 a, .int .i64 b, .bool o] 35
 change Var (w.alloc (.cells #[.int .i64 a, .int .i64 b, .bool o] 35)) w.heap.size [.int .i64 a, .int .i64 b, .bool o] at t0
 have K1 := fun V : World => impl_trapsOk a V
 have K2 := fun V : World => impl_postOk b V
 have hv : nx (a, b, o) f = nextF (!inB a 0 3) (!inB b 0 255) ((b != 0) && !o) ((b != 0) && (a == 2)) f := rfl
 generalize inB a 0 3 = x at K1 hv
 generalize inB b 0 255 = y at K2 hv
 rcases hf with rfl | rfl | rfl | rfl | rfl
 ·
  skip
  cases x
  ·
   skip
   have HV := Lib.hid (show nx (a, b, o) 1 = 1 from by rw [hv]; simp [nextF])
   clear hv
   go_enter Tryz.func128, Tryz.ntmps128
   go_wp2_with fail
   generalize w.alloc (.cells #[.int .i64 a, .int .i64 b, .bool o] 35) = W0 at t0 hb0 ⊢
   have v0 := t0.cell 0 (v := .int .i64 a) rfl
   have v1 := t0.cell 1 (v := .int .i64 b) rfl
   have v2 := t0.cell 2 (v := .bool o) rfl
   refine (K1 _).mono ?_
   rintro e w' ⟨rfl, rfl⟩
   go_wp2_with fail
   go_ret
   exact ⟨by rw [HV.out]; rfl, hb0⟩
  ·
   skip
   cases y
   ·
    skip
    have HV := Lib.hid (show nx (a, b, o) 1 = 2 from by rw [hv]; simp [nextF])
    clear hv
    go_enter Tryz.func128, Tryz.ntmps128
    go_wp2_with fail
    generalize w.alloc (.cells #[.int .i64 a, .int .i64 b, .bool o] 35) = W0 at t0 hb0 ⊢
    have v0 := t0.cell 0 (v := .int .i64 a) rfl
    have v1 := t0.cell 1 (v := .int .i64 b) rfl
    have v2 := t0.cell 2 (v := .bool o) rfl
    refine (K1 _).mono ?_
    rintro e w' ⟨rfl, rfl⟩
    go_wp2_with fail
    refine (K2 _).mono ?_
    rintro e w' ⟨rfl, rfl⟩
    go_wp2_with fail
    go_ret
    exact ⟨by rw [HV.out]; rfl, hb0⟩
   ·
    skip
    by_cases hb2 : b = 0
    ·
     subst hb2
     have HV := Lib.hid (show nx (a, 0, o) 1 = 0 from by rw [hv]; simp [nextF])
     clear hv
     go_enter Tryz.func128, Tryz.ntmps128
     go_wp2_with fail
     generalize w.alloc (.cells #[.int .i64 a, .int .i64 0, .bool o] 35) = W0 at t0 hb0 ⊢
     have v0 := t0.cell 0 (v := .int .i64 a) rfl
     have v1 := t0.cell 1 (v := .int .i64 0) rfl
     have v2 := t0.cell 2 (v := .bool o) rfl
     refine (K1 _).mono ?_
     rintro e w' ⟨rfl, rfl⟩
     go_wp2_with fail
     refine (K2 _).mono ?_
     rintro e w' ⟨rfl, rfl⟩
     go_wp2_with fail
     go_ret
     exact ⟨by rw [HV.out]; rfl, hb0⟩
    ·
     have hbn : (b != 0) = true := by simpa using hb2
     cases o
     ·
      skip
      have HV := Lib.hid (show nx (a, b, false) 1 = 3 from by rw [hv]; simp [nextF, hbn])
      clear hv
      go_enter Tryz.func128, Tryz.ntmps128
      go_wp2_with fail
      generalize w.alloc (.cells #[.int .i64 a, .int .i64 b, .bool false] 35) = W0 at t0 hb0 ⊢
      have v0 := t0.cell 0 (v := .int .i64 a) rfl
      have v1 := t0.cell 1 (v := .int .i64 b) rfl
      have v2 := t0.cell 2 (v := .bool false) rfl
      refine (K1 _).mono ?_
      rintro e w' ⟨rfl, rfl⟩
      go_wp2_with fail
      refine (K2 _).mono ?_
      rintro e w' ⟨rfl, rfl⟩
      go_wp2_with fail
      go_ret
      exact ⟨by rw [HV.out]; rfl, hb0⟩
     ·
      skip
      by_cases ha2 : a = 2
      ·
       subst ha2
       have HV := Lib.hid (show nx (2, b, true) 1 = 4 from by rw [hv]; simp [nextF, hbn])
       clear hv
       go_enter Tryz.func128, Tryz.ntmps128
       go_wp2_with fail
       generalize w.alloc (.cells #[.int .i64 2, .int .i64 b, .bool true] 35) = W0 at t0 hb0 ⊢
       have v0 := t0.cell 0 (v := .int .i64 2) rfl
       have v1 := t0.cell 1 (v := .int .i64 b) rfl
       have v2 := t0.cell 2 (v := .bool true) rfl
       refine (K1 _).mono ?_
       rintro e w' ⟨rfl, rfl⟩
       go_wp2_with fail
       refine (K2 _).mono ?_
       rintro e w' ⟨rfl, rfl⟩
       go_wp2_with fail
       go_ret
       exact ⟨by rw [HV.out]; rfl, hb0⟩
      ·
       have han : (a == 2) = false := by simpa using ha2
       have HV := Lib.hid (show nx (a, b, true) 1 = 0 from by rw [hv]; simp [nextF, hbn, han])
       clear hv
       go_enter Tryz.func128, Tryz.ntmps128
       go_wp2_with fail
       generalize w.alloc (.cells #[.int .i64 a, .int .i64 b, .bool true] 35) = W0 at t0 hb0 ⊢
       have v0 := t0.cell 0 (v := .int .i64 a) rfl
       have v1 := t0.cell 1 (v := .int .i64 b) rfl
       have v2 := t0.cell 2 (v := .bool true) rfl
       refine (K1 _).mono ?_
       rintro e w' ⟨rfl, rfl⟩
       go_wp2_with fail
       refine (K2 _).mono ?_
       rintro e w' ⟨rfl, rfl⟩
       go_wp2_with fail
       go_ret
       exact ⟨by rw [HV.out]; rfl, hb0⟩
 ·
  skip
  cases y
  ·
   skip
   have HV := Lib.hid (show nx (a, b, o) 2 = 2 from by rw [hv]; simp [nextF])
   clear hv
   go_enter Tryz.func128, Tryz.ntmps128
   go_wp2_with fail
   generalize w.alloc (.cells #[.int .i64 a, .int .i64 b, .bool o] 35) = W0 at t0 hb0 ⊢
   have v0 := t0.cell 0 (v := .int .i64 a) rfl
   have v1 := t0.cell 1 (v := .int .i64 b) rfl
   have v2 := t0.cell 2 (v := .bool o) rfl
   refine (K2 _).mono ?_
   rintro e w' ⟨rfl, rfl⟩
   go_wp2_with fail
   go_ret
   exact ⟨by rw [HV.out]; rfl, hb0⟩
  ·
   skip
   by_cases hb2 : b = 0
   ·
    subst hb2
    have HV := Lib.hid (show nx (a, 0, o) 2 = 0 from by rw [hv]; simp [nextF])
    clear hv
    go_enter Tryz.func128, Tryz.ntmps128
    go_wp2_with fail
    generalize w.alloc (.cells #[.int .i64 a, .int .i64 0, .bool o] 35) = W0 at t0 hb0 ⊢
    have v0 := t0.cell 0 (v := .int .i64 a) rfl
    have v1 := t0.cell 1 (v := .int .i64 0) rfl
    have v2 := t0.cell 2 (v := .bool o) rfl
    refine (K2 _).mono ?_
    rintro e w' ⟨rfl, rfl⟩
    go_wp2_with fail
    go_ret
    exact ⟨by rw [HV.out]; rfl, hb0⟩
   ·
    have hbn : (b != 0) = true := by simpa using hb2
    cases o
    ·
     skip
     have HV := Lib.hid (show nx (a, b, false) 2 = 3 from by rw [hv]; simp [nextF, hbn])
     clear hv
     go_enter Tryz.func128, Tryz.ntmps128
     go_wp2_with fail
     generalize w.alloc (.cells #[.int .i64 a, .int .i64 b, .bool false] 35) = W0 at t0 hb0 ⊢
     have v0 := t0.cell 0 (v := .int .i64 a) rfl
     have v1 := t0.cell 1 (v := .int .i64 b) rfl
     have v2 := t0.cell 2 (v := .bool false) rfl
     refine (K2 _).mono ?_
     rintro e w' ⟨rfl, rfl⟩
     go_wp2_with fail
     go_ret
     exact ⟨by rw [HV.out]; rfl, hb0⟩
    ·
     skip
     by_cases ha2 : a = 2
     ·
      subst ha2
      have HV := Lib.hid (show nx (2, b, true) 2 = 4 from by rw [hv]; simp [nextF, hbn])
      clear hv
      go_enter Tryz.func128, Tryz.ntmps128
      go_wp2_with fail
      generalize w.alloc (.cells #[.int .i64 2, .int .i64 b, .bool true] 35) = W0 at t0 hb0 ⊢
      have v0 := t0.cell 0 (v := .int .i64 2) rfl
      have v1 := t0.cell 1 (v := .int .i64 b) rfl
      have v2 := t0.cell 2 (v := .bool true) rfl
      refine (K2 _).mono ?_
      rintro e w' ⟨rfl, rfl⟩
      go_wp2_with fail
      go_ret
      exact ⟨by rw [HV.out]; rfl, hb0⟩
     ·
      have han : (a == 2) = false := by simpa using ha2
      have HV := Lib.hid (show nx (a, b, true) 2 = 0 from by rw [hv]; simp [nextF, hbn, han])
      clear hv
      go_enter Tryz.func128, Tryz.ntmps128
      go_wp2_with fail
      generalize w.alloc (.cells #[.int .i64 a, .int .i64 b, .bool true] 35) = W0 at t0 hb0 ⊢
      have v0 := t0.cell 0 (v := .int .i64 a) rfl
      have v1 := t0.cell 1 (v := .int .i64 b) rfl
      have v2 := t0.cell 2 (v := .bool true) rfl
      refine (K2 _).mono ?_
      rintro e w' ⟨rfl, rfl⟩
      go_wp2_with fail
      go_ret
      exact ⟨by rw [HV.out]; rfl, hb0⟩
 ·
  skip
  by_cases hb2 : b = 0
  ·
   subst hb2
   have HV := Lib.hid (show nx (a, 0, o) 3 = 0 from by rw [hv]; simp [nextF])
   clear hv
   go_enter Tryz.func128, Tryz.ntmps128
   go_wp2_with fail
   generalize w.alloc (.cells #[.int .i64 a, .int .i64 0, .bool o] 35) = W0 at t0 hb0 ⊢
   have v0 := t0.cell 0 (v := .int .i64 a) rfl
   have v1 := t0.cell 1 (v := .int .i64 0) rfl
   have v2 := t0.cell 2 (v := .bool o) rfl
   go_ret
   exact ⟨by rw [HV.out]; rfl, hb0⟩
  ·
   have hbn : (b != 0) = true := by simpa using hb2
   cases o
   ·
    skip
    have HV := Lib.hid (show nx (a, b, false) 3 = 3 from by rw [hv]; simp [nextF, hbn])
    clear hv
    go_enter Tryz.func128, Tryz.ntmps128
    go_wp2_with fail
    generalize w.alloc (.cells #[.int .i64 a, .int .i64 b, .bool false] 35) = W0 at t0 hb0 ⊢
    have v0 := t0.cell 0 (v := .int .i64 a) rfl
    have v1 := t0.cell 1 (v := .int .i64 b) rfl
    have v2 := t0.cell 2 (v := .bool false) rfl
    go_ret
    exact ⟨by rw [HV.out]; rfl, hb0⟩
   ·
    skip
    by_cases ha2 : a = 2
    ·
     subst ha2
     have HV := Lib.hid (show nx (2, b, true) 3 = 4 from by rw [hv]; simp [nextF, hbn])
     clear hv
     go_enter Tryz.func128, Tryz.ntmps128
     go_wp2_with fail
     generalize w.alloc (.cells #[.int .i64 2, .int .i64 b, .bool true] 35) = W0 at t0 hb0 ⊢
     have v0 := t0.cell 0 (v := .int .i64 2) rfl
     have v1 := t0.cell 1 (v := .int .i64 b) rfl
     have v2 := t0.cell 2 (v := .bool true) rfl
     go_ret
     exact ⟨by rw [HV.out]; rfl, hb0⟩
    ·
     have han : (a == 2) = false := by simpa using ha2
     have HV := Lib.hid (show nx (a, b, true) 3 = 0 from by rw [hv]; simp [nextF, hbn, han])
     clear hv
     go_enter Tryz.func128, Tryz.ntmps128
     go_wp2_with fail
     generalize w.alloc (.cells #[.int .i64 a, .int .i64 b, .bool true] 35) = W0 at t0 hb0 ⊢
     have v0 := t0.cell 0 (v := .int .i64 a) rfl
     have v1 := t0.cell 1 (v := .int .i64 b) rfl
     have v2 := t0.cell 2 (v := .bool true) rfl
     go_ret
     exact ⟨by rw [HV.out]; rfl, hb0⟩
 ·
  skip
  by_cases hb2 : b = 0
  ·
   subst hb2
   have HV := Lib.hid (show nx (a, 0, o) 4 = 0 from by rw [hv]; simp [nextF])
   clear hv
   go_enter Tryz.func128, Tryz.ntmps128
   go_wp2_with fail
   generalize w.alloc (.cells #[.int .i64 a, .int .i64 0, .bool o] 35) = W0 at t0 hb0 ⊢
   have v0 := t0.cell 0 (v := .int .i64 a) rfl
   have v1 := t0.cell 1 (v := .int .i64 0) rfl
   have v2 := t0.cell 2 (v := .bool o) rfl
   go_ret
   exact ⟨by rw [HV.out]; rfl, hb0⟩
  ·
   have hbn : (b != 0) = true := by simpa using hb2
   by_cases ha2 : a = 2
   ·
    subst ha2
    have HV := Lib.hid (show nx (2, b, o) 4 = 4 from by rw [hv]; simp [nextF, hbn])
    clear hv
    go_enter Tryz.func128, Tryz.ntmps128
    go_wp2_with fail
    generalize w.alloc (.cells #[.int .i64 2, .int .i64 b, .bool o] 35) = W0 at t0 hb0 ⊢
    have v0 := t0.cell 0 (v := .int .i64 2) rfl
    have v1 := t0.cell 1 (v := .int .i64 b) rfl
    have v2 := t0.cell 2 (v := .bool o) rfl
    go_ret
    exact ⟨by rw [HV.out]; rfl, hb0⟩
   ·
    have han : (a == 2) = false := by simpa using ha2
    have HV := Lib.hid (show nx (a, b, o) 4 = 0 from by rw [hv]; simp [nextF, hbn, han])
    clear hv
    go_enter Tryz.func128, Tryz.ntmps128
    go_wp2_with fail
    generalize w.alloc (.cells #[.int .i64 a, .int .i64 b, .bool o] 35) = W0 at t0 hb0 ⊢
    have v0 := t0.cell 0 (v := .int .i64 a) rfl
    have v1 := t0.cell 1 (v := .int .i64 b) rfl
    have v2 := t0.cell 2 (v := .bool o) rfl
    go_ret
    exact ⟨by rw [HV.out]; rfl, hb0⟩
 ·
  skip
  have HV := Lib.hid (show nx (a, b, o) 5 = 0 from by rw [hv]; simp [nextF])
  clear hv
  go_enter Tryz.func128, Tryz.ntmps128
  go_wp2_with fail
  generalize w.alloc (.cells #[.int .i64 a, .int .i64 b, .bool o] 35) = W0 at t0 hb0 ⊢
  have v0 := t0.cell 0 (v := .int .i64 a) rfl
  have v1 := t0.cell 1 (v := .int .i64 b) rfl
  have v2 := t0.cell 2 (v := .bool o) rfl
  go_ret
  exact ⟨by rw [HV.out]; rfl, hb0⟩
theorem impl_ctlOk (a b : Int) (o : Bool) (w : World) (ws : wfC (a, b, o)) :
  Calls Tryz.prog 123 #[.agg #[.int .i64 a, .int .i64 b, .bool o]] w fun e w' => e = .returned (.bool (ctlOk (a, b, o))) ∧ Below w.heap.size w w' := by
 have H1 := Lib.hid (fun V : World => impl_faultFrom a b 1 o V (.inl rfl))
 have HV := Lib.hid (ctlOk_is (a, b, o))
 generalize nx (a, b, o) 1 = z at H1 HV
 go_enter Tryz.func123, Tryz.ntmps123
 go_wp2_with fail
 refine (H1.out _).mono ?_
 rintro e w1 ⟨rfl, hb1⟩
 have HB1 := Lib.hid (btr ((Below.refl w.heap.size w).alloc (Nat.le_refl _) (.cells #[.int .i64 a, .int .i64 b, .bool o] 35)) hb1)
 clear hb1
 go_wp2_with fail
 go_ret
 exact ⟨by rw [HV.out]; rfl, HB1.out⟩
end Go.Proofs.YtldgadmpclgfhaaGreat.Ctls
namespace Go.Proofs.YtldgadmpclgfhaaGreat.Inss
set_option maxHeartbeats 8000000
set_option maxRecDepth 100000
open Go.ChangeShapes Go.WideShapes Go.ChangeAt Go.RowKit
open Go.Proofs.YtldgadmpclgfhaaGreat.Base Go.Proofs.YtldgadmpclgfhaaGreat.Mem Go.Proofs.YtldgadmpclgfhaaGreat.Data Go.Proofs.YtldgadmpclgfhaaGreat.Addrs Go.Proofs.YtldgadmpclgfhaaGreat.Rights
set_option linter.unusedVariables false
set_option linter.unusedSimpArgs false
def topX (o : Int) : Int := if o = 1 ∨ o = 2 ∨ o = 5 ∨ o = 6 then 99 else if o = 3 ∨ o = 4 then 15 else if o = 7 then 0 else if o = 8 then 11 else -1
theorem insOk_top (o x : Int) : insOk (o, x) = (decide (0 ≤ x) && decide (x ≤ topX o)) := by
 unfold insOk topX
 dsimp only
 have hz : (x == 0) = (decide (0 ≤ x) && decide (x ≤ 0)) := by
  rw [Bool.eq_iff_iff, beq_iff_eq, Bool.and_eq_true, decide_eq_true_iff, decide_eq_true_iff]; omega
 have hb : ∀ k : Int, inB x 0 k = (decide (0 ≤ x) && decide (x ≤ k)) := fun k => by
  rw [Bool.eq_iff_iff, inB_iff, Bool.and_eq_true, decide_eq_true_iff, decide_eq_true_iff]
 have hn : false = (decide (0 ≤ x) && decide (x ≤ -1)) := by
  rw [eq_comm, Bool.and_eq_false_iff, decide_eq_false_iff_not, decide_eq_false_iff_not]; omega
 split
 ·
  exact hb 99
 ·
  split
  ·
   exact hb 15
  ·
   split
   ·
    exact hz
   ·
    split
    ·
     exact hb 11
    ·
     exact hn
theorem impl_topX (o : Int) (w : World) :
  Calls Tryz.prog 127 #[.int .i64 o] w fun e w' => e = .returned (.int .i64 (topX o)) ∧ w' = w := by
 rcases op_cases o with rfl | rfl | rfl | rfl | rfl | rfl | rfl | rfl | h
 iterate 8
  ·
   go_enter Tryz.func127, Tryz.ntmps127
   go_wp2_with fail
   go_ret
   exact ⟨rfl, rfl⟩
 ·
  have HV := Lib.hid (show topX o = -1 by
   simp only [beq_eq_false_iff_ne, ne_eq] at h
   simp [topX, h])
  obtain ⟨h1, h2, h3, h4, h5, h6, h7, h8⟩ := h
  go_enter Tryz.func127, Tryz.ntmps127
  go_wp2_with fail
  go_ret
  exact ⟨by rw [HV.out]; rfl, rfl⟩
theorem impl_insOk (o x : Int) (w : World) (ws : wfJ (o, x)) :
  Calls Tryz.prog 122 #[.agg #[.int .i64 o, .int .i64 x]] w fun e w' => e = .returned (.bool (insOk (o, x))) ∧ Below w.heap.size w w' := by
 have hb0 : Below w.heap.size w (w.alloc (.cells #[.int .i64 o, .int .i64 x] 55)) := (Below.refl _ _).alloc (Nat.le_refl _) _
 have k0 : (w.alloc (.cells #[.int .i64 o, .int .i64 x] 55)).cell? ⟨w.heap.size, 0, none⟩ = some (.int .i64 o) := cell_of_row _ _ 0 _ _ _ (heap_alloc_new w _)
 have k1 : (w.alloc (.cells #[.int .i64 o, .int .i64 x] 55)).cell? ⟨w.heap.size, 1, none⟩ = some (.int .i64 x) := cell_of_row _ _ 1 _ _ _ (heap_alloc_new w _)
 have HB := Lib.hid hb0
 have HC := Lib.hid (show ∀ V : World, Calls Tryz.prog 127 #[.int .i64 o] V fun e w' => e = .returned (.int .i64 (topX o)) ∧ w' = V from impl_topX o)
 have hv := insOk_top o x
 generalize topX o = t at hv HC
 clear hb0 ws
 by_cases h0 : 0 ≤ x
 ·
  have hd : decide (x ≥ 0) = true := decide_eq_true h0
  rw [decide_eq_true h0, Bool.true_and] at hv
  have HV := Lib.hid hv
  clear hv h0
  go_enter Tryz.func122, Tryz.ntmps122
  go_wp2_with fail
  generalize w.alloc (.cells #[.int .i64 o, .int .i64 x] 55) = W at k0 k1 HB ⊢
  go_quiet ((go_at_call 127; exact Calls.quiet_of_same (HC.out _)))
  go_wp2_with fail
  go_ret
  exact ⟨by rw [HV.out]; rfl, btr HB.out (below_drewN (Below.refl _ _) _)⟩
 ·
  have hd : decide (x ≥ 0) = false := decide_eq_false (by omega)
  rw [decide_eq_false h0, Bool.false_and] at hv
  have HV := Lib.hid hv
  clear hv h0
  go_enter Tryz.func122, Tryz.ntmps122
  go_wp2_with fail
  generalize w.alloc (.cells #[.int .i64 o, .int .i64 x] 55) = W at k0 k1 HB ⊢
  go_quiet ((go_at_call 127; exact Calls.quiet_of_same (HC.out _)))
  go_wp2_with fail
  go_ret
  exact ⟨by rw [HV.out]; rfl, btr HB.out (below_drewN (Below.refl _ _) _)⟩
theorem progOk_len {l : List JT} (h : l.length = 0 ∨ 12 < l.length) : progOk l = false := by
 unfold progOk
 rw [inB_false.2 (by omega), Bool.and_false]
theorem impl_progOk (A : Option Addr) (n c : Nat) (l : List JT) (w : World) (hn : n ≤ 1048576) (hl : l.length = n) (h1 : Lies w 0 w.heap.size A (jcells l)) (wl : wfJL l) :
  Calls Tryz.prog 109 #[.slice A n c] w fun e w' => e = .returned (.bool (progOk l)) ∧ Below w.heap.size w w' := by
 have H1 := Lib.hid h1
 have HL := Lib.hid hl
 have HW := Lib.hid wl
 clear h1 hl wl
 by_cases h0 : n = 0
 ·
  subst h0
  have HV := Lib.hid (progOk_len (l := l) (.inl HL.out))
  go_enter Tryz.func109, Tryz.ntmps109
  go_wp2_with fail
  go_ret
  exact ⟨by rw [HV.out]; rfl, Below.refl _ _⟩
 ·
  by_cases h12 : 12 < n
  ·
   have HV := Lib.hid (progOk_len (l := l) (.inr (by rw [HL.out]; exact h12)))
   have e0 : ((n : Int) == 0) = false := by simpa using h0
   have e12 : decide ((n : Int) > 12) = true := decide_eq_true (by omega)
   go_enter Tryz.func109, Tryz.ntmps109
   go_wp2_with fail
   go_ret
   exact ⟨by rw [HV.out]; rfl, Below.refl _ _⟩
  ·
   have e0 : ((n : Int) == 0) = false := by simpa using h0
   have e12 : decide ((n : Int) > 12) = false := decide_eq_false (by omega)
   go_enter Tryz.func109, Tryz.ntmps109
   go_wp2_with fail
   go_loopw [14] (fun i wr => ∃ (k : Nat), k ≤ n ∧ i = .int .i64 k ∧ (∀ (j : Nat) (hj : j < l.length), j < k → insOk l[j] = true) ∧ Below w.heap.size w wr) (fun i _ => n - (intOf i).toNat)
   case atStart => exact ⟨0, Nat.zero_le _, rfl, fun j hj h => absurd h (Nat.not_lt_zero _), Below.refl _ _⟩
   case round =>
    obtain ⟨k, hk, rfl, hall, hb⟩ := hrel
    have HA := Lib.hid hall
    have HB := Lib.hid hb
    clear hall
    by_cases hlt : k < n
    ·
     have hkl : k < l.length := by have := HL.out; omega
     obtain ⟨b, off, rfl, _, hbw, c0, c1⟩ := j_at H1.out k hkl
     have d0 := (hb.cell (p := ⟨b, off + k * 2, none⟩) hbw).trans c0
     have d1 := (hb.cell (p := ⟨b, off + k * 2 + 1, none⟩) hbw).trans c1
     have hj0 : (0 : Int) ≤ (k : Int) := Int.natCast_nonneg _
     have hj1 : (k : Int) < (n : Int) := by omega
     have hcall := impl_insOk l[k].1 l[k].2 wr (HW.out _ (List.getElem_mem hkl))
     obtain ⟨v, hv⟩ : ∃ v, insOk l[k] = v := ⟨_, rfl⟩
     rw [show insOk (l[k].1, l[k].2) = v from hv] at hcall
     have HCALL := Lib.hid hcall
     have HV := Lib.hid hv
     clear hcall hv c0 c1 hb
     generalize l[k].1 = o at d0 HCALL
     generalize l[k].2 = x at d1 HCALL
     cases v
     ·
      go_wp2_with fail
      refine HCALL.out.mono ?_
      rintro e w1 ⟨rfl, hb1⟩
      have HB1 := Lib.hid (btr HB.out hb1)
      clear hb1
      go_wp2_with fail
      go_ret
      exact ⟨by rw [progOk_no hkl HV.out]; rfl, HB1.out⟩
     ·
      go_wp2_with fail
      refine HCALL.out.mono ?_
      rintro e w1 ⟨rfl, hb1⟩
      have HB1 := Lib.hid (btr HB.out hb1)
      clear hb1
      go_wp2_with fail
      go_roundw
      case rel =>
       refine ⟨k + 1, by omega, by go_num, fun j hj h => ?_, HB1.out⟩
       rcases Nat.lt_succ_iff_lt_or_eq.1 h with h2 | rfl
       ·
        exact HA.out j hj h2
       ·
        exact HV.out
      case measure => simp [intOf]; omega
    ·
     obtain rfl : k = n := by omega
     have hv := progOk_yes (l := l) (fun j hj => HA.out j hj (by have := HL.out; omega))
     rw [HL.out, inB_iff.2 ⟨by omega, by omega⟩] at hv
     have HV := Lib.hid hv
     clear hv hb
     go_wp2_with fail
     go_ret
     exact ⟨by rw [HV.out]; rfl, HB.out⟩
theorem neq_pair (x y u v : Int) (W : World) : (binOp .neq 55 (.agg #[.int .i64 x, .int .i64 y]) (.agg #[.int .i64 u, .int .i64 v])).run Tryz.prog W = .ok (.bool (!(x == u && y == v))) W := by
 have u3 := Tryz.underlying3
 have a3 := Tryz.isAgg3
 have z3 := Tryz.sizeOf3
 have hS : Tryz.prog.underlying 55 = some (.struct (Tryz.prog.fieldsOf 55)) := by kernel_rfl
 have hp : Tryz.prog.stoodInHeld 55 = false := by kernel_rfl
 rw [run_neq_struct, show (10000 : Nat) = 9999 + 1 from rfl, run_equalIn_agg W 9999 55 _ _ hS hp]
 simp only [Program.fieldsOf, Tryz.underlying55]
 go_simp
 by_cases hx : x = u <;> by_cases hy : y = v <;> simp [hx, hy]
theorem impl_sameD (A B : Option Addr) (n n' c d : Nat) (l m : List JT) (w : World) (hn : n ≤ 1048576) (hn' : n' ≤ 1048576) (hl : l.length = n) (hm : m.length = n')
  (h1 : Lies w 0 w.heap.size A (jcells l)) (h2 : Lies w 0 w.heap.size B (jcells m)) :
  Calls Tryz.prog 86 #[.slice A n c, .slice B n' d] w (SamePost w l m) := by
 have H1 := Lib.hid h1
 have H2 := Lib.hid h2
 have HL := Lib.hid hl
 have HM := Lib.hid hm
 clear h1 h2 hl hm
 by_cases hnn : n = n'
 ·
  subst hnn
  go_enter Tryz.func86, Tryz.ntmps86
  go_wp2
  go_loopw [13] (fun i wr => ∃ (k q : Nat), k ≤ n ∧ i = .int .i64 k ∧ l.take k = m.take k ∧ wr = w.drewN q) (fun i _ => n - (intOf i).toNat)
  case atStart => exact ⟨0, 0, Nat.zero_le _, rfl, rfl, rfl⟩
  case round =>
   obtain ⟨k, q, hk, rfl, ht, rfl⟩ := hrel
   have HT := Lib.hid ht
   clear ht
   by_cases hlt : k < n
   ·
    have hkl : k < l.length := by have := HL.out; omega
    have hkm : k < m.length := by have := HM.out; omega
    obtain ⟨b, off, rfl, _, hbw, c1, c2⟩ := j_at H1.out k hkl
    obtain ⟨b', off', rfl, _, hbw', c1', c2'⟩ := j_at H2.out k hkm
    have hi0 : (0 : Int) ≤ (k : Int) := Int.natCast_nonneg _
    have hi1 : (k : Int) < (n : Int) := by omega
    have hstep := same_step hkl hkm HT.out
    have hne := neq_pair l[k].1 l[k].2 m[k].1 m[k].2
    have HP := Lib.hid hstep
    clear hstep
    generalize l[k].1 = x at c1 HP hne
    generalize l[k].2 = y at c2 HP hne
    generalize m[k].1 = x' at c1' HP hne
    generalize m[k].2 = y' at c2' HP hne
    by_cases hx : x = x' ∧ y = y'
    ·
     obtain ⟨rfl, rfl⟩ := hx
     rw [show (!(x == x && y == y)) = false by simp] at hne
     go_wp2
     go_quiet (fail)
     go_wp2
     go_roundw
     case rel => exact ⟨k + 1, _, by omega, by go_num, HP.out.1 (by simp), rfl⟩
     case measure => simp [intOf]; omega
    ·
     have hno := HP.out.2 hx
     have HX := Lib.hid hno
     rw [show (!(x == x' && y == y')) = true by
      rw [Bool.not_eq_true', Bool.and_eq_false_iff, beq_eq_false_iff_ne, beq_eq_false_iff_ne]
      by_cases h : x = x'
      ·
       exact .inr (fun h2 => hx ⟨h, h2⟩)
      ·
       exact .inl h] at hne
     clear hno hx HP
     go_wp2
     go_quiet (fail)
     go_wp2
     go_ret
     exact same_no2 _ _ HX.out
   ·
    have hkn : k = n := by omega
    subst hkn
    go_wp2
    go_ret
    exact same_yes _ HT.out HL.out HM.out
 ·
  have hd : (n == n') = false := by simpa using hnn
  have hd' : ((n : Int) == (n' : Int)) = false := by simp; omega
  have hd2 : ((n : Int) != (n' : Int)) = true := by simp; omega
  go_enter Tryz.func86, Tryz.ntmps86
  go_wp2
  go_ret
  exact same_no 0 (fun e => hnn (by rw [← HL.out, ← HM.out, e]))
theorem impl_same (A B : Option Addr) (n n' c d : Nat) (l m : List JT) (w : World) (hn : n ≤ 1048576) (hn' : n' ≤ 1048576) (hl : l.length = n) (hm : m.length = n')
  (h1 : Lies w 0 w.heap.size A (jcells l)) (h2 : Lies w 0 w.heap.size B (jcells m)) (wl : wfJL l) (wm : wfJL m) :
  Calls Tryz.prog 86 #[.slice A n c, .slice B n' d] w fun e w' => e = .returned (.bool (decide (l = m))) ∧ Below w.heap.size w w' :=
 (impl_sameD A B n n' c d l m w hn hn' hl hm h1 h2).mono fun e w' ⟨h, q, hq⟩ => ⟨h, hq ▸ below_drewN (Below.refl _ _) _⟩
end Go.Proofs.YtldgadmpclgfhaaGreat.Inss
