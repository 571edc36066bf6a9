/-
  The texts that FnBare wants, part 4: BareDraw BareDraws GuestLaw BareSL BareLaw BareM IrqImpl ExitImpl. No condition.
-/
import Derived.Test.YtldgadmpclgfhaaGreatFnBareB3
import Derived.RangeFuncFrom
import Derived.RangeFuncBound
import Derived.RangeFuncCalls
import Derived.RangeFuncLeaves
import Derived.Shelf.Abstract
import Derived.WalkKit
import Derived.OwnWalkIn
import Derived.TacticsInMore
import Derived.LoopNIn
import Derived.LoopIn
import Derived.Laws.Build
namespace Go.Proofs.YtldgadmpclgfhaaGreat.Kit
set_option maxHeartbeats 8000000
set_option maxRecDepth 100000
set_option maxRecDepth 100000
open Go.ChangeShapes Go.WideShapes Go.ChangeAt Go.RowKit Go.Deep
open Go.Proofs.YtldgadmpclgfhaaGreat.Base Go.Proofs.YtldgadmpclgfhaaGreat.Mem Go.Proofs.YtldgadmpclgfhaaGreat.Data Go.Proofs.YtldgadmpclgfhaaGreat.Stt Go.Proofs.YtldgadmpclgfhaaGreat.Guests Go.Proofs.YtldgadmpclgfhaaGreat.Ctls Go.Proofs.YtldgadmpclgfhaaGreat.Exits Go.Proofs.YtldgadmpclgfhaaGreat.Irqs Go.Proofs.YtldgadmpclgfhaaGreat.Inss Go.Proofs.YtldgadmpclgfhaaGreat.Draw Go.Proofs.YtldgadmpclgfhaaGreat.SDraw
set_option linter.unusedVariables false
set_option linter.unusedSimpArgs false
def numD (x : Int) : Prop := (Lit.int .i64 x).wf = true
def pageD (p : List Int) : Prop := p.length = 4 ∧ ∀ x ∈ p, numD x
def pageA (p : List Int) : Prop := p.length ≤ 5 ∧ ∀ x ∈ p, numD x
def memD (m : List (List Int)) : Prop := m.length ≤ 8 ∧ ∀ p ∈ m, pageA p
def gD (g : gT) : Prop := wfGuest g ∧ g.prog.length ≤ 20 ∧ g.wr.length ≤ 4 ∧ g.lv.length ≤ 4 ∧ g.seen.length ≤ 46
def gsD (l : List gT) : Prop := l.length ≤ 4 ∧ ∀ g ∈ l, gD g
def outsD (l : List Int) : Prop := l.length ≤ 50 ∧ ∀ x ∈ l, numD x
def bD (b : bT) : Prop := memD b.mem ∧ gsD b.gs ∧ outsD b.outs ∧ numD b.pd
def bA (b : bT) : Prop := bD b ∧ b.outs.length ≤ 45
theorem pageA.take {p : List Int} (h : pageA p) (k : Nat) : pageA (p.take k) := ⟨by rw [List.length_take]; have := h.1; omega, fun x hx => h.2 x (List.mem_of_mem_take hx)⟩
theorem pageD.any {p : List Int} (h : pageD p) : pageA p := ⟨by rw [h.1]; decide, h.2⟩
theorem gD.cap {g : gT} (h : gD g) : wG.cap g := (gcap_rg ⟨by have := h.2.1; omega, by have := h.2.2.1; omega, by have := h.2.2.2.1; omega, by have := h.2.2.2.2; omega⟩ : rG.cap g)
theorem kd_page (w0 : World) (A : Option Addr) (n c g : Nat) (w : World) (hn : n ≤ 1048576) (hcode : CodeAt w0 A n) (hcur : Cur w0 A n c w g) : Calls Tryz.prog 116 #[.pointer (some ⟨g, 0, none⟩)] w (fun e w' => ∃ l a b lo hi F, pageD l ∧ Sx.Drawn w0 A n c w g (.slice a l.length b) [ow (rLst 3 rInt) lo hi l [.slice a l.length b] F] e w') := by
 have hs0 := Sx.st_cur hcur
 have hb0 := hcur.1
 clear hcur
 refine Sx.enterS (args := [.pointer (some ⟨g, 0, none⟩)]) hs0 Tryz.func116 rfl Tryz.ntmps116 rfl ?_
 refine Sx.C.seq (Sx.C.region ?_)
 refine Sx.G.p (.slice none 0 0) ?_
 refine Sx.G.nil (Sx.E.next (Sx.C.seq (Sx.C.region ?_)))
 refine Sx.G.fresh 3 rInt (by kernel_rfl) (fun w => by kernel_rfl) (fun b1 hi1 => ?_)
 refine Sx.G.p (.slice (some ⟨b1, 0, none⟩) 0 0) ?_
 refine Sx.G.nil (Sx.E.next (Sx.C.seq (Sx.C.seq (Sx.C.region ?_))))
 refine Sx.G.p (.int .i64 0) ?_
 refine Sx.G.nil (Sx.E.next (Sx.C.block ?_))
 refine Sx.C.loop (α := Nat × (List Int) × Option Addr × Nat × List Nat × Nat × Nat) (fun x => x.1 ≤ 4 ∧ x.2.1.length = x.1 ∧ ∀ y ∈ x.2.1, numD y) (fun x => [(4, .int .i64 (x.1 : Int)), (3, .slice x.2.2.1 x.2.1.length x.2.2.2.1), (0, .pointer (some ⟨g, 0, none⟩)), (2, .slice none 0 0)]) (fun x => [ow (rLst 3 rInt) x.2.2.2.2.2.1 x.2.2.2.2.2.2 x.2.1 [.slice x.2.2.1 x.2.1.length x.2.2.2.1] x.2.2.2.2.1, Sx.cu A n c g, Sx.frm w0 w g]) (fun x => 4 + 1 - x.1) (0, [], (some ⟨b1, 0, none⟩), 0, [b1], b1, hi1) ⟨Nat.zero_le _, rfl, fun y hy => by cases hy⟩ (fun a hA => (Sx.Ag.and hA (Sx.Ag.and hA (Sx.Ag.and hA (Sx.Ag.and hA (Sx.Ag.none hA) _ _ (by kernel_rfl)) _ _ (by kernel_rfl)) _ _ (by kernel_rfl)) _ _ (by kernel_rfl))) (fun w S => St.pick S [0, 1, 2] _ rfl (by decide)) (fun x hx => ?_)
 obtain ⟨xip, xsp, xAp, xcp, xFp, xlop, xhip⟩ := x
 dsimp only at hx
 obtain ⟨hbp, hlp, hpp⟩ := hx
 refine Sx.C.seq (Sx.C.seq (Sx.C.region ?_))
 refine Sx.G.p (.int .i64 (xip : Int)) ?_
 refine Sx.G.p (.bool (decide ((xip : Int) < 4))) ?_
 refine Sx.G.nil (Sx.E.next ?_)
 cases hc2 : (decide ((xip : Int) < 4))
 ·
  have hb2 := hc2
  replace hc2 := of_decide_eq_false hc2
  refine Sx.C.no (by kernel_rfl) (by kernel_rfl) ?_
  refine Sx.C.exit (Sx.E.then_exit (Sx.E.then_exit (Sx.E.block_hit (Sx.E.next (Sx.C.seq (Sx.C.region ?_))))))
  refine Sx.G.p (.slice xAp xsp.length xcp) ?_
  refine Sx.G.p (.slice xAp xsp.length xcp) ?_
  refine Sx.G.nil (Sx.E.next (Sx.C.ret ?_))
  refine Sx.E.ret1 (.slice xAp xsp.length xcp) rfl (by kernel_rfl) (fun w S => ?_)
  have hl4 : xsp.length = 4 := by omega
  exact ⟨xsp, _, _, _, _, _, ⟨hl4, hpp⟩, Sx.Drawn.made hb0 (St.pick S [1, 2, 0] _ rfl (by decide))⟩
 ·
  have hb2 := hc2
  replace hc2 := of_decide_eq_true hc2
  refine Sx.C.yes (by kernel_rfl) (by kernel_rfl) ?_
  refine Sx.C.skip (Sx.E.next (Sx.C.seq (Sx.C.block (Sx.C.region ?_))))
  refine Sx.G.p (.slice xAp xsp.length xcp) ?_
  refine Sx.G.p (.pointer (some ⟨g, 0, none⟩)) ?_
  refine Sx.G.c 39 #[.pointer (some ⟨g, 0, none⟩), .int .i64 100] (fun w3 S => (below_any w0 A n c g _ 100 (by decide) (by decide) hn hcode (Sx.St.cur S 1 rfl)).mono fun e w3' hp => ?_)
  obtain ⟨x3, rfl, hx3, hy3, hcur, hgr⟩ := hp
  refine ⟨_, _, rfl, Sx.St.moved S 1 rfl hcur hgr, ?_⟩
  clear S hcur hgr
  refine Sx.G.made 3 [.int .i64 x3] 1 (by kernel_rfl) (fun w => by kernel_rfl) (fun b4 => ?_)
  refine Sx.G.apps 1 rfl (xsp ++ [x3]) (fun w S => S.box 0 rfl rfl 1 (Nat.le_refl _)) rfl ((xsp ++ [x3]).length) (by simp) flat_int (.tmp 10) (.tmp 13) 28 1 8 rfl rfl (by kernel_rfl) (by kernel_rfl) rfl (by kernel_rfl) (by kernel_rfl) (by simp only [maxLen, List.length_nil, List.length_cons]; omega) (by simp only [List.length_nil, List.length_cons]; omega) (fun A5 c5 F5 hi5 hm5 => ?_)
  refine Sx.G.p (.slice A5 ((xsp ++ [x3]).length) c5) ?_
  refine Sx.G.nil (Sx.E.block_normal (Sx.E.next (Sx.C.region ?_)))
  refine Sx.G.p (.int .i64 (xip : Int)) ?_
  refine Sx.G.q (.int .i64 (IntKind.i64.wrap ((xip : Int) + 1))) (.int .i64 ((xip + 1 : Nat) : Int)) (congrArg (Value.int .i64) (Sx.wrap_up xip (by omega))) ?_
  refine Sx.G.p (.int .i64 ((xip + 1 : Nat) : Int)) ?_
  refine Sx.G.nil ?_
  have HN : xip + 1 ≤ 4 ∧ (xsp ++ [x3]).length = xip + 1 ∧ ∀ y ∈ xsp ++ [x3], numD y := ⟨by omega, by simp [hlp], fun y hy => by rcases List.mem_append.1 hy with h | h; exact hpp y h; rw [List.mem_singleton.1 h]; exact (Sx.wf_small hx3 (Int.lt_trans hy3 (by decide)))⟩
  exact Sx.E.again (xip + 1, xsp ++ [x3], A5, c5, F5, w0.heap.size, hi5) HN (by show 4 + 1 - (xip + 1) < 4 + 1 - xip; omega) (fun a hA => (Sx.Ag.and hA (Sx.Ag.and hA (Sx.Ag.and hA (Sx.Ag.and hA (Sx.Ag.none hA) _ _ (by kernel_rfl)) _ _ (by kernel_rfl)) _ _ (by kernel_rfl)) _ _ (by kernel_rfl))) (fun w S => St.pick S [1, 2, 3] _ rfl (by decide))
theorem kd_mem8 (w0 : World) (A : Option Addr) (n c g : Nat) (w : World) (hn : n ≤ 1048576) (hcode : CodeAt w0 A n) (hcur : Cur w0 A n c w g) : Calls Tryz.prog 99 #[.pointer (some ⟨g, 0, none⟩), .int .i64 8] w (fun e w' => ∃ l a b lo hi F, (l.length = 8 ∧ ∀ p ∈ l, pageD p) ∧ Sx.Drawn w0 A n c w g (.slice a l.length b) [ow (rLst 28 (rLst 3 rInt)) lo hi l [.slice a l.length b] F] e w') := by
 have hs0 := Sx.st_cur hcur
 have hb0 := hcur.1
 clear hcur
 refine Sx.enterS (args := [.pointer (some ⟨g, 0, none⟩), .int .i64 8]) hs0 Tryz.func99 rfl Tryz.ntmps99 rfl ?_
 refine Sx.C.seq (Sx.C.region ?_)
 refine Sx.G.p (.slice none 0 0) ?_
 refine Sx.G.nil (Sx.E.next (Sx.C.seq (Sx.C.region ?_)))
 refine Sx.G.fresh 28 (rLsw rInt) (by kernel_rfl) (fun w => by kernel_rfl) (fun b1 hi1 => ?_)
 refine Sx.G.p (.slice (some ⟨b1, 0, none⟩) 0 0) ?_
 refine Sx.G.nil (Sx.E.next (Sx.C.seq (Sx.C.seq (Sx.C.region ?_))))
 refine Sx.G.p (.int .i64 0) ?_
 refine Sx.G.nil (Sx.E.next (Sx.C.block ?_))
 refine Sx.C.loop (α := Nat × (List (List Int)) × Option Addr × Nat × List Nat × Nat × Nat) (fun x => x.1 ≤ 8 ∧ x.2.1.length = x.1 ∧ ∀ y ∈ x.2.1, pageD y) (fun x => [(6, .int .i64 (x.1 : Int)), (5, .slice x.2.2.1 x.2.1.length x.2.2.2.1), (0, .pointer (some ⟨g, 0, none⟩)), (1, .int .i64 8), (4, .slice none 0 0)]) (fun x => [ow (rLst 28 (rLst 3 rInt)) x.2.2.2.2.2.1 x.2.2.2.2.2.2 x.2.1 [.slice x.2.2.1 x.2.1.length x.2.2.2.1] x.2.2.2.2.1, Sx.cu A n c g, Sx.frm w0 w g]) (fun x => 8 + 1 - x.1) (0, [], (some ⟨b1, 0, none⟩), 0, [b1], b1, hi1) ⟨Nat.zero_le _, rfl, fun y hy => by cases hy⟩ (fun a hA => (Sx.Ag.and hA (Sx.Ag.and hA (Sx.Ag.and hA (Sx.Ag.and hA (Sx.Ag.and hA (Sx.Ag.none hA) _ _ (by kernel_rfl)) _ _ (by kernel_rfl)) _ _ (by kernel_rfl)) _ _ (by kernel_rfl)) _ _ (by kernel_rfl))) (fun w S => St.pick S [0, 1, 2] _ rfl (by decide)) (fun x hx => ?_)
 obtain ⟨xim, xsm, xAm, xcm, xFm, xlom, xhim⟩ := x
 dsimp only at hx
 obtain ⟨hbm, hlm, hpm⟩ := hx
 refine Sx.C.seq (Sx.C.seq (Sx.C.region ?_))
 refine Sx.G.p (.int .i64 (xim : Int)) ?_
 refine Sx.G.p (.int .i64 8) ?_
 refine Sx.G.p (.bool (decide ((xim : Int) < 8))) ?_
 refine Sx.G.nil (Sx.E.next ?_)
 cases hc2 : (decide ((xim : Int) < 8))
 ·
  have hb2 := hc2
  replace hc2 := of_decide_eq_false hc2
  refine Sx.C.no (by kernel_rfl) (by kernel_rfl) ?_
  refine Sx.C.exit (Sx.E.then_exit (Sx.E.then_exit (Sx.E.block_hit (Sx.E.next (Sx.C.seq (Sx.C.region ?_))))))
  refine Sx.G.p (.slice xAm xsm.length xcm) ?_
  refine Sx.G.p (.slice xAm xsm.length xcm) ?_
  refine Sx.G.nil (Sx.E.next (Sx.C.ret ?_))
  refine Sx.E.ret1 (.slice xAm xsm.length xcm) rfl (by kernel_rfl) (fun w S => ?_)
  have hl4 : xsm.length = 8 := by omega
  exact ⟨xsm, _, _, _, _, _, ⟨hl4, hpm⟩, Sx.Drawn.made hb0 (St.pick S [1, 2, 0] _ rfl (by decide))⟩
 ·
  have hb2 := hc2
  replace hc2 := of_decide_eq_true hc2
  refine Sx.C.yes (by kernel_rfl) (by kernel_rfl) ?_
  refine Sx.C.skip (Sx.E.next (Sx.C.seq (Sx.C.block (Sx.C.region ?_))))
  refine Sx.G.p (.slice xAm xsm.length xcm) ?_
  refine Sx.G.p (.pointer (some ⟨g, 0, none⟩)) ?_
  refine Sx.G.c 116 #[.pointer (some ⟨g, 0, none⟩)] (fun w3 S => (kd_page w0 A n c g _ hn hcode (Sx.St.cur S 1 rfl)).mono fun e w3' hp => ?_)
  obtain ⟨l3, a3, b3, lo3, hi3, F3, hg3, rfl, hcur, hgr, hfr⟩ := hp
  refine ⟨_, _, rfl, Sx.St.joinD S (Sx.St.moved S 1 rfl hcur hgr) hfr, ?_⟩
  clear S hcur hgr hfr
  refine Sx.G.made 28 [.slice a3 l3.length b3] 1 (by kernel_rfl) (fun w => by kernel_rfl) (fun b4 => ?_)
  refine Sx.G.claims (L' := [ow (rLst 28 (rLst 3 rInt)) xlom xhim xsm [.slice xAm xsm.length xcm] xFm, ow (rLst 3 rInt) lo3 hi3 l3 [.slice a3 l3.length b3] F3, vr b4 [.slice a3 l3.length b3], Sx.cu A n c g, Sx.frm w0 w g]) (fun w S => St.pick S [2, 1, 0, 3, 4] _ rfl (by decide)) ?_
  refine Sx.G.appr (.tmp 13) (.tmp 16) 26 1 24 1 rfl (by kernel_rfl) (by kernel_rfl) rfl (by kernel_rfl) (by kernel_rfl) (by kernel_rfl) (by simp only [maxLen]; omega) (by omega) (xsm ++ [l3]) rfl (xsm ++ [l3]).length (by simp) (fun A5 c5 F5 hi5 hm5 => ?_)
  refine Sx.G.p (.slice A5 (xsm ++ [l3]).length c5) ?_
  refine Sx.G.nil (Sx.E.block_normal (Sx.E.next (Sx.C.region ?_)))
  refine Sx.G.p (.int .i64 (xim : Int)) ?_
  refine Sx.G.q (.int .i64 (IntKind.i64.wrap ((xim : Int) + 1))) (.int .i64 ((xim + 1 : Nat) : Int)) (congrArg (Value.int .i64) (Sx.wrap_up xim (by omega))) ?_
  refine Sx.G.p (.int .i64 ((xim + 1 : Nat) : Int)) ?_
  refine Sx.G.nil ?_
  have HN : xim + 1 ≤ 8 ∧ (xsm ++ [l3]).length = xim + 1 ∧ ∀ y ∈ xsm ++ [l3], pageD y := ⟨by omega, by simp [hlm], fun y hy => by rcases List.mem_append.1 hy with h | h; exact hpm y h; rw [List.mem_singleton.1 h]; exact hg3⟩
  exact Sx.E.again (xim + 1, (xsm ++ [l3]), A5, c5, F5, w0.heap.size, hi5) HN (by show 8 + 1 - (xim + 1) < 8 + 1 - xim; omega) (fun a hA => (Sx.Ag.and hA (Sx.Ag.and hA (Sx.Ag.and hA (Sx.Ag.and hA (Sx.Ag.and hA (Sx.Ag.none hA) _ _ (by kernel_rfl)) _ _ (by kernel_rfl)) _ _ (by kernel_rfl)) _ _ (by kernel_rfl)) _ _ (by kernel_rfl))) (fun w S => St.pick S [0, 1, 2] _ rfl (by decide))
theorem kd_mem3 (w0 : World) (A : Option Addr) (n c g : Nat) (w : World) (hn : n ≤ 1048576) (hcode : CodeAt w0 A n) (hcur : Cur w0 A n c w g) : Calls Tryz.prog 99 #[.pointer (some ⟨g, 0, none⟩), .int .i64 3] w (fun e w' => ∃ l a b lo hi F, (l.length = 3 ∧ ∀ p ∈ l, pageD p) ∧ Sx.Drawn w0 A n c w g (.slice a l.length b) [ow (rLst 28 (rLst 3 rInt)) lo hi l [.slice a l.length b] F] e w') := by
 have hs0 := Sx.st_cur hcur
 have hb0 := hcur.1
 clear hcur
 refine Sx.enterS (args := [.pointer (some ⟨g, 0, none⟩), .int .i64 3]) hs0 Tryz.func99 rfl Tryz.ntmps99 rfl ?_
 refine Sx.C.seq (Sx.C.region ?_)
 refine Sx.G.p (.slice none 0 0) ?_
 refine Sx.G.nil (Sx.E.next (Sx.C.seq (Sx.C.region ?_)))
 refine Sx.G.fresh 28 (rLsw rInt) (by kernel_rfl) (fun w => by kernel_rfl) (fun b1 hi1 => ?_)
 refine Sx.G.p (.slice (some ⟨b1, 0, none⟩) 0 0) ?_
 refine Sx.G.nil (Sx.E.next (Sx.C.seq (Sx.C.seq (Sx.C.region ?_))))
 refine Sx.G.p (.int .i64 0) ?_
 refine Sx.G.nil (Sx.E.next (Sx.C.block ?_))
 refine Sx.C.loop (α := Nat × (List (List Int)) × Option Addr × Nat × List Nat × Nat × Nat) (fun x => x.1 ≤ 3 ∧ x.2.1.length = x.1 ∧ ∀ y ∈ x.2.1, pageD y) (fun x => [(6, .int .i64 (x.1 : Int)), (5, .slice x.2.2.1 x.2.1.length x.2.2.2.1), (0, .pointer (some ⟨g, 0, none⟩)), (1, .int .i64 3), (4, .slice none 0 0)]) (fun x => [ow (rLst 28 (rLst 3 rInt)) x.2.2.2.2.2.1 x.2.2.2.2.2.2 x.2.1 [.slice x.2.2.1 x.2.1.length x.2.2.2.1] x.2.2.2.2.1, Sx.cu A n c g, Sx.frm w0 w g]) (fun x => 3 + 1 - x.1) (0, [], (some ⟨b1, 0, none⟩), 0, [b1], b1, hi1) ⟨Nat.zero_le _, rfl, fun y hy => by cases hy⟩ (fun a hA => (Sx.Ag.and hA (Sx.Ag.and hA (Sx.Ag.and hA (Sx.Ag.and hA (Sx.Ag.and hA (Sx.Ag.none hA) _ _ (by kernel_rfl)) _ _ (by kernel_rfl)) _ _ (by kernel_rfl)) _ _ (by kernel_rfl)) _ _ (by kernel_rfl))) (fun w S => St.pick S [0, 1, 2] _ rfl (by decide)) (fun x hx => ?_)
 obtain ⟨xim, xsm, xAm, xcm, xFm, xlom, xhim⟩ := x
 dsimp only at hx
 obtain ⟨hbm, hlm, hpm⟩ := hx
 refine Sx.C.seq (Sx.C.seq (Sx.C.region ?_))
 refine Sx.G.p (.int .i64 (xim : Int)) ?_
 refine Sx.G.p (.int .i64 3) ?_
 refine Sx.G.p (.bool (decide ((xim : Int) < 3))) ?_
 refine Sx.G.nil (Sx.E.next ?_)
 cases hc2 : (decide ((xim : Int) < 3))
 ·
  have hb2 := hc2
  replace hc2 := of_decide_eq_false hc2
  refine Sx.C.no (by kernel_rfl) (by kernel_rfl) ?_
  refine Sx.C.exit (Sx.E.then_exit (Sx.E.then_exit (Sx.E.block_hit (Sx.E.next (Sx.C.seq (Sx.C.region ?_))))))
  refine Sx.G.p (.slice xAm xsm.length xcm) ?_
  refine Sx.G.p (.slice xAm xsm.length xcm) ?_
  refine Sx.G.nil (Sx.E.next (Sx.C.ret ?_))
  refine Sx.E.ret1 (.slice xAm xsm.length xcm) rfl (by kernel_rfl) (fun w S => ?_)
  have hl4 : xsm.length = 3 := by omega
  exact ⟨xsm, _, _, _, _, _, ⟨hl4, hpm⟩, Sx.Drawn.made hb0 (St.pick S [1, 2, 0] _ rfl (by decide))⟩
 ·
  have hb2 := hc2
  replace hc2 := of_decide_eq_true hc2
  refine Sx.C.yes (by kernel_rfl) (by kernel_rfl) ?_
  refine Sx.C.skip (Sx.E.next (Sx.C.seq (Sx.C.block (Sx.C.region ?_))))
  refine Sx.G.p (.slice xAm xsm.length xcm) ?_
  refine Sx.G.p (.pointer (some ⟨g, 0, none⟩)) ?_
  refine Sx.G.c 116 #[.pointer (some ⟨g, 0, none⟩)] (fun w3 S => (kd_page w0 A n c g _ hn hcode (Sx.St.cur S 1 rfl)).mono fun e w3' hp => ?_)
  obtain ⟨l3, a3, b3, lo3, hi3, F3, hg3, rfl, hcur, hgr, hfr⟩ := hp
  refine ⟨_, _, rfl, Sx.St.joinD S (Sx.St.moved S 1 rfl hcur hgr) hfr, ?_⟩
  clear S hcur hgr hfr
  refine Sx.G.made 28 [.slice a3 l3.length b3] 1 (by kernel_rfl) (fun w => by kernel_rfl) (fun b4 => ?_)
  refine Sx.G.claims (L' := [ow (rLst 28 (rLst 3 rInt)) xlom xhim xsm [.slice xAm xsm.length xcm] xFm, ow (rLst 3 rInt) lo3 hi3 l3 [.slice a3 l3.length b3] F3, vr b4 [.slice a3 l3.length b3], Sx.cu A n c g, Sx.frm w0 w g]) (fun w S => St.pick S [2, 1, 0, 3, 4] _ rfl (by decide)) ?_
  refine Sx.G.appr (.tmp 13) (.tmp 16) 26 1 24 1 rfl (by kernel_rfl) (by kernel_rfl) rfl (by kernel_rfl) (by kernel_rfl) (by kernel_rfl) (by simp only [maxLen]; omega) (by omega) (xsm ++ [l3]) rfl (xsm ++ [l3]).length (by simp) (fun A5 c5 F5 hi5 hm5 => ?_)
  refine Sx.G.p (.slice A5 (xsm ++ [l3]).length c5) ?_
  refine Sx.G.nil (Sx.E.block_normal (Sx.E.next (Sx.C.region ?_)))
  refine Sx.G.p (.int .i64 (xim : Int)) ?_
  refine Sx.G.q (.int .i64 (IntKind.i64.wrap ((xim : Int) + 1))) (.int .i64 ((xim + 1 : Nat) : Int)) (congrArg (Value.int .i64) (Sx.wrap_up xim (by omega))) ?_
  refine Sx.G.p (.int .i64 ((xim + 1 : Nat) : Int)) ?_
  refine Sx.G.nil ?_
  have HN : xim + 1 ≤ 3 ∧ (xsm ++ [l3]).length = xim + 1 ∧ ∀ y ∈ xsm ++ [l3], pageD y := ⟨by omega, by simp [hlm], fun y hy => by rcases List.mem_append.1 hy with h | h; exact hpm y h; rw [List.mem_singleton.1 h]; exact hg3⟩
  exact Sx.E.again (xim + 1, (xsm ++ [l3]), A5, c5, F5, w0.heap.size, hi5) HN (by show 3 + 1 - (xim + 1) < 3 + 1 - xim; omega) (fun a hA => (Sx.Ag.and hA (Sx.Ag.and hA (Sx.Ag.and hA (Sx.Ag.and hA (Sx.Ag.and hA (Sx.Ag.none hA) _ _ (by kernel_rfl)) _ _ (by kernel_rfl)) _ _ (by kernel_rfl)) _ _ (by kernel_rfl)) _ _ (by kernel_rfl))) (fun w S => St.pick S [0, 1, 2] _ rfl (by decide))
theorem kd_anymem (w0 : World) (A : Option Addr) (n c g : Nat) (w : World) (hn : n ≤ 1048576) (hcode : CodeAt w0 A n) (hcur : Cur w0 A n c w g) : Calls Tryz.prog 68 #[.pointer (some ⟨g, 0, none⟩)] w (fun e w' => ∃ l a b lo hi F, memD l ∧ Sx.Drawn w0 A n c w g (.slice a l.length b) [ow (Sx.rRo (rLsw (rLsw rInt))) lo hi l [.slice a l.length b] F] e w') := by
 have hs0 := Sx.st_cur hcur
 have hb0 := hcur.1
 clear hcur
 refine Sx.enterS (args := [.pointer (some ⟨g, 0, none⟩)]) hs0 Tryz.func68 rfl Tryz.ntmps68 rfl ?_
 refine Sx.C.seq (Sx.C.region ?_)
 refine Sx.G.p (.slice none 0 0) ?_
 refine Sx.G.nil (Sx.E.next (Sx.C.seq (Sx.C.region ?_)))
 refine Sx.G.p (.pointer (some ⟨g, 0, none⟩)) ?_
 refine Sx.G.c 99 #[.pointer (some ⟨g, 0, none⟩), .int .i64 3] (fun w1 S => (kd_mem3 w0 A n c g _ hn hcode (Sx.St.cur S 0 rfl)).mono fun e w1' hp => ?_)
 obtain ⟨l, a, b, lo, hi, F, hg, rfl, hcur, hgr, hfr⟩ := hp
 obtain ⟨B, b0, c0, b1, c1, b2, c2, x0, x1, x2, x3, y0, y1, y2, y3, z0, z1, z2, z3, rfl, rfl, hb, hc0, hc1, hc2, S2⟩ := Sx.St.rows3 (Sx.St.joinD S (Sx.St.moved S 0 rfl hcur hgr) hfr) hg.1 (fun p hp => (hg.2 p hp).1)
 refine ⟨_, _, rfl, S2, ?_⟩
 clear S hcur hgr hfr S2
 refine Sx.G.p (.slice (some ⟨B, 0, none⟩) 3 b) ?_
 refine Sx.G.nil (Sx.E.next (Sx.C.seq (Sx.C.seq (Sx.C.region ?_))))
 refine Sx.G.p (.pointer (some ⟨g, 0, none⟩)) ?_
 refine Sx.G.c 39 #[.pointer (some ⟨g, 0, none⟩), .int .i64 8] (fun w2 S => (below_any w0 A n c g _ 8 (by decide) (by decide) hn hcode (Sx.St.cur S 4 rfl)).mono fun e w2' hp => ?_)
 obtain ⟨x2, rfl, hx2, hy2, hcur, hgr⟩ := hp
 obtain ⟨j2, rfl⟩ : ∃ j : Nat, x2 = (j : Int) := ⟨x2.toNat, by omega⟩
 have hj2 : j2 < 8 := by omega
 clear hx2 hy2
 refine ⟨_, _, rfl, Sx.St.moved S 4 rfl hcur hgr, ?_⟩
 clear S hcur hgr
 refine Sx.G.nil (Sx.E.next (Sx.C.block (Sx.C.seq (Sx.C.region ?_))))
 refine Sx.G.p (.bool ((j2 : Int) == 0)) ?_
 refine Sx.G.p (.bool ((j2 : Int) == 0)) ?_
 refine Sx.G.nil (Sx.E.next ?_)
 cases hc3 : ((j2 : Int) == 0)
 ·
  have hb3 := hc3
  refine Sx.C.no (by kernel_rfl) (by kernel_rfl) ?_
  refine Sx.C.seq (Sx.C.region ?_)
  refine Sx.G.p (.bool ((j2 : Int) == 1)) ?_
  refine Sx.G.p (.bool ((j2 : Int) == 1)) ?_
  refine Sx.G.nil (Sx.E.next ?_)
  cases hc4 : ((j2 : Int) == 1)
  ·
   have hb4 := hc4
   refine Sx.C.no (by kernel_rfl) (by kernel_rfl) ?_
   refine Sx.C.seq (Sx.C.region ?_)
   refine Sx.G.p (.bool ((j2 : Int) == 2)) ?_
   refine Sx.G.p (.bool ((j2 : Int) == 2)) ?_
   refine Sx.G.nil (Sx.E.next ?_)
   cases hc5 : ((j2 : Int) == 2)
   ·
    have hb5 := hc5
    refine Sx.C.no (by kernel_rfl) (by kernel_rfl) ?_
    refine Sx.C.skip (Sx.E.block_normal (Sx.E.next (Sx.C.seq (Sx.C.region ?_))))
    refine Sx.G.p (.slice (some ⟨B, 0, none⟩) 3 b) ?_
    refine Sx.G.p (.slice (some ⟨B, 0, none⟩) 3 b) ?_
    refine Sx.G.nil (Sx.E.next (Sx.C.ret ?_))
    refine Sx.E.ret1 (.slice (some ⟨B, 0, none⟩) 3 b) rfl (by kernel_rfl) (fun w S => ?_)
    have S1 := St.pick S [0, 1, 2, 3, 4, 5] ([vr B [.slice (some ⟨b0, 0, none⟩) 4 c0, .slice (some ⟨b1, 0, none⟩) 4 c1, .slice (some ⟨b2, 0, none⟩) 4 c2], vr b0 [.int .i64 x0, .int .i64 x1, .int .i64 x2, .int .i64 x3], vr b1 [.int .i64 y0, .int .i64 y1, .int .i64 y2, .int .i64 y3], vr b2 [.int .i64 z0, .int .i64 z1, .int .i64 z2, .int .i64 z3]] ++ [_, _]) rfl (by decide)
    have hB : w0.heap.size ≤ B ∧ B < _ := ⟨S1.lo 0 _ rfl, S1.hi 0 _ rfl⟩
    have hB0 : w0.heap.size ≤ b0 ∧ b0 < _ := ⟨S1.lo 1 _ rfl, S1.hi 1 _ rfl⟩
    have hB1 : w0.heap.size ≤ b1 ∧ b1 < _ := ⟨S1.lo 2 _ rfl, S1.hi 2 _ rfl⟩
    have hB2 : w0.heap.size ≤ b2 ∧ b2 < _ := ⟨S1.lo 3 _ rfl, S1.hi 3 _ rfl⟩
    obtain ⟨F2, S3⟩ := Sx.St.ro (r := (rLsw (rLsw rInt))) (x := [[x0, x1, x2, x3], [y0, y1, y2, y3], [z0, z1, z2, z3]]) (cs := [.slice (some ⟨B, 0, none⟩) 3 b]) S1 (fun v hv => by
     have vB := hv _ (List.mem_cons_self)
     have v0 := hv _ (List.mem_cons_of_mem _ List.mem_cons_self)
     have v1 := hv _ (List.mem_cons_of_mem _ (List.mem_cons_of_mem _ List.mem_cons_self))
     have v2 := hv _ (List.mem_cons_of_mem _ (List.mem_cons_of_mem _ (List.mem_cons_of_mem _ List.mem_cons_self)))
     exact (Sx.mem3_rd (vB : Var v B [.slice (some ⟨b0, 0, none⟩) 4 c0, .slice (some ⟨b1, 0, none⟩) 4 c1, .slice (some ⟨b2, 0, none⟩) 4 c2]) (Sx.page_pre (k := 4) (l := [x0, x1, x2, x3]) v0 (by first | decide | (show _ ≤ 4; omega)) hB0 (by omega)) (Sx.page_pre (k := 4) (l := [y0, y1, y2, y3]) v1 (by first | decide | (show _ ≤ 4; omega)) hB1 (by omega)) (Sx.page_pre (k := 4) (l := [z0, z1, z2, z3]) v2 (by first | decide | (show _ ≤ 4; omega)) hB2 (by omega)) hB hb))
    exact ⟨[[x0, x1, x2, x3], [y0, y1, y2, y3], [z0, z1, z2, z3]], some ⟨B, 0, none⟩, b, _, _, F2, ⟨by simp, fun p hp => by
  simp only [List.mem_cons, List.not_mem_nil, or_false] at hp
  rcases hp with rfl | rfl | rfl
  ·
   exact (hg.2 [x0, x1, x2, x3] (by simp)).any
  ·
   exact (hg.2 [y0, y1, y2, y3] (by simp)).any
  ·
   exact (hg.2 [z0, z1, z2, z3] (by simp)).any
  ⟩, Sx.Drawn.made hb0 (St.pick S3 [1, 2, 0] _ rfl (by decide))⟩
   ·
    have hb5 := hc5
    refine Sx.C.yes (by kernel_rfl) (by kernel_rfl) ?_
    refine Sx.C.region ?_
    refine Sx.G.p (.slice (some ⟨B, 0, none⟩) 3 b) ?_
    refine Sx.G.p (.pointer (some ⟨g, 0, none⟩)) ?_
    refine Sx.G.c 39 #[.pointer (some ⟨g, 0, none⟩), .int .i64 3] (fun w6 S => (below_any w0 A n c g _ 3 (by decide) (by decide) hn hcode (Sx.St.cur S 4 rfl)).mono fun e w6' hp => ?_)
    obtain ⟨x6, rfl, hx6, hy6, hcur, hgr⟩ := hp
    obtain ⟨j6, rfl⟩ : ∃ j : Nat, x6 = (j : Int) := ⟨x6.toNat, by omega⟩
    have hj6 : j6 < 3 := by omega
    clear hx6 hy6
    refine ⟨_, _, rfl, Sx.St.moved S 4 rfl hcur hgr, ?_⟩
    clear S hcur hgr
    refine Sx.G.pure (.slice (some ⟨B, 0, none⟩) j6 b) (by kernel_rfl) (fun w => Sx.run_cut (e := 28) 1 24 B 0 3 b j6 rfl (by kernel_rfl) (by kernel_rfl) (by kernel_rfl) (by have := hj6; omega) w) ?_
    refine Sx.G.p (.slice (some ⟨B, 0, none⟩) j6 b) ?_
    refine Sx.G.nil (Sx.E.block_normal (Sx.E.next (Sx.C.seq (Sx.C.region ?_))))
    refine Sx.G.p (.slice (some ⟨B, 0, none⟩) j6 b) ?_
    refine Sx.G.p (.slice (some ⟨B, 0, none⟩) j6 b) ?_
    refine Sx.G.nil (Sx.E.next (Sx.C.ret ?_))
    refine Sx.E.ret1 (.slice (some ⟨B, 0, none⟩) j6 b) rfl (by kernel_rfl) (fun w S => ?_)
    have hj : j6 = 0 ∨ j6 = 1 ∨ j6 = 2 := by have := hj6; omega
    rcases hj with rfl | rfl | rfl
    ·
     have S1 := St.pick S [0, 1, 2, 3, 4, 5] ([vr B [.slice (some ⟨b0, 0, none⟩) 4 c0, .slice (some ⟨b1, 0, none⟩) 4 c1, .slice (some ⟨b2, 0, none⟩) 4 c2], vr b0 [.int .i64 x0, .int .i64 x1, .int .i64 x2, .int .i64 x3], vr b1 [.int .i64 y0, .int .i64 y1, .int .i64 y2, .int .i64 y3], vr b2 [.int .i64 z0, .int .i64 z1, .int .i64 z2, .int .i64 z3]] ++ [_, _]) rfl (by decide)
     have hB : w0.heap.size ≤ B ∧ B < _ := ⟨S1.lo 0 _ rfl, S1.hi 0 _ rfl⟩
     have hB0 : w0.heap.size ≤ b0 ∧ b0 < _ := ⟨S1.lo 1 _ rfl, S1.hi 1 _ rfl⟩
     have hB1 : w0.heap.size ≤ b1 ∧ b1 < _ := ⟨S1.lo 2 _ rfl, S1.hi 2 _ rfl⟩
     have hB2 : w0.heap.size ≤ b2 ∧ b2 < _ := ⟨S1.lo 3 _ rfl, S1.hi 3 _ rfl⟩
     obtain ⟨F2, S3⟩ := Sx.St.ro (r := (rLsw (rLsw rInt))) (x := []) (cs := [.slice (some ⟨B, 0, none⟩) 0 b]) S1 (fun v hv => by
      have vB := hv _ (List.mem_cons_self)
      have v0 := hv _ (List.mem_cons_of_mem _ List.mem_cons_self)
      have v1 := hv _ (List.mem_cons_of_mem _ (List.mem_cons_of_mem _ List.mem_cons_self))
      have v2 := hv _ (List.mem_cons_of_mem _ (List.mem_cons_of_mem _ (List.mem_cons_of_mem _ List.mem_cons_self)))
      exact (Sx.mem_take 0 (Sx.mem3_rd (vB : Var v B [.slice (some ⟨b0, 0, none⟩) 4 c0, .slice (some ⟨b1, 0, none⟩) 4 c1, .slice (some ⟨b2, 0, none⟩) 4 c2]) (Sx.page_pre (k := 4) (l := [x0, x1, x2, x3]) v0 (by first | decide | (show _ ≤ 4; omega)) hB0 (by omega)) (Sx.page_pre (k := 4) (l := [y0, y1, y2, y3]) v1 (by first | decide | (show _ ≤ 4; omega)) hB1 (by omega)) (Sx.page_pre (k := 4) (l := [z0, z1, z2, z3]) v2 (by first | decide | (show _ ≤ 4; omega)) hB2 (by omega)) hB hb) (by simp)))
     exact ⟨[], some ⟨B, 0, none⟩, b, _, _, F2, ⟨by simp, fun p hp => (hg.2 p (by first | (cases hp; done) | (simp only [List.mem_cons, List.not_mem_nil, or_false] at hp ⊢; first | (rcases hp with rfl | rfl <;> simp) | (subst hp; simp)))).any⟩, Sx.Drawn.made hb0 (St.pick S3 [1, 2, 0] _ rfl (by decide))⟩
    ·
     have S1 := St.pick S [0, 1, 2, 3, 4, 5] ([vr B [.slice (some ⟨b0, 0, none⟩) 4 c0, .slice (some ⟨b1, 0, none⟩) 4 c1, .slice (some ⟨b2, 0, none⟩) 4 c2], vr b0 [.int .i64 x0, .int .i64 x1, .int .i64 x2, .int .i64 x3], vr b1 [.int .i64 y0, .int .i64 y1, .int .i64 y2, .int .i64 y3], vr b2 [.int .i64 z0, .int .i64 z1, .int .i64 z2, .int .i64 z3]] ++ [_, _]) rfl (by decide)
     have hB : w0.heap.size ≤ B ∧ B < _ := ⟨S1.lo 0 _ rfl, S1.hi 0 _ rfl⟩
     have hB0 : w0.heap.size ≤ b0 ∧ b0 < _ := ⟨S1.lo 1 _ rfl, S1.hi 1 _ rfl⟩
     have hB1 : w0.heap.size ≤ b1 ∧ b1 < _ := ⟨S1.lo 2 _ rfl, S1.hi 2 _ rfl⟩
     have hB2 : w0.heap.size ≤ b2 ∧ b2 < _ := ⟨S1.lo 3 _ rfl, S1.hi 3 _ rfl⟩
     obtain ⟨F2, S3⟩ := Sx.St.ro (r := (rLsw (rLsw rInt))) (x := [[x0, x1, x2, x3]]) (cs := [.slice (some ⟨B, 0, none⟩) 1 b]) S1 (fun v hv => by
      have vB := hv _ (List.mem_cons_self)
      have v0 := hv _ (List.mem_cons_of_mem _ List.mem_cons_self)
      have v1 := hv _ (List.mem_cons_of_mem _ (List.mem_cons_of_mem _ List.mem_cons_self))
      have v2 := hv _ (List.mem_cons_of_mem _ (List.mem_cons_of_mem _ (List.mem_cons_of_mem _ List.mem_cons_self)))
      exact (Sx.mem_take 1 (Sx.mem3_rd (vB : Var v B [.slice (some ⟨b0, 0, none⟩) 4 c0, .slice (some ⟨b1, 0, none⟩) 4 c1, .slice (some ⟨b2, 0, none⟩) 4 c2]) (Sx.page_pre (k := 4) (l := [x0, x1, x2, x3]) v0 (by first | decide | (show _ ≤ 4; omega)) hB0 (by omega)) (Sx.page_pre (k := 4) (l := [y0, y1, y2, y3]) v1 (by first | decide | (show _ ≤ 4; omega)) hB1 (by omega)) (Sx.page_pre (k := 4) (l := [z0, z1, z2, z3]) v2 (by first | decide | (show _ ≤ 4; omega)) hB2 (by omega)) hB hb) (by simp)))
     exact ⟨[[x0, x1, x2, x3]], some ⟨B, 0, none⟩, b, _, _, F2, ⟨by simp, fun p hp => (hg.2 p (by first | (cases hp; done) | (simp only [List.mem_cons, List.not_mem_nil, or_false] at hp ⊢; first | (rcases hp with rfl | rfl <;> simp) | (subst hp; simp)))).any⟩, Sx.Drawn.made hb0 (St.pick S3 [1, 2, 0] _ rfl (by decide))⟩
    ·
     have S1 := St.pick S [0, 1, 2, 3, 4, 5] ([vr B [.slice (some ⟨b0, 0, none⟩) 4 c0, .slice (some ⟨b1, 0, none⟩) 4 c1, .slice (some ⟨b2, 0, none⟩) 4 c2], vr b0 [.int .i64 x0, .int .i64 x1, .int .i64 x2, .int .i64 x3], vr b1 [.int .i64 y0, .int .i64 y1, .int .i64 y2, .int .i64 y3], vr b2 [.int .i64 z0, .int .i64 z1, .int .i64 z2, .int .i64 z3]] ++ [_, _]) rfl (by decide)
     have hB : w0.heap.size ≤ B ∧ B < _ := ⟨S1.lo 0 _ rfl, S1.hi 0 _ rfl⟩
     have hB0 : w0.heap.size ≤ b0 ∧ b0 < _ := ⟨S1.lo 1 _ rfl, S1.hi 1 _ rfl⟩
     have hB1 : w0.heap.size ≤ b1 ∧ b1 < _ := ⟨S1.lo 2 _ rfl, S1.hi 2 _ rfl⟩
     have hB2 : w0.heap.size ≤ b2 ∧ b2 < _ := ⟨S1.lo 3 _ rfl, S1.hi 3 _ rfl⟩
     obtain ⟨F2, S3⟩ := Sx.St.ro (r := (rLsw (rLsw rInt))) (x := [[x0, x1, x2, x3], [y0, y1, y2, y3]]) (cs := [.slice (some ⟨B, 0, none⟩) 2 b]) S1 (fun v hv => by
      have vB := hv _ (List.mem_cons_self)
      have v0 := hv _ (List.mem_cons_of_mem _ List.mem_cons_self)
      have v1 := hv _ (List.mem_cons_of_mem _ (List.mem_cons_of_mem _ List.mem_cons_self))
      have v2 := hv _ (List.mem_cons_of_mem _ (List.mem_cons_of_mem _ (List.mem_cons_of_mem _ List.mem_cons_self)))
      exact (Sx.mem_take 2 (Sx.mem3_rd (vB : Var v B [.slice (some ⟨b0, 0, none⟩) 4 c0, .slice (some ⟨b1, 0, none⟩) 4 c1, .slice (some ⟨b2, 0, none⟩) 4 c2]) (Sx.page_pre (k := 4) (l := [x0, x1, x2, x3]) v0 (by first | decide | (show _ ≤ 4; omega)) hB0 (by omega)) (Sx.page_pre (k := 4) (l := [y0, y1, y2, y3]) v1 (by first | decide | (show _ ≤ 4; omega)) hB1 (by omega)) (Sx.page_pre (k := 4) (l := [z0, z1, z2, z3]) v2 (by first | decide | (show _ ≤ 4; omega)) hB2 (by omega)) hB hb) (by simp)))
     exact ⟨[[x0, x1, x2, x3], [y0, y1, y2, y3]], some ⟨B, 0, none⟩, b, _, _, F2, ⟨by simp, fun p hp => (hg.2 p (by first | (cases hp; done) | (simp only [List.mem_cons, List.not_mem_nil, or_false] at hp ⊢; first | (rcases hp with rfl | rfl <;> simp) | (subst hp; simp)))).any⟩, Sx.Drawn.made hb0 (St.pick S3 [1, 2, 0] _ rfl (by decide))⟩
  ·
   have hb4 := hc4
   refine Sx.C.yes (by kernel_rfl) (by kernel_rfl) ?_
   refine Sx.C.draw (.take 0 (.take 1 (.take 2 (.take 3 (.alone 4 (.alone 5 (.take 6 (.alone 7 .nil)))))))) [vr B [.slice (some ⟨b0, 0, none⟩) 4 c0, .slice (some ⟨b1, 0, none⟩) 4 c1, .slice (some ⟨b2, 0, none⟩) 4 c2]] (fun w S => St.pick S [0] _ rfl (by decide)) (by kernel_rfl) (by kernel_rfl) (by kernel_rfl) ?_
   refine Sx.GT.p (.slice (some ⟨B, 0, none⟩) 3 b) ?_
   refine Sx.GT.pure (.pointer (some ⟨B, 1, none⟩)) 1 (by rfl) (by kernel_rfl) (fun w => Sx.run_elemO 28 1 24 B 0 3 b 1 rfl (by kernel_rfl) (by kernel_rfl) (by kernel_rfl) (by decide) w) ?_
   refine Sx.GT.g (.slice (some ⟨b1, 0, none⟩) 4 c1) .m0 .m1 ?_
   refine Sx.GT.p (.pointer (some ⟨g, 0, none⟩)) ?_
   refine Sx.GT.alone (Sx.Alone.block 3 [.int .i64 (-1), .int .i64 100] 2 (by rfl) (by kernel_rfl) (fun w => by kernel_rfl) (fun w S => St.pick S [0] _ rfl (by decide)) (fun b7 => ?_))
   refine Sx.GT.alone (Sx.Alone.c 71 #[.pointer (some ⟨g, 0, none⟩), .slice (some ⟨b7, 0, none⟩) 2 2] (fun w8 S => (pick_any w0 A n c g _ b7 2 [(-1), 100] (by decide) (by decide) hn hcode (Sx.St.cur S 5 rfl) (Sx.St.bk_ne S 0 5 rfl rfl (by decide)) rfl (St.at_ S 0 rfl)).mono fun e w8' hp => ?_))
   obtain ⟨x8, rfl, hx8, hcur, hgr⟩ := hp
   have hw8 : (Lit.int .i64 x8).wf = true := (show ∀ y ∈ ([(-1), 100] : List Int), (Lit.int .i64 y).wf = true by decide) _ hx8
   refine ⟨_, _, rfl, Sx.St.moved S 5 rfl hcur hgr, (fun w S => St.pick S [1] _ rfl (by decide)), ?_⟩
   clear S hcur hgr
   refine Sx.GT.pure (.pointer (some ⟨b1, 2, none⟩)) 6 (by rfl) (by kernel_rfl) (fun w => Sx.run_elemO 3 1 8 b1 0 4 c1 2 rfl (by kernel_rfl) (by kernel_rfl) (by kernel_rfl) (by decide) w) ?_
   refine Sx.GT.alone (Sx.Alone.s (.int .i64 x8) .a3 .a2 (fun w S => St.pick S [1] _ rfl (by decide)) ?_)
   refine Sx.GT.nil (Sx.E.block_normal (Sx.E.next (Sx.C.seq (Sx.C.region ?_))))
   refine Sx.G.p (.slice (some ⟨B, 0, none⟩) 3 b) ?_
   refine Sx.G.p (.slice (some ⟨B, 0, none⟩) 3 b) ?_
   refine Sx.G.nil (Sx.E.next (Sx.C.ret ?_))
   refine Sx.E.ret1 (.slice (some ⟨B, 0, none⟩) 3 b) rfl (by kernel_rfl) (fun w S => ?_)
   have S1 := St.pick S [1, 2, 3, 4, 5, 6] ([vr B [.slice (some ⟨b0, 0, none⟩) 4 c0, .slice (some ⟨b1, 0, none⟩) 4 c1, .slice (some ⟨b2, 0, none⟩) 4 c2], vr b0 [.int .i64 x0, .int .i64 x1, .int .i64 x2, .int .i64 x3], vr b1 [.int .i64 y0, .int .i64 y1, .int .i64 x8, .int .i64 y3], vr b2 [.int .i64 z0, .int .i64 z1, .int .i64 z2, .int .i64 z3]] ++ [_, _]) rfl (by decide)
   have hB : w0.heap.size ≤ B ∧ B < _ := ⟨S1.lo 0 _ rfl, S1.hi 0 _ rfl⟩
   have hB0 : w0.heap.size ≤ b0 ∧ b0 < _ := ⟨S1.lo 1 _ rfl, S1.hi 1 _ rfl⟩
   have hB1 : w0.heap.size ≤ b1 ∧ b1 < _ := ⟨S1.lo 2 _ rfl, S1.hi 2 _ rfl⟩
   have hB2 : w0.heap.size ≤ b2 ∧ b2 < _ := ⟨S1.lo 3 _ rfl, S1.hi 3 _ rfl⟩
   obtain ⟨F2, S3⟩ := Sx.St.ro (r := (rLsw (rLsw rInt))) (x := [[x0, x1, x2, x3], [y0, y1, x8, y3], [z0, z1, z2, z3]]) (cs := [.slice (some ⟨B, 0, none⟩) 3 b]) S1 (fun v hv => by
    have vB := hv _ (List.mem_cons_self)
    have v0 := hv _ (List.mem_cons_of_mem _ List.mem_cons_self)
    have v1 := hv _ (List.mem_cons_of_mem _ (List.mem_cons_of_mem _ List.mem_cons_self))
    have v2 := hv _ (List.mem_cons_of_mem _ (List.mem_cons_of_mem _ (List.mem_cons_of_mem _ List.mem_cons_self)))
    exact (Sx.mem3_rd (vB : Var v B [.slice (some ⟨b0, 0, none⟩) 4 c0, .slice (some ⟨b1, 0, none⟩) 4 c1, .slice (some ⟨b2, 0, none⟩) 4 c2]) (Sx.page_pre (k := 4) (l := [x0, x1, x2, x3]) v0 (by first | decide | (show _ ≤ 4; omega)) hB0 (by omega)) (Sx.page_pre (k := 4) (l := [y0, y1, x8, y3]) v1 (by first | decide | (show _ ≤ 4; omega)) hB1 (by omega)) (Sx.page_pre (k := 4) (l := [z0, z1, z2, z3]) v2 (by first | decide | (show _ ≤ 4; omega)) hB2 (by omega)) hB hb))
   exact ⟨[[x0, x1, x2, x3], [y0, y1, x8, y3], [z0, z1, z2, z3]], some ⟨B, 0, none⟩, b, _, _, F2, ⟨by simp, fun p hp => by
  simp only [List.mem_cons, List.not_mem_nil, or_false] at hp
  rcases hp with rfl | rfl | rfl
  ·
   exact (hg.2 [x0, x1, x2, x3] (by simp)).any
  ·
   exact ⟨by simp, fun z hz => by
   simp only [List.mem_cons, List.not_mem_nil, or_false] at hz
   rcases hz with h | h | h | h
   ·
    rw [h]; exact (hg.2 [y0, y1, y2, y3] (by simp)).2 _ (by simp)
   ·
    rw [h]; exact (hg.2 [y0, y1, y2, y3] (by simp)).2 _ (by simp)
   ·
    rw [h]; exact hw8
   ·
    rw [h]; exact (hg.2 [y0, y1, y2, y3] (by simp)).2 _ (by simp)
   ⟩
  ·
   exact (hg.2 [z0, z1, z2, z3] (by simp)).any
  ⟩, Sx.Drawn.made hb0 (St.pick S3 [1, 2, 0] _ rfl (by decide))⟩
 ·
  have hb3 := hc3
  refine Sx.C.yes (by kernel_rfl) (by kernel_rfl) ?_
  refine Sx.C.cut (fun e a w' => e = .normal ∧ ∃ (Y0 : Nat) (Y1 : Nat), Sx.Ag 36 [(2, .slice none 0 0), (3, .slice (some ⟨B, 0, none⟩) 3 b)] a ∧ St w0 w' [vr B (([.slice (some ⟨b0, 0, none⟩) 4 c0, .slice (some ⟨b1, 0, none⟩) 4 c1, .slice (some ⟨b2, 0, none⟩) 4 c2].set (0 + Y0 * 1) (.slice (some ⟨b0, 0, none⟩) Y1 c0))), vr b0 [.int .i64 x0, .int .i64 x1, .int .i64 x2, .int .i64 x3], vr b1 [.int .i64 y0, .int .i64 y1, .int .i64 y2, .int .i64 y3], vr b2 [.int .i64 z0, .int .i64 z1, .int .i64 z2, .int .i64 z3], Sx.cu A n c g, Sx.frm w0 w g] ∧ 0 ≤ Y0 ∧ Y0 < 3 ∧ 0 ≤ Y1 ∧ Y1 < 4) ?_ ?_
  ·
   refine Sx.C.draw (.take 0 (.take 1 (.take 3 (.take 4 (.take 6 (.two 2 (.two 5 (.alone 7 (.take 8 (.take 9 (.alone 10 .nil)))) 7 (.alone 5 (.take 8 (.take 9 (.alone 10 .nil))))) 5 (.alone 2 (.alone 7 (.take 8 (.take 9 (.alone 10 .nil))))))))))) [] (fun w S => St.pick S [] _ rfl (by decide)) (by kernel_rfl) (by kernel_rfl) (by kernel_rfl) ?_
   refine Sx.GT.p (.slice (some ⟨B, 0, none⟩) 3 b) ?_
   refine Sx.GT.p (.pointer (some ⟨g, 0, none⟩)) ?_
   refine Sx.GT.p (.slice (some ⟨B, 0, none⟩) 3 b) ?_
   refine Sx.GT.pure (.pointer (some ⟨B, 0, none⟩)) 4 (by rfl) (by kernel_rfl) (fun w => Sx.run_elemO 28 1 24 B 0 3 b 0 rfl (by kernel_rfl) (by kernel_rfl) (by kernel_rfl) (by decide) w) ?_
   refine Sx.GT.p (.pointer (some ⟨g, 0, none⟩)) ?_
   refine Sx.GT.two ?_ ?_
   ·
    refine Sx.Alone.c 39 #[.pointer (some ⟨g, 0, none⟩), .int .i64 3] (fun w9 S => (below_any w0 A n c g _ 3 (by decide) (by decide) hn hcode (Sx.St.cur S 4 rfl)).mono fun e w9' hp => ?_)
    obtain ⟨x9, rfl, hx9, hy9, hcur, hgr⟩ := hp
    obtain ⟨j9, rfl⟩ : ∃ j : Nat, x9 = (j : Int) := ⟨x9.toNat, by omega⟩
    have hj9 : j9 < 3 := by omega
    clear hx9 hy9
    refine ⟨_, _, rfl, Sx.St.moved S 4 rfl hcur hgr, (fun w S => St.pick S [] _ rfl (by decide)), ?_⟩
    clear S hcur hgr
    refine Sx.GT.two ?_ ?_
    ·
     refine Sx.Alone.g (.slice (some ⟨b0, 0, none⟩) 4 c0) .m0 .m0 (fun w S => St.pick S [] _ rfl (by decide)) ?_
     refine Sx.GT.alone (Sx.Alone.c 39 #[.pointer (some ⟨g, 0, none⟩), .int .i64 4] (fun w10 S => (below_any w0 A n c g _ 4 (by decide) (by decide) hn hcode (Sx.St.cur S 4 rfl)).mono fun e w10' hp => ?_))
     obtain ⟨x10, rfl, hx10, hy10, hcur, hgr⟩ := hp
     obtain ⟨j10, rfl⟩ : ∃ j : Nat, x10 = (j : Int) := ⟨x10.toNat, by omega⟩
     have hj10 : j10 < 4 := by omega
     clear hx10 hy10
     refine ⟨_, _, rfl, Sx.St.moved S 4 rfl hcur hgr, (fun w S => St.pick S [] _ rfl (by decide)), ?_⟩
     clear S hcur hgr
     refine Sx.GT.pure (.slice (some ⟨b0, 0, none⟩) j10 c0) 8 rfl (by kernel_rfl) (fun w => Sx.run_cut (e := 3) 1 8 b0 0 4 c0 j10 rfl (by kernel_rfl) (by kernel_rfl) (by kernel_rfl) (by have := hj10; omega) w) ?_
     refine Sx.GT.pure (.pointer (some ⟨B, 0 + j9 * 1, none⟩)) 9 (by rfl) (by kernel_rfl) (fun w => Sx.run_elemO 28 1 24 B 0 3 b j9 rfl (by kernel_rfl) (by kernel_rfl) (by kernel_rfl) hj9 w) ?_
     refine Sx.GT.alone (Sx.Alone.sto 28 (.tmp 19) (.tmp 18) B (0 + j9 * 1) 0 [.slice (some ⟨b0, 0, none⟩) 4 c0, .slice (some ⟨b1, 0, none⟩) 4 c1, .slice (some ⟨b2, 0, none⟩) 4 c2] [.slice (some ⟨b0, 0, none⟩) j10 c0] ([.slice (some ⟨b0, 0, none⟩) 4 c0, .slice (some ⟨b1, 0, none⟩) 4 c1, .slice (some ⟨b2, 0, none⟩) 4 c2].set (0 + j9 * 1) (.slice (some ⟨b0, 0, none⟩) j10 c0)) [vr B (([.slice (some ⟨b0, 0, none⟩) 4 c0, .slice (some ⟨b1, 0, none⟩) 4 c1, .slice (some ⟨b2, 0, none⟩) 4 c2].set (0 + j9 * 1) (.slice (some ⟨b0, 0, none⟩) j10 c0))), vr b0 [.int .i64 x0, .int .i64 x1, .int .i64 x2, .int .i64 x3], vr b1 [.int .i64 y0, .int .i64 y1, .int .i64 y2, .int .i64 y3], vr b2 [.int .i64 z0, .int .i64 z1, .int .i64 z2, .int .i64 z3], Sx.cu A n c g, Sx.frm w0 w g] (by rfl) (by rfl) (by kernel_rfl) (by kernel_rfl) (by kernel_rfl) (by rfl) (by rfl) (by rfl) (by rw [Nat.ble_eq]; have := hj9; simp only [List.length_cons, List.length_nil]; omega) (by kernel_rfl) (by kernel_rfl) (fun w S => St.pick S [] _ rfl (by decide)) ?_)
     exact Sx.GT.nil (fun a w' hA S => ⟨rfl, j9, j10, (Sx.Ag.and hA (Sx.Ag.and hA (Sx.Ag.none hA) _ _ (by kernel_rfl)) _ _ (by kernel_rfl)), St.pick S [0, 1, 2, 3, 4, 5] _ rfl (by decide), (Nat.zero_le j9), hj9, (Nat.zero_le j10), hj10⟩)
    ·
     refine Sx.Alone.c 39 #[.pointer (some ⟨g, 0, none⟩), .int .i64 4] (fun w11 S => (below_any w0 A n c g _ 4 (by decide) (by decide) hn hcode (Sx.St.cur S 4 rfl)).mono fun e w11' hp => ?_)
     obtain ⟨x11, rfl, hx11, hy11, hcur, hgr⟩ := hp
     obtain ⟨j11, rfl⟩ : ∃ j : Nat, x11 = (j : Int) := ⟨x11.toNat, by omega⟩
     have hj11 : j11 < 4 := by omega
     clear hx11 hy11
     refine ⟨_, _, rfl, Sx.St.moved S 4 rfl hcur hgr, (fun w S => St.pick S [] _ rfl (by decide)), ?_⟩
     clear S hcur hgr
     refine Sx.GT.alone (Sx.Alone.g (.slice (some ⟨b0, 0, none⟩) 4 c0) .m0 .m0 (fun w S => St.pick S [] _ rfl (by decide)) ?_)
     refine Sx.GT.pure (.slice (some ⟨b0, 0, none⟩) j11 c0) 8 rfl (by kernel_rfl) (fun w => Sx.run_cut (e := 3) 1 8 b0 0 4 c0 j11 rfl (by kernel_rfl) (by kernel_rfl) (by kernel_rfl) (by have := hj11; omega) w) ?_
     refine Sx.GT.pure (.pointer (some ⟨B, 0 + j9 * 1, none⟩)) 9 (by rfl) (by kernel_rfl) (fun w => Sx.run_elemO 28 1 24 B 0 3 b j9 rfl (by kernel_rfl) (by kernel_rfl) (by kernel_rfl) hj9 w) ?_
     refine Sx.GT.alone (Sx.Alone.sto 28 (.tmp 19) (.tmp 18) B (0 + j9 * 1) 0 [.slice (some ⟨b0, 0, none⟩) 4 c0, .slice (some ⟨b1, 0, none⟩) 4 c1, .slice (some ⟨b2, 0, none⟩) 4 c2] [.slice (some ⟨b0, 0, none⟩) j11 c0] ([.slice (some ⟨b0, 0, none⟩) 4 c0, .slice (some ⟨b1, 0, none⟩) 4 c1, .slice (some ⟨b2, 0, none⟩) 4 c2].set (0 + j9 * 1) (.slice (some ⟨b0, 0, none⟩) j11 c0)) [vr B (([.slice (some ⟨b0, 0, none⟩) 4 c0, .slice (some ⟨b1, 0, none⟩) 4 c1, .slice (some ⟨b2, 0, none⟩) 4 c2].set (0 + j9 * 1) (.slice (some ⟨b0, 0, none⟩) j11 c0))), vr b0 [.int .i64 x0, .int .i64 x1, .int .i64 x2, .int .i64 x3], vr b1 [.int .i64 y0, .int .i64 y1, .int .i64 y2, .int .i64 y3], vr b2 [.int .i64 z0, .int .i64 z1, .int .i64 z2, .int .i64 z3], Sx.cu A n c g, Sx.frm w0 w g] (by rfl) (by rfl) (by kernel_rfl) (by kernel_rfl) (by kernel_rfl) (by rfl) (by rfl) (by rfl) (by rw [Nat.ble_eq]; have := hj9; simp only [List.length_cons, List.length_nil]; omega) (by kernel_rfl) (by kernel_rfl) (fun w S => St.pick S [] _ rfl (by decide)) ?_)
     exact Sx.GT.nil (fun a w' hA S => ⟨rfl, j9, j11, (Sx.Ag.and hA (Sx.Ag.and hA (Sx.Ag.none hA) _ _ (by kernel_rfl)) _ _ (by kernel_rfl)), St.pick S [0, 1, 2, 3, 4, 5] _ rfl (by decide), (Nat.zero_le j9), hj9, (Nat.zero_le j11), hj11⟩)
   ·
    refine Sx.Alone.g (.slice (some ⟨b0, 0, none⟩) 4 c0) .m0 .m0 (fun w S => St.pick S [] _ rfl (by decide)) ?_
    refine Sx.GT.alone (Sx.Alone.c 39 #[.pointer (some ⟨g, 0, none⟩), .int .i64 3] (fun w12 S => (below_any w0 A n c g _ 3 (by decide) (by decide) hn hcode (Sx.St.cur S 4 rfl)).mono fun e w12' hp => ?_))
    obtain ⟨x12, rfl, hx12, hy12, hcur, hgr⟩ := hp
    obtain ⟨j12, rfl⟩ : ∃ j : Nat, x12 = (j : Int) := ⟨x12.toNat, by omega⟩
    have hj12 : j12 < 3 := by omega
    clear hx12 hy12
    refine ⟨_, _, rfl, Sx.St.moved S 4 rfl hcur hgr, (fun w S => St.pick S [] _ rfl (by decide)), ?_⟩
    clear S hcur hgr
    refine Sx.GT.alone (Sx.Alone.c 39 #[.pointer (some ⟨g, 0, none⟩), .int .i64 4] (fun w13 S => (below_any w0 A n c g _ 4 (by decide) (by decide) hn hcode (Sx.St.cur S 4 rfl)).mono fun e w13' hp => ?_))
    obtain ⟨x13, rfl, hx13, hy13, hcur, hgr⟩ := hp
    obtain ⟨j13, rfl⟩ : ∃ j : Nat, x13 = (j : Int) := ⟨x13.toNat, by omega⟩
    have hj13 : j13 < 4 := by omega
    clear hx13 hy13
    refine ⟨_, _, rfl, Sx.St.moved S 4 rfl hcur hgr, (fun w S => St.pick S [] _ rfl (by decide)), ?_⟩
    clear S hcur hgr
    refine Sx.GT.pure (.slice (some ⟨b0, 0, none⟩) j13 c0) 8 rfl (by kernel_rfl) (fun w => Sx.run_cut (e := 3) 1 8 b0 0 4 c0 j13 rfl (by kernel_rfl) (by kernel_rfl) (by kernel_rfl) (by have := hj13; omega) w) ?_
    refine Sx.GT.pure (.pointer (some ⟨B, 0 + j12 * 1, none⟩)) 9 (by rfl) (by kernel_rfl) (fun w => Sx.run_elemO 28 1 24 B 0 3 b j12 rfl (by kernel_rfl) (by kernel_rfl) (by kernel_rfl) hj12 w) ?_
    refine Sx.GT.alone (Sx.Alone.sto 28 (.tmp 19) (.tmp 18) B (0 + j12 * 1) 0 [.slice (some ⟨b0, 0, none⟩) 4 c0, .slice (some ⟨b1, 0, none⟩) 4 c1, .slice (some ⟨b2, 0, none⟩) 4 c2] [.slice (some ⟨b0, 0, none⟩) j13 c0] ([.slice (some ⟨b0, 0, none⟩) 4 c0, .slice (some ⟨b1, 0, none⟩) 4 c1, .slice (some ⟨b2, 0, none⟩) 4 c2].set (0 + j12 * 1) (.slice (some ⟨b0, 0, none⟩) j13 c0)) [vr B (([.slice (some ⟨b0, 0, none⟩) 4 c0, .slice (some ⟨b1, 0, none⟩) 4 c1, .slice (some ⟨b2, 0, none⟩) 4 c2].set (0 + j12 * 1) (.slice (some ⟨b0, 0, none⟩) j13 c0))), vr b0 [.int .i64 x0, .int .i64 x1, .int .i64 x2, .int .i64 x3], vr b1 [.int .i64 y0, .int .i64 y1, .int .i64 y2, .int .i64 y3], vr b2 [.int .i64 z0, .int .i64 z1, .int .i64 z2, .int .i64 z3], Sx.cu A n c g, Sx.frm w0 w g] (by rfl) (by rfl) (by kernel_rfl) (by kernel_rfl) (by kernel_rfl) (by rfl) (by rfl) (by rfl) (by rw [Nat.ble_eq]; have := hj12; simp only [List.length_cons, List.length_nil]; omega) (by kernel_rfl) (by kernel_rfl) (fun w S => St.pick S [] _ rfl (by decide)) ?_)
    exact Sx.GT.nil (fun a w' hA S => ⟨rfl, j12, j13, (Sx.Ag.and hA (Sx.Ag.and hA (Sx.Ag.none hA) _ _ (by kernel_rfl)) _ _ (by kernel_rfl)), St.pick S [0, 1, 2, 3, 4, 5] _ rfl (by decide), (Nat.zero_le j12), hj12, (Nat.zero_le j13), hj13⟩)
  rintro e a w' ⟨rfl, y14_0, y14_1, hA, S, hxy14_0, hyy14_0, hxy14_1, hyy14_1⟩
  refine Sx.E.out ?_ hA S
  clear hA S a w'
  refine Sx.E.block_normal (Sx.E.next (Sx.C.seq (Sx.C.region ?_)))
  refine Sx.G.p (.slice (some ⟨B, 0, none⟩) 3 b) ?_
  refine Sx.G.p (.slice (some ⟨B, 0, none⟩) 3 b) ?_
  refine Sx.G.nil (Sx.E.next (Sx.C.ret ?_))
  refine Sx.E.ret1 (.slice (some ⟨B, 0, none⟩) 3 b) rfl (by kernel_rfl) (fun w S => ?_)
  have hk := hyy14_1
  have hj : y14_0 = 0 ∨ y14_0 = 1 ∨ y14_0 = 2 := by have := hyy14_0; omega
  rcases hj with rfl | rfl | rfl
  ·
   have S1 := St.pick S [0, 1, 2, 3, 4, 5] ([vr B [.slice (some ⟨b0, 0, none⟩) y14_1 c0, .slice (some ⟨b1, 0, none⟩) 4 c1, .slice (some ⟨b2, 0, none⟩) 4 c2], vr b0 [.int .i64 x0, .int .i64 x1, .int .i64 x2, .int .i64 x3], vr b1 [.int .i64 y0, .int .i64 y1, .int .i64 y2, .int .i64 y3], vr b2 [.int .i64 z0, .int .i64 z1, .int .i64 z2, .int .i64 z3]] ++ [_, _]) rfl (by decide)
   have hB : w0.heap.size ≤ B ∧ B < _ := ⟨S1.lo 0 _ rfl, S1.hi 0 _ rfl⟩
   have hB0 : w0.heap.size ≤ b0 ∧ b0 < _ := ⟨S1.lo 1 _ rfl, S1.hi 1 _ rfl⟩
   have hB1 : w0.heap.size ≤ b1 ∧ b1 < _ := ⟨S1.lo 2 _ rfl, S1.hi 2 _ rfl⟩
   have hB2 : w0.heap.size ≤ b2 ∧ b2 < _ := ⟨S1.lo 3 _ rfl, S1.hi 3 _ rfl⟩
   obtain ⟨F2, S3⟩ := Sx.St.ro (r := (rLsw (rLsw rInt))) (x := [[x0, x1, x2, x3].take y14_1, [y0, y1, y2, y3], [z0, z1, z2, z3]]) (cs := [.slice (some ⟨B, 0, none⟩) 3 b]) S1 (fun v hv => by
    have vB := hv _ (List.mem_cons_self)
    have v0 := hv _ (List.mem_cons_of_mem _ List.mem_cons_self)
    have v1 := hv _ (List.mem_cons_of_mem _ (List.mem_cons_of_mem _ List.mem_cons_self))
    have v2 := hv _ (List.mem_cons_of_mem _ (List.mem_cons_of_mem _ (List.mem_cons_of_mem _ List.mem_cons_self)))
    exact (Sx.mem3_rd (vB : Var v B [.slice (some ⟨b0, 0, none⟩) y14_1 c0, .slice (some ⟨b1, 0, none⟩) 4 c1, .slice (some ⟨b2, 0, none⟩) 4 c2]) (Sx.page_pre (k := y14_1) (l := [x0, x1, x2, x3]) v0 (by show _ ≤ 4; omega) hB0 (by omega)) (Sx.page_pre (k := 4) (l := [y0, y1, y2, y3]) v1 (by first | decide | (show _ ≤ 4; omega)) hB1 (by omega)) (Sx.page_pre (k := 4) (l := [z0, z1, z2, z3]) v2 (by first | decide | (show _ ≤ 4; omega)) hB2 (by omega)) hB hb))
   exact ⟨[[x0, x1, x2, x3].take y14_1, [y0, y1, y2, y3], [z0, z1, z2, z3]], some ⟨B, 0, none⟩, b, _, _, F2, ⟨by simp, fun p hp => by
  simp only [List.mem_cons, List.not_mem_nil, or_false] at hp
  rcases hp with rfl | rfl | rfl
  ·
   exact ((hg.2 [x0, x1, x2, x3] (by simp)).any).take _
  ·
   exact (hg.2 [y0, y1, y2, y3] (by simp)).any
  ·
   exact (hg.2 [z0, z1, z2, z3] (by simp)).any
  ⟩, Sx.Drawn.made hb0 (St.pick S3 [1, 2, 0] _ rfl (by decide))⟩
  ·
   have S1 := St.pick S [0, 1, 2, 3, 4, 5] ([vr B [.slice (some ⟨b0, 0, none⟩) 4 c0, .slice (some ⟨b0, 0, none⟩) y14_1 c0, .slice (some ⟨b2, 0, none⟩) 4 c2], vr b0 [.int .i64 x0, .int .i64 x1, .int .i64 x2, .int .i64 x3], vr b1 [.int .i64 y0, .int .i64 y1, .int .i64 y2, .int .i64 y3], vr b2 [.int .i64 z0, .int .i64 z1, .int .i64 z2, .int .i64 z3]] ++ [_, _]) rfl (by decide)
   have hB : w0.heap.size ≤ B ∧ B < _ := ⟨S1.lo 0 _ rfl, S1.hi 0 _ rfl⟩
   have hB0 : w0.heap.size ≤ b0 ∧ b0 < _ := ⟨S1.lo 1 _ rfl, S1.hi 1 _ rfl⟩
   have hB1 : w0.heap.size ≤ b1 ∧ b1 < _ := ⟨S1.lo 2 _ rfl, S1.hi 2 _ rfl⟩
   have hB2 : w0.heap.size ≤ b2 ∧ b2 < _ := ⟨S1.lo 3 _ rfl, S1.hi 3 _ rfl⟩
   obtain ⟨F2, S3⟩ := Sx.St.ro (r := (rLsw (rLsw rInt))) (x := [[x0, x1, x2, x3], [x0, x1, x2, x3].take y14_1, [z0, z1, z2, z3]]) (cs := [.slice (some ⟨B, 0, none⟩) 3 b]) S1 (fun v hv => by
    have vB := hv _ (List.mem_cons_self)
    have v0 := hv _ (List.mem_cons_of_mem _ List.mem_cons_self)
    have v1 := hv _ (List.mem_cons_of_mem _ (List.mem_cons_of_mem _ List.mem_cons_self))
    have v2 := hv _ (List.mem_cons_of_mem _ (List.mem_cons_of_mem _ (List.mem_cons_of_mem _ List.mem_cons_self)))
    exact (Sx.mem3_rd (vB : Var v B [.slice (some ⟨b0, 0, none⟩) 4 c0, .slice (some ⟨b0, 0, none⟩) y14_1 c0, .slice (some ⟨b2, 0, none⟩) 4 c2]) (Sx.page_pre (k := 4) (l := [x0, x1, x2, x3]) v0 (by first | decide | (show _ ≤ 4; omega)) hB0 (by omega)) (Sx.page_pre (k := y14_1) (l := [x0, x1, x2, x3]) v0 (by show _ ≤ 4; omega) hB0 (by omega)) (Sx.page_pre (k := 4) (l := [z0, z1, z2, z3]) v2 (by first | decide | (show _ ≤ 4; omega)) hB2 (by omega)) hB hb))
   exact ⟨[[x0, x1, x2, x3], [x0, x1, x2, x3].take y14_1, [z0, z1, z2, z3]], some ⟨B, 0, none⟩, b, _, _, F2, ⟨by simp, fun p hp => by
  simp only [List.mem_cons, List.not_mem_nil, or_false] at hp
  rcases hp with rfl | rfl | rfl
  ·
   exact (hg.2 [x0, x1, x2, x3] (by simp)).any
  ·
   exact ((hg.2 [x0, x1, x2, x3] (by simp)).any).take _
  ·
   exact (hg.2 [z0, z1, z2, z3] (by simp)).any
  ⟩, Sx.Drawn.made hb0 (St.pick S3 [1, 2, 0] _ rfl (by decide))⟩
  ·
   have S1 := St.pick S [0, 1, 2, 3, 4, 5] ([vr B [.slice (some ⟨b0, 0, none⟩) 4 c0, .slice (some ⟨b1, 0, none⟩) 4 c1, .slice (some ⟨b0, 0, none⟩) y14_1 c0], vr b0 [.int .i64 x0, .int .i64 x1, .int .i64 x2, .int .i64 x3], vr b1 [.int .i64 y0, .int .i64 y1, .int .i64 y2, .int .i64 y3], vr b2 [.int .i64 z0, .int .i64 z1, .int .i64 z2, .int .i64 z3]] ++ [_, _]) rfl (by decide)
   have hB : w0.heap.size ≤ B ∧ B < _ := ⟨S1.lo 0 _ rfl, S1.hi 0 _ rfl⟩
   have hB0 : w0.heap.size ≤ b0 ∧ b0 < _ := ⟨S1.lo 1 _ rfl, S1.hi 1 _ rfl⟩
   have hB1 : w0.heap.size ≤ b1 ∧ b1 < _ := ⟨S1.lo 2 _ rfl, S1.hi 2 _ rfl⟩
   have hB2 : w0.heap.size ≤ b2 ∧ b2 < _ := ⟨S1.lo 3 _ rfl, S1.hi 3 _ rfl⟩
   obtain ⟨F2, S3⟩ := Sx.St.ro (r := (rLsw (rLsw rInt))) (x := [[x0, x1, x2, x3], [y0, y1, y2, y3], [x0, x1, x2, x3].take y14_1]) (cs := [.slice (some ⟨B, 0, none⟩) 3 b]) S1 (fun v hv => by
    have vB := hv _ (List.mem_cons_self)
    have v0 := hv _ (List.mem_cons_of_mem _ List.mem_cons_self)
    have v1 := hv _ (List.mem_cons_of_mem _ (List.mem_cons_of_mem _ List.mem_cons_self))
    have v2 := hv _ (List.mem_cons_of_mem _ (List.mem_cons_of_mem _ (List.mem_cons_of_mem _ List.mem_cons_self)))
    exact (Sx.mem3_rd (vB : Var v B [.slice (some ⟨b0, 0, none⟩) 4 c0, .slice (some ⟨b1, 0, none⟩) 4 c1, .slice (some ⟨b0, 0, none⟩) y14_1 c0]) (Sx.page_pre (k := 4) (l := [x0, x1, x2, x3]) v0 (by first | decide | (show _ ≤ 4; omega)) hB0 (by omega)) (Sx.page_pre (k := 4) (l := [y0, y1, y2, y3]) v1 (by first | decide | (show _ ≤ 4; omega)) hB1 (by omega)) (Sx.page_pre (k := y14_1) (l := [x0, x1, x2, x3]) v0 (by show _ ≤ 4; omega) hB0 (by omega)) hB hb))
   exact ⟨[[x0, x1, x2, x3], [y0, y1, y2, y3], [x0, x1, x2, x3].take y14_1], some ⟨B, 0, none⟩, b, _, _, F2, ⟨by simp, fun p hp => by
  simp only [List.mem_cons, List.not_mem_nil, or_false] at hp
  rcases hp with rfl | rfl | rfl
  ·
   exact (hg.2 [x0, x1, x2, x3] (by simp)).any
  ·
   exact (hg.2 [y0, y1, y2, y3] (by simp)).any
  ·
   exact ((hg.2 [x0, x1, x2, x3] (by simp)).any).take _
  ⟩, Sx.Drawn.made hb0 (St.pick S3 [1, 2, 0] _ rfl (by decide))⟩
theorem kd_guest (w0 : World) (A : Option Addr) (n c g : Nat) (w : World) (hn : n ≤ 1048576) (hcode : CodeAt w0 A n) (hcur : Cur w0 A n c w g) : Calls Tryz.prog 69 #[.pointer (some ⟨g, 0, none⟩)] w (fun e w' => ∃ x cs lo hi F, gD x ∧ Sx.Drawn w0 A n c w g (.agg (cs : List Value).toArray) [ow (Sx.rRo wG) lo hi x cs F] e w') :=
 (guest_any w0 A n c g w hn hcode hcur).mono fun e w' h => by
  obtain ⟨x, P0, P1, P2, P3, rfl, hwf, hsm, hcur, hgr, F0, F1, F2, F3, l0, k0, l1, k1, l2, k2, l3, k3, hfr⟩ := h
  obtain ⟨F, H⟩ := Sx.Fresh.ro (r := wG) (x := x) (cs := gV x P0 P1 P2 P3) hfr (fun v hv => wG_rd_mk (g := x) (hfr.rdIn 0 rfl hv) (hfr.rdIn 1 rfl hv) (hfr.rdIn 2 rfl hv) (hfr.rdIn 3 rfl hv))
  exact ⟨x, _, _, _, F, ⟨hwf, hsm.1, hsm.2.1, hsm.2.2.1, by have := hsm.2.2.2; omega⟩, rfl, hcur, hgr, H⟩
theorem kd_gany (w0 : World) (A : Option Addr) (n c g : Nat) (w : World) (hn : n ≤ 1048576) (hcode : CodeAt w0 A n) (hcur : Cur w0 A n c w g) : Calls Tryz.prog 33 #[.pointer (some ⟨g, 0, none⟩)] w (fun e w' => ∃ x cs lo hi F, gD x ∧ Sx.Drawn w0 A n c w g (.agg (cs : List Value).toArray) [ow (Sx.rRo wG) lo hi x cs F] e w') :=
 (gany_any w0 A n c g w hn hcode hcur).mono fun e w' h => by
  obtain ⟨x, A0, c0, A1, c1, A2, c2, A3, c3, rfl, hwf, hsm, hcur, hgr, F3, l0, k0, l1, k1, l2, k2, l3, k3, hfr⟩ := h
  obtain ⟨F, H⟩ := Sx.Fresh.ro (r := wG) (x := x) (cs := gV x (.slice A0 x.prog.length c0) (.slice A1 x.wr.length c1) (.slice A2 x.lv.length c2) (.slice A3 x.seen.length c3)) hfr (fun v hv => wG_rd_mk (g := x) (hfr.rpIn 0 rfl hv) (hfr.rpIn 1 rfl hv) (hfr.rpIn 2 rfl hv) (hfr.rdIn 3 rfl hv))
  exact ⟨x, _, _, _, F, ⟨hwf, hsm.1, hsm.2.1, hsm.2.2.1, by have := hsm.2.2.2; omega⟩, rfl, hcur, hgr, H⟩
theorem kd_bare (w0 : World) (A : Option Addr) (n c g : Nat) (w : World) (hn : n ≤ 1048576) (hcode : CodeAt w0 A n) (hcur : Cur w0 A n c w g) : Calls Tryz.prog 67 #[.pointer (some ⟨g, 0, none⟩)] w (fun e w' => ∃ m gs os pd a0 d0 a1 d1 a2 d2 lo0 hi0 F0 lo1 hi1 F1 lo2 hi2 F2, bD { mem := m, gs := gs, outs := os, pd := pd } ∧ 1 ≤ gs.length ∧ gs.length ≤ 2 ∧ os.length ≤ 4 ∧ Sx.Drawn w0 A n c w g (.agg #[.slice a0 m.length d0, .slice a1 gs.length d1, .slice a2 os.length d2, .int .i64 pd]) [ow (Sx.rRo (rLsw (rLsw rInt))) lo0 hi0 m [.slice a0 m.length d0] F0, ow (rLst 39 (Sx.rRo wG)) lo1 hi1 gs [.slice a1 gs.length d1] F1, ow (rLst 3 rInt) lo2 hi2 os [.slice a2 os.length d2] F2] e w') := by
 have hs0 := Sx.st_cur hcur
 have hb0 := hcur.1
 clear hcur
 refine Sx.enterS (args := [.pointer (some ⟨g, 0, none⟩)]) hs0 Tryz.func67 rfl Tryz.ntmps67 rfl ?_
 refine Sx.C.seq (Sx.C.region ?_)
 refine Sx.G.ar [.slice none 0 0, .slice none 0 0, .slice none 0 0, .int .i64 0] (fun b1 => ?_)
 refine Sx.G.nil (Sx.E.next (Sx.C.seq (Sx.C.region ?_)))
 refine Sx.G.p (.pointer (some ⟨g, 0, none⟩)) ?_
 refine Sx.G.c 99 #[.pointer (some ⟨g, 0, none⟩), .int .i64 8] (fun w2 S => (kd_mem8 w0 A n c g _ hn hcode (Sx.St.cur S 1 rfl)).mono fun e w2' hp => ?_)
 obtain ⟨l2, a2, b2, lo2, hi2, F2, hg2, rfl, hcur, hgr, hfr⟩ := hp
 refine ⟨_, _, rfl, Sx.St.joinD S (Sx.St.moved S 1 rfl hcur hgr) hfr, ?_⟩
 clear S hcur hgr hfr
 refine Sx.G.p (.agg #[.slice a2 l2.length b2, .slice none 0 0, .slice none 0 0, .int .i64 0]) ?_
 refine Sx.G.ar [.slice none 0 0, .slice none 0 0, .slice none 0 0, .int .i64 0] (fun b3 => ?_)
 refine Sx.G.sw [.slice a2 l2.length b2, .slice none 0 0, .slice none 0 0, .int .i64 0] .a0 ?_
 refine Sx.G.nil (Sx.E.next (Sx.C.seq (Sx.C.seq (Sx.C.region ?_))))
 refine Sx.G.p (.int .i64 0) ?_
 refine Sx.G.nil (Sx.E.next (Sx.C.block ?_))
 refine Sx.C.claims (L' := ow (rLst 39 (Sx.rRo wG)) w0.heap.size w0.heap.size [] [.slice none 0 0] [] :: [vr b3 [.slice a2 l2.length b2, .slice none 0 0, .slice none 0 0, .int .i64 0], ow (rLst 28 (rLst 3 rInt)) lo2 hi2 l2 [.slice a2 l2.length b2] F2, vr b1 [.slice none 0 0, .slice none 0 0, .slice none 0 0, .int .i64 0], Sx.cu A n c g, Sx.frm w0 w g]) (fun w S => Sx.St.nil0 S 39 (Sx.rRo wG)) ?_
 refine Sx.C.loop (α := Nat × (List gT) × Option Addr × Nat × List Nat × Nat × Nat) (fun x => x.1 ≤ 2 ∧ x.2.1.length = x.1 ∧ ∀ y ∈ x.2.1, gD y) (fun x => [(4, .int .i64 (x.1 : Int)), (0, .pointer (some ⟨g, 0, none⟩)), (2, .pointer (some ⟨b1, 0, none⟩)), (3, .pointer (some ⟨b3, 0, none⟩))]) (fun x => [ow (rLst 39 (Sx.rRo wG)) x.2.2.2.2.2.1 x.2.2.2.2.2.2 x.2.1 [.slice x.2.2.1 x.2.1.length x.2.2.2.1] x.2.2.2.2.1, vr b3 [.slice a2 l2.length b2, .slice x.2.2.1 x.2.1.length x.2.2.2.1, .slice none 0 0, .int .i64 0], ow (rLst 28 (rLst 3 rInt)) lo2 hi2 l2 [.slice a2 l2.length b2] F2, vr b1 [.slice none 0 0, .slice none 0 0, .slice none 0 0, .int .i64 0], Sx.cu A n c g, Sx.frm w0 w g]) (fun x => 2 + 1 - x.1) (0, [], none, 0, [], w0.heap.size, w0.heap.size) ⟨Nat.zero_le _, rfl, fun y hy => by cases hy⟩ (fun a hA => (Sx.Ag.and hA (Sx.Ag.and hA (Sx.Ag.and hA (Sx.Ag.and hA (Sx.Ag.none hA) _ _ (by kernel_rfl)) _ _ (by kernel_rfl)) _ _ (by kernel_rfl)) _ _ (by kernel_rfl))) (fun w S => St.pick S [0, 1, 2, 3, 4, 5] _ rfl (by decide)) (fun x hx => ?_)
 obtain ⟨xig, xsg, xAg, xcg, xFg, xlog, xhig⟩ := x
 dsimp only at hx
 obtain ⟨hbg, hlg, hpg⟩ := hx
 refine Sx.C.seq (Sx.C.seq (Sx.C.region ?_))
 refine Sx.G.p (.int .i64 (xig : Int)) ?_
 refine Sx.G.p (.pointer (some ⟨g, 0, none⟩)) ?_
 refine Sx.G.c 39 #[.pointer (some ⟨g, 0, none⟩), .int .i64 2] (fun w4 S => (below_any w0 A n c g _ 2 (by decide) (by decide) hn hcode (Sx.St.cur S 4 rfl)).mono fun e w4' hp => ?_)
 obtain ⟨x4, rfl, hx4, hy4, hcur, hgr⟩ := hp
 refine ⟨_, _, rfl, Sx.St.moved S 4 rfl hcur hgr, ?_⟩
 clear S hcur hgr
 refine Sx.G.q (.int .i64 (IntKind.i64.wrap (1 + x4))) (.int .i64 (1 + x4)) (congrArg (Value.int .i64) (by rw [IntKind.wrap_i64]; omega)) ?_
 refine Sx.G.p (.bool (decide ((xig : Int) < (1 + x4)))) ?_
 refine Sx.G.nil (Sx.E.next ?_)
 cases hc5 : (decide ((xig : Int) < (1 + x4)))
 ·
  have hb5 := hc5
  replace hc5 := of_decide_eq_false hc5
  refine Sx.C.no (by kernel_rfl) (by kernel_rfl) ?_
  refine Sx.C.exit (Sx.E.then_exit (Sx.E.then_exit (Sx.E.block_hit (Sx.E.next (Sx.C.seq (Sx.C.seq (Sx.C.region ?_)))))))
  refine Sx.G.p (.int .i64 0) ?_
  refine Sx.G.nil (Sx.E.next ?_)
  have hg1 : 1 ≤ xsg.length := by omega
  refine Sx.C.block ?_
  refine Sx.C.claims (L' := ow (rLst 3 rInt) w0.heap.size w0.heap.size [] [.slice none 0 0] [] :: [ow (rLst 39 (Sx.rRo wG)) xlog xhig xsg [.slice xAg xsg.length xcg] xFg, vr b3 [.slice a2 l2.length b2, .slice xAg xsg.length xcg, .slice none 0 0, .int .i64 0], ow (rLst 28 (rLst 3 rInt)) lo2 hi2 l2 [.slice a2 l2.length b2] F2, vr b1 [.slice none 0 0, .slice none 0 0, .slice none 0 0, .int .i64 0], Sx.cu A n c g, Sx.frm w0 w g]) (fun w S => Sx.St.nil0 S 3 rInt) ?_
  refine Sx.C.loop (α := Nat × (List Int) × Option Addr × Nat × List Nat × Nat × Nat) (fun x => x.1 ≤ 4 ∧ x.2.1.length = x.1 ∧ ∀ y ∈ x.2.1, numD y) (fun x => [(5, .int .i64 (x.1 : Int)), (0, .pointer (some ⟨g, 0, none⟩)), (2, .pointer (some ⟨b1, 0, none⟩)), (3, .pointer (some ⟨b3, 0, none⟩))]) (fun x => [ow (rLst 3 rInt) x.2.2.2.2.2.1 x.2.2.2.2.2.2 x.2.1 [.slice x.2.2.1 x.2.1.length x.2.2.2.1] x.2.2.2.2.1, ow (rLst 39 (Sx.rRo wG)) xlog xhig xsg [.slice xAg xsg.length xcg] xFg, vr b3 [.slice a2 l2.length b2, .slice xAg xsg.length xcg, .slice x.2.2.1 x.2.1.length x.2.2.2.1, .int .i64 0], ow (rLst 28 (rLst 3 rInt)) lo2 hi2 l2 [.slice a2 l2.length b2] F2, vr b1 [.slice none 0 0, .slice none 0 0, .slice none 0 0, .int .i64 0], Sx.cu A n c g, Sx.frm w0 w g]) (fun x => 4 + 1 - x.1) (0, [], none, 0, [], w0.heap.size, w0.heap.size) ⟨Nat.zero_le _, rfl, fun y hy => by cases hy⟩ (fun a hA => (Sx.Ag.and hA (Sx.Ag.and hA (Sx.Ag.and hA (Sx.Ag.and hA (Sx.Ag.none hA) _ _ (by kernel_rfl)) _ _ (by kernel_rfl)) _ _ (by kernel_rfl)) _ _ (by kernel_rfl))) (fun w S => St.pick S [0, 1, 2, 3, 4, 5, 6] _ rfl (by decide)) (fun x hx => ?_)
  obtain ⟨xio, xso, xAo, xco, xFo, xloo, xhio⟩ := x
  dsimp only at hx
  obtain ⟨hbo, hlo, hpo⟩ := hx
  refine Sx.C.seq (Sx.C.seq (Sx.C.region ?_))
  refine Sx.G.p (.int .i64 (xio : Int)) ?_
  refine Sx.G.p (.pointer (some ⟨g, 0, none⟩)) ?_
  refine Sx.G.c 39 #[.pointer (some ⟨g, 0, none⟩), .int .i64 4] (fun w6 S => (below_any w0 A n c g _ 4 (by decide) (by decide) hn hcode (Sx.St.cur S 5 rfl)).mono fun e w6' hp => ?_)
  obtain ⟨x6, rfl, hx6, hy6, hcur, hgr⟩ := hp
  refine ⟨_, _, rfl, Sx.St.moved S 5 rfl hcur hgr, ?_⟩
  clear S hcur hgr
  refine Sx.G.p (.bool (decide ((xio : Int) < x6))) ?_
  refine Sx.G.nil (Sx.E.next ?_)
  cases hc7 : (decide ((xio : Int) < x6))
  ·
   have hb7 := hc7
   replace hc7 := of_decide_eq_false hc7
   refine Sx.C.no (by kernel_rfl) (by kernel_rfl) ?_
   refine Sx.C.exit (Sx.E.then_exit (Sx.E.then_exit (Sx.E.block_hit (Sx.E.next (Sx.C.seq (Sx.C.seq (Sx.C.region ?_)))))))
   refine Sx.G.p (.pointer (some ⟨g, 0, none⟩)) ?_
   refine Sx.G.c 26 #[.pointer (some ⟨g, 0, none⟩), .int .i64 3] (fun w8 S => (once_any w0 A n c g _ 3 (by decide) (by decide) hn hcode (Sx.St.cur S 5 rfl)).mono fun e w8' hp => ?_)
   obtain ⟨x8, rfl, hcur, hgr⟩ := hp
   refine ⟨_, _, rfl, Sx.St.moved S 5 rfl hcur hgr, ?_⟩
   clear S hcur hgr
   refine Sx.G.nil (Sx.E.next ?_)
   cases hc9 : (x8)
   ·
    have hb9 := hc9
    refine Sx.C.no (by kernel_rfl) (by kernel_rfl) ?_
    refine Sx.C.skip (Sx.E.next (Sx.C.seq (Sx.C.region ?_)))
    refine Sx.G.lw .m2 ?_
    refine Sx.G.sw [.slice a2 l2.length b2, .slice xAg xsg.length xcg, .slice xAo xso.length xco, .int .i64 0] .a4 ?_
    refine Sx.G.nil (Sx.E.next (Sx.C.ret ?_))
    refine Sx.E.retc b1 4 [.slice a2 l2.length b2, .slice xAg xsg.length xcg, .slice xAo xso.length xco, .int .i64 0] rfl (by kernel_rfl) rfl (by kernel_rfl) (by kernel_rfl) (fun w S => ?_)
    replace S := Sx.St.toRoQ (r := rLst 28 (rLst 3 rInt)) (q := (rLsw (rLsw rInt))) (fun v a b y ds h => Sx.rdLst_of (r := rLst 3 rInt) (q := rLsw rInt) (fun _ _ _ _ _ h => h) rfl (show rdLst (rLst 3 rInt) v a b y ds from h)) S 3 rfl
    exact ⟨l2, xsg, xso, 0, _, _, _, _, _, _, _, _, _, _, _, _, _, _, _, ⟨⟨by rw [hg2.1]; decide, fun p hp => (hg2.2 p hp).any⟩, ⟨by show xsg.length ≤ 4; omega, hpg⟩, ⟨by show xso.length ≤ 50; omega, hpo⟩, (show (Lit.int .i64 0).wf = true by decide)⟩, by omega, by omega, by omega, Sx.Drawn.made hb0 (St.pick S [5, 6, 3, 1, 0] _ rfl (by decide))⟩
   ·
    have hb9 := hc9
    refine Sx.C.yes (by kernel_rfl) (by kernel_rfl) ?_
    refine Sx.C.region ?_
    refine Sx.G.p (.pointer (some ⟨g, 0, none⟩)) ?_
    refine Sx.G.c 39 #[.pointer (some ⟨g, 0, none⟩), .int .i64 256] (fun w10 S => (below_any w0 A n c g _ 256 (by decide) (by decide) hn hcode (Sx.St.cur S 5 rfl)).mono fun e w10' hp => ?_)
    obtain ⟨x10, rfl, hx10, hy10, hcur, hgr⟩ := hp
    refine ⟨_, _, rfl, Sx.St.moved S 5 rfl hcur hgr, ?_⟩
    clear S hcur hgr
    refine Sx.G.p (.pointer (some ⟨b3, 3, none⟩)) ?_
    refine Sx.G.s (.int .i64 x10) .a2 .a3 ?_
    refine Sx.G.nil (Sx.E.next (Sx.C.seq (Sx.C.region ?_)))
    refine Sx.G.lw .m2 ?_
    refine Sx.G.sw [.slice a2 l2.length b2, .slice xAg xsg.length xcg, .slice xAo xso.length xco, .int .i64 x10] .a4 ?_
    refine Sx.G.nil (Sx.E.next (Sx.C.ret ?_))
    refine Sx.E.retc b1 4 [.slice a2 l2.length b2, .slice xAg xsg.length xcg, .slice xAo xso.length xco, .int .i64 x10] rfl (by kernel_rfl) rfl (by kernel_rfl) (by kernel_rfl) (fun w S => ?_)
    replace S := Sx.St.toRoQ (r := rLst 28 (rLst 3 rInt)) (q := (rLsw (rLsw rInt))) (fun v a b y ds h => Sx.rdLst_of (r := rLst 3 rInt) (q := rLsw rInt) (fun _ _ _ _ _ h => h) rfl (show rdLst (rLst 3 rInt) v a b y ds from h)) S 3 rfl
    exact ⟨l2, xsg, xso, x10, _, _, _, _, _, _, _, _, _, _, _, _, _, _, _, ⟨⟨by rw [hg2.1]; decide, fun p hp => (hg2.2 p hp).any⟩, ⟨by show xsg.length ≤ 4; omega, hpg⟩, ⟨by show xso.length ≤ 50; omega, hpo⟩, (Sx.wf_small hx10 (Int.lt_trans hy10 (by decide)))⟩, by omega, by omega, by omega, Sx.Drawn.made hb0 (St.pick S [5, 6, 3, 1, 0] _ rfl (by decide))⟩
  ·
   have hb7 := hc7
   replace hc7 := of_decide_eq_true hc7
   refine Sx.C.yes (by kernel_rfl) (by kernel_rfl) ?_
   refine Sx.C.skip (Sx.E.next (Sx.C.seq (Sx.C.block ?_)))
   refine Sx.C.cut (fun e a w' => e = .normal ∧ ∃ (Y0 : Int) (Y1 : Nat) (Y2 : Option Addr) (Y3 : Nat) (Y4 : List Nat) (Y5 : Nat), Sx.Ag 42 [(0, .pointer (some ⟨g, 0, none⟩)), (2, .pointer (some ⟨b1, 0, none⟩)), (3, .pointer (some ⟨b3, 0, none⟩)), (5, .int .i64 (xio : Int))] a ∧ St w0 w' [vr Y1 [.int .i64 Y0], ow (rLst 3 rInt) w0.heap.size Y5 (xso ++ [Y0]) [.slice Y2 ((xso ++ [Y0]).length) Y3] Y4, ow (rLst 39 (Sx.rRo wG)) xlog xhig xsg [.slice xAg xsg.length xcg] xFg, vr b3 [.slice a2 l2.length b2, .slice xAg xsg.length xcg, .slice Y2 ((xso ++ [Y0]).length) Y3, .int .i64 0], ow (rLst 28 (rLst 3 rInt)) lo2 hi2 l2 [.slice a2 l2.length b2] F2, vr b1 [.slice none 0 0, .slice none 0 0, .slice none 0 0, .int .i64 0], Sx.cu A n c g, Sx.frm w0 w g] ∧ 0 ≤ Y0 ∧ Y0 < 100) ?_ ?_
   ·
    refine Sx.C.draw (.take 0 (.take 2 (.two 1 (.alone 3 (.alone 4 (.alone 5 (.take 6 (.alone 7 .nil))))) 3 (.two 1 (.alone 4 (.alone 5 (.take 6 (.alone 7 .nil)))) 4 (.alone 1 (.alone 5 (.take 6 (.alone 7 .nil)))))))) [] (fun w S => St.pick S [] _ rfl (by decide)) (by kernel_rfl) (by kernel_rfl) (by kernel_rfl) ?_
    refine Sx.GT.p (.pointer (some ⟨b3, 2, none⟩)) ?_
    refine Sx.GT.p (.pointer (some ⟨g, 0, none⟩)) ?_
    refine Sx.GT.two ?_ ?_
    ·
     refine Sx.Alone.g (.slice xAo xso.length xco) .m2 .m2 (fun w S => St.pick S [] _ rfl (by decide)) ?_
     refine Sx.GT.alone (Sx.Alone.c 39 #[.pointer (some ⟨g, 0, none⟩), .int .i64 100] (fun w11 S => (below_any w0 A n c g _ 100 (by decide) (by decide) hn hcode (Sx.St.cur S 5 rfl)).mono fun e w11' hp => ?_))
     obtain ⟨x11, rfl, hx11, hy11, hcur, hgr⟩ := hp
     refine ⟨_, _, rfl, Sx.St.moved S 5 rfl hcur hgr, (fun w S => St.pick S [] _ rfl (by decide)), ?_⟩
     clear S hcur hgr
     refine Sx.GT.alone (Sx.Alone.made 3 [.int .i64 x11] 1 (by rfl) (by kernel_rfl) (fun w => by kernel_rfl) (fun w S => St.pick S [] _ rfl (by decide)) (fun b12 => ?_))
     refine Sx.GT.alone (Sx.Alone.apps 1 (by rfl) (xso ++ [x11]) (fun w S => S.box 0 rfl rfl 1 (Nat.le_refl _)) (by rfl) ((xso ++ [x11]).length) (by simp) flat_int (.tmp 30) (.tmp 33) 28 1 8 (by rfl) (by rfl) (by kernel_rfl) (by kernel_rfl) (by rfl) (by kernel_rfl) (by kernel_rfl) (by simp only [maxLen, List.length_nil, List.length_cons]; omega) (by simp only [List.length_nil, List.length_cons]; omega) (fun _ _ _ _ w S => St.pick S [] _ rfl (by decide)) (fun A13 c13 F13 hi13 hm13 => ?_))
     refine Sx.GT.p (.pointer (some ⟨b3, 2, none⟩)) ?_
     refine Sx.GT.alone (Sx.Alone.s (.slice A13 ((xso ++ [x11]).length) c13) .a3 .a2 (fun w S => St.pick S [] _ rfl (by decide)) ?_)
     exact Sx.GT.nil (fun a w' hA S => ⟨rfl, x11, b12, A13, c13, F13, hi13, (Sx.Ag.and hA (Sx.Ag.and hA (Sx.Ag.and hA (Sx.Ag.and hA (Sx.Ag.none hA) _ _ (by kernel_rfl)) _ _ (by kernel_rfl)) _ _ (by kernel_rfl)) _ _ (by kernel_rfl)), St.pick S [0, 1, 2, 3, 4, 5, 6, 7] _ rfl (by decide), hx11, hy11⟩)
    ·
     refine Sx.Alone.c 39 #[.pointer (some ⟨g, 0, none⟩), .int .i64 100] (fun w14 S => (below_any w0 A n c g _ 100 (by decide) (by decide) hn hcode (Sx.St.cur S 5 rfl)).mono fun e w14' hp => ?_)
     obtain ⟨x14, rfl, hx14, hy14, hcur, hgr⟩ := hp
     refine ⟨_, _, rfl, Sx.St.moved S 5 rfl hcur hgr, (fun w S => St.pick S [] _ rfl (by decide)), ?_⟩
     clear S hcur hgr
     refine Sx.GT.two ?_ ?_
     ·
      refine Sx.Alone.g (.slice xAo xso.length xco) .m2 .m2 (fun w S => St.pick S [] _ rfl (by decide)) ?_
      refine Sx.GT.alone (Sx.Alone.made 3 [.int .i64 x14] 1 (by rfl) (by kernel_rfl) (fun w => by kernel_rfl) (fun w S => St.pick S [] _ rfl (by decide)) (fun b15 => ?_))
      refine Sx.GT.alone (Sx.Alone.apps 1 (by rfl) (xso ++ [x14]) (fun w S => S.box 0 rfl rfl 1 (Nat.le_refl _)) (by rfl) ((xso ++ [x14]).length) (by simp) flat_int (.tmp 30) (.tmp 33) 28 1 8 (by rfl) (by rfl) (by kernel_rfl) (by kernel_rfl) (by rfl) (by kernel_rfl) (by kernel_rfl) (by simp only [maxLen, List.length_nil, List.length_cons]; omega) (by simp only [List.length_nil, List.length_cons]; omega) (fun _ _ _ _ w S => St.pick S [] _ rfl (by decide)) (fun A16 c16 F16 hi16 hm16 => ?_))
      refine Sx.GT.p (.pointer (some ⟨b3, 2, none⟩)) ?_
      refine Sx.GT.alone (Sx.Alone.s (.slice A16 ((xso ++ [x14]).length) c16) .a3 .a2 (fun w S => St.pick S [] _ rfl (by decide)) ?_)
      exact Sx.GT.nil (fun a w' hA S => ⟨rfl, x14, b15, A16, c16, F16, hi16, (Sx.Ag.and hA (Sx.Ag.and hA (Sx.Ag.and hA (Sx.Ag.and hA (Sx.Ag.none hA) _ _ (by kernel_rfl)) _ _ (by kernel_rfl)) _ _ (by kernel_rfl)) _ _ (by kernel_rfl)), St.pick S [0, 1, 2, 3, 4, 5, 6, 7] _ rfl (by decide), hx14, hy14⟩)
     ·
      refine Sx.Alone.made 3 [.int .i64 x14] 1 (by rfl) (by kernel_rfl) (fun w => by kernel_rfl) (fun w S => St.pick S [] _ rfl (by decide)) (fun b17 => ?_)
      refine Sx.GT.alone (Sx.Alone.g (.slice xAo xso.length xco) .m3 .m2 (fun w S => St.pick S [] _ rfl (by decide)) ?_)
      refine Sx.GT.alone (Sx.Alone.apps 1 (by rfl) (xso ++ [x14]) (fun w S => S.box 0 rfl rfl 1 (Nat.le_refl _)) (by rfl) ((xso ++ [x14]).length) (by simp) flat_int (.tmp 30) (.tmp 33) 28 1 8 (by rfl) (by rfl) (by kernel_rfl) (by kernel_rfl) (by rfl) (by kernel_rfl) (by kernel_rfl) (by simp only [maxLen, List.length_nil, List.length_cons]; omega) (by simp only [List.length_nil, List.length_cons]; omega) (fun _ _ _ _ w S => St.pick S [] _ rfl (by decide)) (fun A18 c18 F18 hi18 hm18 => ?_))
      refine Sx.GT.p (.pointer (some ⟨b3, 2, none⟩)) ?_
      refine Sx.GT.alone (Sx.Alone.s (.slice A18 ((xso ++ [x14]).length) c18) .a3 .a2 (fun w S => St.pick S [] _ rfl (by decide)) ?_)
      exact Sx.GT.nil (fun a w' hA S => ⟨rfl, x14, b17, A18, c18, F18, hi18, (Sx.Ag.and hA (Sx.Ag.and hA (Sx.Ag.and hA (Sx.Ag.and hA (Sx.Ag.none hA) _ _ (by kernel_rfl)) _ _ (by kernel_rfl)) _ _ (by kernel_rfl)) _ _ (by kernel_rfl)), St.pick S [0, 1, 2, 3, 4, 5, 6, 7] _ rfl (by decide), hx14, hy14⟩)
   rintro e a w' ⟨rfl, y19_0, y19_1, y19_2, y19_3, y19_4, y19_5, hA, S, hxy19_0, hyy19_0⟩
   refine Sx.E.out ?_ hA S
   clear hA S a w'
   refine Sx.E.block_normal (Sx.E.next (Sx.C.region ?_))
   refine Sx.G.p (.int .i64 (xio : Int)) ?_
   refine Sx.G.q (.int .i64 (IntKind.i64.wrap ((xio : Int) + 1))) (.int .i64 ((xio + 1 : Nat) : Int)) (congrArg (Value.int .i64) (Sx.wrap_up xio (by omega))) ?_
   refine Sx.G.p (.int .i64 ((xio + 1 : Nat) : Int)) ?_
   refine Sx.G.nil ?_
   have HN : xio + 1 ≤ 4 ∧ (xso ++ [y19_0]).length = xio + 1 ∧ ∀ y ∈ xso ++ [y19_0], numD y := ⟨by omega, by simp [hlo], fun y hy => by rcases List.mem_append.1 hy with h | h; exact hpo y h; rw [List.mem_singleton.1 h]; exact (Sx.wf_small hxy19_0 (Int.lt_trans hyy19_0 (by decide)))⟩
   exact Sx.E.again (xio + 1, xso ++ [y19_0], y19_2, y19_3, y19_4, w0.heap.size, y19_5) HN (by show 4 + 1 - (xio + 1) < 4 + 1 - xio; omega) (fun a hA => (Sx.Ag.and hA (Sx.Ag.and hA (Sx.Ag.and hA (Sx.Ag.and hA (Sx.Ag.none hA) _ _ (by kernel_rfl)) _ _ (by kernel_rfl)) _ _ (by kernel_rfl)) _ _ (by kernel_rfl))) (fun w S => St.pick S [1, 2, 3, 4, 5, 6, 7] _ rfl (by decide))
 ·
  have hb5 := hc5
  replace hc5 := of_decide_eq_true hc5
  refine Sx.C.yes (by kernel_rfl) (by kernel_rfl) ?_
  refine Sx.C.skip (Sx.E.next (Sx.C.seq (Sx.C.block ?_)))
  refine Sx.C.cut (fun e a w' => e = .normal ∧ ∃ (Y0 : Option Addr) (Y1 : Nat) (Y2 : Option Addr) (Y3 : Nat) (Y4 : Option Addr) (Y5 : Nat) (Y6 : Option Addr) (Y7 : Nat) (Y8 : gT) (Y9 : Nat) (Y10 : Nat) (Y11 : List Nat) (Y12 : Nat) (Y13 : Option Addr) (Y14 : Nat) (Y15 : List Nat) (Y16 : Nat), Sx.Ag 42 [(0, .pointer (some ⟨g, 0, none⟩)), (2, .pointer (some ⟨b1, 0, none⟩)), (3, .pointer (some ⟨b3, 0, none⟩)), (4, .int .i64 (xig : Int))] a ∧ St w0 w' [ow (rLst 39 (Sx.rRo wG)) w0.heap.size Y16 ((xsg ++ [Y8])) [.slice Y13 (xsg ++ [Y8]).length Y14] Y15, vr b3 [.slice a2 l2.length b2, .slice Y13 (xsg ++ [Y8]).length Y14, .slice none 0 0, .int .i64 0], ow (rLst 28 (rLst 3 rInt)) lo2 hi2 l2 [.slice a2 l2.length b2] F2, vr b1 [.slice none 0 0, .slice none 0 0, .slice none 0 0, .int .i64 0], Sx.cu A n c g, Sx.frm w0 w g] ∧ gD Y8) ?_ ?_
  ·
   refine Sx.C.draw (.take 0 (.take 2 (.two 1 (.alone 3 (.alone 4 (.alone 5 (.take 6 (.alone 7 .nil))))) 3 (.two 1 (.alone 4 (.alone 5 (.take 6 (.alone 7 .nil)))) 4 (.alone 1 (.alone 5 (.take 6 (.alone 7 .nil)))))))) [] (fun w S => St.pick S [] _ rfl (by decide)) (by kernel_rfl) (by kernel_rfl) (by kernel_rfl) ?_
   refine Sx.GT.p (.pointer (some ⟨b3, 1, none⟩)) ?_
   refine Sx.GT.p (.pointer (some ⟨g, 0, none⟩)) ?_
   refine Sx.GT.two ?_ ?_
   ·
    refine Sx.Alone.g (.slice xAg xsg.length xcg) .m1 .m1 (fun w S => St.pick S [] _ rfl (by decide)) ?_
    refine Sx.GT.alone (Sx.Alone.c 69 #[.pointer (some ⟨g, 0, none⟩)] (fun w20 S => (kd_guest w0 A n c g _ hn hcode (Sx.St.cur S 4 rfl)).mono fun e w20' hp => ?_))
    obtain ⟨z20, cs20, lo20, hi20, F20, hg20, rfl, hcur, hgr, hfr⟩ := hp
    obtain ⟨P20_0, P20_1, P20_2, P20_3, e20, f20_0, f20_1, f20_2, f20_3⟩ := wG_rd ((Sx.rRo wG).reads (hfr.says 0 _ rfl).1)
    subst e20
    obtain ⟨A20_0, c20_0, e20_0, -⟩ := lst_val f20_0
    subst e20_0
    obtain ⟨A20_1, c20_1, e20_1, -⟩ := lst_val f20_1
    subst e20_1
    obtain ⟨A20_2, c20_2, e20_2, -⟩ := lst_val f20_2
    subst e20_2
    obtain ⟨A20_3, c20_3, e20_3, -⟩ := lst_val f20_3
    subst e20_3
    refine ⟨_, _, rfl, Sx.St.joinD S (Sx.St.moved S 4 rfl hcur hgr) hfr, (fun w S => St.pick S [] _ rfl (by decide)), ?_⟩
    clear S hcur hgr hfr f20_0 f20_1 f20_2 f20_3
    refine Sx.GT.alone (Sx.Alone.made 39 [.slice A20_0 z20.prog.length c20_0, .int .i64 z20.a, .int .i64 z20.pc, .slice A20_1 z20.wr.length c20_1, .slice A20_2 z20.lv.length c20_2, .int .i64 z20.t.1, .int .i64 z20.t.2.1, .bool z20.t.2.2, .int .i64 z20.pd, .int .i64 z20.x.1, .int .i64 z20.x.2.1, .bool z20.x.2.2.1, .int .i64 z20.x.2.2.2, .bool z20.hl, .slice A20_3 z20.seen.length c20_3] 1 (by rfl) (by kernel_rfl) (fun w => by kernel_rfl) (fun w S => St.pick S [] _ rfl (by decide)) (fun b21 => ?_))
    refine Sx.GT.claims (L' := [ow (rLst 39 (Sx.rRo wG)) xlog xhig xsg [.slice xAg xsg.length xcg] xFg, ow (Sx.rRo wG) lo20 hi20 z20 [.slice A20_0 z20.prog.length c20_0, .int .i64 z20.a, .int .i64 z20.pc, .slice A20_1 z20.wr.length c20_1, .slice A20_2 z20.lv.length c20_2, .int .i64 z20.t.1, .int .i64 z20.t.2.1, .bool z20.t.2.2, .int .i64 z20.pd, .int .i64 z20.x.1, .int .i64 z20.x.2.1, .bool z20.x.2.2.1, .int .i64 z20.x.2.2.2, .bool z20.hl, .slice A20_3 z20.seen.length c20_3] F20, vr b21 [.slice A20_0 z20.prog.length c20_0, .int .i64 z20.a, .int .i64 z20.pc, .slice A20_1 z20.wr.length c20_1, .slice A20_2 z20.lv.length c20_2, .int .i64 z20.t.1, .int .i64 z20.t.2.1, .bool z20.t.2.2, .int .i64 z20.pd, .int .i64 z20.x.1, .int .i64 z20.x.2.1, .bool z20.x.2.2.1, .int .i64 z20.x.2.2.2, .bool z20.hl, .slice A20_3 z20.seen.length c20_3], vr b3 [.slice a2 l2.length b2, .slice xAg xsg.length xcg, .slice none 0 0, .int .i64 0], ow (rLst 28 (rLst 3 rInt)) lo2 hi2 l2 [.slice a2 l2.length b2] F2, vr b1 [.slice none 0 0, .slice none 0 0, .slice none 0 0, .int .i64 0], Sx.cu A n c g, Sx.frm w0 w g]) (fun w S => St.pick S [2, 1, 0, 3, 4, 5, 6, 7] _ rfl (by decide)) ?_
    refine Sx.GT.alone (Sx.Alone.appr (.tmp 17) (.tmp 20) 27 15 184 1 (by rfl) (by rfl) (by kernel_rfl) (by kernel_rfl) (by rfl) (by kernel_rfl) (by kernel_rfl) (by kernel_rfl) (by simp only [maxLen]; omega) (by omega) (xsg ++ [z20]) (by rfl) (xsg ++ [z20]).length (by simp) (fun A22 c22 F22 hi22 w S => St.pick S [] _ rfl (by decide)) (fun A22 c22 F22 hi22 hm22 => ?_))
    refine Sx.GT.p (.pointer (some ⟨b3, 1, none⟩)) ?_
    refine Sx.GT.alone (Sx.Alone.s (.slice A22 (xsg ++ [z20]).length c22) .a1 .a1 (fun w S => St.pick S [] _ rfl (by decide)) ?_)
    exact Sx.GT.nil (fun a w' hA S => ⟨rfl, none, 0, none, 0, none, 0, none, 0, z20, 0, 0, [], 0, A22, c22, F22, hi22, (Sx.Ag.and hA (Sx.Ag.and hA (Sx.Ag.and hA (Sx.Ag.and hA (Sx.Ag.none hA) _ _ (by kernel_rfl)) _ _ (by kernel_rfl)) _ _ (by kernel_rfl)) _ _ (by kernel_rfl)), St.pick S [0, 1, 2, 3, 4, 5] _ rfl (by decide), hg20⟩)
   ·
    refine Sx.Alone.c 69 #[.pointer (some ⟨g, 0, none⟩)] (fun w23 S => (kd_guest w0 A n c g _ hn hcode (Sx.St.cur S 4 rfl)).mono fun e w23' hp => ?_)
    obtain ⟨z23, cs23, lo23, hi23, F23, hg23, rfl, hcur, hgr, hfr⟩ := hp
    obtain ⟨P23_0, P23_1, P23_2, P23_3, e23, f23_0, f23_1, f23_2, f23_3⟩ := wG_rd ((Sx.rRo wG).reads (hfr.says 0 _ rfl).1)
    subst e23
    obtain ⟨A23_0, c23_0, e23_0, -⟩ := lst_val f23_0
    subst e23_0
    obtain ⟨A23_1, c23_1, e23_1, -⟩ := lst_val f23_1
    subst e23_1
    obtain ⟨A23_2, c23_2, e23_2, -⟩ := lst_val f23_2
    subst e23_2
    obtain ⟨A23_3, c23_3, e23_3, -⟩ := lst_val f23_3
    subst e23_3
    refine ⟨_, _, rfl, Sx.St.joinD S (Sx.St.moved S 4 rfl hcur hgr) hfr, (fun w S => St.pick S [] _ rfl (by decide)), ?_⟩
    clear S hcur hgr hfr f23_0 f23_1 f23_2 f23_3
    refine Sx.GT.two ?_ ?_
    ·
     refine Sx.Alone.g (.slice xAg xsg.length xcg) .m2 .m1 (fun w S => St.pick S [] _ rfl (by decide)) ?_
     refine Sx.GT.alone (Sx.Alone.made 39 [.slice A23_0 z23.prog.length c23_0, .int .i64 z23.a, .int .i64 z23.pc, .slice A23_1 z23.wr.length c23_1, .slice A23_2 z23.lv.length c23_2, .int .i64 z23.t.1, .int .i64 z23.t.2.1, .bool z23.t.2.2, .int .i64 z23.pd, .int .i64 z23.x.1, .int .i64 z23.x.2.1, .bool z23.x.2.2.1, .int .i64 z23.x.2.2.2, .bool z23.hl, .slice A23_3 z23.seen.length c23_3] 1 (by rfl) (by kernel_rfl) (fun w => by kernel_rfl) (fun w S => St.pick S [] _ rfl (by decide)) (fun b24 => ?_))
     refine Sx.GT.claims (L' := [ow (rLst 39 (Sx.rRo wG)) xlog xhig xsg [.slice xAg xsg.length xcg] xFg, ow (Sx.rRo wG) lo23 hi23 z23 [.slice A23_0 z23.prog.length c23_0, .int .i64 z23.a, .int .i64 z23.pc, .slice A23_1 z23.wr.length c23_1, .slice A23_2 z23.lv.length c23_2, .int .i64 z23.t.1, .int .i64 z23.t.2.1, .bool z23.t.2.2, .int .i64 z23.pd, .int .i64 z23.x.1, .int .i64 z23.x.2.1, .bool z23.x.2.2.1, .int .i64 z23.x.2.2.2, .bool z23.hl, .slice A23_3 z23.seen.length c23_3] F23, vr b24 [.slice A23_0 z23.prog.length c23_0, .int .i64 z23.a, .int .i64 z23.pc, .slice A23_1 z23.wr.length c23_1, .slice A23_2 z23.lv.length c23_2, .int .i64 z23.t.1, .int .i64 z23.t.2.1, .bool z23.t.2.2, .int .i64 z23.pd, .int .i64 z23.x.1, .int .i64 z23.x.2.1, .bool z23.x.2.2.1, .int .i64 z23.x.2.2.2, .bool z23.hl, .slice A23_3 z23.seen.length c23_3], vr b3 [.slice a2 l2.length b2, .slice xAg xsg.length xcg, .slice none 0 0, .int .i64 0], ow (rLst 28 (rLst 3 rInt)) lo2 hi2 l2 [.slice a2 l2.length b2] F2, vr b1 [.slice none 0 0, .slice none 0 0, .slice none 0 0, .int .i64 0], Sx.cu A n c g, Sx.frm w0 w g]) (fun w S => St.pick S [2, 1, 0, 3, 4, 5, 6, 7] _ rfl (by decide)) ?_
     refine Sx.GT.alone (Sx.Alone.appr (.tmp 17) (.tmp 20) 27 15 184 1 (by rfl) (by rfl) (by kernel_rfl) (by kernel_rfl) (by rfl) (by kernel_rfl) (by kernel_rfl) (by kernel_rfl) (by simp only [maxLen]; omega) (by omega) (xsg ++ [z23]) (by rfl) (xsg ++ [z23]).length (by simp) (fun A25 c25 F25 hi25 w S => St.pick S [] _ rfl (by decide)) (fun A25 c25 F25 hi25 hm25 => ?_))
     refine Sx.GT.p (.pointer (some ⟨b3, 1, none⟩)) ?_
     refine Sx.GT.alone (Sx.Alone.s (.slice A25 (xsg ++ [z23]).length c25) .a1 .a1 (fun w S => St.pick S [] _ rfl (by decide)) ?_)
     exact Sx.GT.nil (fun a w' hA S => ⟨rfl, none, 0, none, 0, none, 0, none, 0, z23, 0, 0, [], 0, A25, c25, F25, hi25, (Sx.Ag.and hA (Sx.Ag.and hA (Sx.Ag.and hA (Sx.Ag.and hA (Sx.Ag.none hA) _ _ (by kernel_rfl)) _ _ (by kernel_rfl)) _ _ (by kernel_rfl)) _ _ (by kernel_rfl)), St.pick S [0, 1, 2, 3, 4, 5] _ rfl (by decide), hg23⟩)
    ·
     refine Sx.Alone.made 39 [.slice A23_0 z23.prog.length c23_0, .int .i64 z23.a, .int .i64 z23.pc, .slice A23_1 z23.wr.length c23_1, .slice A23_2 z23.lv.length c23_2, .int .i64 z23.t.1, .int .i64 z23.t.2.1, .bool z23.t.2.2, .int .i64 z23.pd, .int .i64 z23.x.1, .int .i64 z23.x.2.1, .bool z23.x.2.2.1, .int .i64 z23.x.2.2.2, .bool z23.hl, .slice A23_3 z23.seen.length c23_3] 1 (by rfl) (by kernel_rfl) (fun w => by kernel_rfl) (fun w S => St.pick S [] _ rfl (by decide)) (fun b26 => ?_)
     refine Sx.GT.alone (Sx.Alone.g (.slice xAg xsg.length xcg) .m3 .m1 (fun w S => St.pick S [] _ rfl (by decide)) ?_)
     refine Sx.GT.claims (L' := [ow (rLst 39 (Sx.rRo wG)) xlog xhig xsg [.slice xAg xsg.length xcg] xFg, ow (Sx.rRo wG) lo23 hi23 z23 [.slice A23_0 z23.prog.length c23_0, .int .i64 z23.a, .int .i64 z23.pc, .slice A23_1 z23.wr.length c23_1, .slice A23_2 z23.lv.length c23_2, .int .i64 z23.t.1, .int .i64 z23.t.2.1, .bool z23.t.2.2, .int .i64 z23.pd, .int .i64 z23.x.1, .int .i64 z23.x.2.1, .bool z23.x.2.2.1, .int .i64 z23.x.2.2.2, .bool z23.hl, .slice A23_3 z23.seen.length c23_3] F23, vr b26 [.slice A23_0 z23.prog.length c23_0, .int .i64 z23.a, .int .i64 z23.pc, .slice A23_1 z23.wr.length c23_1, .slice A23_2 z23.lv.length c23_2, .int .i64 z23.t.1, .int .i64 z23.t.2.1, .bool z23.t.2.2, .int .i64 z23.pd, .int .i64 z23.x.1, .int .i64 z23.x.2.1, .bool z23.x.2.2.1, .int .i64 z23.x.2.2.2, .bool z23.hl, .slice A23_3 z23.seen.length c23_3], vr b3 [.slice a2 l2.length b2, .slice xAg xsg.length xcg, .slice none 0 0, .int .i64 0], ow (rLst 28 (rLst 3 rInt)) lo2 hi2 l2 [.slice a2 l2.length b2] F2, vr b1 [.slice none 0 0, .slice none 0 0, .slice none 0 0, .int .i64 0], Sx.cu A n c g, Sx.frm w0 w g]) (fun w S => St.pick S [2, 1, 0, 3, 4, 5, 6, 7] _ rfl (by decide)) ?_
     refine Sx.GT.alone (Sx.Alone.appr (.tmp 17) (.tmp 20) 27 15 184 1 (by rfl) (by rfl) (by kernel_rfl) (by kernel_rfl) (by rfl) (by kernel_rfl) (by kernel_rfl) (by kernel_rfl) (by simp only [maxLen]; omega) (by omega) (xsg ++ [z23]) (by rfl) (xsg ++ [z23]).length (by simp) (fun A27 c27 F27 hi27 w S => St.pick S [] _ rfl (by decide)) (fun A27 c27 F27 hi27 hm27 => ?_))
     refine Sx.GT.p (.pointer (some ⟨b3, 1, none⟩)) ?_
     refine Sx.GT.alone (Sx.Alone.s (.slice A27 (xsg ++ [z23]).length c27) .a1 .a1 (fun w S => St.pick S [] _ rfl (by decide)) ?_)
     exact Sx.GT.nil (fun a w' hA S => ⟨rfl, none, 0, none, 0, none, 0, none, 0, z23, 0, 0, [], 0, A27, c27, F27, hi27, (Sx.Ag.and hA (Sx.Ag.and hA (Sx.Ag.and hA (Sx.Ag.and hA (Sx.Ag.none hA) _ _ (by kernel_rfl)) _ _ (by kernel_rfl)) _ _ (by kernel_rfl)) _ _ (by kernel_rfl)), St.pick S [0, 1, 2, 3, 4, 5] _ rfl (by decide), hg23⟩)
  rintro e a w' ⟨rfl, y28_0, y28_1, y28_2, y28_3, y28_4, y28_5, y28_6, y28_7, y28_8, y28_9, y28_10, y28_11, y28_12, y28_13, y28_14, y28_15, y28_16, hA, S, hky28_8⟩
  refine Sx.E.out ?_ hA S
  clear hA S a w'
  refine Sx.E.block_normal (Sx.E.next (Sx.C.region ?_))
  refine Sx.G.p (.int .i64 (xig : Int)) ?_
  refine Sx.G.q (.int .i64 (IntKind.i64.wrap ((xig : Int) + 1))) (.int .i64 ((xig + 1 : Nat) : Int)) (congrArg (Value.int .i64) (Sx.wrap_up xig (by omega))) ?_
  refine Sx.G.p (.int .i64 ((xig + 1 : Nat) : Int)) ?_
  refine Sx.G.nil ?_
  have HN : xig + 1 ≤ 2 ∧ (xsg ++ [y28_8]).length = xig + 1 ∧ ∀ y ∈ xsg ++ [y28_8], gD y := ⟨by omega, by simp [hlg], fun y hy => by rcases List.mem_append.1 hy with h | h; exact hpg y h; rw [List.mem_singleton.1 h]; exact hky28_8⟩
  exact Sx.E.again (xig + 1, (xsg ++ [y28_8]), y28_13, y28_14, y28_15, w0.heap.size, y28_16) HN (by show 2 + 1 - (xig + 1) < 2 + 1 - xig; omega) (fun a hA => (Sx.Ag.and hA (Sx.Ag.and hA (Sx.Ag.and hA (Sx.Ag.and hA (Sx.Ag.none hA) _ _ (by kernel_rfl)) _ _ (by kernel_rfl)) _ _ (by kernel_rfl)) _ _ (by kernel_rfl))) (fun w S => St.pick S [0, 1, 2, 3, 4, 5] _ rfl (by decide))
theorem kd_any (w0 : World) (A : Option Addr) (n c g : Nat) (w : World) (hn : n ≤ 1048576) (hcode : CodeAt w0 A n) (hcur : Cur w0 A n c w g) : Calls Tryz.prog 31 #[.pointer (some ⟨g, 0, none⟩)] w (fun e w' => ∃ x cs lo hi F, bA x ∧ Sx.Drawn w0 A n c w g (.agg (cs : List Value).toArray) [ow (Sx.rRo wB) lo hi x cs F] e w') := by
 have hs0 := Sx.st_cur hcur
 have hb0 := hcur.1
 clear hcur
 refine Sx.enterS (args := [.pointer (some ⟨g, 0, none⟩)]) hs0 Tryz.func31 rfl Tryz.ntmps31 rfl ?_
 refine Sx.C.seq (Sx.C.region ?_)
 refine Sx.G.ar [.slice none 0 0, .slice none 0 0, .slice none 0 0, .int .i64 0] (fun b1 => ?_)
 refine Sx.G.nil (Sx.E.next (Sx.C.seq (Sx.C.region ?_)))
 refine Sx.G.p (.pointer (some ⟨g, 0, none⟩)) ?_
 refine Sx.G.c 67 #[.pointer (some ⟨g, 0, none⟩)] (fun w2 S => (kd_bare w0 A n c g _ hn hcode (Sx.St.cur S 1 rfl)).mono fun e w2' hp => ?_)
 obtain ⟨m, gs, os, pd, a0, d0, a1, d1, a2, d2, lo0, hi0, F0, lo1, hi1, F1, lo2, hi2, F2, hD, hg1, hg2, ho4, rfl, hcur, hgr, hfr⟩ := hp
 obtain ⟨g0, gt, rfl⟩ : ∃ x y, gs = x :: y := by
  cases gs with
  | nil => exact absurd hg1 (by decide)
  | cons x y => exact ⟨x, y, rfl⟩
 refine ⟨_, _, rfl, Sx.St.joinD S (Sx.St.moved S 1 rfl hcur hgr) hfr, ?_⟩
 clear S hcur hgr hfr
 refine Sx.G.ar [.slice none 0 0, .slice none 0 0, .slice none 0 0, .int .i64 0] (fun b3 => ?_)
 refine Sx.G.sw [.slice a0 m.length d0, .slice a1 (g0 :: gt).length d1, .slice a2 os.length d2, .int .i64 pd] .a0 ?_
 refine Sx.G.nil (Sx.E.next (Sx.C.seq (Sx.C.seq (Sx.C.region ?_))))
 refine Sx.G.p (.pointer (some ⟨g, 0, none⟩)) ?_
 refine Sx.G.c 39 #[.pointer (some ⟨g, 0, none⟩), .int .i64 14] (fun w4 S => (below_any w0 A n c g _ 14 (by decide) (by decide) hn hcode (Sx.St.cur S 5 rfl)).mono fun e w4' hp => ?_)
 obtain ⟨x4, rfl, hx4, hy4, hcur, hgr⟩ := hp
 refine ⟨_, _, rfl, Sx.St.moved S 5 rfl hcur hgr, ?_⟩
 clear S hcur hgr
 refine Sx.G.nil (Sx.E.next (Sx.C.block (Sx.C.seq (Sx.C.region ?_))))
 refine Sx.G.p (.bool (x4 == 0)) ?_
 refine Sx.G.p (.bool (x4 == 0)) ?_
 refine Sx.G.nil (Sx.E.next ?_)
 cases hc5 : (x4 == 0)
 ·
  have hb5 := hc5
  refine Sx.C.no (by kernel_rfl) (by kernel_rfl) ?_
  refine Sx.C.seq (Sx.C.region ?_)
  refine Sx.G.p (.bool (x4 == 1)) ?_
  refine Sx.G.p (.bool (x4 == 1)) ?_
  refine Sx.G.nil (Sx.E.next ?_)
  cases hc6 : (x4 == 1)
  ·
   have hb6 := hc6
   refine Sx.C.no (by kernel_rfl) (by kernel_rfl) ?_
   refine Sx.C.seq (Sx.C.region ?_)
   refine Sx.G.p (.bool (x4 == 2)) ?_
   refine Sx.G.p (.bool (x4 == 2)) ?_
   refine Sx.G.nil (Sx.E.next ?_)
   cases hc7 : (x4 == 2)
   ·
    have hb7 := hc7
    refine Sx.C.no (by kernel_rfl) (by kernel_rfl) ?_
    refine Sx.C.seq (Sx.C.region ?_)
    refine Sx.G.p (.bool (x4 == 3)) ?_
    refine Sx.G.p (.bool (x4 == 3)) ?_
    refine Sx.G.nil (Sx.E.next ?_)
    cases hc8 : (x4 == 3)
    ·
     have hb8 := hc8
     refine Sx.C.no (by kernel_rfl) (by kernel_rfl) ?_
     refine Sx.C.seq (Sx.C.region ?_)
     refine Sx.G.p (.bool (x4 == 4)) ?_
     refine Sx.G.p (.bool (x4 == 4)) ?_
     refine Sx.G.nil (Sx.E.next ?_)
     cases hc9 : (x4 == 4)
     ·
      have hb9 := hc9
      refine Sx.C.no (by kernel_rfl) (by kernel_rfl) ?_
      refine Sx.C.seq (Sx.C.region ?_)
      refine Sx.G.p (.bool (x4 == 5)) ?_
      refine Sx.G.p (.bool (x4 == 5)) ?_
      refine Sx.G.nil (Sx.E.next ?_)
      cases hc10 : (x4 == 5)
      ·
       have hb10 := hc10
       refine Sx.C.no (by kernel_rfl) (by kernel_rfl) ?_
       refine Sx.C.skip (Sx.E.block_normal (Sx.E.next (Sx.C.seq (Sx.C.region ?_))))
       refine Sx.G.lw .m0 ?_
       refine Sx.G.sw [.slice a0 m.length d0, .slice a1 (g0 :: gt).length d1, .slice a2 os.length d2, .int .i64 pd] .a4 ?_
       refine Sx.G.nil (Sx.E.next (Sx.C.ret ?_))
       refine Sx.E.retc b1 4 [.slice a0 m.length d0, .slice a1 (g0 :: gt).length d1, .slice a2 os.length d2, .int .i64 pd] rfl (by kernel_rfl) rfl (by kernel_rfl) (by kernel_rfl) (fun w S => ?_)
       have S4 := St.pick S [1, 2, 3, 5, 6] ([_, _, _] ++ [_, _]) rfl (by decide)
       obtain ⟨FF, S5⟩ := Sx.St.ro (r := wB) (x := ({ mem := m, gs := (g0 :: gt), outs := os, pd := pd } : bT)) (cs := [.slice a0 m.length d0, .slice a1 (g0 :: gt).length d1, .slice a2 os.length d2, .int .i64 pd]) S4 (fun v hv => wB_rd_mk (g := ({ mem := m, gs := (g0 :: gt), outs := os, pd := pd } : bT)) (Sx.St.rdIn S4 0 rfl hv) (Sx.rdLst_of (r := (Sx.rRo wG)) (q := wG) (fun _ _ _ _ _ h => h) rfl (show rdLst (Sx.rRo wG) v _ _ _ _ from Sx.St.rdIn S4 1 rfl hv)) (Sx.St.rdIn S4 2 rfl hv))
       exact ⟨({ mem := m, gs := (g0 :: gt), outs := os, pd := pd } : bT), _, _, _, FF, ⟨⟨hD.1, hD.2.1, hD.2.2.1, hD.2.2.2⟩, by show os.length ≤ 45; omega⟩, Sx.Drawn.made hb0 (St.pick S5 [1, 2, 0] _ rfl (by decide))⟩
      ·
       have hb10 := hc10
       refine Sx.C.yes (by kernel_rfl) (by kernel_rfl) ?_
       refine Sx.C.region ?_
       refine Sx.G.p (.pointer (some ⟨g, 0, none⟩)) ?_
       refine Sx.G.c 70 #[.pointer (some ⟨g, 0, none⟩)] (fun w11 S => (Irqs.pend_any w0 A n c g _ hn hcode (Sx.St.cur S 5 rfl)).mono fun e w11' hp => ?_)
       obtain ⟨x11, rfl, hw11, hcur, hgr⟩ := hp
       refine ⟨_, _, rfl, Sx.St.moved S 5 rfl hcur hgr, ?_⟩
       clear S hcur hgr
       refine Sx.G.p (.pointer (some ⟨b3, 3, none⟩)) ?_
       refine Sx.G.s (.int .i64 x11) .a0 .a3 ?_
       refine Sx.G.nil (Sx.E.block_normal (Sx.E.next (Sx.C.seq (Sx.C.region ?_))))
       refine Sx.G.lw .m0 ?_
       refine Sx.G.sw [.slice a0 m.length d0, .slice a1 (g0 :: gt).length d1, .slice a2 os.length d2, .int .i64 x11] .a4 ?_
       refine Sx.G.nil (Sx.E.next (Sx.C.ret ?_))
       refine Sx.E.retc b1 4 [.slice a0 m.length d0, .slice a1 (g0 :: gt).length d1, .slice a2 os.length d2, .int .i64 x11] rfl (by kernel_rfl) rfl (by kernel_rfl) (by kernel_rfl) (fun w S => ?_)
       have S4 := St.pick S [1, 2, 3, 5, 6] ([_, _, _] ++ [_, _]) rfl (by decide)
       obtain ⟨FF, S5⟩ := Sx.St.ro (r := wB) (x := ({ mem := m, gs := (g0 :: gt), outs := os, pd := x11 } : bT)) (cs := [.slice a0 m.length d0, .slice a1 (g0 :: gt).length d1, .slice a2 os.length d2, .int .i64 x11]) S4 (fun v hv => wB_rd_mk (g := ({ mem := m, gs := (g0 :: gt), outs := os, pd := x11 } : bT)) (Sx.St.rdIn S4 0 rfl hv) (Sx.rdLst_of (r := (Sx.rRo wG)) (q := wG) (fun _ _ _ _ _ h => h) rfl (show rdLst (Sx.rRo wG) v _ _ _ _ from Sx.St.rdIn S4 1 rfl hv)) (Sx.St.rdIn S4 2 rfl hv))
       exact ⟨({ mem := m, gs := (g0 :: gt), outs := os, pd := x11 } : bT), _, _, _, FF, ⟨⟨hD.1, hD.2.1, hD.2.2.1, hw11⟩, by show os.length ≤ 45; omega⟩, Sx.Drawn.made hb0 (St.pick S5 [1, 2, 0] _ rfl (by decide))⟩
     ·
      have hb9 := hc9
      refine Sx.C.yes (by kernel_rfl) (by kernel_rfl) ?_
      refine Sx.C.block ?_
      refine Sx.C.loop (α := Nat × (List Int) × Option Addr × Nat × List Nat × Nat × Nat) (fun x => x.1 ≤ 41 ∧ x.2.1.length = x.1 ∧ ∀ y ∈ x.2.1, numD y) (fun x => [(0, .pointer (some ⟨g, 0, none⟩)), (2, .pointer (some ⟨b1, 0, none⟩)), (3, .pointer (some ⟨b3, 0, none⟩))]) (fun x => [vr b3 [.slice a0 m.length d0, .slice a1 (g0 :: gt).length d1, .slice x.2.2.1 x.2.1.length x.2.2.2.1, .int .i64 pd], ow (Sx.rRo (rLsw (rLsw rInt))) lo0 hi0 m [.slice a0 m.length d0] F0, ow (rLst 39 (Sx.rRo wG)) lo1 hi1 ((g0 :: gt)) [.slice a1 (g0 :: gt).length d1] F1, ow (rLst 3 rInt) x.2.2.2.2.2.1 x.2.2.2.2.2.2 x.2.1 [.slice x.2.2.1 x.2.1.length x.2.2.2.1] x.2.2.2.2.1, vr b1 [.slice none 0 0, .slice none 0 0, .slice none 0 0, .int .i64 0], Sx.cu A n c g, Sx.frm w0 w g]) (fun x => 41 + 1 - x.1) (os.length, os, a2, d2, F2, lo2, hi2) ⟨by omega, rfl, hD.2.2.1.2⟩ (fun a hA => (Sx.Ag.and hA (Sx.Ag.and hA (Sx.Ag.and hA (Sx.Ag.none hA) _ _ (by kernel_rfl)) _ _ (by kernel_rfl)) _ _ (by kernel_rfl))) (fun w S => St.pick S [0, 1, 2, 3, 4, 5, 6] _ rfl (by decide)) (fun x hx => ?_)
      obtain ⟨xio, xso, xAo, xco, xFo, xloo, xhio⟩ := x
      dsimp only at hx
      obtain ⟨hbo, hlo, hpo⟩ := hx
      refine Sx.C.seq (Sx.C.seq ?_)
      refine Sx.C.draw (.take 0 (.take 1 (.take 2 (.take 3 (.alone 4 (.take 5 (.take 6 .nil))))))) [vr b3 [.slice a0 m.length d0, .slice a1 (g0 :: gt).length d1, .slice xAo xso.length xco, .int .i64 pd]] (fun w S => St.pick S [0] _ rfl (by decide)) (by kernel_rfl) (by kernel_rfl) (by kernel_rfl) ?_
      refine Sx.GT.p (.pointer (some ⟨b3, 2, none⟩)) ?_
      refine Sx.GT.g (.slice xAo xso.length xco) .m0 .m2 ?_
      refine Sx.GT.p (.int .i64 ((xso.length : Nat) : Int)) ?_
      refine Sx.GT.p (.pointer (some ⟨g, 0, none⟩)) ?_
      refine Sx.GT.alone (Sx.Alone.c 39 #[.pointer (some ⟨g, 0, none⟩), .int .i64 3] (fun w12 S => (below_any w0 A n c g _ 3 (by decide) (by decide) hn hcode (Sx.St.cur S 5 rfl)).mono fun e w12' hp => ?_))
      obtain ⟨x12, rfl, hx12, hy12, hcur, hgr⟩ := hp
      refine ⟨_, _, rfl, Sx.St.moved S 5 rfl hcur hgr, (fun w S => St.pick S [0] _ rfl (by decide)), ?_⟩
      clear S hcur hgr
      refine Sx.GT.q (.int .i64 (IntKind.i64.wrap (39 + x12))) (.int .i64 (39 + x12)) (congrArg (Value.int .i64) (by rw [IntKind.wrap_i64]; omega)) ?_
      refine Sx.GT.p (.bool (decide (((xso.length : Nat) : Int) < (39 + x12)))) ?_
      refine Sx.GT.nil (Sx.E.next ?_)
      cases hc13 : (decide (((xso.length : Nat) : Int) < (39 + x12)))
      ·
       have hb13 := hc13
       replace hc13 := of_decide_eq_false hc13
       refine Sx.C.no (by kernel_rfl) (by kernel_rfl) ?_
       refine Sx.C.exit (Sx.E.then_exit (Sx.E.then_exit (Sx.E.block_hit (Sx.E.block_normal (Sx.E.next (Sx.C.seq (Sx.C.region ?_)))))))
       refine Sx.G.lw .m0 ?_
       refine Sx.G.sw [.slice a0 m.length d0, .slice a1 (g0 :: gt).length d1, .slice xAo xso.length xco, .int .i64 pd] .a4 ?_
       refine Sx.G.nil (Sx.E.next (Sx.C.ret ?_))
       refine Sx.E.retc b1 4 [.slice a0 m.length d0, .slice a1 (g0 :: gt).length d1, .slice xAo xso.length xco, .int .i64 pd] rfl (by kernel_rfl) rfl (by kernel_rfl) (by kernel_rfl) (fun w S => ?_)
       have S4 := St.pick S [1, 2, 3, 5, 6] ([_, _, _] ++ [_, _]) rfl (by decide)
       obtain ⟨FF, S5⟩ := Sx.St.ro (r := wB) (x := ({ mem := m, gs := (g0 :: gt), outs := xso, pd := pd } : bT)) (cs := [.slice a0 m.length d0, .slice a1 (g0 :: gt).length d1, .slice xAo xso.length xco, .int .i64 pd]) S4 (fun v hv => wB_rd_mk (g := ({ mem := m, gs := (g0 :: gt), outs := xso, pd := pd } : bT)) (Sx.St.rdIn S4 0 rfl hv) (Sx.rdLst_of (r := (Sx.rRo wG)) (q := wG) (fun _ _ _ _ _ h => h) rfl (show rdLst (Sx.rRo wG) v _ _ _ _ from Sx.St.rdIn S4 1 rfl hv)) (Sx.St.rdIn S4 2 rfl hv))
       exact ⟨({ mem := m, gs := (g0 :: gt), outs := xso, pd := pd } : bT), _, _, _, FF, ⟨⟨hD.1, hD.2.1, ⟨by show xso.length ≤ 50; omega, hpo⟩, hD.2.2.2⟩, by show xso.length ≤ 45; omega⟩, Sx.Drawn.made hb0 (St.pick S5 [1, 2, 0] _ rfl (by decide))⟩
      ·
       have hb13 := hc13
       replace hc13 := of_decide_eq_true hc13
       refine Sx.C.yes (by kernel_rfl) (by kernel_rfl) ?_
       refine Sx.C.skip (Sx.E.next (Sx.C.block (Sx.C.region ?_)))
       refine Sx.G.p (.pointer (some ⟨b3, 2, none⟩)) ?_
       refine Sx.G.g (.slice xAo xso.length xco) .m0 .m2 ?_
       refine Sx.G.made 3 [.int .i64 1] 1 (by kernel_rfl) (fun w => by kernel_rfl) (fun b14 => ?_)
       refine Sx.G.apps 4 rfl (xso ++ [1]) (fun w S => S.box 0 rfl rfl 1 (Nat.le_refl _)) rfl ((xso ++ [1]).length) (by simp) flat_int (.tmp 44) (.tmp 45) 28 1 8 rfl rfl (by kernel_rfl) (by kernel_rfl) rfl (by kernel_rfl) (by kernel_rfl) (by simp only [maxLen, List.length_nil, List.length_cons]; omega) (by simp only [List.length_nil, List.length_cons]; omega) (fun A15 c15 F15 hi15 hm15 => ?_)
       refine Sx.G.p (.pointer (some ⟨b3, 2, none⟩)) ?_
       refine Sx.G.s (.slice A15 ((xso ++ [1]).length) c15) .a1 .a2 ?_
       refine Sx.G.nil (Sx.E.block_normal ?_)
       have HN : xio + 1 ≤ 41 ∧ (xso ++ [1]).length = xio + 1 ∧ ∀ y ∈ xso ++ [1], numD y := ⟨by omega, by simp [hlo], fun y hy => by rcases List.mem_append.1 hy with h | h; exact hpo y h; rw [List.mem_singleton.1 h]; exact (show (Lit.int .i64 1).wf = true by decide)⟩
       exact Sx.E.again (xio + 1, xso ++ [1], A15, c15, F15, w0.heap.size, hi15) HN (by show 41 + 1 - (xio + 1) < 41 + 1 - xio; omega) (fun a hA => (Sx.Ag.and hA (Sx.Ag.and hA (Sx.Ag.and hA (Sx.Ag.none hA) _ _ (by kernel_rfl)) _ _ (by kernel_rfl)) _ _ (by kernel_rfl))) (fun w S => St.pick S [1, 2, 3, 4, 5, 6, 7] _ rfl (by decide))
    ·
     have hb8 := hc8
     refine Sx.C.yes (by kernel_rfl) (by kernel_rfl) ?_
     refine Sx.C.region ?_
     refine Sx.G.p (.pointer (some ⟨b3, 1, none⟩)) ?_
     refine Sx.G.s (.slice none 0 0) .a0 .a1 ?_
     refine Sx.G.nil (Sx.E.block_normal (Sx.E.next (Sx.C.seq (Sx.C.region ?_))))
     refine Sx.G.lw .m0 ?_
     refine Sx.G.sw [.slice a0 m.length d0, .slice none 0 0, .slice a2 os.length d2, .int .i64 pd] .a4 ?_
     refine Sx.G.nil (Sx.E.next (Sx.C.ret ?_))
     refine Sx.E.retc b1 4 [.slice a0 m.length d0, .slice none 0 0, .slice a2 os.length d2, .int .i64 pd] rfl (by kernel_rfl) rfl (by kernel_rfl) (by kernel_rfl) (fun w S => ?_)
     have S4 := St.pick S [1, 3, 5, 6] ([_, _] ++ [_, _]) rfl (by decide)
     obtain ⟨FF, S5⟩ := Sx.St.ro (r := wB) (x := ({ mem := m, gs := [], outs := os, pd := pd } : bT)) (cs := [.slice a0 m.length d0, .slice none 0 0, .slice a2 os.length d2, .int .i64 pd]) S4 (fun v hv => wB_rd_mk (g := ({ mem := m, gs := [], outs := os, pd := pd } : bT)) (Sx.St.rdIn S4 0 rfl hv) (Sx.rd_nil _ _ _ _) (Sx.St.rdIn S4 1 rfl hv))
     exact ⟨({ mem := m, gs := [], outs := os, pd := pd } : bT), _, _, _, FF, ⟨⟨hD.1, ⟨Nat.zero_le _, fun q hq => by cases hq⟩, hD.2.2.1, hD.2.2.2⟩, by show os.length ≤ 45; omega⟩, Sx.Drawn.made hb0 (St.pick S5 [1, 2, 0] _ rfl (by decide))⟩
   ·
    have hb7 := hc7
    refine Sx.C.yes (by kernel_rfl) (by kernel_rfl) ?_
    refine Sx.C.cut (fun e a w' => e = .normal ∧ ∃ (Y0 : Option Addr) (Y1 : Nat) (Y2 : Option Addr) (Y3 : Nat) (Y4 : Option Addr) (Y5 : Nat) (Y6 : Option Addr) (Y7 : Nat) (Y8 : gT) (Y9 : Nat) (Y10 : Nat) (Y11 : List Nat) (Y12 : Option Addr) (Y13 : Nat) (Y14 : Option Addr) (Y15 : Nat) (Y16 : Option Addr) (Y17 : Nat) (Y18 : Option Addr) (Y19 : Nat) (Y20 : gT) (Y21 : Nat) (Y22 : Nat) (Y23 : List Nat) (Y24 : Nat) (Y25 : Option Addr) (Y26 : Nat) (Y27 : List Nat) (Y28 : Nat), Sx.Ag 54 [(2, .pointer (some ⟨b1, 0, none⟩)), (3, .pointer (some ⟨b3, 0, none⟩))] a ∧ St w0 w' [ow (rLst 39 (Sx.rRo wG)) w0.heap.size Y28 (((g0 :: gt) ++ [Y8, Y20])) [.slice Y25 ((g0 :: gt) ++ [Y8, Y20]).length Y26] Y27, vr b3 [.slice a0 m.length d0, .slice Y25 ((g0 :: gt) ++ [Y8, Y20]).length Y26, .slice a2 os.length d2, .int .i64 pd], ow (Sx.rRo (rLsw (rLsw rInt))) lo0 hi0 m [.slice a0 m.length d0] F0, ow (rLst 3 rInt) lo2 hi2 os [.slice a2 os.length d2] F2, vr b1 [.slice none 0 0, .slice none 0 0, .slice none 0 0, .int .i64 0], Sx.cu A n c g, Sx.frm w0 w g] ∧ gD Y8 ∧ gD Y20) ?_ ?_
    ·
     refine Sx.C.draw (.take 0 (.take 2 (.take 4 (.two 1 (.alone 3 (.alone 5 (.alone 6 (.alone 7 (.take 8 (.alone 9 .nil)))))) 3 (.two 1 (.alone 5 (.alone 6 (.alone 7 (.take 8 (.alone 9 .nil))))) 5 (.two 1 (.alone 6 (.alone 7 (.take 8 (.alone 9 .nil)))) 6 (.alone 1 (.alone 7 (.take 8 (.alone 9 .nil)))))))))) [] (fun w S => St.pick S [] _ rfl (by decide)) (by kernel_rfl) (by kernel_rfl) (by kernel_rfl) ?_
     refine Sx.GT.p (.pointer (some ⟨b3, 1, none⟩)) ?_
     refine Sx.GT.p (.pointer (some ⟨g, 0, none⟩)) ?_
     refine Sx.GT.p (.pointer (some ⟨g, 0, none⟩)) ?_
     refine Sx.GT.two ?_ ?_
     ·
      refine Sx.Alone.g (.slice a1 (g0 :: gt).length d1) .m0 .m1 (fun w S => St.pick S [] _ rfl (by decide)) ?_
      refine Sx.GT.alone (Sx.Alone.c 69 #[.pointer (some ⟨g, 0, none⟩)] (fun w16 S => (kd_guest w0 A n c g _ hn hcode (Sx.St.cur S 5 rfl)).mono fun e w16' hp => ?_))
      obtain ⟨z16, cs16, lo16, hi16, F16, hg16, rfl, hcur, hgr, hfr⟩ := hp
      obtain ⟨P16_0, P16_1, P16_2, P16_3, e16, f16_0, f16_1, f16_2, f16_3⟩ := wG_rd ((Sx.rRo wG).reads (hfr.says 0 _ rfl).1)
      subst e16
      obtain ⟨A16_0, c16_0, e16_0, -⟩ := lst_val f16_0
      subst e16_0
      obtain ⟨A16_1, c16_1, e16_1, -⟩ := lst_val f16_1
      subst e16_1
      obtain ⟨A16_2, c16_2, e16_2, -⟩ := lst_val f16_2
      subst e16_2
      obtain ⟨A16_3, c16_3, e16_3, -⟩ := lst_val f16_3
      subst e16_3
      refine ⟨_, _, rfl, Sx.St.joinD S (Sx.St.moved S 5 rfl hcur hgr) hfr, (fun w S => St.pick S [] _ rfl (by decide)), ?_⟩
      clear S hcur hgr hfr f16_0 f16_1 f16_2 f16_3
      refine Sx.GT.alone (Sx.Alone.c 69 #[.pointer (some ⟨g, 0, none⟩)] (fun w17 S => (kd_guest w0 A n c g _ hn hcode (Sx.St.cur S 6 rfl)).mono fun e w17' hp => ?_))
      obtain ⟨z17, cs17, lo17, hi17, F17, hg17, rfl, hcur, hgr, hfr⟩ := hp
      obtain ⟨P17_0, P17_1, P17_2, P17_3, e17, f17_0, f17_1, f17_2, f17_3⟩ := wG_rd ((Sx.rRo wG).reads (hfr.says 0 _ rfl).1)
      subst e17
      obtain ⟨A17_0, c17_0, e17_0, -⟩ := lst_val f17_0
      subst e17_0
      obtain ⟨A17_1, c17_1, e17_1, -⟩ := lst_val f17_1
      subst e17_1
      obtain ⟨A17_2, c17_2, e17_2, -⟩ := lst_val f17_2
      subst e17_2
      obtain ⟨A17_3, c17_3, e17_3, -⟩ := lst_val f17_3
      subst e17_3
      refine ⟨_, _, rfl, Sx.St.joinD S (Sx.St.moved S 6 rfl hcur hgr) hfr, (fun w S => St.pick S [] _ rfl (by decide)), ?_⟩
      clear S hcur hgr hfr f17_0 f17_1 f17_2 f17_3
      refine Sx.GT.alone (Sx.Alone.made 39 [.slice A16_0 z16.prog.length c16_0, .int .i64 z16.a, .int .i64 z16.pc, .slice A16_1 z16.wr.length c16_1, .slice A16_2 z16.lv.length c16_2, .int .i64 z16.t.1, .int .i64 z16.t.2.1, .bool z16.t.2.2, .int .i64 z16.pd, .int .i64 z16.x.1, .int .i64 z16.x.2.1, .bool z16.x.2.2.1, .int .i64 z16.x.2.2.2, .bool z16.hl, .slice A16_3 z16.seen.length c16_3, .slice A17_0 z17.prog.length c17_0, .int .i64 z17.a, .int .i64 z17.pc, .slice A17_1 z17.wr.length c17_1, .slice A17_2 z17.lv.length c17_2, .int .i64 z17.t.1, .int .i64 z17.t.2.1, .bool z17.t.2.2, .int .i64 z17.pd, .int .i64 z17.x.1, .int .i64 z17.x.2.1, .bool z17.x.2.2.1, .int .i64 z17.x.2.2.2, .bool z17.hl, .slice A17_3 z17.seen.length c17_3] 2 (by rfl) (by kernel_rfl) (fun w => by kernel_rfl) (fun w S => St.pick S [] _ rfl (by decide)) (fun b18 => ?_))
      refine Sx.GT.pk (.c .m2 (.c .m1 (.c .m0 (.c .m3 (.c .m4 (.c .m5 (.c .m6 (.c .m7 (.c .m8 (.c .m9 .n)))))))))) ?_
      refine Sx.GT.turn (ι := Nat) (p := fun _ => True) (fun H19 => [ow (rPair (Sx.rRo wG) (Sx.rRo wG)) w0.heap.size H19 (z16, z17) [.slice A16_0 z16.prog.length c16_0, .int .i64 z16.a, .int .i64 z16.pc, .slice A16_1 z16.wr.length c16_1, .slice A16_2 z16.lv.length c16_2, .int .i64 z16.t.1, .int .i64 z16.t.2.1, .bool z16.t.2.2, .int .i64 z16.pd, .int .i64 z16.x.1, .int .i64 z16.x.2.1, .bool z16.x.2.2.1, .int .i64 z16.x.2.2.2, .bool z16.hl, .slice A16_3 z16.seen.length c16_3, .slice A17_0 z17.prog.length c17_0, .int .i64 z17.a, .int .i64 z17.pc, .slice A17_1 z17.wr.length c17_1, .slice A17_2 z17.lv.length c17_2, .int .i64 z17.t.1, .int .i64 z17.t.2.1, .bool z17.t.2.2, .int .i64 z17.pd, .int .i64 z17.x.1, .int .i64 z17.x.2.1, .bool z17.x.2.2.1, .int .i64 z17.x.2.2.2, .bool z17.hl, .slice A17_3 z17.seen.length c17_3] (F16 ++ F17), vr b18 [.slice A16_0 z16.prog.length c16_0, .int .i64 z16.a, .int .i64 z16.pc, .slice A16_1 z16.wr.length c16_1, .slice A16_2 z16.lv.length c16_2, .int .i64 z16.t.1, .int .i64 z16.t.2.1, .bool z16.t.2.2, .int .i64 z16.pd, .int .i64 z16.x.1, .int .i64 z16.x.2.1, .bool z16.x.2.2.1, .int .i64 z16.x.2.2.2, .bool z16.hl, .slice A16_3 z16.seen.length c16_3, .slice A17_0 z17.prog.length c17_0, .int .i64 z17.a, .int .i64 z17.pc, .slice A17_1 z17.wr.length c17_1, .slice A17_2 z17.lv.length c17_2, .int .i64 z17.t.1, .int .i64 z17.t.2.1, .bool z17.t.2.2, .int .i64 z17.pd, .int .i64 z17.x.1, .int .i64 z17.x.2.1, .bool z17.x.2.2.1, .int .i64 z17.x.2.2.2, .bool z17.hl, .slice A17_3 z17.seen.length c17_3], vr b3 [.slice a0 m.length d0, .slice a1 (g0 :: gt).length d1, .slice a2 os.length d2, .int .i64 pd], ow (Sx.rRo (rLsw (rLsw rInt))) lo0 hi0 m [.slice a0 m.length d0] F0, ow (rLst 39 (Sx.rRo wG)) lo1 hi1 ((g0 :: gt)) [.slice a1 (g0 :: gt).length d1] F1, ow (rLst 3 rInt) lo2 hi2 os [.slice a2 os.length d2] F2, vr b1 [.slice none 0 0, .slice none 0 0, .slice none 0 0, .int .i64 0], Sx.cu A n c g, Sx.frm w0 w g]) (fun w S => ⟨w.heap.size, trivial, Sx.St.pair S⟩) (fun H19 _ => ?_)
      refine Sx.GT.claims (L' := [ow (rLst 39 (Sx.rRo wG)) lo1 hi1 ((g0 :: gt)) [.slice a1 (g0 :: gt).length d1] F1, ow (rPair (Sx.rRo wG) (Sx.rRo wG)) w0.heap.size H19 (z16, z17) [.slice A16_0 z16.prog.length c16_0, .int .i64 z16.a, .int .i64 z16.pc, .slice A16_1 z16.wr.length c16_1, .slice A16_2 z16.lv.length c16_2, .int .i64 z16.t.1, .int .i64 z16.t.2.1, .bool z16.t.2.2, .int .i64 z16.pd, .int .i64 z16.x.1, .int .i64 z16.x.2.1, .bool z16.x.2.2.1, .int .i64 z16.x.2.2.2, .bool z16.hl, .slice A16_3 z16.seen.length c16_3, .slice A17_0 z17.prog.length c17_0, .int .i64 z17.a, .int .i64 z17.pc, .slice A17_1 z17.wr.length c17_1, .slice A17_2 z17.lv.length c17_2, .int .i64 z17.t.1, .int .i64 z17.t.2.1, .bool z17.t.2.2, .int .i64 z17.pd, .int .i64 z17.x.1, .int .i64 z17.x.2.1, .bool z17.x.2.2.1, .int .i64 z17.x.2.2.2, .bool z17.hl, .slice A17_3 z17.seen.length c17_3] (F16 ++ F17), vr b18 [.slice A16_0 z16.prog.length c16_0, .int .i64 z16.a, .int .i64 z16.pc, .slice A16_1 z16.wr.length c16_1, .slice A16_2 z16.lv.length c16_2, .int .i64 z16.t.1, .int .i64 z16.t.2.1, .bool z16.t.2.2, .int .i64 z16.pd, .int .i64 z16.x.1, .int .i64 z16.x.2.1, .bool z16.x.2.2.1, .int .i64 z16.x.2.2.2, .bool z16.hl, .slice A16_3 z16.seen.length c16_3, .slice A17_0 z17.prog.length c17_0, .int .i64 z17.a, .int .i64 z17.pc, .slice A17_1 z17.wr.length c17_1, .slice A17_2 z17.lv.length c17_2, .int .i64 z17.t.1, .int .i64 z17.t.2.1, .bool z17.t.2.2, .int .i64 z17.pd, .int .i64 z17.x.1, .int .i64 z17.x.2.1, .bool z17.x.2.2.1, .int .i64 z17.x.2.2.2, .bool z17.hl, .slice A17_3 z17.seen.length c17_3], vr b3 [.slice a0 m.length d0, .slice a1 (g0 :: gt).length d1, .slice a2 os.length d2, .int .i64 pd], ow (Sx.rRo (rLsw (rLsw rInt))) lo0 hi0 m [.slice a0 m.length d0] F0, ow (rLst 3 rInt) lo2 hi2 os [.slice a2 os.length d2] F2, vr b1 [.slice none 0 0, .slice none 0 0, .slice none 0 0, .int .i64 0], Sx.cu A n c g, Sx.frm w0 w g]) (fun w S => St.pick S [4, 0, 1, 2, 3, 5, 6, 7, 8] _ rfl (by decide)) ?_
      refine Sx.GT.alone (Sx.Alone.appr2 (.tmp 23) (.tmp 28) 27 15 184 2 (by rfl) (by rfl) (by kernel_rfl) (by kernel_rfl) (by rfl) (by kernel_rfl) (by kernel_rfl) (by kernel_rfl) (by simp only [maxLen]; omega) (by omega) ((g0 :: gt) ++ [z16, z17]) (by rfl) ((g0 :: gt) ++ [z16, z17]).length (by simp) (fun A20 c20 F20 hi20 w S => St.pick S [] _ rfl (by decide)) (fun A20 c20 F20 hi20 hm20 => ?_))
      refine Sx.GT.p (.pointer (some ⟨b3, 1, none⟩)) ?_
      refine Sx.GT.alone (Sx.Alone.s (.slice A20 ((g0 :: gt) ++ [z16, z17]).length c20) .a1 .a1 (fun w S => St.pick S [] _ rfl (by decide)) ?_)
      exact Sx.GT.nil (fun a w' hA S => ⟨rfl, none, 0, none, 0, none, 0, none, 0, z16, 0, 0, [], none, 0, none, 0, none, 0, none, 0, z17, 0, 0, [], 0, A20, c20, F20, hi20, (Sx.Ag.and hA (Sx.Ag.and hA (Sx.Ag.none hA) _ _ (by kernel_rfl)) _ _ (by kernel_rfl)), St.pick S [0, 1, 2, 3, 4, 5, 6] _ rfl (by decide), hg16, hg17⟩)
     ·
      refine Sx.Alone.c 69 #[.pointer (some ⟨g, 0, none⟩)] (fun w21 S => (kd_guest w0 A n c g _ hn hcode (Sx.St.cur S 5 rfl)).mono fun e w21' hp => ?_)
      obtain ⟨z21, cs21, lo21, hi21, F21, hg21, rfl, hcur, hgr, hfr⟩ := hp
      obtain ⟨P21_0, P21_1, P21_2, P21_3, e21, f21_0, f21_1, f21_2, f21_3⟩ := wG_rd ((Sx.rRo wG).reads (hfr.says 0 _ rfl).1)
      subst e21
      obtain ⟨A21_0, c21_0, e21_0, -⟩ := lst_val f21_0
      subst e21_0
      obtain ⟨A21_1, c21_1, e21_1, -⟩ := lst_val f21_1
      subst e21_1
      obtain ⟨A21_2, c21_2, e21_2, -⟩ := lst_val f21_2
      subst e21_2
      obtain ⟨A21_3, c21_3, e21_3, -⟩ := lst_val f21_3
      subst e21_3
      refine ⟨_, _, rfl, Sx.St.joinD S (Sx.St.moved S 5 rfl hcur hgr) hfr, (fun w S => St.pick S [] _ rfl (by decide)), ?_⟩
      clear S hcur hgr hfr f21_0 f21_1 f21_2 f21_3
      refine Sx.GT.two ?_ ?_
      ·
       refine Sx.Alone.g (.slice a1 (g0 :: gt).length d1) .m1 .m1 (fun w S => St.pick S [] _ rfl (by decide)) ?_
       refine Sx.GT.alone (Sx.Alone.c 69 #[.pointer (some ⟨g, 0, none⟩)] (fun w22 S => (kd_guest w0 A n c g _ hn hcode (Sx.St.cur S 6 rfl)).mono fun e w22' hp => ?_))
       obtain ⟨z22, cs22, lo22, hi22, F22, hg22, rfl, hcur, hgr, hfr⟩ := hp
       obtain ⟨P22_0, P22_1, P22_2, P22_3, e22, f22_0, f22_1, f22_2, f22_3⟩ := wG_rd ((Sx.rRo wG).reads (hfr.says 0 _ rfl).1)
       subst e22
       obtain ⟨A22_0, c22_0, e22_0, -⟩ := lst_val f22_0
       subst e22_0
       obtain ⟨A22_1, c22_1, e22_1, -⟩ := lst_val f22_1
       subst e22_1
       obtain ⟨A22_2, c22_2, e22_2, -⟩ := lst_val f22_2
       subst e22_2
       obtain ⟨A22_3, c22_3, e22_3, -⟩ := lst_val f22_3
       subst e22_3
       refine ⟨_, _, rfl, Sx.St.joinD S (Sx.St.moved S 6 rfl hcur hgr) hfr, (fun w S => St.pick S [] _ rfl (by decide)), ?_⟩
       clear S hcur hgr hfr f22_0 f22_1 f22_2 f22_3
       refine Sx.GT.alone (Sx.Alone.made 39 [.slice A21_0 z21.prog.length c21_0, .int .i64 z21.a, .int .i64 z21.pc, .slice A21_1 z21.wr.length c21_1, .slice A21_2 z21.lv.length c21_2, .int .i64 z21.t.1, .int .i64 z21.t.2.1, .bool z21.t.2.2, .int .i64 z21.pd, .int .i64 z21.x.1, .int .i64 z21.x.2.1, .bool z21.x.2.2.1, .int .i64 z21.x.2.2.2, .bool z21.hl, .slice A21_3 z21.seen.length c21_3, .slice A22_0 z22.prog.length c22_0, .int .i64 z22.a, .int .i64 z22.pc, .slice A22_1 z22.wr.length c22_1, .slice A22_2 z22.lv.length c22_2, .int .i64 z22.t.1, .int .i64 z22.t.2.1, .bool z22.t.2.2, .int .i64 z22.pd, .int .i64 z22.x.1, .int .i64 z22.x.2.1, .bool z22.x.2.2.1, .int .i64 z22.x.2.2.2, .bool z22.hl, .slice A22_3 z22.seen.length c22_3] 2 (by rfl) (by kernel_rfl) (fun w => by kernel_rfl) (fun w S => St.pick S [] _ rfl (by decide)) (fun b23 => ?_))
       refine Sx.GT.pk (.c .m2 (.c .m1 (.c .m0 (.c .m3 (.c .m4 (.c .m5 (.c .m6 (.c .m7 (.c .m8 (.c .m9 .n)))))))))) ?_
       refine Sx.GT.turn (ι := Nat) (p := fun _ => True) (fun H24 => [ow (rPair (Sx.rRo wG) (Sx.rRo wG)) w0.heap.size H24 (z21, z22) [.slice A21_0 z21.prog.length c21_0, .int .i64 z21.a, .int .i64 z21.pc, .slice A21_1 z21.wr.length c21_1, .slice A21_2 z21.lv.length c21_2, .int .i64 z21.t.1, .int .i64 z21.t.2.1, .bool z21.t.2.2, .int .i64 z21.pd, .int .i64 z21.x.1, .int .i64 z21.x.2.1, .bool z21.x.2.2.1, .int .i64 z21.x.2.2.2, .bool z21.hl, .slice A21_3 z21.seen.length c21_3, .slice A22_0 z22.prog.length c22_0, .int .i64 z22.a, .int .i64 z22.pc, .slice A22_1 z22.wr.length c22_1, .slice A22_2 z22.lv.length c22_2, .int .i64 z22.t.1, .int .i64 z22.t.2.1, .bool z22.t.2.2, .int .i64 z22.pd, .int .i64 z22.x.1, .int .i64 z22.x.2.1, .bool z22.x.2.2.1, .int .i64 z22.x.2.2.2, .bool z22.hl, .slice A22_3 z22.seen.length c22_3] (F21 ++ F22), vr b23 [.slice A21_0 z21.prog.length c21_0, .int .i64 z21.a, .int .i64 z21.pc, .slice A21_1 z21.wr.length c21_1, .slice A21_2 z21.lv.length c21_2, .int .i64 z21.t.1, .int .i64 z21.t.2.1, .bool z21.t.2.2, .int .i64 z21.pd, .int .i64 z21.x.1, .int .i64 z21.x.2.1, .bool z21.x.2.2.1, .int .i64 z21.x.2.2.2, .bool z21.hl, .slice A21_3 z21.seen.length c21_3, .slice A22_0 z22.prog.length c22_0, .int .i64 z22.a, .int .i64 z22.pc, .slice A22_1 z22.wr.length c22_1, .slice A22_2 z22.lv.length c22_2, .int .i64 z22.t.1, .int .i64 z22.t.2.1, .bool z22.t.2.2, .int .i64 z22.pd, .int .i64 z22.x.1, .int .i64 z22.x.2.1, .bool z22.x.2.2.1, .int .i64 z22.x.2.2.2, .bool z22.hl, .slice A22_3 z22.seen.length c22_3], vr b3 [.slice a0 m.length d0, .slice a1 (g0 :: gt).length d1, .slice a2 os.length d2, .int .i64 pd], ow (Sx.rRo (rLsw (rLsw rInt))) lo0 hi0 m [.slice a0 m.length d0] F0, ow (rLst 39 (Sx.rRo wG)) lo1 hi1 ((g0 :: gt)) [.slice a1 (g0 :: gt).length d1] F1, ow (rLst 3 rInt) lo2 hi2 os [.slice a2 os.length d2] F2, vr b1 [.slice none 0 0, .slice none 0 0, .slice none 0 0, .int .i64 0], Sx.cu A n c g, Sx.frm w0 w g]) (fun w S => ⟨w.heap.size, trivial, Sx.St.pair S⟩) (fun H24 _ => ?_)
       refine Sx.GT.claims (L' := [ow (rLst 39 (Sx.rRo wG)) lo1 hi1 ((g0 :: gt)) [.slice a1 (g0 :: gt).length d1] F1, ow (rPair (Sx.rRo wG) (Sx.rRo wG)) w0.heap.size H24 (z21, z22) [.slice A21_0 z21.prog.length c21_0, .int .i64 z21.a, .int .i64 z21.pc, .slice A21_1 z21.wr.length c21_1, .slice A21_2 z21.lv.length c21_2, .int .i64 z21.t.1, .int .i64 z21.t.2.1, .bool z21.t.2.2, .int .i64 z21.pd, .int .i64 z21.x.1, .int .i64 z21.x.2.1, .bool z21.x.2.2.1, .int .i64 z21.x.2.2.2, .bool z21.hl, .slice A21_3 z21.seen.length c21_3, .slice A22_0 z22.prog.length c22_0, .int .i64 z22.a, .int .i64 z22.pc, .slice A22_1 z22.wr.length c22_1, .slice A22_2 z22.lv.length c22_2, .int .i64 z22.t.1, .int .i64 z22.t.2.1, .bool z22.t.2.2, .int .i64 z22.pd, .int .i64 z22.x.1, .int .i64 z22.x.2.1, .bool z22.x.2.2.1, .int .i64 z22.x.2.2.2, .bool z22.hl, .slice A22_3 z22.seen.length c22_3] (F21 ++ F22), vr b23 [.slice A21_0 z21.prog.length c21_0, .int .i64 z21.a, .int .i64 z21.pc, .slice A21_1 z21.wr.length c21_1, .slice A21_2 z21.lv.length c21_2, .int .i64 z21.t.1, .int .i64 z21.t.2.1, .bool z21.t.2.2, .int .i64 z21.pd, .int .i64 z21.x.1, .int .i64 z21.x.2.1, .bool z21.x.2.2.1, .int .i64 z21.x.2.2.2, .bool z21.hl, .slice A21_3 z21.seen.length c21_3, .slice A22_0 z22.prog.length c22_0, .int .i64 z22.a, .int .i64 z22.pc, .slice A22_1 z22.wr.length c22_1, .slice A22_2 z22.lv.length c22_2, .int .i64 z22.t.1, .int .i64 z22.t.2.1, .bool z22.t.2.2, .int .i64 z22.pd, .int .i64 z22.x.1, .int .i64 z22.x.2.1, .bool z22.x.2.2.1, .int .i64 z22.x.2.2.2, .bool z22.hl, .slice A22_3 z22.seen.length c22_3], vr b3 [.slice a0 m.length d0, .slice a1 (g0 :: gt).length d1, .slice a2 os.length d2, .int .i64 pd], ow (Sx.rRo (rLsw (rLsw rInt))) lo0 hi0 m [.slice a0 m.length d0] F0, ow (rLst 3 rInt) lo2 hi2 os [.slice a2 os.length d2] F2, vr b1 [.slice none 0 0, .slice none 0 0, .slice none 0 0, .int .i64 0], Sx.cu A n c g, Sx.frm w0 w g]) (fun w S => St.pick S [4, 0, 1, 2, 3, 5, 6, 7, 8] _ rfl (by decide)) ?_
       refine Sx.GT.alone (Sx.Alone.appr2 (.tmp 23) (.tmp 28) 27 15 184 2 (by rfl) (by rfl) (by kernel_rfl) (by kernel_rfl) (by rfl) (by kernel_rfl) (by kernel_rfl) (by kernel_rfl) (by simp only [maxLen]; omega) (by omega) ((g0 :: gt) ++ [z21, z22]) (by rfl) ((g0 :: gt) ++ [z21, z22]).length (by simp) (fun A25 c25 F25 hi25 w S => St.pick S [] _ rfl (by decide)) (fun A25 c25 F25 hi25 hm25 => ?_))
       refine Sx.GT.p (.pointer (some ⟨b3, 1, none⟩)) ?_
       refine Sx.GT.alone (Sx.Alone.s (.slice A25 ((g0 :: gt) ++ [z21, z22]).length c25) .a1 .a1 (fun w S => St.pick S [] _ rfl (by decide)) ?_)
       exact Sx.GT.nil (fun a w' hA S => ⟨rfl, none, 0, none, 0, none, 0, none, 0, z21, 0, 0, [], none, 0, none, 0, none, 0, none, 0, z22, 0, 0, [], 0, A25, c25, F25, hi25, (Sx.Ag.and hA (Sx.Ag.and hA (Sx.Ag.none hA) _ _ (by kernel_rfl)) _ _ (by kernel_rfl)), St.pick S [0, 1, 2, 3, 4, 5, 6] _ rfl (by decide), hg21, hg22⟩)
      ·
       refine Sx.Alone.c 69 #[.pointer (some ⟨g, 0, none⟩)] (fun w26 S => (kd_guest w0 A n c g _ hn hcode (Sx.St.cur S 6 rfl)).mono fun e w26' hp => ?_)
       obtain ⟨z26, cs26, lo26, hi26, F26, hg26, rfl, hcur, hgr, hfr⟩ := hp
       obtain ⟨P26_0, P26_1, P26_2, P26_3, e26, f26_0, f26_1, f26_2, f26_3⟩ := wG_rd ((Sx.rRo wG).reads (hfr.says 0 _ rfl).1)
       subst e26
       obtain ⟨A26_0, c26_0, e26_0, -⟩ := lst_val f26_0
       subst e26_0
       obtain ⟨A26_1, c26_1, e26_1, -⟩ := lst_val f26_1
       subst e26_1
       obtain ⟨A26_2, c26_2, e26_2, -⟩ := lst_val f26_2
       subst e26_2
       obtain ⟨A26_3, c26_3, e26_3, -⟩ := lst_val f26_3
       subst e26_3
       refine ⟨_, _, rfl, Sx.St.joinD S (Sx.St.moved S 6 rfl hcur hgr) hfr, (fun w S => St.pick S [] _ rfl (by decide)), ?_⟩
       clear S hcur hgr hfr f26_0 f26_1 f26_2 f26_3
       refine Sx.GT.two ?_ ?_
       ·
        refine Sx.Alone.g (.slice a1 (g0 :: gt).length d1) .m2 .m1 (fun w S => St.pick S [] _ rfl (by decide)) ?_
        refine Sx.GT.alone (Sx.Alone.made 39 [.slice A21_0 z21.prog.length c21_0, .int .i64 z21.a, .int .i64 z21.pc, .slice A21_1 z21.wr.length c21_1, .slice A21_2 z21.lv.length c21_2, .int .i64 z21.t.1, .int .i64 z21.t.2.1, .bool z21.t.2.2, .int .i64 z21.pd, .int .i64 z21.x.1, .int .i64 z21.x.2.1, .bool z21.x.2.2.1, .int .i64 z21.x.2.2.2, .bool z21.hl, .slice A21_3 z21.seen.length c21_3, .slice A26_0 z26.prog.length c26_0, .int .i64 z26.a, .int .i64 z26.pc, .slice A26_1 z26.wr.length c26_1, .slice A26_2 z26.lv.length c26_2, .int .i64 z26.t.1, .int .i64 z26.t.2.1, .bool z26.t.2.2, .int .i64 z26.pd, .int .i64 z26.x.1, .int .i64 z26.x.2.1, .bool z26.x.2.2.1, .int .i64 z26.x.2.2.2, .bool z26.hl, .slice A26_3 z26.seen.length c26_3] 2 (by rfl) (by kernel_rfl) (fun w => by kernel_rfl) (fun w S => St.pick S [] _ rfl (by decide)) (fun b27 => ?_))
        refine Sx.GT.pk (.c .m2 (.c .m1 (.c .m0 (.c .m3 (.c .m4 (.c .m5 (.c .m6 (.c .m7 (.c .m8 (.c .m9 .n)))))))))) ?_
        refine Sx.GT.turn (ι := Nat) (p := fun _ => True) (fun H28 => [ow (rPair (Sx.rRo wG) (Sx.rRo wG)) w0.heap.size H28 (z21, z26) [.slice A21_0 z21.prog.length c21_0, .int .i64 z21.a, .int .i64 z21.pc, .slice A21_1 z21.wr.length c21_1, .slice A21_2 z21.lv.length c21_2, .int .i64 z21.t.1, .int .i64 z21.t.2.1, .bool z21.t.2.2, .int .i64 z21.pd, .int .i64 z21.x.1, .int .i64 z21.x.2.1, .bool z21.x.2.2.1, .int .i64 z21.x.2.2.2, .bool z21.hl, .slice A21_3 z21.seen.length c21_3, .slice A26_0 z26.prog.length c26_0, .int .i64 z26.a, .int .i64 z26.pc, .slice A26_1 z26.wr.length c26_1, .slice A26_2 z26.lv.length c26_2, .int .i64 z26.t.1, .int .i64 z26.t.2.1, .bool z26.t.2.2, .int .i64 z26.pd, .int .i64 z26.x.1, .int .i64 z26.x.2.1, .bool z26.x.2.2.1, .int .i64 z26.x.2.2.2, .bool z26.hl, .slice A26_3 z26.seen.length c26_3] (F21 ++ F26), vr b27 [.slice A21_0 z21.prog.length c21_0, .int .i64 z21.a, .int .i64 z21.pc, .slice A21_1 z21.wr.length c21_1, .slice A21_2 z21.lv.length c21_2, .int .i64 z21.t.1, .int .i64 z21.t.2.1, .bool z21.t.2.2, .int .i64 z21.pd, .int .i64 z21.x.1, .int .i64 z21.x.2.1, .bool z21.x.2.2.1, .int .i64 z21.x.2.2.2, .bool z21.hl, .slice A21_3 z21.seen.length c21_3, .slice A26_0 z26.prog.length c26_0, .int .i64 z26.a, .int .i64 z26.pc, .slice A26_1 z26.wr.length c26_1, .slice A26_2 z26.lv.length c26_2, .int .i64 z26.t.1, .int .i64 z26.t.2.1, .bool z26.t.2.2, .int .i64 z26.pd, .int .i64 z26.x.1, .int .i64 z26.x.2.1, .bool z26.x.2.2.1, .int .i64 z26.x.2.2.2, .bool z26.hl, .slice A26_3 z26.seen.length c26_3], vr b3 [.slice a0 m.length d0, .slice a1 (g0 :: gt).length d1, .slice a2 os.length d2, .int .i64 pd], ow (Sx.rRo (rLsw (rLsw rInt))) lo0 hi0 m [.slice a0 m.length d0] F0, ow (rLst 39 (Sx.rRo wG)) lo1 hi1 ((g0 :: gt)) [.slice a1 (g0 :: gt).length d1] F1, ow (rLst 3 rInt) lo2 hi2 os [.slice a2 os.length d2] F2, vr b1 [.slice none 0 0, .slice none 0 0, .slice none 0 0, .int .i64 0], Sx.cu A n c g, Sx.frm w0 w g]) (fun w S => ⟨w.heap.size, trivial, Sx.St.pair S⟩) (fun H28 _ => ?_)
        refine Sx.GT.claims (L' := [ow (rLst 39 (Sx.rRo wG)) lo1 hi1 ((g0 :: gt)) [.slice a1 (g0 :: gt).length d1] F1, ow (rPair (Sx.rRo wG) (Sx.rRo wG)) w0.heap.size H28 (z21, z26) [.slice A21_0 z21.prog.length c21_0, .int .i64 z21.a, .int .i64 z21.pc, .slice A21_1 z21.wr.length c21_1, .slice A21_2 z21.lv.length c21_2, .int .i64 z21.t.1, .int .i64 z21.t.2.1, .bool z21.t.2.2, .int .i64 z21.pd, .int .i64 z21.x.1, .int .i64 z21.x.2.1, .bool z21.x.2.2.1, .int .i64 z21.x.2.2.2, .bool z21.hl, .slice A21_3 z21.seen.length c21_3, .slice A26_0 z26.prog.length c26_0, .int .i64 z26.a, .int .i64 z26.pc, .slice A26_1 z26.wr.length c26_1, .slice A26_2 z26.lv.length c26_2, .int .i64 z26.t.1, .int .i64 z26.t.2.1, .bool z26.t.2.2, .int .i64 z26.pd, .int .i64 z26.x.1, .int .i64 z26.x.2.1, .bool z26.x.2.2.1, .int .i64 z26.x.2.2.2, .bool z26.hl, .slice A26_3 z26.seen.length c26_3] (F21 ++ F26), vr b27 [.slice A21_0 z21.prog.length c21_0, .int .i64 z21.a, .int .i64 z21.pc, .slice A21_1 z21.wr.length c21_1, .slice A21_2 z21.lv.length c21_2, .int .i64 z21.t.1, .int .i64 z21.t.2.1, .bool z21.t.2.2, .int .i64 z21.pd, .int .i64 z21.x.1, .int .i64 z21.x.2.1, .bool z21.x.2.2.1, .int .i64 z21.x.2.2.2, .bool z21.hl, .slice A21_3 z21.seen.length c21_3, .slice A26_0 z26.prog.length c26_0, .int .i64 z26.a, .int .i64 z26.pc, .slice A26_1 z26.wr.length c26_1, .slice A26_2 z26.lv.length c26_2, .int .i64 z26.t.1, .int .i64 z26.t.2.1, .bool z26.t.2.2, .int .i64 z26.pd, .int .i64 z26.x.1, .int .i64 z26.x.2.1, .bool z26.x.2.2.1, .int .i64 z26.x.2.2.2, .bool z26.hl, .slice A26_3 z26.seen.length c26_3], vr b3 [.slice a0 m.length d0, .slice a1 (g0 :: gt).length d1, .slice a2 os.length d2, .int .i64 pd], ow (Sx.rRo (rLsw (rLsw rInt))) lo0 hi0 m [.slice a0 m.length d0] F0, ow (rLst 3 rInt) lo2 hi2 os [.slice a2 os.length d2] F2, vr b1 [.slice none 0 0, .slice none 0 0, .slice none 0 0, .int .i64 0], Sx.cu A n c g, Sx.frm w0 w g]) (fun w S => St.pick S [4, 0, 1, 2, 3, 5, 6, 7, 8] _ rfl (by decide)) ?_
        refine Sx.GT.alone (Sx.Alone.appr2 (.tmp 23) (.tmp 28) 27 15 184 2 (by rfl) (by rfl) (by kernel_rfl) (by kernel_rfl) (by rfl) (by kernel_rfl) (by kernel_rfl) (by kernel_rfl) (by simp only [maxLen]; omega) (by omega) ((g0 :: gt) ++ [z21, z26]) (by rfl) ((g0 :: gt) ++ [z21, z26]).length (by simp) (fun A29 c29 F29 hi29 w S => St.pick S [] _ rfl (by decide)) (fun A29 c29 F29 hi29 hm29 => ?_))
        refine Sx.GT.p (.pointer (some ⟨b3, 1, none⟩)) ?_
        refine Sx.GT.alone (Sx.Alone.s (.slice A29 ((g0 :: gt) ++ [z21, z26]).length c29) .a1 .a1 (fun w S => St.pick S [] _ rfl (by decide)) ?_)
        exact Sx.GT.nil (fun a w' hA S => ⟨rfl, none, 0, none, 0, none, 0, none, 0, z21, 0, 0, [], none, 0, none, 0, none, 0, none, 0, z26, 0, 0, [], 0, A29, c29, F29, hi29, (Sx.Ag.and hA (Sx.Ag.and hA (Sx.Ag.none hA) _ _ (by kernel_rfl)) _ _ (by kernel_rfl)), St.pick S [0, 1, 2, 3, 4, 5, 6] _ rfl (by decide), hg21, hg26⟩)
       ·
        refine Sx.Alone.made 39 [.slice A21_0 z21.prog.length c21_0, .int .i64 z21.a, .int .i64 z21.pc, .slice A21_1 z21.wr.length c21_1, .slice A21_2 z21.lv.length c21_2, .int .i64 z21.t.1, .int .i64 z21.t.2.1, .bool z21.t.2.2, .int .i64 z21.pd, .int .i64 z21.x.1, .int .i64 z21.x.2.1, .bool z21.x.2.2.1, .int .i64 z21.x.2.2.2, .bool z21.hl, .slice A21_3 z21.seen.length c21_3, .slice A26_0 z26.prog.length c26_0, .int .i64 z26.a, .int .i64 z26.pc, .slice A26_1 z26.wr.length c26_1, .slice A26_2 z26.lv.length c26_2, .int .i64 z26.t.1, .int .i64 z26.t.2.1, .bool z26.t.2.2, .int .i64 z26.pd, .int .i64 z26.x.1, .int .i64 z26.x.2.1, .bool z26.x.2.2.1, .int .i64 z26.x.2.2.2, .bool z26.hl, .slice A26_3 z26.seen.length c26_3] 2 (by rfl) (by kernel_rfl) (fun w => by kernel_rfl) (fun w S => St.pick S [] _ rfl (by decide)) (fun b30 => ?_)
        refine Sx.GT.alone (Sx.Alone.g (.slice a1 (g0 :: gt).length d1) .m3 .m1 (fun w S => St.pick S [] _ rfl (by decide)) ?_)
        refine Sx.GT.pk (.c .m2 (.c .m1 (.c .m0 (.c .m3 (.c .m4 (.c .m5 (.c .m6 (.c .m7 (.c .m8 (.c .m9 .n)))))))))) ?_
        refine Sx.GT.turn (ι := Nat) (p := fun _ => True) (fun H31 => [ow (rPair (Sx.rRo wG) (Sx.rRo wG)) w0.heap.size H31 (z21, z26) [.slice A21_0 z21.prog.length c21_0, .int .i64 z21.a, .int .i64 z21.pc, .slice A21_1 z21.wr.length c21_1, .slice A21_2 z21.lv.length c21_2, .int .i64 z21.t.1, .int .i64 z21.t.2.1, .bool z21.t.2.2, .int .i64 z21.pd, .int .i64 z21.x.1, .int .i64 z21.x.2.1, .bool z21.x.2.2.1, .int .i64 z21.x.2.2.2, .bool z21.hl, .slice A21_3 z21.seen.length c21_3, .slice A26_0 z26.prog.length c26_0, .int .i64 z26.a, .int .i64 z26.pc, .slice A26_1 z26.wr.length c26_1, .slice A26_2 z26.lv.length c26_2, .int .i64 z26.t.1, .int .i64 z26.t.2.1, .bool z26.t.2.2, .int .i64 z26.pd, .int .i64 z26.x.1, .int .i64 z26.x.2.1, .bool z26.x.2.2.1, .int .i64 z26.x.2.2.2, .bool z26.hl, .slice A26_3 z26.seen.length c26_3] (F21 ++ F26), vr b30 [.slice A21_0 z21.prog.length c21_0, .int .i64 z21.a, .int .i64 z21.pc, .slice A21_1 z21.wr.length c21_1, .slice A21_2 z21.lv.length c21_2, .int .i64 z21.t.1, .int .i64 z21.t.2.1, .bool z21.t.2.2, .int .i64 z21.pd, .int .i64 z21.x.1, .int .i64 z21.x.2.1, .bool z21.x.2.2.1, .int .i64 z21.x.2.2.2, .bool z21.hl, .slice A21_3 z21.seen.length c21_3, .slice A26_0 z26.prog.length c26_0, .int .i64 z26.a, .int .i64 z26.pc, .slice A26_1 z26.wr.length c26_1, .slice A26_2 z26.lv.length c26_2, .int .i64 z26.t.1, .int .i64 z26.t.2.1, .bool z26.t.2.2, .int .i64 z26.pd, .int .i64 z26.x.1, .int .i64 z26.x.2.1, .bool z26.x.2.2.1, .int .i64 z26.x.2.2.2, .bool z26.hl, .slice A26_3 z26.seen.length c26_3], vr b3 [.slice a0 m.length d0, .slice a1 (g0 :: gt).length d1, .slice a2 os.length d2, .int .i64 pd], ow (Sx.rRo (rLsw (rLsw rInt))) lo0 hi0 m [.slice a0 m.length d0] F0, ow (rLst 39 (Sx.rRo wG)) lo1 hi1 ((g0 :: gt)) [.slice a1 (g0 :: gt).length d1] F1, ow (rLst 3 rInt) lo2 hi2 os [.slice a2 os.length d2] F2, vr b1 [.slice none 0 0, .slice none 0 0, .slice none 0 0, .int .i64 0], Sx.cu A n c g, Sx.frm w0 w g]) (fun w S => ⟨w.heap.size, trivial, Sx.St.pair S⟩) (fun H31 _ => ?_)
        refine Sx.GT.claims (L' := [ow (rLst 39 (Sx.rRo wG)) lo1 hi1 ((g0 :: gt)) [.slice a1 (g0 :: gt).length d1] F1, ow (rPair (Sx.rRo wG) (Sx.rRo wG)) w0.heap.size H31 (z21, z26) [.slice A21_0 z21.prog.length c21_0, .int .i64 z21.a, .int .i64 z21.pc, .slice A21_1 z21.wr.length c21_1, .slice A21_2 z21.lv.length c21_2, .int .i64 z21.t.1, .int .i64 z21.t.2.1, .bool z21.t.2.2, .int .i64 z21.pd, .int .i64 z21.x.1, .int .i64 z21.x.2.1, .bool z21.x.2.2.1, .int .i64 z21.x.2.2.2, .bool z21.hl, .slice A21_3 z21.seen.length c21_3, .slice A26_0 z26.prog.length c26_0, .int .i64 z26.a, .int .i64 z26.pc, .slice A26_1 z26.wr.length c26_1, .slice A26_2 z26.lv.length c26_2, .int .i64 z26.t.1, .int .i64 z26.t.2.1, .bool z26.t.2.2, .int .i64 z26.pd, .int .i64 z26.x.1, .int .i64 z26.x.2.1, .bool z26.x.2.2.1, .int .i64 z26.x.2.2.2, .bool z26.hl, .slice A26_3 z26.seen.length c26_3] (F21 ++ F26), vr b30 [.slice A21_0 z21.prog.length c21_0, .int .i64 z21.a, .int .i64 z21.pc, .slice A21_1 z21.wr.length c21_1, .slice A21_2 z21.lv.length c21_2, .int .i64 z21.t.1, .int .i64 z21.t.2.1, .bool z21.t.2.2, .int .i64 z21.pd, .int .i64 z21.x.1, .int .i64 z21.x.2.1, .bool z21.x.2.2.1, .int .i64 z21.x.2.2.2, .bool z21.hl, .slice A21_3 z21.seen.length c21_3, .slice A26_0 z26.prog.length c26_0, .int .i64 z26.a, .int .i64 z26.pc, .slice A26_1 z26.wr.length c26_1, .slice A26_2 z26.lv.length c26_2, .int .i64 z26.t.1, .int .i64 z26.t.2.1, .bool z26.t.2.2, .int .i64 z26.pd, .int .i64 z26.x.1, .int .i64 z26.x.2.1, .bool z26.x.2.2.1, .int .i64 z26.x.2.2.2, .bool z26.hl, .slice A26_3 z26.seen.length c26_3], vr b3 [.slice a0 m.length d0, .slice a1 (g0 :: gt).length d1, .slice a2 os.length d2, .int .i64 pd], ow (Sx.rRo (rLsw (rLsw rInt))) lo0 hi0 m [.slice a0 m.length d0] F0, ow (rLst 3 rInt) lo2 hi2 os [.slice a2 os.length d2] F2, vr b1 [.slice none 0 0, .slice none 0 0, .slice none 0 0, .int .i64 0], Sx.cu A n c g, Sx.frm w0 w g]) (fun w S => St.pick S [4, 0, 1, 2, 3, 5, 6, 7, 8] _ rfl (by decide)) ?_
        refine Sx.GT.alone (Sx.Alone.appr2 (.tmp 23) (.tmp 28) 27 15 184 2 (by rfl) (by rfl) (by kernel_rfl) (by kernel_rfl) (by rfl) (by kernel_rfl) (by kernel_rfl) (by kernel_rfl) (by simp only [maxLen]; omega) (by omega) ((g0 :: gt) ++ [z21, z26]) (by rfl) ((g0 :: gt) ++ [z21, z26]).length (by simp) (fun A32 c32 F32 hi32 w S => St.pick S [] _ rfl (by decide)) (fun A32 c32 F32 hi32 hm32 => ?_))
        refine Sx.GT.p (.pointer (some ⟨b3, 1, none⟩)) ?_
        refine Sx.GT.alone (Sx.Alone.s (.slice A32 ((g0 :: gt) ++ [z21, z26]).length c32) .a1 .a1 (fun w S => St.pick S [] _ rfl (by decide)) ?_)
        exact Sx.GT.nil (fun a w' hA S => ⟨rfl, none, 0, none, 0, none, 0, none, 0, z21, 0, 0, [], none, 0, none, 0, none, 0, none, 0, z26, 0, 0, [], 0, A32, c32, F32, hi32, (Sx.Ag.and hA (Sx.Ag.and hA (Sx.Ag.none hA) _ _ (by kernel_rfl)) _ _ (by kernel_rfl)), St.pick S [0, 1, 2, 3, 4, 5, 6] _ rfl (by decide), hg21, hg26⟩)
    rintro e a w' ⟨rfl, y33_0, y33_1, y33_2, y33_3, y33_4, y33_5, y33_6, y33_7, y33_8, y33_9, y33_10, y33_11, y33_12, y33_13, y33_14, y33_15, y33_16, y33_17, y33_18, y33_19, y33_20, y33_21, y33_22, y33_23, y33_24, y33_25, y33_26, y33_27, y33_28, hA, S, hky33_8, hky33_20⟩
    refine Sx.E.out ?_ hA S
    clear hA S a w'
    refine Sx.E.block_normal (Sx.E.next (Sx.C.seq (Sx.C.region ?_)))
    refine Sx.G.lw .m1 ?_
    refine Sx.G.sw [.slice a0 m.length d0, .slice y33_25 ((g0 :: gt) ++ [y33_8, y33_20]).length y33_26, .slice a2 os.length d2, .int .i64 pd] .a4 ?_
    refine Sx.G.nil (Sx.E.next (Sx.C.ret ?_))
    refine Sx.E.retc b1 4 [.slice a0 m.length d0, .slice y33_25 ((g0 :: gt) ++ [y33_8, y33_20]).length y33_26, .slice a2 os.length d2, .int .i64 pd] rfl (by kernel_rfl) rfl (by kernel_rfl) (by kernel_rfl) (fun w S => ?_)
    have S4 := St.pick S [2, 0, 3, 5, 6] ([_, _, _] ++ [_, _]) rfl (by decide)
    obtain ⟨FF, S5⟩ := Sx.St.ro (r := wB) (x := ({ mem := m, gs := ((g0 :: gt) ++ [y33_8, y33_20]), outs := os, pd := pd } : bT)) (cs := [.slice a0 m.length d0, .slice y33_25 ((g0 :: gt) ++ [y33_8, y33_20]).length y33_26, .slice a2 os.length d2, .int .i64 pd]) S4 (fun v hv => wB_rd_mk (g := ({ mem := m, gs := ((g0 :: gt) ++ [y33_8, y33_20]), outs := os, pd := pd } : bT)) (Sx.St.rdIn S4 0 rfl hv) (Sx.rdLst_of (r := (Sx.rRo wG)) (q := wG) (fun _ _ _ _ _ h => h) rfl (show rdLst (Sx.rRo wG) v _ _ _ _ from Sx.St.rdIn S4 1 rfl hv)) (Sx.St.rdIn S4 2 rfl hv))
    exact ⟨({ mem := m, gs := ((g0 :: gt) ++ [y33_8, y33_20]), outs := os, pd := pd } : bT), _, _, _, FF, ⟨⟨hD.1, ⟨by have : (g0 :: gt).length ≤ 2 := hg2; simp only [List.length_append, List.length_cons, List.length_nil] at this ⊢; omega, fun q hq => by rcases List.mem_append.1 hq with h | h; exact hD.2.1.2 q h; simp only [List.mem_cons, List.not_mem_nil, or_false] at h; rcases h with h | h; rw [h]; exact hky33_8; rw [h]; exact hky33_20⟩, hD.2.2.1, hD.2.2.2⟩, by show os.length ≤ 45; omega⟩, Sx.Drawn.made hb0 (St.pick S5 [1, 2, 0] _ rfl (by decide))⟩
  ·
   have hb6 := hc6
   refine Sx.C.yes (by kernel_rfl) (by kernel_rfl) ?_
   refine Sx.C.turn (ι := List Nat) (p := fun _ => True) (fun FW => [vr b3 [.slice a0 m.length d0, .slice a1 (g0 :: gt).length d1, .slice a2 os.length d2, .int .i64 pd], ow (Sx.rRo (rLsw (rLsw rInt))) lo0 hi0 m [.slice a0 m.length d0] F0, ow (rLsw (Sx.rRo wG)) lo1 hi1 (g0 :: gt) [.slice a1 (g0 :: gt).length d1] FW, ow (rLst 3 rInt) lo2 hi2 os [.slice a2 os.length d2] F2, vr b1 [.slice none 0 0, .slice none 0 0, .slice none 0 0, .int .i64 0], Sx.cu A n c g, Sx.frm w0 w g]) (fun w S => by obtain ⟨F', S⟩ := St.weak S 2 rfl; exact ⟨F', trivial, S⟩) (fun FW _ => ?_)
   refine Sx.C.pk (.c .m2 (.c .m0 (.c .m1 (.c .m3 (.c .m4 (.c .m5 (.c .m6 .n))))))) ?_
   refine Sx.C.open (r := (Sx.rRo wG)) (pre := []) (x := g0) (post := gt) rfl (by decide) (fun b off es G1 Gi G2 eA eF hes hm hmc => ?_)
   subst eA eF
   refine Sx.C.know (p := ∃ P0 P1 P2 P3, es = [P0, .int .i64 g0.a, .int .i64 g0.pc, P1, P2, .int .i64 g0.t.1, .int .i64 g0.t.2.1, .bool g0.t.2.2, .int .i64 g0.pd, .int .i64 g0.x.1, .int .i64 g0.x.2.1, .bool g0.x.2.2.1, .int .i64 g0.x.2.2.2, .bool g0.hl, P3]) (fun w S => by obtain ⟨P0, P1, P2, P3, e, -⟩ := wG_rd (((Sx.rRo wG)).reads (St.at_ S 1 rfl).1); exact ⟨P0, P1, P2, P3, e⟩) ?_
   rintro ⟨P0, P1, P2, P3, rfl⟩
   refine Sx.C.draw (.take 0 (.take 1 (.take 2 (.alone 3 (.take 4 (.alone 5 .nil)))))) [vr b3 [.slice a0 m.length d0, .slice (some ⟨b, off, none⟩) (g0 :: gt).length d1, .slice a2 os.length d2, .int .i64 pd]] (fun w S => St.pick S [2] _ rfl (by decide)) (by kernel_rfl) (by kernel_rfl) (by kernel_rfl) ?_
   refine Sx.GT.p (.pointer (some ⟨b3, 1, none⟩)) ?_
   refine Sx.GT.g (.slice (some ⟨b, off, none⟩) (g0 :: gt).length d1) .m0 .m1 ?_
   refine Sx.GT.p (.pointer (some ⟨g, 0, none⟩)) ?_
   refine Sx.GT.alone (Sx.Alone.c 33 #[.pointer (some ⟨g, 0, none⟩)] (fun w34 S => (kd_gany w0 A n c g _ hn hcode (Sx.St.cur S 6 rfl)).mono fun e w34' hp => ?_))
   obtain ⟨z34, cs34, lo34, hi34, F34, hg34, rfl, hcur, hgr, hfr⟩ := hp
   obtain ⟨P34_0, P34_1, P34_2, P34_3, e34, f34_0, f34_1, f34_2, f34_3⟩ := wG_rd ((Sx.rRo wG).reads (hfr.says 0 _ rfl).1)
   subst e34
   obtain ⟨A34_0, c34_0, e34_0, -⟩ := lst_val f34_0
   subst e34_0
   obtain ⟨A34_1, c34_1, e34_1, -⟩ := lst_val f34_1
   subst e34_1
   obtain ⟨A34_2, c34_2, e34_2, -⟩ := lst_val f34_2
   subst e34_2
   obtain ⟨A34_3, c34_3, e34_3, -⟩ := lst_val f34_3
   subst e34_3
   refine ⟨_, _, rfl, Sx.St.joinD S (Sx.St.moved S 6 rfl hcur hgr) hfr, (fun w S => St.pick S [3] _ rfl (by decide)), ?_⟩
   clear S hcur hgr hfr f34_0 f34_1 f34_2 f34_3
   refine Sx.GT.elem 27 39 (.tmp 16) (.const (.int .i64 0)) 15 184 b off (g0 :: gt).length d1 0 4 (by rfl) (by rfl) (by kernel_rfl) (by kernel_rfl) (by kernel_rfl) (by kernel_rfl) (by omega) ?_
   refine Sx.GT.alone (Sx.Alone.hsto (k := 0) (size := 15) 39 (.tmp 19) (.tmp 18) b ((off + 0 * 15) + 0) 0 1 [.slice A34_0 z34.prog.length c34_0, .int .i64 z34.a, .int .i64 z34.pc, .slice A34_1 z34.wr.length c34_1, .slice A34_2 z34.lv.length c34_2, .int .i64 z34.t.1, .int .i64 z34.t.2.1, .bool z34.t.2.2, .int .i64 z34.pd, .int .i64 z34.x.1, .int .i64 z34.x.2.1, .bool z34.x.2.2.1, .int .i64 z34.x.2.2.2, .bool z34.hl, .slice A34_3 z34.seen.length c34_3] [.slice A34_0 z34.prog.length c34_0, .int .i64 z34.a, .int .i64 z34.pc, .slice A34_1 z34.wr.length c34_1, .slice A34_2 z34.lv.length c34_2, .int .i64 z34.t.1, .int .i64 z34.t.2.1, .bool z34.t.2.2, .int .i64 z34.pd, .int .i64 z34.x.1, .int .i64 z34.x.2.1, .bool z34.x.2.2.1, .int .i64 z34.x.2.2.2, .bool z34.hl, .slice A34_3 z34.seen.length c34_3] [ow (Sx.rRo wG) lo34 hi34 z34 [.slice A34_0 z34.prog.length c34_0, .int .i64 z34.a, .int .i64 z34.pc, .slice A34_1 z34.wr.length c34_1, .slice A34_2 z34.lv.length c34_2, .int .i64 z34.t.1, .int .i64 z34.t.2.1, .bool z34.t.2.2, .int .i64 z34.pd, .int .i64 z34.x.1, .int .i64 z34.x.2.1, .bool z34.x.2.2.1, .int .i64 z34.x.2.2.2, .bool z34.hl, .slice A34_3 z34.seen.length c34_3] F34, Sx.hole (Sx.rRo wG) b off lo1 hi1 [] gt [.slice A34_0 z34.prog.length c34_0, .int .i64 z34.a, .int .i64 z34.pc, .slice A34_1 z34.wr.length c34_1, .slice A34_2 z34.lv.length c34_2, .int .i64 z34.t.1, .int .i64 z34.t.2.1, .bool z34.t.2.2, .int .i64 z34.pd, .int .i64 z34.x.1, .int .i64 z34.x.2.1, .bool z34.x.2.2.1, .int .i64 z34.x.2.2.2, .bool z34.hl, .slice A34_3 z34.seen.length c34_3] G1 G2, ow (Sx.rRo wG) lo1 hi1 g0 [P0, .int .i64 g0.a, .int .i64 g0.pc, P1, P2, .int .i64 g0.t.1, .int .i64 g0.t.2.1, .bool g0.t.2.2, .int .i64 g0.pd, .int .i64 g0.x.1, .int .i64 g0.x.2.1, .bool g0.x.2.2.1, .int .i64 g0.x.2.2.2, .bool g0.hl, P3] Gi, vr b3 [.slice a0 m.length d0, .slice (some ⟨b, off, none⟩) (g0 :: gt).length d1, .slice a2 os.length d2, .int .i64 pd], ow (Sx.rRo (rLsw (rLsw rInt))) lo0 hi0 m [.slice a0 m.length d0] F0, ow (rLst 3 rInt) lo2 hi2 os [.slice a2 os.length d2] F2, vr b1 [.slice none 0 0, .slice none 0 0, .slice none 0 0, .int .i64 0], Sx.cu A n c g, Sx.frm w0 w g] (by rfl) (by rfl) (by kernel_rfl) (by kernel_rfl) (by kernel_rfl) (by rfl) (by rfl) (by rfl) (by rfl) (by rfl) (by rfl) (by kernel_rfl) (by kernel_rfl) (by kernel_rfl) (fun w S => St.pick S [3] _ rfl (by decide)) ?_)
   refine Sx.GT.nil (Sx.E.block_normal (Sx.E.next (Sx.C.seq (Sx.C.region ?_))))
   refine Sx.G.lw .m3 ?_
   refine Sx.G.sw [.slice a0 m.length d0, .slice (some ⟨b, off, none⟩) (g0 :: gt).length d1, .slice a2 os.length d2, .int .i64 pd] .a6 ?_
   refine Sx.G.nil (Sx.E.next (Sx.C.ret ?_))
   refine Sx.E.retc b1 6 [.slice a0 m.length d0, .slice (some ⟨b, off, none⟩) (g0 :: gt).length d1, .slice a2 os.length d2, .int .i64 pd] rfl (by kernel_rfl) rfl (by kernel_rfl) (by kernel_rfl) (fun w S => ?_)
   have S2 := St.pick S [1, 0, 4, 5, 7, 8] [_, _, _, _, _, _] rfl (by decide)
   replace S := Sx.St.closeW S2 (by decide) ((g0 :: gt).length) _ rfl hmc
   have S4 := St.pick S [1, 0, 2, 3, 4] ([_, _, _] ++ [_, _]) rfl (by decide)
   obtain ⟨FF, S5⟩ := Sx.St.ro (r := wB) (x := ({ mem := m, gs := (z34 :: gt), outs := os, pd := pd } : bT)) (cs := [.slice a0 m.length d0, .slice (some ⟨b, off, none⟩) (g0 :: gt).length d1, .slice a2 os.length d2, .int .i64 pd]) S4 (fun v hv => wB_rd_mk (g := ({ mem := m, gs := (z34 :: gt), outs := os, pd := pd } : bT)) (Sx.St.rdIn S4 0 rfl hv) (Sx.rdLst_of (r := (Sx.rRo wG)) (q := wG) (fun _ _ _ _ _ h => h) rfl (show rdLst (Sx.rRo wG) v _ _ _ _ from Sx.St.rdIn S4 1 rfl hv)) (Sx.St.rdIn S4 2 rfl hv))
   exact ⟨({ mem := m, gs := (z34 :: gt), outs := os, pd := pd } : bT), _, _, _, FF, ⟨⟨hD.1, ⟨hD.2.1.1, fun q hq => by rcases List.mem_cons.1 hq with h | h; rw [h]; exact hg34; exact hD.2.1.2 q (List.mem_cons_of_mem _ h)⟩, hD.2.2.1, hD.2.2.2⟩, by show os.length ≤ 45; omega⟩, Sx.Drawn.made hb0 (St.pick S5 [1, 2, 0] _ rfl (by decide))⟩
 ·
  have hb5 := hc5
  refine Sx.C.yes (by kernel_rfl) (by kernel_rfl) ?_
  refine Sx.C.region ?_
  refine Sx.G.p (.pointer (some ⟨g, 0, none⟩)) ?_
  refine Sx.G.c 68 #[.pointer (some ⟨g, 0, none⟩)] (fun w35 S => (kd_anymem w0 A n c g _ hn hcode (Sx.St.cur S 5 rfl)).mono fun e w35' hp => ?_)
  obtain ⟨l35, a35, b35, lo35, hi35, F35, hg35, rfl, hcur, hgr, hfr⟩ := hp
  refine ⟨_, _, rfl, Sx.St.joinD S (Sx.St.moved S 5 rfl hcur hgr) hfr, ?_⟩
  clear S hcur hgr hfr
  refine Sx.G.p (.pointer (some ⟨b3, 0, none⟩)) ?_
  refine Sx.G.s (.slice a35 l35.length b35) .a1 .a0 ?_
  refine Sx.G.nil (Sx.E.block_normal (Sx.E.next (Sx.C.seq (Sx.C.region ?_))))
  refine Sx.G.lw .m1 ?_
  refine Sx.G.sw [.slice a35 l35.length b35, .slice a1 (g0 :: gt).length d1, .slice a2 os.length d2, .int .i64 pd] .a5 ?_
  refine Sx.G.nil (Sx.E.next (Sx.C.ret ?_))
  refine Sx.E.retc b1 5 [.slice a35 l35.length b35, .slice a1 (g0 :: gt).length d1, .slice a2 os.length d2, .int .i64 pd] rfl (by kernel_rfl) rfl (by kernel_rfl) (by kernel_rfl) (fun w S => ?_)
  have S4 := St.pick S [0, 3, 4, 6, 7] ([_, _, _] ++ [_, _]) rfl (by decide)
  obtain ⟨FF, S5⟩ := Sx.St.ro (r := wB) (x := ({ mem := l35, gs := (g0 :: gt), outs := os, pd := pd } : bT)) (cs := [.slice a35 l35.length b35, .slice a1 (g0 :: gt).length d1, .slice a2 os.length d2, .int .i64 pd]) S4 (fun v hv => wB_rd_mk (g := ({ mem := l35, gs := (g0 :: gt), outs := os, pd := pd } : bT)) (Sx.St.rdIn S4 0 rfl hv) (Sx.rdLst_of (r := (Sx.rRo wG)) (q := wG) (fun _ _ _ _ _ h => h) rfl (show rdLst (Sx.rRo wG) v _ _ _ _ from Sx.St.rdIn S4 1 rfl hv)) (Sx.St.rdIn S4 2 rfl hv))
  exact ⟨({ mem := l35, gs := (g0 :: gt), outs := os, pd := pd } : bT), _, _, _, FF, ⟨⟨hg35, hD.2.1, hD.2.2.1, hD.2.2.2⟩, by show os.length ≤ 45; omega⟩, Sx.Drawn.made hb0 (St.pick S5 [1, 2, 0] _ rfl (by decide))⟩
end Go.Proofs.YtldgadmpclgfhaaGreat.Kit
namespace Go.Proofs.YtldgadmpclgfhaaGreat.Kit
set_option maxHeartbeats 8000000
set_option maxRecDepth 100000
set_option maxRecDepth 100000
open Go.ChangeShapes Go.WideShapes Go.ChangeAt Go.RowKit Go.Deep
open Go.Proofs.YtldgadmpclgfhaaGreat.Base Go.Proofs.YtldgadmpclgfhaaGreat.Mem Go.Proofs.YtldgadmpclgfhaaGreat.Data Go.Proofs.YtldgadmpclgfhaaGreat.Stt Go.Proofs.YtldgadmpclgfhaaGreat.Guests Go.Proofs.YtldgadmpclgfhaaGreat.Ctls Go.Proofs.YtldgadmpclgfhaaGreat.Exits Go.Proofs.YtldgadmpclgfhaaGreat.Irqs Go.Proofs.YtldgadmpclgfhaaGreat.Inss Go.Proofs.YtldgadmpclgfhaaGreat.Draw Go.Proofs.YtldgadmpclgfhaaGreat.SDraw
set_option linter.unusedVariables false
set_option linter.unusedSimpArgs false
def progD (p : List (Int × Int)) : Prop := Inss.wfJL p ∧ p.length ≤ 20
def progsD (l : List (List (Int × Int))) : Prop := l.length ≤ 4 ∧ ∀ p ∈ l, progD p
theorem kd_prog (w0 : World) (A : Option Addr) (n c g : Nat) (w : World) (hn : n ≤ 1048576) (hcode : CodeAt w0 A n) (hcur : Cur w0 A n c w g) : Calls Tryz.prog 27 #[.pointer (some ⟨g, 0, none⟩)] w (fun e w' => ∃ l a b lo hi F, progD l ∧ Sx.Drawn w0 A n c w g (.slice a l.length b) [ow (Sx.rRo (rLsw (rPair rInt rInt))) lo hi l [.slice a l.length b] F] e w') :=
 (prog_any w0 A n c g w hn hcode hcur).mono fun e w' h => by
  obtain ⟨b, m, cap, l, rfl, hl, h1, hM, hw, hown, hc, hg⟩ := h
  rw [← pcells_j] at hown
  subst hl
  have H1 := Sx.Fresh.one (w0 := w0) (w := w) _ (Sx.row_pairs rfl hown) hcur.1.size (Nat.le_refl _) (Nat.le_refl _)
  obtain ⟨F, H⟩ := Sx.Fresh.ro (r := (rLsw (rPair rInt rInt))) (x := l) (cs := [.slice (some ⟨b, 0, none⟩) l.length cap]) H1 (fun v hv => H1.rdIn 0 rfl hv)
  exact ⟨l, _, cap, _, _, F, ⟨hw, hM⟩, rfl, hc, hg, H⟩
theorem kd_anyprog (w0 : World) (A : Option Addr) (n c g : Nat) (w : World) (hn : n ≤ 1048576) (hcode : CodeAt w0 A n) (hcur : Cur w0 A n c w g) : Calls Tryz.prog 28 #[.pointer (some ⟨g, 0, none⟩)] w (fun e w' => ∃ l a b lo hi F, progD l ∧ Sx.Drawn w0 A n c w g (.slice a l.length b) [ow (Sx.rRo (rLsw (rPair rInt rInt))) lo hi l [.slice a l.length b] F] e w') :=
 (anyProg_cap w0 A n c g w hn hcode hcur).mono fun e w' h => by
  obtain ⟨b, m, cap, l, rfl, hl, hM, hw, hown, hc, hg⟩ := h
  rw [← pcells_j] at hown
  subst hl
  have H1 := Sx.Fresh.one (w0 := w0) (w := w) _ (Sx.lies_rp rfl hM.2 hown) hcur.1.size (Nat.le_refl _) (Nat.le_refl _)
  obtain ⟨F, H⟩ := Sx.Fresh.ro (r := (rLsw (rPair rInt rInt))) (x := l) (cs := [.slice (some ⟨b, 0, none⟩) l.length cap]) H1 (fun v hv => H1.rpIn 0 rfl hv)
  exact ⟨l, _, cap, _, _, F, ⟨hw, hM.1⟩, rfl, hc, hg, H⟩
def BOne (w : World) (e : Ending) (w' : World) : Prop := ∃ x cs, e = .returned (.agg cs.toArray) ∧ (bD x ∧ wB.rd w' w.heap.size w'.heap.size x cs) ∧ Below w.heap.size w w'
def BNum (w : World) (e : Ending) (w' : World) : Prop := ∃ x cs n, e = .returned (.tuple #[.agg cs.toArray, .int .i64 n]) ∧ (bD x ∧ wB.rd w' w.heap.size w'.heap.size x cs) ∧ numD n ∧ Below w.heap.size w w'
def BGue (w : World) (e : Ending) (w' : World) : Prop := ∃ x cs n y ds, e = .returned (.tuple #[.agg cs.toArray, .int .i64 n, .agg ds.toArray]) ∧ (bD x ∧ wB.rd w' w.heap.size w'.heap.size x cs) ∧ numD n ∧ (gD y ∧ wG.rd w' w.heap.size w'.heap.size y ds) ∧ Below w.heap.size w w'
def BTwo (w : World) (e : Ending) (w' : World) : Prop := ∃ x cs y ds, e = .returned (.tuple #[.agg cs.toArray, .agg ds.toArray]) ∧ (bD x ∧ wB.rd w' w.heap.size w'.heap.size x cs) ∧ (bD y ∧ wB.rd w' w.heap.size w'.heap.size y ds) ∧ Below w.heap.size w w'
def BProgs (w : World) (e : Ending) (w' : World) : Prop := ∃ l a b, e = .returned (.slice a l.length b) ∧ progsD l ∧ rdLst (rLsw (rPair rInt rInt)) w' w.heap.size w'.heap.size l [.slice a l.length b] ∧ Below w.heap.size w w'
theorem bD_sm {b : bT} (h : bD b) : wB.cap b := ⟨⟨by have := h.1.1; show b.mem.length ≤ 1048576; omega, fun p hp => ⟨by have := (h.1.2 p hp).1; omega, fun _ _ => trivial⟩⟩, ⟨by have := h.2.1.1; show b.gs.length ≤ 1048576; omega, fun g hg => (h.2.1.2 g hg).cap⟩, ⟨by have := h.2.2.1.1; show b.outs.length ≤ 1048576; omega, fun _ _ => trivial⟩, trivial⟩
theorem bD_wf {b : bT} (h : bD b) : wB.wf b := ⟨⟨Nat.le_trans h.1.1 (by decide), fun p hp => ⟨Nat.le_trans (h.1.2 p hp).1 (by decide), (h.1.2 p hp).2⟩⟩, ⟨Nat.le_trans h.2.1.1 (by decide), fun g hg => (h.2.1.2 g hg).1⟩, ⟨Nat.le_trans h.2.2.1.1 (by decide), h.2.2.1.2⟩, h.2.2.2⟩
theorem kd_progs (w0 : World) (A : Option Addr) (n c g : Nat) (w : World) (hn : n ≤ 1048576) (hcode : CodeAt w0 A n) (hcur : Cur w0 A n c w g) : Calls Tryz.prog 25 #[.pointer (some ⟨g, 0, none⟩)] w (fun e w' => ∃ l a b lo hi F, progsD l ∧ l.length ≤ 2 ∧ Sx.Drawn w0 A n c w g (.slice a l.length b) [ow (rLst 32 (Sx.rRo (rLsw (rPair rInt rInt)))) lo hi l [.slice a l.length b] F] e w') := by
 have hs0 := Sx.st_cur hcur
 have hb0 := hcur.1
 clear hcur
 refine Sx.enterS (args := [.pointer (some ⟨g, 0, none⟩)]) hs0 Tryz.func25 rfl Tryz.ntmps25 rfl ?_
 refine Sx.C.seq (Sx.C.region ?_)
 refine Sx.G.p (.slice none 0 0) ?_
 refine Sx.G.nil (Sx.E.next (Sx.C.seq (Sx.C.region ?_)))
 refine Sx.G.fresh 32 (rLsw (rPair rInt rInt)) (by kernel_rfl) (fun w => by kernel_rfl) (fun b1 hi1 => ?_)
 refine Sx.G.p (.slice (some ⟨b1, 0, none⟩) 0 0) ?_
 refine Sx.G.nil (Sx.E.next (Sx.C.seq (Sx.C.seq (Sx.C.region ?_))))
 refine Sx.G.p (.int .i64 0) ?_
 refine Sx.G.nil (Sx.E.next (Sx.C.block ?_))
 refine Sx.C.loop (α := Nat × (List (List (Int × Int))) × Option Addr × Nat × List Nat × Nat × Nat) (fun x => x.1 ≤ 2 ∧ x.2.1.length = x.1 ∧ ∀ y ∈ x.2.1, progD y) (fun x => [(4, .int .i64 (x.1 : Int)), (3, .slice x.2.2.1 x.2.1.length x.2.2.2.1), (0, .pointer (some ⟨g, 0, none⟩)), (2, .slice none 0 0)]) (fun x => [ow (rLst 32 (Sx.rRo (rLsw (rPair rInt rInt)))) x.2.2.2.2.2.1 x.2.2.2.2.2.2 x.2.1 [.slice x.2.2.1 x.2.1.length x.2.2.2.1] x.2.2.2.2.1, Sx.cu A n c g, Sx.frm w0 w g]) (fun x => 2 + 1 - x.1) (0, [], (some ⟨b1, 0, none⟩), 0, [b1], b1, hi1) ⟨Nat.zero_le _, rfl, fun y hy => by cases hy⟩ (fun a hA => (Sx.Ag.and hA (Sx.Ag.and hA (Sx.Ag.and hA (Sx.Ag.and hA (Sx.Ag.none hA) _ _ (by kernel_rfl)) _ _ (by kernel_rfl)) _ _ (by kernel_rfl)) _ _ (by kernel_rfl))) (fun w S => St.pick S [0, 1, 2] _ rfl (by decide)) (fun x hx => ?_)
 obtain ⟨xip, xsp, xAp, xcp, xFp, xlop, xhip⟩ := x
 dsimp only at hx
 obtain ⟨hbp, hlp, hpp⟩ := hx
 refine Sx.C.seq (Sx.C.seq (Sx.C.region ?_))
 refine Sx.G.p (.int .i64 (xip : Int)) ?_
 refine Sx.G.p (.pointer (some ⟨g, 0, none⟩)) ?_
 refine Sx.G.c 39 #[.pointer (some ⟨g, 0, none⟩), .int .i64 2] (fun w2 S => (below_any w0 A n c g _ 2 (by decide) (by decide) hn hcode (Sx.St.cur S 1 rfl)).mono fun e w2' hp => ?_)
 obtain ⟨x2, rfl, hx2, hy2, hcur, hgr⟩ := hp
 refine ⟨_, _, rfl, Sx.St.moved S 1 rfl hcur hgr, ?_⟩
 clear S hcur hgr
 refine Sx.G.q (.int .i64 (IntKind.i64.wrap (1 + x2))) (.int .i64 (1 + x2)) (congrArg (Value.int .i64) (by rw [IntKind.wrap_i64]; omega)) ?_
 refine Sx.G.p (.bool (decide ((xip : Int) < (1 + x2)))) ?_
 refine Sx.G.nil (Sx.E.next ?_)
 cases hc3 : (decide ((xip : Int) < (1 + x2)))
 ·
  have hb3 := hc3
  replace hc3 := of_decide_eq_false hc3
  refine Sx.C.no (by kernel_rfl) (by kernel_rfl) ?_
  refine Sx.C.exit (Sx.E.then_exit (Sx.E.then_exit (Sx.E.block_hit (Sx.E.next (Sx.C.seq (Sx.C.region ?_))))))
  refine Sx.G.p (.slice xAp xsp.length xcp) ?_
  refine Sx.G.p (.slice xAp xsp.length xcp) ?_
  refine Sx.G.nil (Sx.E.next (Sx.C.ret ?_))
  refine Sx.E.ret1 (.slice xAp xsp.length xcp) rfl (by kernel_rfl) (fun w S => ?_)
  exact ⟨xsp, _, _, _, _, _, ⟨by omega, hpp⟩, by omega, Sx.Drawn.made hb0 (St.pick S [1, 2, 0] _ rfl (by decide))⟩
 ·
  have hb3 := hc3
  replace hc3 := of_decide_eq_true hc3
  refine Sx.C.yes (by kernel_rfl) (by kernel_rfl) ?_
  refine Sx.C.skip (Sx.E.next (Sx.C.seq (Sx.C.block (Sx.C.region ?_))))
  refine Sx.G.p (.slice xAp xsp.length xcp) ?_
  refine Sx.G.p (.pointer (some ⟨g, 0, none⟩)) ?_
  refine Sx.G.c 27 #[.pointer (some ⟨g, 0, none⟩)] (fun w4 S => (kd_prog w0 A n c g _ hn hcode (Sx.St.cur S 1 rfl)).mono fun e w4' hp => ?_)
  obtain ⟨l4, a4, b4, lo4, hi4, F4, hg4, rfl, hcur, hgr, hfr⟩ := hp
  refine ⟨_, _, rfl, Sx.St.joinD S (Sx.St.moved S 1 rfl hcur hgr) hfr, ?_⟩
  clear S hcur hgr hfr
  refine Sx.G.made 32 [.slice a4 l4.length b4] 1 (by kernel_rfl) (fun w => by kernel_rfl) (fun b5 => ?_)
  refine Sx.G.claims (L' := [ow (rLst 32 (Sx.rRo (rLsw (rPair rInt rInt)))) xlop xhip xsp [.slice xAp xsp.length xcp] xFp, ow (Sx.rRo (rLsw (rPair rInt rInt))) lo4 hi4 l4 [.slice a4 l4.length b4] F4, vr b5 [.slice a4 l4.length b4], Sx.cu A n c g, Sx.frm w0 w g]) (fun w S => St.pick S [2, 1, 0, 3, 4] _ rfl (by decide)) ?_
  refine Sx.G.appr (.tmp 13) (.tmp 16) 24 1 24 1 rfl (by kernel_rfl) (by kernel_rfl) rfl (by kernel_rfl) (by kernel_rfl) (by kernel_rfl) (by simp only [maxLen]; omega) (by omega) (xsp ++ [l4]) rfl (xsp ++ [l4]).length (by simp) (fun A6 c6 F6 hi6 hm6 => ?_)
  refine Sx.G.p (.slice A6 (xsp ++ [l4]).length c6) ?_
  refine Sx.G.nil (Sx.E.block_normal (Sx.E.next (Sx.C.region ?_)))
  refine Sx.G.p (.int .i64 (xip : Int)) ?_
  refine Sx.G.q (.int .i64 (IntKind.i64.wrap ((xip : Int) + 1))) (.int .i64 ((xip + 1 : Nat) : Int)) (congrArg (Value.int .i64) (Sx.wrap_up xip (by omega))) ?_
  refine Sx.G.p (.int .i64 ((xip + 1 : Nat) : Int)) ?_
  refine Sx.G.nil ?_
  have HN : xip + 1 ≤ 2 ∧ (xsp ++ [l4]).length = xip + 1 ∧ ∀ y ∈ xsp ++ [l4], progD y := ⟨by omega, by simp [hlp], fun y hy => by rcases List.mem_append.1 hy with h | h; exact hpp y h; rw [List.mem_singleton.1 h]; exact hg4⟩
  exact Sx.E.again (xip + 1, (xsp ++ [l4]), A6, c6, F6, w0.heap.size, hi6) HN (by show 2 + 1 - (xip + 1) < 2 + 1 - xip; omega) (fun a hA => (Sx.Ag.and hA (Sx.Ag.and hA (Sx.Ag.and hA (Sx.Ag.and hA (Sx.Ag.none hA) _ _ (by kernel_rfl)) _ _ (by kernel_rfl)) _ _ (by kernel_rfl)) _ _ (by kernel_rfl))) (fun w S => St.pick S [0, 1, 2] _ rfl (by decide))
theorem kd_at (w0 : World) (A : Option Addr) (n c g : Nat) (w : World) (hn : n ≤ 1048576) (hcode : CodeAt w0 A n) (hcur : Cur w0 A n c w g) : Calls Tryz.prog 32 #[.pointer (some ⟨g, 0, none⟩)] w (fun e w' => ∃ x, numD x ∧ Sx.Drawn w0 A n c w g (.int .i64 x) [] e w') := by
 have hs0 := Sx.st_cur hcur
 have hb0 := hcur.1
 clear hcur
 refine Sx.enterS (args := [.pointer (some ⟨g, 0, none⟩)]) hs0 Tryz.func32 rfl Tryz.ntmps32 rfl ?_
 refine Sx.C.seq (Sx.C.region ?_)
 refine Sx.G.p (.int .i64 0) ?_
 refine Sx.G.nil (Sx.E.next (Sx.C.seq (Sx.C.region ?_)))
 refine Sx.G.p (.pointer (some ⟨g, 0, none⟩)) ?_
 refine Sx.G.block 3 [.int .i64 0, .int .i64 0, .int .i64 1, .int .i64 1, .int .i64 2, .int .i64 (-1), .int .i64 9223372036854775807] 7 (by kernel_rfl) (fun w => by kernel_rfl) (fun b1 => ?_)
 refine Sx.G.c 71 #[.pointer (some ⟨g, 0, none⟩), .slice (some ⟨b1, 0, none⟩) 7 7] (fun w2 S => (pick_any w0 A n c g _ b1 7 [0, 0, 1, 1, 2, (-1), 9223372036854775807] (by decide) (by decide) hn hcode (Sx.St.cur S 1 rfl) (Sx.St.bk_ne S 0 1 rfl rfl (by decide)) rfl (St.at_ S 0 rfl)).mono fun e w2' hp => ?_)
 obtain ⟨x2, rfl, hx2, hcur, hgr⟩ := hp
 have hw2 : (Lit.int .i64 x2).wf = true := (show ∀ y ∈ ([0, 0, 1, 1, 2, (-1), 9223372036854775807] : List Int), (Lit.int .i64 y).wf = true by decide) _ hx2
 refine ⟨_, _, rfl, Sx.St.moved S 1 rfl hcur hgr, ?_⟩
 clear S hcur hgr
 refine Sx.G.p (.int .i64 x2) ?_
 refine Sx.G.nil (Sx.E.next (Sx.C.ret ?_))
 refine Sx.E.ret1 (.int .i64 x2) rfl (by kernel_rfl) (fun w S => ?_)
 exact ⟨x2, hw2, Sx.Drawn.made hb0 (St.pick S [1, 2] _ rfl (by decide))⟩
theorem drawBareNew (A : Option Addr) (n c : Nat) (w0 : World) (hn : n ≤ 1048576) (hcode : CodeAt w0 A n) : Calls Tryz.prog 5 #[.slice A n c] w0 (BProgs w0) := by
 refine Sx.enter (args := [.slice A n c]) Tryz.func5 rfl Tryz.ntmps5 rfl ?_
 refine Sx.C.seq (Sx.C.region ?_)
 refine Sx.G.p (.slice none 0 0) ?_
 refine Sx.G.nil (Sx.E.next (Sx.C.seq (Sx.C.region ?_)))
 refine Sx.G.p (.slice A n c) ?_
 refine Sx.G.c 24 #[.slice A n c] (fun w1 S => (Sx.new_g A n c _ hn (hcode.below S.below)).mono fun e w1' hp => ?_)
 obtain ⟨g, rfl, hcs, hlo, hhi, hb⟩ := hp
 refine ⟨_, _, rfl, (S.add hb (Sx.cu A n c g) hcs hlo hhi), ?_⟩
 clear S hcs hlo hhi hb
 refine Sx.G.p (.pointer (some ⟨g, 0, none⟩)) ?_
 refine Sx.G.nil (Sx.E.next (Sx.C.seq (Sx.C.region ?_)))
 refine Sx.G.p (.pointer (some ⟨g, 0, none⟩)) ?_
 refine Sx.G.c 25 #[.pointer (some ⟨g, 0, none⟩)] (fun w2 S => (kd_progs w0 A n c g _ hn hcode (Sx.St.cur S 0 rfl)).mono fun e w2' hp => ?_)
 obtain ⟨l2, a2, b2, lo2, hi2, F2, hg2, hq2, rfl, hcur, hgr, hfr⟩ := hp
 refine ⟨_, _, rfl, Sx.St.joinD S (Sx.St.moved S 0 rfl hcur hgr) hfr, ?_⟩
 clear S hcur hgr hfr
 refine Sx.G.p (.slice a2 l2.length b2) ?_
 refine Sx.G.nil (Sx.E.next (Sx.C.seq (Sx.C.seq (Sx.C.region ?_))))
 refine Sx.G.p (.pointer (some ⟨g, 0, none⟩)) ?_
 refine Sx.G.c 26 #[.pointer (some ⟨g, 0, none⟩), .int .i64 4] (fun w3 S => (once_any w0 A n c g _ 4 (by decide) (by decide) hn hcode (Sx.St.cur S 1 rfl)).mono fun e w3' hp => ?_)
 obtain ⟨x3, rfl, hcur, hgr⟩ := hp
 refine ⟨_, _, rfl, Sx.St.moved S 1 rfl hcur hgr, ?_⟩
 clear S hcur hgr
 refine Sx.G.nil (Sx.E.next ?_)
 cases hc4 : (x3)
 ·
  have hb4 := hc4
  refine Sx.C.no (by kernel_rfl) (by kernel_rfl) ?_
  refine Sx.C.skip (Sx.E.next (Sx.C.seq (Sx.C.region ?_)))
  refine Sx.G.p (.slice a2 l2.length b2) ?_
  refine Sx.G.p (.slice a2 l2.length b2) ?_
  refine Sx.G.nil (Sx.E.next (Sx.C.ret ?_))
  refine Sx.E.ret1 (.slice a2 l2.length b2) rfl (by kernel_rfl) (fun w S => ?_)
  exact ⟨l2, _, _, rfl, hg2, Sx.rdLst_of (r := (Sx.rRo (rLsw (rPair rInt rInt)))) (q := (rLsw (rPair rInt rInt))) (fun _ _ _ _ _ h => h) rfl (show rdLst (Sx.rRo (rLsw (rPair rInt rInt))) _ _ _ _ _ from Sx.St.owIn S 0 rfl), S.below⟩
 ·
  have hb4 := hc4
  refine Sx.C.yes (by kernel_rfl) (by kernel_rfl) ?_
  refine Sx.C.region ?_
  refine Sx.G.p (.slice a2 l2.length b2) ?_
  refine Sx.G.p (.pointer (some ⟨g, 0, none⟩)) ?_
  refine Sx.G.c 27 #[.pointer (some ⟨g, 0, none⟩)] (fun w5 S => (kd_prog w0 A n c g _ hn hcode (Sx.St.cur S 1 rfl)).mono fun e w5' hp => ?_)
  obtain ⟨l5, a5, b5, lo5, hi5, F5, hg5, rfl, hcur, hgr, hfr⟩ := hp
  refine ⟨_, _, rfl, Sx.St.joinD S (Sx.St.moved S 1 rfl hcur hgr) hfr, ?_⟩
  clear S hcur hgr hfr
  refine Sx.G.p (.pointer (some ⟨g, 0, none⟩)) ?_
  refine Sx.G.c 28 #[.pointer (some ⟨g, 0, none⟩)] (fun w6 S => (kd_anyprog w0 A n c g _ hn hcode (Sx.St.cur S 2 rfl)).mono fun e w6' hp => ?_)
  obtain ⟨l6, a6, b6, lo6, hi6, F6, hg6, rfl, hcur, hgr, hfr⟩ := hp
  refine ⟨_, _, rfl, Sx.St.joinD S (Sx.St.moved S 2 rfl hcur hgr) hfr, ?_⟩
  clear S hcur hgr hfr
  refine Sx.G.made 32 [.slice a5 l5.length b5, .slice a6 l6.length b6] 2 (by kernel_rfl) (fun w => by kernel_rfl) (fun b7 => ?_)
  refine Sx.G.pk (.c .m2 (.c .m1 (.c .m0 (.c .m3 (.c .m4 .n))))) ?_
  refine Sx.G.turn (ι := Nat) (p := fun _ => True) (fun H8 => [ow (rPair (Sx.rRo (rLsw (rPair rInt rInt))) (Sx.rRo (rLsw (rPair rInt rInt)))) w0.heap.size H8 (l5, l6) [.slice a5 l5.length b5, .slice a6 l6.length b6] (F5 ++ F6), vr b7 [.slice a5 l5.length b5, .slice a6 l6.length b6], ow (rLst 32 (Sx.rRo (rLsw (rPair rInt rInt)))) lo2 hi2 l2 [.slice a2 l2.length b2] F2, Sx.cu A n c g]) (fun w S => ⟨w.heap.size, trivial, Sx.St.pair S⟩) (fun H8 _ => ?_)
  refine Sx.G.claims (L' := [ow (rLst 32 (Sx.rRo (rLsw (rPair rInt rInt)))) lo2 hi2 l2 [.slice a2 l2.length b2] F2, ow (rPair (Sx.rRo (rLsw (rPair rInt rInt))) (Sx.rRo (rLsw (rPair rInt rInt)))) w0.heap.size H8 (l5, l6) [.slice a5 l5.length b5, .slice a6 l6.length b6] (F5 ++ F6), vr b7 [.slice a5 l5.length b5, .slice a6 l6.length b6], Sx.cu A n c g]) (fun w S => St.pick S [2, 0, 1, 3] _ rfl (by decide)) ?_
  refine Sx.G.appr2 (.tmp 11) (.tmp 16) 24 1 24 2 rfl (by kernel_rfl) (by kernel_rfl) rfl (by kernel_rfl) (by kernel_rfl) (by kernel_rfl) (by simp only [maxLen]; omega) (by omega) (l2 ++ [l5, l6]) rfl (l2 ++ [l5, l6]).length (by simp) (fun A9 c9 F9 hi9 hm9 => ?_)
  refine Sx.G.p (.slice A9 (l2 ++ [l5, l6]).length c9) ?_
  refine Sx.G.nil (Sx.E.next (Sx.C.seq (Sx.C.region ?_)))
  refine Sx.G.p (.slice A9 (l2 ++ [l5, l6]).length c9) ?_
  refine Sx.G.p (.slice A9 (l2 ++ [l5, l6]).length c9) ?_
  refine Sx.G.nil (Sx.E.next (Sx.C.ret ?_))
  refine Sx.E.ret1 (.slice A9 (l2 ++ [l5, l6]).length c9) rfl (by kernel_rfl) (fun w S => ?_)
  exact ⟨(l2 ++ [l5, l6]), _, _, rfl, ⟨by simp only [List.length_append, List.length_cons, List.length_nil]; omega, fun q hq => by rcases List.mem_append.1 hq with h | h; exact hg2.2 q h; simp only [List.mem_cons, List.not_mem_nil, or_false] at h; rcases h with h | h; rw [h]; exact hg5; rw [h]; exact hg6⟩, Sx.rdLst_of (r := (Sx.rRo (rLsw (rPair rInt rInt)))) (q := (rLsw (rPair rInt rInt))) (fun _ _ _ _ _ h => h) rfl (show rdLst (Sx.rRo (rLsw (rPair rInt rInt))) _ _ _ _ _ from Sx.St.owIn S 0 rfl), S.below⟩
theorem drawBareOk (A : Option Addr) (n c : Nat) (w0 : World) (hn : n ≤ 1048576) (hcode : CodeAt w0 A n) : Calls Tryz.prog 14 #[.slice A n c] w0 (BOne w0) := by
 refine Sx.enter (args := [.slice A n c]) Tryz.func14 rfl Tryz.ntmps14 rfl ?_
 refine Sx.C.seq (Sx.C.region ?_)
 refine Sx.G.ar [.slice none 0 0, .slice none 0 0, .slice none 0 0, .int .i64 0] (fun b1 => ?_)
 refine Sx.G.nil (Sx.E.next (Sx.C.seq (Sx.C.region ?_)))
 refine Sx.G.p (.slice A n c) ?_
 refine Sx.G.c 24 #[.slice A n c] (fun w2 S => (Sx.new_g A n c _ hn (hcode.below S.below)).mono fun e w2' hp => ?_)
 obtain ⟨g, rfl, hcs, hlo, hhi, hb⟩ := hp
 refine ⟨_, _, rfl, (S.add hb (Sx.cu A n c g) hcs hlo hhi), ?_⟩
 clear S hcs hlo hhi hb
 refine Sx.G.c 31 #[.pointer (some ⟨g, 0, none⟩)] (fun w3 S => (kd_any w0 A n c g _ hn hcode (Sx.St.cur S 0 rfl)).mono fun e w3' hp => ?_)
 obtain ⟨z3, cs3, lo3, hi3, F3, hg3, rfl, hcur, hgr, hfr⟩ := hp
 obtain ⟨P3_0, P3_1, P3_2, e3, f3_0, f3_1, f3_2⟩ := wB_rd ((Sx.rRo wB).reads (hfr.says 0 _ rfl).1)
 subst e3
 obtain ⟨A3_0, c3_0, e3_0, -⟩ := lst_val f3_0
 subst e3_0
 obtain ⟨A3_1, c3_1, e3_1, -⟩ := lst_val f3_1
 subst e3_1
 obtain ⟨A3_2, c3_2, e3_2, -⟩ := lst_val f3_2
 subst e3_2
 refine ⟨_, _, rfl, Sx.St.joinD S (Sx.St.moved S 0 rfl hcur hgr) hfr, ?_⟩
 clear S hcur hgr hfr f3_0 f3_1 f3_2
 refine Sx.G.sw [.slice A3_0 z3.mem.length c3_0, .slice A3_1 z3.gs.length c3_1, .slice A3_2 z3.outs.length c3_2, .int .i64 z3.pd] .a2 ?_
 refine Sx.G.nil (Sx.E.next (Sx.C.ret ?_))
 refine Sx.E.retc b1 2 [.slice A3_0 z3.mem.length c3_0, .slice A3_1 z3.gs.length c3_1, .slice A3_2 z3.outs.length c3_2, .int .i64 z3.pd] rfl (by kernel_rfl) rfl (by kernel_rfl) (by kernel_rfl) (fun w S => ?_)
 exact ⟨z3, _, rfl, ⟨hg3.1, (Sx.St.owIn (r := (Sx.rRo wB)) S 0 rfl)⟩, S.below⟩
theorem drawGuestAt (A : Option Addr) (n c : Nat) (w0 : World) (hn : n ≤ 1048576) (hcode : CodeAt w0 A n) : Calls Tryz.prog 9 #[.slice A n c] w0 (BNum w0) := by
 refine Sx.enter (args := [.slice A n c]) Tryz.func9 rfl Tryz.ntmps9 rfl ?_
 refine Sx.C.seq (Sx.C.region ?_)
 refine Sx.G.ar [.slice none 0 0, .slice none 0 0, .slice none 0 0, .int .i64 0] (fun b1 => ?_)
 refine Sx.G.p (.int .i64 0) ?_
 refine Sx.G.nil (Sx.E.next (Sx.C.seq (Sx.C.region ?_)))
 refine Sx.G.p (.slice A n c) ?_
 refine Sx.G.c 24 #[.slice A n c] (fun w2 S => (Sx.new_g A n c _ hn (hcode.below S.below)).mono fun e w2' hp => ?_)
 obtain ⟨g, rfl, hcs, hlo, hhi, hb⟩ := hp
 refine ⟨_, _, rfl, (S.add hb (Sx.cu A n c g) hcs hlo hhi), ?_⟩
 clear S hcs hlo hhi hb
 refine Sx.G.p (.pointer (some ⟨g, 0, none⟩)) ?_
 refine Sx.G.nil (Sx.E.next (Sx.C.seq (Sx.C.region ?_)))
 refine Sx.G.p (.pointer (some ⟨g, 0, none⟩)) ?_
 refine Sx.G.c 31 #[.pointer (some ⟨g, 0, none⟩)] (fun w3 S => (kd_any w0 A n c g _ hn hcode (Sx.St.cur S 0 rfl)).mono fun e w3' hp => ?_)
 obtain ⟨z3, cs3, lo3, hi3, F3, hg3, rfl, hcur, hgr, hfr⟩ := hp
 obtain ⟨P3_0, P3_1, P3_2, e3, f3_0, f3_1, f3_2⟩ := wB_rd ((Sx.rRo wB).reads (hfr.says 0 _ rfl).1)
 subst e3
 obtain ⟨A3_0, c3_0, e3_0, -⟩ := lst_val f3_0
 subst e3_0
 obtain ⟨A3_1, c3_1, e3_1, -⟩ := lst_val f3_1
 subst e3_1
 obtain ⟨A3_2, c3_2, e3_2, -⟩ := lst_val f3_2
 subst e3_2
 refine ⟨_, _, rfl, Sx.St.joinD S (Sx.St.moved S 0 rfl hcur hgr) hfr, ?_⟩
 clear S hcur hgr hfr f3_0 f3_1 f3_2
 refine Sx.G.p (.pointer (some ⟨g, 0, none⟩)) ?_
 refine Sx.G.c 32 #[.pointer (some ⟨g, 0, none⟩)] (fun w4 S => (kd_at w0 A n c g _ hn hcode (Sx.St.cur S 1 rfl)).mono fun e w4' hp => ?_)
 obtain ⟨x4, hw4, rfl, hcur, hgr, -⟩ := hp
 refine ⟨_, _, rfl, Sx.St.moved S 1 rfl hcur hgr, ?_⟩
 clear S hcur hgr
 refine Sx.G.sw [.slice A3_0 z3.mem.length c3_0, .slice A3_1 z3.gs.length c3_1, .slice A3_2 z3.outs.length c3_2, .int .i64 z3.pd] .a2 ?_
 refine Sx.G.p (.int .i64 x4) ?_
 refine Sx.G.nil (Sx.E.next (Sx.C.ret ?_))
 refine Sx.E.retg2 (.agg #[.slice A3_0 z3.mem.length c3_0, .slice A3_1 z3.gs.length c3_1, .slice A3_2 z3.outs.length c3_2, .int .i64 z3.pd]) (.int .i64 x4) rfl (Sx.IsRes.row b1 2 [.slice A3_0 z3.mem.length c3_0, .slice A3_1 z3.gs.length c3_1, .slice A3_2 z3.outs.length c3_2, .int .i64 z3.pd] (by kernel_rfl) rfl (by kernel_rfl) (by kernel_rfl)) (Sx.IsRes.slot (by kernel_rfl)) (fun w S => ?_)
 exact ⟨z3, _, _, rfl, ⟨hg3.1, (Sx.St.owIn (r := (Sx.rRo wB)) S 0 rfl)⟩, hw4, S.below⟩
theorem drawPutOut (A : Option Addr) (n c : Nat) (w0 : World) (hn : n ≤ 1048576) (hcode : CodeAt w0 A n) : Calls Tryz.prog 12 #[.slice A n c] w0 (BNum w0) := by
 refine Sx.enter (args := [.slice A n c]) Tryz.func12 rfl Tryz.ntmps12 rfl ?_
 refine Sx.C.seq (Sx.C.region ?_)
 refine Sx.G.ar [.slice none 0 0, .slice none 0 0, .slice none 0 0, .int .i64 0] (fun b1 => ?_)
 refine Sx.G.p (.int .i64 0) ?_
 refine Sx.G.nil (Sx.E.next (Sx.C.seq (Sx.C.region ?_)))
 refine Sx.G.p (.slice A n c) ?_
 refine Sx.G.c 24 #[.slice A n c] (fun w2 S => (Sx.new_g A n c _ hn (hcode.below S.below)).mono fun e w2' hp => ?_)
 obtain ⟨g, rfl, hcs, hlo, hhi, hb⟩ := hp
 refine ⟨_, _, rfl, (S.add hb (Sx.cu A n c g) hcs hlo hhi), ?_⟩
 clear S hcs hlo hhi hb
 refine Sx.G.p (.pointer (some ⟨g, 0, none⟩)) ?_
 refine Sx.G.nil (Sx.E.next (Sx.C.seq (Sx.C.region ?_)))
 refine Sx.G.p (.pointer (some ⟨g, 0, none⟩)) ?_
 refine Sx.G.c 31 #[.pointer (some ⟨g, 0, none⟩)] (fun w3 S => (kd_any w0 A n c g _ hn hcode (Sx.St.cur S 0 rfl)).mono fun e w3' hp => ?_)
 obtain ⟨z3, cs3, lo3, hi3, F3, hg3, rfl, hcur, hgr, hfr⟩ := hp
 obtain ⟨P3_0, P3_1, P3_2, e3, f3_0, f3_1, f3_2⟩ := wB_rd ((Sx.rRo wB).reads (hfr.says 0 _ rfl).1)
 subst e3
 obtain ⟨A3_0, c3_0, e3_0, -⟩ := lst_val f3_0
 subst e3_0
 obtain ⟨A3_1, c3_1, e3_1, -⟩ := lst_val f3_1
 subst e3_1
 obtain ⟨A3_2, c3_2, e3_2, -⟩ := lst_val f3_2
 subst e3_2
 refine ⟨_, _, rfl, Sx.St.joinD S (Sx.St.moved S 0 rfl hcur hgr) hfr, ?_⟩
 clear S hcur hgr hfr f3_0 f3_1 f3_2
 refine Sx.G.p (.pointer (some ⟨g, 0, none⟩)) ?_
 refine Sx.G.c 39 #[.pointer (some ⟨g, 0, none⟩), .int .i64 100] (fun w4 S => (below_any w0 A n c g _ 100 (by decide) (by decide) hn hcode (Sx.St.cur S 1 rfl)).mono fun e w4' hp => ?_)
 obtain ⟨x4, rfl, hx4, hy4, hcur, hgr⟩ := hp
 refine ⟨_, _, rfl, Sx.St.moved S 1 rfl hcur hgr, ?_⟩
 clear S hcur hgr
 refine Sx.G.sw [.slice A3_0 z3.mem.length c3_0, .slice A3_1 z3.gs.length c3_1, .slice A3_2 z3.outs.length c3_2, .int .i64 z3.pd] .a2 ?_
 refine Sx.G.p (.int .i64 x4) ?_
 refine Sx.G.nil (Sx.E.next (Sx.C.ret ?_))
 refine Sx.E.retg2 (.agg #[.slice A3_0 z3.mem.length c3_0, .slice A3_1 z3.gs.length c3_1, .slice A3_2 z3.outs.length c3_2, .int .i64 z3.pd]) (.int .i64 x4) rfl (Sx.IsRes.row b1 2 [.slice A3_0 z3.mem.length c3_0, .slice A3_1 z3.gs.length c3_1, .slice A3_2 z3.outs.length c3_2, .int .i64 z3.pd] (by kernel_rfl) rfl (by kernel_rfl) (by kernel_rfl)) (Sx.IsRes.slot (by kernel_rfl)) (fun w S => ?_)
 exact ⟨z3, _, _, rfl, ⟨hg3.1, (Sx.St.owIn (r := (Sx.rRo wB)) S 0 rfl)⟩, (Sx.wf_small hx4 (Int.lt_trans hy4 (by decide))), S.below⟩
theorem drawWithGuest (A : Option Addr) (n c : Nat) (w0 : World) (hn : n ≤ 1048576) (hcode : CodeAt w0 A n) : Calls Tryz.prog 7 #[.slice A n c] w0 (BGue w0) := by
 refine Sx.enter (args := [.slice A n c]) Tryz.func7 rfl Tryz.ntmps7 rfl ?_
 refine Sx.C.seq (Sx.C.region ?_)
 refine Sx.G.ar [.slice none 0 0, .slice none 0 0, .slice none 0 0, .int .i64 0] (fun b1 => ?_)
 refine Sx.G.p (.int .i64 0) ?_
 refine Sx.G.ar [.slice none 0 0, .int .i64 0, .int .i64 0, .slice none 0 0, .slice none 0 0, .int .i64 0, .int .i64 0, .bool false, .int .i64 0, .int .i64 0, .int .i64 0, .bool false, .int .i64 0, .bool false, .slice none 0 0] (fun b2 => ?_)
 refine Sx.G.nil (Sx.E.next (Sx.C.seq (Sx.C.region ?_)))
 refine Sx.G.p (.slice A n c) ?_
 refine Sx.G.c 24 #[.slice A n c] (fun w3 S => (Sx.new_g A n c _ hn (hcode.below S.below)).mono fun e w3' hp => ?_)
 obtain ⟨g, rfl, hcs, hlo, hhi, hb⟩ := hp
 refine ⟨_, _, rfl, (S.add hb (Sx.cu A n c g) hcs hlo hhi), ?_⟩
 clear S hcs hlo hhi hb
 refine Sx.G.p (.pointer (some ⟨g, 0, none⟩)) ?_
 refine Sx.G.nil (Sx.E.next (Sx.C.seq (Sx.C.region ?_)))
 refine Sx.G.p (.pointer (some ⟨g, 0, none⟩)) ?_
 refine Sx.G.c 31 #[.pointer (some ⟨g, 0, none⟩)] (fun w4 S => (kd_any w0 A n c g _ hn hcode (Sx.St.cur S 0 rfl)).mono fun e w4' hp => ?_)
 obtain ⟨z4, cs4, lo4, hi4, F4, hg4, rfl, hcur, hgr, hfr⟩ := hp
 obtain ⟨P4_0, P4_1, P4_2, e4, f4_0, f4_1, f4_2⟩ := wB_rd ((Sx.rRo wB).reads (hfr.says 0 _ rfl).1)
 subst e4
 obtain ⟨A4_0, c4_0, e4_0, -⟩ := lst_val f4_0
 subst e4_0
 obtain ⟨A4_1, c4_1, e4_1, -⟩ := lst_val f4_1
 subst e4_1
 obtain ⟨A4_2, c4_2, e4_2, -⟩ := lst_val f4_2
 subst e4_2
 refine ⟨_, _, rfl, Sx.St.joinD S (Sx.St.moved S 0 rfl hcur hgr) hfr, ?_⟩
 clear S hcur hgr hfr f4_0 f4_1 f4_2
 refine Sx.G.p (.pointer (some ⟨g, 0, none⟩)) ?_
 refine Sx.G.c 32 #[.pointer (some ⟨g, 0, none⟩)] (fun w5 S => (kd_at w0 A n c g _ hn hcode (Sx.St.cur S 1 rfl)).mono fun e w5' hp => ?_)
 obtain ⟨x5, hw5, rfl, hcur, hgr, -⟩ := hp
 refine ⟨_, _, rfl, Sx.St.moved S 1 rfl hcur hgr, ?_⟩
 clear S hcur hgr
 refine Sx.G.p (.pointer (some ⟨g, 0, none⟩)) ?_
 refine Sx.G.c 33 #[.pointer (some ⟨g, 0, none⟩)] (fun w6 S => (kd_gany w0 A n c g _ hn hcode (Sx.St.cur S 1 rfl)).mono fun e w6' hp => ?_)
 obtain ⟨z6, cs6, lo6, hi6, F6, hg6, rfl, hcur, hgr, hfr⟩ := hp
 obtain ⟨P6_0, P6_1, P6_2, P6_3, e6, f6_0, f6_1, f6_2, f6_3⟩ := wG_rd ((Sx.rRo wG).reads (hfr.says 0 _ rfl).1)
 subst e6
 obtain ⟨A6_0, c6_0, e6_0, -⟩ := lst_val f6_0
 subst e6_0
 obtain ⟨A6_1, c6_1, e6_1, -⟩ := lst_val f6_1
 subst e6_1
 obtain ⟨A6_2, c6_2, e6_2, -⟩ := lst_val f6_2
 subst e6_2
 obtain ⟨A6_3, c6_3, e6_3, -⟩ := lst_val f6_3
 subst e6_3
 refine ⟨_, _, rfl, Sx.St.joinD S (Sx.St.moved S 1 rfl hcur hgr) hfr, ?_⟩
 clear S hcur hgr hfr f6_0 f6_1 f6_2 f6_3
 refine Sx.G.sw [.slice A4_0 z4.mem.length c4_0, .slice A4_1 z4.gs.length c4_1, .slice A4_2 z4.outs.length c4_2, .int .i64 z4.pd] .a4 ?_
 refine Sx.G.p (.int .i64 x5) ?_
 refine Sx.G.sw [.slice A6_0 z6.prog.length c6_0, .int .i64 z6.a, .int .i64 z6.pc, .slice A6_1 z6.wr.length c6_1, .slice A6_2 z6.lv.length c6_2, .int .i64 z6.t.1, .int .i64 z6.t.2.1, .bool z6.t.2.2, .int .i64 z6.pd, .int .i64 z6.x.1, .int .i64 z6.x.2.1, .bool z6.x.2.2.1, .int .i64 z6.x.2.2.2, .bool z6.hl, .slice A6_3 z6.seen.length c6_3] .a3 ?_
 refine Sx.G.nil (Sx.E.next (Sx.C.ret ?_))
 refine Sx.E.retg3 (.agg #[.slice A4_0 z4.mem.length c4_0, .slice A4_1 z4.gs.length c4_1, .slice A4_2 z4.outs.length c4_2, .int .i64 z4.pd]) (.int .i64 x5) (.agg #[.slice A6_0 z6.prog.length c6_0, .int .i64 z6.a, .int .i64 z6.pc, .slice A6_1 z6.wr.length c6_1, .slice A6_2 z6.lv.length c6_2, .int .i64 z6.t.1, .int .i64 z6.t.2.1, .bool z6.t.2.2, .int .i64 z6.pd, .int .i64 z6.x.1, .int .i64 z6.x.2.1, .bool z6.x.2.2.1, .int .i64 z6.x.2.2.2, .bool z6.hl, .slice A6_3 z6.seen.length c6_3]) rfl (Sx.IsRes.row b1 4 [.slice A4_0 z4.mem.length c4_0, .slice A4_1 z4.gs.length c4_1, .slice A4_2 z4.outs.length c4_2, .int .i64 z4.pd] (by kernel_rfl) rfl (by kernel_rfl) (by kernel_rfl)) (Sx.IsRes.slot (by kernel_rfl)) (Sx.IsRes.row b2 3 [.slice A6_0 z6.prog.length c6_0, .int .i64 z6.a, .int .i64 z6.pc, .slice A6_1 z6.wr.length c6_1, .slice A6_2 z6.lv.length c6_2, .int .i64 z6.t.1, .int .i64 z6.t.2.1, .bool z6.t.2.2, .int .i64 z6.pd, .int .i64 z6.x.1, .int .i64 z6.x.2.1, .bool z6.x.2.2.1, .int .i64 z6.x.2.2.2, .bool z6.hl, .slice A6_3 z6.seen.length c6_3] (by kernel_rfl) rfl (by kernel_rfl) (by kernel_rfl)) (fun w S => ?_)
 exact ⟨z4, _, _, z6, _, rfl, ⟨hg4.1, (Sx.St.owIn (r := (Sx.rRo wB)) S 1 rfl)⟩, hw5, ⟨hg6, (Sx.St.owIn (r := (Sx.rRo wG)) S 0 rfl)⟩, S.below⟩
theorem drawSameBare (A : Option Addr) (n c : Nat) (w0 : World) (hn : n ≤ 1048576) (hcode : CodeAt w0 A n) : Calls Tryz.prog 13 #[.slice A n c] w0 (BTwo w0) := by
 refine Sx.enter (args := [.slice A n c]) Tryz.func13 rfl Tryz.ntmps13 rfl ?_
 refine Sx.C.seq (Sx.C.region ?_)
 refine Sx.G.ar [.slice none 0 0, .slice none 0 0, .slice none 0 0, .int .i64 0] (fun b1 => ?_)
 refine Sx.G.ar [.slice none 0 0, .slice none 0 0, .slice none 0 0, .int .i64 0] (fun b2 => ?_)
 refine Sx.G.nil (Sx.E.next (Sx.C.seq (Sx.C.region ?_)))
 refine Sx.G.p (.slice A n c) ?_
 refine Sx.G.c 24 #[.slice A n c] (fun w3 S => (Sx.new_g A n c _ hn (hcode.below S.below)).mono fun e w3' hp => ?_)
 obtain ⟨g, rfl, hcs, hlo, hhi, hb⟩ := hp
 refine ⟨_, _, rfl, (S.add hb (Sx.cu A n c g) hcs hlo hhi), ?_⟩
 clear S hcs hlo hhi hb
 refine Sx.G.p (.pointer (some ⟨g, 0, none⟩)) ?_
 refine Sx.G.nil (Sx.E.next (Sx.C.seq (Sx.C.region ?_)))
 refine Sx.G.p (.pointer (some ⟨g, 0, none⟩)) ?_
 refine Sx.G.c 31 #[.pointer (some ⟨g, 0, none⟩)] (fun w4 S => (kd_any w0 A n c g _ hn hcode (Sx.St.cur S 0 rfl)).mono fun e w4' hp => ?_)
 obtain ⟨z4, cs4, lo4, hi4, F4, hg4, rfl, hcur, hgr, hfr⟩ := hp
 obtain ⟨P4_0, P4_1, P4_2, e4, f4_0, f4_1, f4_2⟩ := wB_rd ((Sx.rRo wB).reads (hfr.says 0 _ rfl).1)
 subst e4
 obtain ⟨A4_0, c4_0, e4_0, -⟩ := lst_val f4_0
 subst e4_0
 obtain ⟨A4_1, c4_1, e4_1, -⟩ := lst_val f4_1
 subst e4_1
 obtain ⟨A4_2, c4_2, e4_2, -⟩ := lst_val f4_2
 subst e4_2
 refine ⟨_, _, rfl, Sx.St.joinD S (Sx.St.moved S 0 rfl hcur hgr) hfr, ?_⟩
 clear S hcur hgr hfr f4_0 f4_1 f4_2
 refine Sx.G.ar [.slice none 0 0, .slice none 0 0, .slice none 0 0, .int .i64 0] (fun b5 => ?_)
 refine Sx.G.sw [.slice A4_0 z4.mem.length c4_0, .slice A4_1 z4.gs.length c4_1, .slice A4_2 z4.outs.length c4_2, .int .i64 z4.pd] .a0 ?_
 refine Sx.G.nil (Sx.E.next (Sx.C.seq (Sx.C.region ?_)))
 refine Sx.G.lw .m0 ?_
 have hol : z4.outs.length ≤ 45 := hg4.2
 refine Sx.G.c 40 #[.agg #[.slice A4_0 z4.mem.length c4_0, .slice A4_1 z4.gs.length c4_1, .slice A4_2 z4.outs.length c4_2, .int .i64 z4.pd]] (fun w6 S => (specx_bcopy z4 _ _ (bD_sm hg4.1) (St.reads (r := (Sx.rRo wB)) S 1 rfl)).mono fun e w6' hp => ?_)
 obtain ⟨cs, F, rfl, ho, hF, hb⟩ := hp
 obtain ⟨P6_0, P6_1, P6_2, G6_0, G6_1, G6_2, rfl, S'⟩ := rB_open (St.got S hb ho hF)
 obtain ⟨A6_0, c6_0, e6_0, -⟩ := lst_val (S'.reads 0 rfl)
 subst e6_0
 obtain ⟨A6_1, c6_1, e6_1, -⟩ := lst_val (S'.reads 1 rfl)
 subst e6_1
 obtain ⟨A6_2, c6_2, e6_2, -⟩ := lst_val (S'.reads 2 rfl)
 subst e6_2
 refine ⟨_, _, rfl, S', ?_⟩
 clear S S' ho hF hb
 refine Sx.G.ar [.slice none 0 0, .slice none 0 0, .slice none 0 0, .int .i64 0] (fun b7 => ?_)
 refine Sx.G.sw [.slice A6_0 z4.mem.length c6_0, .slice A6_1 z4.gs.length c6_1, .slice A6_2 z4.outs.length c6_2, .int .i64 z4.pd] .a0 ?_
 refine Sx.G.nil (Sx.E.next (Sx.C.seq (Sx.C.seq (Sx.C.region ?_))))
 refine Sx.G.p (.pointer (some ⟨g, 0, none⟩)) ?_
 refine Sx.G.c 39 #[.pointer (some ⟨g, 0, none⟩), .int .i64 5] (fun w8 S => (below_any w0 A n c g _ 5 (by decide) (by decide) hn hcode (Sx.St.cur S 6 rfl)).mono fun e w8' hp => ?_)
 obtain ⟨x8, rfl, hx8, hy8, hcur, hgr⟩ := hp
 refine ⟨_, _, rfl, Sx.St.moved S 6 rfl hcur hgr, ?_⟩
 clear S hcur hgr
 refine Sx.G.nil (Sx.E.next (Sx.C.block (Sx.C.seq (Sx.C.region ?_))))
 refine Sx.G.p (.bool (x8 == 0)) ?_
 refine Sx.G.p (.bool (x8 == 0)) ?_
 refine Sx.G.nil (Sx.E.next ?_)
 cases hc9 : (x8 == 0)
 ·
  have hb9 := hc9
  refine Sx.C.no (by kernel_rfl) (by kernel_rfl) ?_
  refine Sx.C.seq (Sx.C.region ?_)
  refine Sx.G.p (.bool (x8 == 1)) ?_
  refine Sx.G.p (.bool (x8 == 1)) ?_
  refine Sx.G.nil (Sx.E.next ?_)
  cases hc10 : (x8 == 1)
  ·
   have hb10 := hc10
   refine Sx.C.no (by kernel_rfl) (by kernel_rfl) ?_
   refine Sx.C.seq (Sx.C.region ?_)
   refine Sx.G.p (.bool (x8 == 2)) ?_
   refine Sx.G.p (.bool (x8 == 2)) ?_
   refine Sx.G.nil (Sx.E.next ?_)
   cases hc11 : (x8 == 2)
   ·
    have hb11 := hc11
    refine Sx.C.no (by kernel_rfl) (by kernel_rfl) ?_
    refine Sx.C.skip (Sx.E.block_normal (Sx.E.next (Sx.C.seq ?_)))
    refine Sx.C.draw (.take 0 (.take 1 (.alone 2 (.alone 3 .nil)))) [vr b7 [.slice A6_0 z4.mem.length c6_0, .slice A6_1 z4.gs.length c6_1, .slice A6_2 z4.outs.length c6_2, .int .i64 z4.pd], vr b5 [.slice A4_0 z4.mem.length c4_0, .slice A4_1 z4.gs.length c4_1, .slice A4_2 z4.outs.length c4_2, .int .i64 z4.pd]] (fun w S => St.pick S [0, 4] _ rfl (by decide)) (by kernel_rfl) (by kernel_rfl) (by kernel_rfl) ?_
    refine Sx.GT.lw .m1 ?_
    refine Sx.GT.lw .m0 ?_
    refine Sx.GT.alone (Sx.Alone.sw [.slice A4_0 z4.mem.length c4_0, .slice A4_1 z4.gs.length c4_1, .slice A4_2 z4.outs.length c4_2, .int .i64 z4.pd] .a8 (fun w S => St.pick S [0, 4] _ rfl (by decide)) ?_)
    refine Sx.GT.alone (Sx.Alone.sw [.slice A6_0 z4.mem.length c6_0, .slice A6_1 z4.gs.length c6_1, .slice A6_2 z4.outs.length c6_2, .int .i64 z4.pd] .a7 (fun w S => St.pick S [0, 4] _ rfl (by decide)) ?_)
    refine Sx.GT.nil (Sx.E.next (Sx.C.ret ?_))
    refine Sx.E.retg2 (.agg #[.slice A4_0 z4.mem.length c4_0, .slice A4_1 z4.gs.length c4_1, .slice A4_2 z4.outs.length c4_2, .int .i64 z4.pd]) (.agg #[.slice A6_0 z4.mem.length c6_0, .slice A6_1 z4.gs.length c6_1, .slice A6_2 z4.outs.length c6_2, .int .i64 z4.pd]) rfl (Sx.IsRes.row b1 8 [.slice A4_0 z4.mem.length c4_0, .slice A4_1 z4.gs.length c4_1, .slice A4_2 z4.outs.length c4_2, .int .i64 z4.pd] (by kernel_rfl) rfl (by kernel_rfl) (by kernel_rfl)) (Sx.IsRes.row b2 7 [.slice A6_0 z4.mem.length c6_0, .slice A6_1 z4.gs.length c6_1, .slice A6_2 z4.outs.length c6_2, .int .i64 z4.pd] (by kernel_rfl) rfl (by kernel_rfl) (by kernel_rfl)) (fun w S => ?_)
    exact ⟨z4, _, ({ mem := z4.mem, gs := z4.gs, outs := z4.outs, pd := z4.pd } : bT), _, rfl, ⟨hg4.1, (Sx.St.owIn (r := (Sx.rRo wB)) S 5 rfl)⟩, ⟨⟨hg4.1.1, hg4.1.2.1, hg4.1.2.2.1, hg4.1.2.2.2⟩, (wB_rd_mk (g := ({ mem := z4.mem, gs := z4.gs, outs := z4.outs, pd := z4.pd } : bT)) (Sx.St.owIn S 1 rfl) (Sx.St.owIn S 2 rfl) (show rdLst rInt _ _ _ (z4.outs) _ from Sx.St.owIn (r := rLst 3 rInt) S 3 rfl))⟩, S.below⟩
   ·
    have hb11 := hc11
    refine Sx.C.yes (by kernel_rfl) (by kernel_rfl) ?_
    refine Sx.C.seq ?_
    refine Sx.C.draw (.take 0 (.take 1 (.alone 2 (.alone 3 (.alone 4 .nil))))) [vr b5 [.slice A4_0 z4.mem.length c4_0, .slice A4_1 z4.gs.length c4_1, .slice A4_2 z4.outs.length c4_2, .int .i64 z4.pd]] (fun w S => St.pick S [4] _ rfl (by decide)) (by kernel_rfl) (by kernel_rfl) (by kernel_rfl) ?_
    refine Sx.GT.lw .m0 ?_
    refine Sx.GT.p (.pointer (some ⟨g, 0, none⟩)) ?_
    refine Sx.GT.alone (Sx.Alone.c 31 #[.pointer (some ⟨g, 0, none⟩)] (fun w12 S => (kd_any w0 A n c g _ hn hcode (Sx.St.cur S 6 rfl)).mono fun e w12' hp => ?_))
    obtain ⟨z12, cs12, lo12, hi12, F12, hg12, rfl, hcur, hgr, hfr⟩ := hp
    obtain ⟨P12_0, P12_1, P12_2, e12, f12_0, f12_1, f12_2⟩ := wB_rd ((Sx.rRo wB).reads (hfr.says 0 _ rfl).1)
    subst e12
    obtain ⟨A12_0, c12_0, e12_0, -⟩ := lst_val f12_0
    subst e12_0
    obtain ⟨A12_1, c12_1, e12_1, -⟩ := lst_val f12_1
    subst e12_1
    obtain ⟨A12_2, c12_2, e12_2, -⟩ := lst_val f12_2
    subst e12_2
    refine ⟨_, _, rfl, Sx.St.joinD S (Sx.St.moved S 6 rfl hcur hgr) hfr, (fun w S => St.pick S [5] _ rfl (by decide)), ?_⟩
    clear S hcur hgr hfr f12_0 f12_1 f12_2
    refine Sx.GT.alone (Sx.Alone.sw [.slice A4_0 z4.mem.length c4_0, .slice A4_1 z4.gs.length c4_1, .slice A4_2 z4.outs.length c4_2, .int .i64 z4.pd] .a9 (fun w S => St.pick S [5] _ rfl (by decide)) ?_)
    refine Sx.GT.alone (Sx.Alone.sw [.slice A12_0 z12.mem.length c12_0, .slice A12_1 z12.gs.length c12_1, .slice A12_2 z12.outs.length c12_2, .int .i64 z12.pd] .a8 (fun w S => St.pick S [5] _ rfl (by decide)) ?_)
    refine Sx.GT.nil (Sx.E.next (Sx.C.ret (Sx.E.block_ret (Sx.E.then_ret ?_))))
    refine Sx.E.retg2 (.agg #[.slice A4_0 z4.mem.length c4_0, .slice A4_1 z4.gs.length c4_1, .slice A4_2 z4.outs.length c4_2, .int .i64 z4.pd]) (.agg #[.slice A12_0 z12.mem.length c12_0, .slice A12_1 z12.gs.length c12_1, .slice A12_2 z12.outs.length c12_2, .int .i64 z12.pd]) rfl (Sx.IsRes.row b1 9 [.slice A4_0 z4.mem.length c4_0, .slice A4_1 z4.gs.length c4_1, .slice A4_2 z4.outs.length c4_2, .int .i64 z4.pd] (by kernel_rfl) rfl (by kernel_rfl) (by kernel_rfl)) (Sx.IsRes.row b2 8 [.slice A12_0 z12.mem.length c12_0, .slice A12_1 z12.gs.length c12_1, .slice A12_2 z12.outs.length c12_2, .int .i64 z12.pd] (by kernel_rfl) rfl (by kernel_rfl) (by kernel_rfl)) (fun w S => ?_)
    exact ⟨z4, _, z12, _, rfl, ⟨hg4.1, (Sx.St.owIn (r := (Sx.rRo wB)) S 6 rfl)⟩, ⟨hg12.1, (Sx.St.owIn (r := (Sx.rRo wB)) S 0 rfl)⟩, S.below⟩
  ·
   have hb10 := hc10
   refine Sx.C.yes (by kernel_rfl) (by kernel_rfl) ?_
   refine Sx.C.region ?_
   refine Sx.G.p (.pointer (some ⟨b7, 2, none⟩)) ?_
   refine Sx.G.g (.slice A6_2 z4.outs.length c6_2) .m0 .m2 ?_
   refine Sx.G.made 3 [.int .i64 7] 1 (by kernel_rfl) (fun w => by kernel_rfl) (fun b13 => ?_)
   refine Sx.G.apps 4 rfl (z4.outs ++ [7]) (fun w S => S.box 0 rfl rfl 1 (Nat.le_refl _)) rfl ((z4.outs ++ [7]).length) (by simp) flat_int (.tmp 24) (.tmp 25) 28 1 8 rfl rfl (by kernel_rfl) (by kernel_rfl) rfl (by kernel_rfl) (by kernel_rfl) (by simp only [maxLen, List.length_nil, List.length_cons]; omega) (by simp only [List.length_nil, List.length_cons]; omega) (fun A14 c14 F14 hi14 hm14 => ?_)
   refine Sx.G.p (.pointer (some ⟨b7, 2, none⟩)) ?_
   refine Sx.G.s (.slice A14 ((z4.outs ++ [7]).length) c14) .a1 .a2 ?_
   refine Sx.G.nil (Sx.E.block_normal (Sx.E.next (Sx.C.seq ?_)))
   refine Sx.C.draw (.take 0 (.take 1 (.alone 2 (.alone 3 .nil)))) [vr b7 [.slice A6_0 z4.mem.length c6_0, .slice A6_1 z4.gs.length c6_1, .slice A14 ((z4.outs ++ [7]).length) c14, .int .i64 z4.pd], vr b5 [.slice A4_0 z4.mem.length c4_0, .slice A4_1 z4.gs.length c4_1, .slice A4_2 z4.outs.length c4_2, .int .i64 z4.pd]] (fun w S => St.pick S [1, 5] _ rfl (by decide)) (by kernel_rfl) (by kernel_rfl) (by kernel_rfl) ?_
   refine Sx.GT.lw .m1 ?_
   refine Sx.GT.lw .m0 ?_
   refine Sx.GT.alone (Sx.Alone.sw [.slice A4_0 z4.mem.length c4_0, .slice A4_1 z4.gs.length c4_1, .slice A4_2 z4.outs.length c4_2, .int .i64 z4.pd] .a9 (fun w S => St.pick S [1, 5] _ rfl (by decide)) ?_)
   refine Sx.GT.alone (Sx.Alone.sw [.slice A6_0 z4.mem.length c6_0, .slice A6_1 z4.gs.length c6_1, .slice A14 ((z4.outs ++ [7]).length) c14, .int .i64 z4.pd] .a8 (fun w S => St.pick S [1, 5] _ rfl (by decide)) ?_)
   refine Sx.GT.nil (Sx.E.next (Sx.C.ret ?_))
   refine Sx.E.retg2 (.agg #[.slice A4_0 z4.mem.length c4_0, .slice A4_1 z4.gs.length c4_1, .slice A4_2 z4.outs.length c4_2, .int .i64 z4.pd]) (.agg #[.slice A6_0 z4.mem.length c6_0, .slice A6_1 z4.gs.length c6_1, .slice A14 ((z4.outs ++ [7]).length) c14, .int .i64 z4.pd]) rfl (Sx.IsRes.row b1 9 [.slice A4_0 z4.mem.length c4_0, .slice A4_1 z4.gs.length c4_1, .slice A4_2 z4.outs.length c4_2, .int .i64 z4.pd] (by kernel_rfl) rfl (by kernel_rfl) (by kernel_rfl)) (Sx.IsRes.row b2 8 [.slice A6_0 z4.mem.length c6_0, .slice A6_1 z4.gs.length c6_1, .slice A14 ((z4.outs ++ [7]).length) c14, .int .i64 z4.pd] (by kernel_rfl) rfl (by kernel_rfl) (by kernel_rfl)) (fun w S => ?_)
   exact ⟨z4, _, ({ mem := z4.mem, gs := z4.gs, outs := z4.outs ++ [7], pd := z4.pd } : bT), _, rfl, ⟨hg4.1, (Sx.St.owIn (r := (Sx.rRo wB)) S 6 rfl)⟩, ⟨⟨hg4.1.1, hg4.1.2.1, ⟨by have := hol; show (z4.outs ++ [7]).length ≤ 50; simp only [List.length_append, List.length_cons, List.length_nil]; omega, fun q hq => by rcases List.mem_append.1 hq with h | h; exact hg4.1.2.2.1.2 q h; rw [List.mem_singleton.1 h]; exact (show (Lit.int .i64 7).wf = true by decide)⟩, hg4.1.2.2.2⟩, (wB_rd_mk (g := ({ mem := z4.mem, gs := z4.gs, outs := z4.outs ++ [7], pd := z4.pd } : bT)) (Sx.St.owIn S 2 rfl) (Sx.St.owIn S 3 rfl) (show rdLst rInt _ _ _ (z4.outs ++ [7]) _ from Sx.St.owIn (r := rLst 3 rInt) S 4 rfl))⟩, S.below⟩
 ·
  have hb9 := hc9
  refine Sx.C.yes (by kernel_rfl) (by kernel_rfl) ?_
  refine Sx.C.region ?_
  refine Sx.G.p (.pointer (some ⟨b7, 3, none⟩)) ?_
  refine Sx.G.g (.int .i64 z4.pd) .m0 .m3 ?_
  refine Sx.G.p (.int .i64 (IntKind.i64.wrap (z4.pd + 1))) ?_
  refine Sx.G.p (.pointer (some ⟨b7, 3, none⟩)) ?_
  refine Sx.G.s (.int .i64 (IntKind.i64.wrap (z4.pd + 1))) .a0 .a3 ?_
  refine Sx.G.nil (Sx.E.block_normal (Sx.E.next (Sx.C.seq ?_)))
  refine Sx.C.draw (.take 0 (.take 1 (.alone 2 (.alone 3 .nil)))) [vr b7 [.slice A6_0 z4.mem.length c6_0, .slice A6_1 z4.gs.length c6_1, .slice A6_2 z4.outs.length c6_2, .int .i64 (IntKind.i64.wrap (z4.pd + 1))], vr b5 [.slice A4_0 z4.mem.length c4_0, .slice A4_1 z4.gs.length c4_1, .slice A4_2 z4.outs.length c4_2, .int .i64 z4.pd]] (fun w S => St.pick S [0, 4] _ rfl (by decide)) (by kernel_rfl) (by kernel_rfl) (by kernel_rfl) ?_
  refine Sx.GT.lw .m1 ?_
  refine Sx.GT.lw .m0 ?_
  refine Sx.GT.alone (Sx.Alone.sw [.slice A4_0 z4.mem.length c4_0, .slice A4_1 z4.gs.length c4_1, .slice A4_2 z4.outs.length c4_2, .int .i64 z4.pd] .a8 (fun w S => St.pick S [0, 4] _ rfl (by decide)) ?_)
  refine Sx.GT.alone (Sx.Alone.sw [.slice A6_0 z4.mem.length c6_0, .slice A6_1 z4.gs.length c6_1, .slice A6_2 z4.outs.length c6_2, .int .i64 (IntKind.i64.wrap (z4.pd + 1))] .a7 (fun w S => St.pick S [0, 4] _ rfl (by decide)) ?_)
  refine Sx.GT.nil (Sx.E.next (Sx.C.ret ?_))
  refine Sx.E.retg2 (.agg #[.slice A4_0 z4.mem.length c4_0, .slice A4_1 z4.gs.length c4_1, .slice A4_2 z4.outs.length c4_2, .int .i64 z4.pd]) (.agg #[.slice A6_0 z4.mem.length c6_0, .slice A6_1 z4.gs.length c6_1, .slice A6_2 z4.outs.length c6_2, .int .i64 (IntKind.i64.wrap (z4.pd + 1))]) rfl (Sx.IsRes.row b1 8 [.slice A4_0 z4.mem.length c4_0, .slice A4_1 z4.gs.length c4_1, .slice A4_2 z4.outs.length c4_2, .int .i64 z4.pd] (by kernel_rfl) rfl (by kernel_rfl) (by kernel_rfl)) (Sx.IsRes.row b2 7 [.slice A6_0 z4.mem.length c6_0, .slice A6_1 z4.gs.length c6_1, .slice A6_2 z4.outs.length c6_2, .int .i64 (IntKind.i64.wrap (z4.pd + 1))] (by kernel_rfl) rfl (by kernel_rfl) (by kernel_rfl)) (fun w S => ?_)
  exact ⟨z4, _, ({ mem := z4.mem, gs := z4.gs, outs := z4.outs, pd := (IntKind.i64.wrap (z4.pd + 1)) } : bT), _, rfl, ⟨hg4.1, (Sx.St.owIn (r := (Sx.rRo wB)) S 5 rfl)⟩, ⟨⟨hg4.1.1, hg4.1.2.1, hg4.1.2.2.1, (show (Lit.int .i64 (IntKind.i64.wrap _)).wf = true from wf_wrap _ _)⟩, (wB_rd_mk (g := ({ mem := z4.mem, gs := z4.gs, outs := z4.outs, pd := (IntKind.i64.wrap (z4.pd + 1)) } : bT)) (Sx.St.owIn S 1 rfl) (Sx.St.owIn S 2 rfl) (show rdLst rInt _ _ _ (z4.outs) _ from Sx.St.owIn (r := rLst 3 rInt) S 3 rfl))⟩, S.below⟩
end Go.Proofs.YtldgadmpclgfhaaGreat.Kit
namespace Go.Proofs.YtldgadmpclgfhaaGreat.Guests
set_option maxHeartbeats 8000000
set_option maxRecDepth 100000
set_option maxRecDepth 100000
open Go.ChangeShapes Go.WideShapes Go.ChangeAt Go.RowKit
open Go.Proofs.YtldgadmpclgfhaaGreat.Base Go.Proofs.YtldgadmpclgfhaaGreat.Mem Go.Proofs.YtldgadmpclgfhaaGreat.Data Go.Proofs.YtldgadmpclgfhaaGreat.Slots Go.Proofs.YtldgadmpclgfhaaGreat.Ints Go.Proofs.YtldgadmpclgfhaaGreat.Ctls Go.Proofs.YtldgadmpclgfhaaGreat.Exits Go.Proofs.YtldgadmpclgfhaaGreat.Stt Go.Proofs.YtldgadmpclgfhaaGreat.Irqs Go.Proofs.YtldgadmpclgfhaaGreat.Inss
set_option linter.unusedVariables false
set_option linter.unusedSimpArgs false
theorem new_wf {l : List (Int × Int)} (h : l.length ≤ 20) (hw : Inss.wfJL l) : wfGuest (newG l) :=
 ⟨⟨Nat.le_trans h (by decide), hw⟩, (show (Lit.int .i64 0).wf = true by decide), (show (Lit.int .i64 0).wf = true by decide), ⟨(by simp [newG, Slots.nosL]), fun s hs => by have : s = (-1, 0) := (List.mem_replicate.1 hs).2; subst this; decide⟩, ⟨(by simp [newG, Slots.nosL]), fun s hs => by have : s = (-1, 0) := (List.mem_replicate.1 hs).2; subst this; decide⟩,
  ⟨(show (Lit.int .i64 0).wf = true by decide), (show (Lit.int .i64 0).wf = true by decide), trivial⟩, (show (Lit.int .i64 0).wf = true by decide), ⟨(show (Lit.int .i64 0).wf = true by decide), (show (Lit.int .i64 0).wf = true by decide), trivial, (show (Lit.int .i64 0).wf = true by decide)⟩, trivial, ⟨(by simp [newG]), fun s hs => by cases hs⟩⟩
theorem rd_nil (w : World) (lo hi : Nat) : rdLst (rPair rInt rInt) w lo hi [] [.slice none 0 0] := ⟨none, 0, [], rfl, Nat.le_refl _, rfl, Lies.nil⟩
end Go.Proofs.YtldgadmpclgfhaaGreat.Guests
namespace Go.Proofs.YtldgadmpclgfhaaGreat.Kit
set_option maxHeartbeats 8000000
set_option maxRecDepth 100000
set_option maxRecDepth 100000
open Go.ChangeShapes Go.WideShapes Go.ChangeAt Go.RowKit Go.Deep
open Go.Proofs.YtldgadmpclgfhaaGreat.Base Go.Proofs.YtldgadmpclgfhaaGreat.Mem Go.Proofs.YtldgadmpclgfhaaGreat.Data Go.Proofs.YtldgadmpclgfhaaGreat.Stt Go.Proofs.YtldgadmpclgfhaaGreat.Guests Go.Proofs.YtldgadmpclgfhaaGreat.Ctls Go.Proofs.YtldgadmpclgfhaaGreat.Exits
set_option linter.unusedVariables false
set_option linter.unusedSimpArgs false
theorem lawx_ints (xs ys : (List Int)) (A : Option Addr) (c : Nat) (B : Option Addr) (d : Nat) (w : World) (hc : (rLsw rInt).cap xs) (hd : (rLsw rInt).cap ys) (h : rdLst rInt w 0 w.heap.size xs [.slice A xs.length c]) (j : rdLst rInt w 0 w.heap.size ys [.slice B ys.length d]) : Calls Tryz.prog 43 #[.slice A xs.length c, .slice B ys.length d] w (fun e w' => e = .returned (.bool (eqv xs ys)) ∧ Below w.heap.size w w') := by
 obtain ⟨hl, hcx⟩ := hc
 obtain ⟨hm, hcy⟩ := hd
 refine Sx.enter (args := [.slice A xs.length c, .slice B ys.length d]) Tryz.func43 rfl Tryz.ntmps43 rfl ?_
 refine Sx.C.seq (Sx.C.region ?_)
 refine Sx.G.p (.bool false) ?_
 refine Sx.G.nil (Sx.E.next (Sx.C.seq (Sx.C.seq (Sx.C.region ?_))))
 refine Sx.G.p (.slice A xs.length c) ?_
 refine Sx.G.p (.int .i64 ((xs.length : Nat) : Int)) ?_
 refine Sx.G.p (.slice B ys.length d) ?_
 refine Sx.G.p (.int .i64 ((ys.length : Nat) : Int)) ?_
 refine Sx.G.p (.bool (((xs.length : Nat) : Int) != ((ys.length : Nat) : Int))) ?_
 refine Sx.G.nil (Sx.E.next ?_)
 cases hc1 : (((xs.length : Nat) : Int) != ((ys.length : Nat) : Int))
 ·
  have hb1 := hc1
  have hlen : xs.length = ys.length := by have := bne_eq_false_iff_eq.1 hc1; omega
  refine Sx.C.no (by kernel_rfl) (by kernel_rfl) ?_
  refine Sx.C.skip (Sx.E.next (Sx.C.seq (Sx.C.seq (Sx.C.region ?_))))
  refine Sx.G.p (.int .i64 0) ?_
  refine Sx.G.nil (Sx.E.next (Sx.C.block ?_))
  refine Sx.C.loop (α := Nat) (fun i => i ≤ xs.length ∧ xs.take i = ys.take i) (fun i => [(5, .int .i64 (i : Int)), (0, .slice A xs.length c), (1, .slice B ys.length d), (4, .bool false)]) (fun i => []) (fun i => xs.length - i) 0 ⟨Nat.zero_le _, rfl⟩ (fun a hA => (Sx.Ag.and hA (Sx.Ag.and hA (Sx.Ag.and hA (Sx.Ag.and hA (Sx.Ag.none hA) _ _ (by kernel_rfl)) _ _ (by kernel_rfl)) _ _ (by kernel_rfl)) _ _ (by kernel_rfl))) (fun w S => S) (fun i hx => ?_)
  have hxi := hx.1
  refine Sx.C.seq (Sx.C.seq (Sx.C.region ?_))
  refine Sx.G.p (.int .i64 (i : Int)) ?_
  refine Sx.G.p (.slice A xs.length c) ?_
  refine Sx.G.p (.int .i64 ((xs.length : Nat) : Int)) ?_
  refine Sx.G.p (.bool (decide ((i : Int) < ((xs.length : Nat) : Int)))) ?_
  refine Sx.G.nil (Sx.E.next ?_)
  cases hc2 : (decide ((i : Int) < ((xs.length : Nat) : Int)))
  ·
   have hb2 := hc2
   replace hc2 := of_decide_eq_false hc2
   refine Sx.C.no (by kernel_rfl) (by kernel_rfl) ?_
   refine Sx.C.exit (Sx.E.then_exit (Sx.E.then_exit (Sx.E.block_hit (Sx.E.next (Sx.C.seq (Sx.C.region ?_))))))
   refine Sx.G.p (.bool true) ?_
   refine Sx.G.nil (Sx.E.next (Sx.C.ret ?_))
   refine Sx.E.ret1 (.bool true) rfl (by kernel_rfl) (fun w S => ?_)
   have he : xs = ys := by have h2 := hx.2; rwa [List.take_of_length_le (by omega), List.take_of_length_le (by omega)] at h2
   exact ⟨by rw [eqv_true he], S.below⟩
  ·
   have hb2 := hc2
   replace hc2 := of_decide_eq_true hc2
   refine Sx.C.yes (by kernel_rfl) (by kernel_rfl) ?_
   refine Sx.C.skip (Sx.E.next (Sx.C.seq (Sx.C.block (Sx.C.seq ?_))))
   refine Sx.C.draw (.take 0 (.take 1 (.take 2 (.take 3 (.take 4 (.take 5 (.take 6 (.take 7 (.take 8 .nil))))))))) [] (fun w S => St.pick S [] _ rfl (by decide)) (by kernel_rfl) (by kernel_rfl) (by kernel_rfl) ?_
   refine Sx.GT.p (.slice A xs.length c) ?_
   refine Sx.GT.p (.int .i64 (i : Int)) ?_
   obtain ⟨b3, f3, es3, eA3, hr3, hl3, hm3⟩ := Sx.old_elem (by decide) h i (by omega)
   subst eA3
   obtain ⟨x3, hx3⟩ : ∃ z_, z_ = (xs[i]'(by omega)) := ⟨_, rfl⟩
   rw [← hx3] at hr3
   obtain rfl := Kit.rd_Int hr3
   refine Sx.GT.elem 28 3 (.tmp 17) (.tmp 18) 1 8 b3 f3 xs.length c i 2 (by rfl) (by rfl) (by kernel_rfl) (by kernel_rfl) (by kernel_rfl) (by kernel_rfl) (by omega) ?_
   refine Sx.GT.ldr1 3 (.tmp 19) b3 ((f3 + i * 1) + 0) (.int .i64 x3) 3 (by rfl) (by rfl) (by kernel_rfl) (by kernel_rfl) (fun w S => hm3 w _ S 0 _ rfl) (by kernel_rfl) ?_
   refine Sx.GT.p (.slice B ys.length d) ?_
   refine Sx.GT.p (.int .i64 (i : Int)) ?_
   obtain ⟨b4, f4, es4, eA4, hr4, hl4, hm4⟩ := Sx.old_elem (by decide) j i (by omega)
   subst eA4
   obtain ⟨x4, hx4⟩ : ∃ z_, z_ = (ys[i]'(by omega)) := ⟨_, rfl⟩
   rw [← hx4] at hr4
   obtain rfl := Kit.rd_Int hr4
   refine Sx.GT.elem 28 3 (.tmp 21) (.tmp 22) 1 8 b4 f4 ys.length d i 6 (by rfl) (by rfl) (by kernel_rfl) (by kernel_rfl) (by kernel_rfl) (by kernel_rfl) (by omega) ?_
   refine Sx.GT.ldr1 3 (.tmp 23) b4 ((f4 + i * 1) + 0) (.int .i64 x4) 7 (by rfl) (by rfl) (by kernel_rfl) (by kernel_rfl) (fun w S => hm4 w _ S 0 _ rfl) (by kernel_rfl) ?_
   refine Sx.GT.p (.bool (x3 != x4)) ?_
   refine Sx.GT.nil (Sx.E.next ?_)
   cases hc5 : (x3 != x4)
   ·
    have hb5 := hc5
    refine Sx.C.no (by kernel_rfl) (by kernel_rfl) ?_
    refine Sx.C.skip (Sx.E.block_normal (Sx.E.next (Sx.C.region ?_)))
    refine Sx.G.p (.int .i64 (i : Int)) ?_
    refine Sx.G.q (.int .i64 (IntKind.i64.wrap ((i : Int) + 1))) (.int .i64 ((i + 1 : Nat) : Int)) (congrArg (Value.int .i64) (Sx.wrap_up i (by omega))) ?_
    refine Sx.G.p (.int .i64 ((i + 1 : Nat) : Int)) ?_
    refine Sx.G.nil ?_
    have hup : xs.take (i + 1) = ys.take (i + 1) := take_up (by omega) (by omega) hx.2 (by rw [← hx3, ← hx4]; exact bne_eq_false_iff_eq.1 hc5)
    exact Sx.E.again (i + 1) ⟨by omega, hup⟩ (by omega) (fun a hA => (Sx.Ag.and hA (Sx.Ag.and hA (Sx.Ag.and hA (Sx.Ag.and hA (Sx.Ag.none hA) _ _ (by kernel_rfl)) _ _ (by kernel_rfl)) _ _ (by kernel_rfl)) _ _ (by kernel_rfl))) (fun w S => S)
   ·
    have hb5 := hc5
    refine Sx.C.yes (by kernel_rfl) (by kernel_rfl) ?_
    refine Sx.C.seq (Sx.C.region ?_)
    refine Sx.G.p (.bool false) ?_
    refine Sx.G.nil (Sx.E.next (Sx.C.ret (Sx.E.block_ret (Sx.E.then_ret (Sx.E.then_ret (Sx.E.block_ret (Sx.E.then_ret ?_)))))))
    refine Sx.E.ret1 (.bool false) rfl (by kernel_rfl) (fun w S => ?_)
    have hne : xs ≠ ys := take_ne (xs := xs) (ys := ys) (i := i) (by omega) (by omega) (by rw [← hx3, ← hx4]; exact bne_iff_ne.1 hc5)
    exact ⟨by rw [eqv_false hne], S.below⟩
 ·
  have hb1 := hc1
  refine Sx.C.yes (by kernel_rfl) (by kernel_rfl) ?_
  refine Sx.C.seq (Sx.C.region ?_)
  refine Sx.G.p (.bool false) ?_
  refine Sx.G.nil (Sx.E.next (Sx.C.ret (Sx.E.then_ret ?_)))
  refine Sx.E.ret1 (.bool false) rfl (by kernel_rfl) (fun w S => ?_)
  have hne : xs ≠ ys := fun e => by subst e; simp at *
  exact ⟨by rw [eqv_false hne], S.below⟩
theorem lawx_lists (xs ys : (List (List Int))) (A : Option Addr) (c : Nat) (B : Option Addr) (d : Nat) (w : World) (hc : (rLsw (rLsw rInt)).cap xs) (hd : (rLsw (rLsw rInt)).cap ys) (h : rdLst (rLsw rInt) w 0 w.heap.size xs [.slice A xs.length c]) (j : rdLst (rLsw rInt) w 0 w.heap.size ys [.slice B ys.length d]) : Calls Tryz.prog 41 #[.slice A xs.length c, .slice B ys.length d] w (fun e w' => e = .returned (.bool (eqv xs ys)) ∧ Below w.heap.size w w') := by
 obtain ⟨hl, hcx⟩ := hc
 obtain ⟨hm, hcy⟩ := hd
 refine Sx.enter (args := [.slice A xs.length c, .slice B ys.length d]) Tryz.func41 rfl Tryz.ntmps41 rfl ?_
 refine Sx.C.seq (Sx.C.region ?_)
 refine Sx.G.p (.bool false) ?_
 refine Sx.G.nil (Sx.E.next (Sx.C.seq (Sx.C.seq (Sx.C.region ?_))))
 refine Sx.G.p (.slice A xs.length c) ?_
 refine Sx.G.p (.int .i64 ((xs.length : Nat) : Int)) ?_
 refine Sx.G.p (.slice B ys.length d) ?_
 refine Sx.G.p (.int .i64 ((ys.length : Nat) : Int)) ?_
 refine Sx.G.p (.bool (((xs.length : Nat) : Int) != ((ys.length : Nat) : Int))) ?_
 refine Sx.G.nil (Sx.E.next ?_)
 cases hc1 : (((xs.length : Nat) : Int) != ((ys.length : Nat) : Int))
 ·
  have hb1 := hc1
  have hlen : xs.length = ys.length := by have := bne_eq_false_iff_eq.1 hc1; omega
  refine Sx.C.no (by kernel_rfl) (by kernel_rfl) ?_
  refine Sx.C.skip (Sx.E.next (Sx.C.seq (Sx.C.seq (Sx.C.region ?_))))
  refine Sx.G.p (.int .i64 0) ?_
  refine Sx.G.nil (Sx.E.next (Sx.C.block ?_))
  refine Sx.C.loop (α := Nat) (fun i => i ≤ xs.length ∧ xs.take i = ys.take i) (fun i => [(5, .int .i64 (i : Int)), (0, .slice A xs.length c), (1, .slice B ys.length d), (4, .bool false)]) (fun i => []) (fun i => xs.length - i) 0 ⟨Nat.zero_le _, rfl⟩ (fun a hA => (Sx.Ag.and hA (Sx.Ag.and hA (Sx.Ag.and hA (Sx.Ag.and hA (Sx.Ag.none hA) _ _ (by kernel_rfl)) _ _ (by kernel_rfl)) _ _ (by kernel_rfl)) _ _ (by kernel_rfl))) (fun w S => S) (fun i hx => ?_)
  have hxi := hx.1
  refine Sx.C.seq (Sx.C.seq (Sx.C.region ?_))
  refine Sx.G.p (.int .i64 (i : Int)) ?_
  refine Sx.G.p (.slice A xs.length c) ?_
  refine Sx.G.p (.int .i64 ((xs.length : Nat) : Int)) ?_
  refine Sx.G.p (.bool (decide ((i : Int) < ((xs.length : Nat) : Int)))) ?_
  refine Sx.G.nil (Sx.E.next ?_)
  cases hc2 : (decide ((i : Int) < ((xs.length : Nat) : Int)))
  ·
   have hb2 := hc2
   replace hc2 := of_decide_eq_false hc2
   refine Sx.C.no (by kernel_rfl) (by kernel_rfl) ?_
   refine Sx.C.exit (Sx.E.then_exit (Sx.E.then_exit (Sx.E.block_hit (Sx.E.next (Sx.C.seq (Sx.C.region ?_))))))
   refine Sx.G.p (.bool true) ?_
   refine Sx.G.nil (Sx.E.next (Sx.C.ret ?_))
   refine Sx.E.ret1 (.bool true) rfl (by kernel_rfl) (fun w S => ?_)
   have he : xs = ys := by have h2 := hx.2; rwa [List.take_of_length_le (by omega), List.take_of_length_le (by omega)] at h2
   exact ⟨by rw [eqv_true he], S.below⟩
  ·
   have hb2 := hc2
   replace hc2 := of_decide_eq_true hc2
   refine Sx.C.yes (by kernel_rfl) (by kernel_rfl) ?_
   refine Sx.C.skip (Sx.E.next (Sx.C.seq (Sx.C.block (Sx.C.seq ?_))))
   refine Sx.C.draw (.take 0 (.take 1 (.take 2 (.take 3 (.take 4 (.take 5 (.take 6 (.take 7 (.alone 8 (.take 9 .nil)))))))))) [] (fun w S => St.pick S [] _ rfl (by decide)) (by kernel_rfl) (by kernel_rfl) (by kernel_rfl) ?_
   refine Sx.GT.p (.slice A xs.length c) ?_
   refine Sx.GT.p (.int .i64 (i : Int)) ?_
   obtain ⟨b3, f3, es3, eA3, hr3, hl3, hm3⟩ := Sx.old_elem (by decide) h i (by omega)
   subst eA3
   obtain ⟨x3, hx3⟩ : ∃ z_, z_ = (xs[i]'(by omega)) := ⟨_, rfl⟩
   rw [← hx3] at hr3
   replace hr3 : rdLst rInt w 0 w.heap.size x3 es3 := hr3
   obtain ⟨P3, rfl⟩ := lst_rd hr3
   obtain ⟨A3, c3, e3, -⟩ := lst_val hr3
   subst e3
   refine Sx.GT.elem 26 28 (.tmp 17) (.tmp 18) 1 24 b3 f3 xs.length c i 2 (by rfl) (by rfl) (by kernel_rfl) (by kernel_rfl) (by kernel_rfl) (by kernel_rfl) (by omega) ?_
   refine Sx.GT.ldr1 28 (.tmp 19) b3 ((f3 + i * 1) + 0) (.slice A3 x3.length c3) 3 (by rfl) (by rfl) (by kernel_rfl) (by kernel_rfl) (fun w S => hm3 w _ S 0 _ rfl) (by kernel_rfl) ?_
   refine Sx.GT.p (.slice B ys.length d) ?_
   refine Sx.GT.p (.int .i64 (i : Int)) ?_
   obtain ⟨b4, f4, es4, eA4, hr4, hl4, hm4⟩ := Sx.old_elem (by decide) j i (by omega)
   subst eA4
   obtain ⟨x4, hx4⟩ : ∃ z_, z_ = (ys[i]'(by omega)) := ⟨_, rfl⟩
   rw [← hx4] at hr4
   replace hr4 : rdLst rInt w 0 w.heap.size x4 es4 := hr4
   obtain ⟨P4, rfl⟩ := lst_rd hr4
   obtain ⟨A4, c4, e4, -⟩ := lst_val hr4
   subst e4
   refine Sx.GT.elem 26 28 (.tmp 21) (.tmp 22) 1 24 b4 f4 ys.length d i 6 (by rfl) (by rfl) (by kernel_rfl) (by kernel_rfl) (by kernel_rfl) (by kernel_rfl) (by omega) ?_
   refine Sx.GT.ldr1 28 (.tmp 23) b4 ((f4 + i * 1) + 0) (.slice A4 x4.length c4) 7 (by rfl) (by rfl) (by kernel_rfl) (by kernel_rfl) (fun w S => hm4 w _ S 0 _ rfl) (by kernel_rfl) ?_
   refine Sx.GT.alone (Sx.Alone.cp 43 #[.slice A3 x3.length c3, .slice A4 x4.length c4] (.bool (eqv x3 x4)) (fun w S => by exact lawx_ints x3 x4 A3 c3 A4 c4 _ (hcx _ (hx3 ▸ List.getElem_mem _)) (hcy _ (hx4 ▸ List.getElem_mem _)) (St.old (r := (rLsw rInt)) S hr3) (St.old (r := (rLsw rInt)) S hr4)) (fun w S => St.pick S [] _ rfl (by decide)) ?_)
   refine Sx.GT.p (.bool (!(eqv x3 x4))) ?_
   refine Sx.GT.nil (Sx.E.next ?_)
   cases hc5 : (eqv x3 x4)
   ·
    have hb5 := hc5
    refine Sx.C.yes (by kernel_rfl) (by kernel_rfl) ?_
    refine Sx.C.seq (Sx.C.region ?_)
    refine Sx.G.p (.bool false) ?_
    refine Sx.G.nil (Sx.E.next (Sx.C.ret (Sx.E.block_ret (Sx.E.then_ret (Sx.E.then_ret (Sx.E.block_ret (Sx.E.then_ret ?_)))))))
    refine Sx.E.ret1 (.bool false) rfl (by kernel_rfl) (fun w S => ?_)
    have hne : xs ≠ ys := take_ne (xs := xs) (ys := ys) (i := i) (by omega) (by omega) (by rw [← hx3, ← hx4]; exact ne_of_eqv hc5)
    exact ⟨by rw [eqv_false hne], S.below⟩
   ·
    have hb5 := hc5
    refine Sx.C.no (by kernel_rfl) (by kernel_rfl) ?_
    refine Sx.C.skip (Sx.E.block_normal (Sx.E.next (Sx.C.region ?_)))
    refine Sx.G.p (.int .i64 (i : Int)) ?_
    refine Sx.G.q (.int .i64 (IntKind.i64.wrap ((i : Int) + 1))) (.int .i64 ((i + 1 : Nat) : Int)) (congrArg (Value.int .i64) (Sx.wrap_up i (by omega))) ?_
    refine Sx.G.p (.int .i64 ((i + 1 : Nat) : Int)) ?_
    refine Sx.G.nil ?_
    have hup : xs.take (i + 1) = ys.take (i + 1) := take_up (by omega) (by omega) hx.2 (by rw [← hx3, ← hx4]; exact eqv_iff.1 hc5)
    exact Sx.E.again (i + 1) ⟨by omega, hup⟩ (by omega) (fun a hA => (Sx.Ag.and hA (Sx.Ag.and hA (Sx.Ag.and hA (Sx.Ag.and hA (Sx.Ag.none hA) _ _ (by kernel_rfl)) _ _ (by kernel_rfl)) _ _ (by kernel_rfl)) _ _ (by kernel_rfl))) (fun w S => S)
 ·
  have hb1 := hc1
  refine Sx.C.yes (by kernel_rfl) (by kernel_rfl) ?_
  refine Sx.C.seq (Sx.C.region ?_)
  refine Sx.G.p (.bool false) ?_
  refine Sx.G.nil (Sx.E.next (Sx.C.ret (Sx.E.then_ret ?_)))
  refine Sx.E.ret1 (.bool false) rfl (by kernel_rfl) (fun w S => ?_)
  have hne : xs ≠ ys := fun e => by subst e; simp at *
  exact ⟨by rw [eqv_false hne], S.below⟩
theorem lawx_gs (xs ys : (List gT)) (A : Option Addr) (c : Nat) (B : Option Addr) (d : Nat) (w : World) (hc : (rLsw wG).cap xs) (hd : (rLsw wG).cap ys) (h : rdLst wG w 0 w.heap.size xs [.slice A xs.length c]) (j : rdLst wG w 0 w.heap.size ys [.slice B ys.length d]) : Calls Tryz.prog 42 #[.slice A xs.length c, .slice B ys.length d] w (fun e w' => e = .returned (.bool (eqv xs ys)) ∧ Below w.heap.size w w') := by
 obtain ⟨hl, hcx⟩ := hc
 obtain ⟨hm, hcy⟩ := hd
 refine Sx.enter (args := [.slice A xs.length c, .slice B ys.length d]) Tryz.func42 rfl Tryz.ntmps42 rfl ?_
 refine Sx.C.seq (Sx.C.region ?_)
 refine Sx.G.p (.bool false) ?_
 refine Sx.G.nil (Sx.E.next (Sx.C.seq (Sx.C.seq (Sx.C.region ?_))))
 refine Sx.G.p (.slice A xs.length c) ?_
 refine Sx.G.p (.int .i64 ((xs.length : Nat) : Int)) ?_
 refine Sx.G.p (.slice B ys.length d) ?_
 refine Sx.G.p (.int .i64 ((ys.length : Nat) : Int)) ?_
 refine Sx.G.p (.bool (((xs.length : Nat) : Int) != ((ys.length : Nat) : Int))) ?_
 refine Sx.G.nil (Sx.E.next ?_)
 cases hc1 : (((xs.length : Nat) : Int) != ((ys.length : Nat) : Int))
 ·
  have hb1 := hc1
  have hlen : xs.length = ys.length := by have := bne_eq_false_iff_eq.1 hc1; omega
  refine Sx.C.no (by kernel_rfl) (by kernel_rfl) ?_
  refine Sx.C.skip (Sx.E.next (Sx.C.seq (Sx.C.seq (Sx.C.region ?_))))
  refine Sx.G.p (.int .i64 0) ?_
  refine Sx.G.nil (Sx.E.next (Sx.C.block ?_))
  refine Sx.C.loop (α := Nat) (fun i => i ≤ xs.length ∧ xs.take i = ys.take i) (fun i => [(5, .int .i64 (i : Int)), (0, .slice A xs.length c), (1, .slice B ys.length d), (4, .bool false)]) (fun i => []) (fun i => xs.length - i) 0 ⟨Nat.zero_le _, rfl⟩ (fun a hA => (Sx.Ag.and hA (Sx.Ag.and hA (Sx.Ag.and hA (Sx.Ag.and hA (Sx.Ag.none hA) _ _ (by kernel_rfl)) _ _ (by kernel_rfl)) _ _ (by kernel_rfl)) _ _ (by kernel_rfl))) (fun w S => S) (fun i hx => ?_)
  have hxi := hx.1
  refine Sx.C.seq (Sx.C.seq (Sx.C.region ?_))
  refine Sx.G.p (.int .i64 (i : Int)) ?_
  refine Sx.G.p (.slice A xs.length c) ?_
  refine Sx.G.p (.int .i64 ((xs.length : Nat) : Int)) ?_
  refine Sx.G.p (.bool (decide ((i : Int) < ((xs.length : Nat) : Int)))) ?_
  refine Sx.G.nil (Sx.E.next ?_)
  cases hc2 : (decide ((i : Int) < ((xs.length : Nat) : Int)))
  ·
   have hb2 := hc2
   replace hc2 := of_decide_eq_false hc2
   refine Sx.C.no (by kernel_rfl) (by kernel_rfl) ?_
   refine Sx.C.exit (Sx.E.then_exit (Sx.E.then_exit (Sx.E.block_hit (Sx.E.next (Sx.C.seq (Sx.C.region ?_))))))
   refine Sx.G.p (.bool true) ?_
   refine Sx.G.nil (Sx.E.next (Sx.C.ret ?_))
   refine Sx.E.ret1 (.bool true) rfl (by kernel_rfl) (fun w S => ?_)
   have he : xs = ys := by have h2 := hx.2; rwa [List.take_of_length_le (by omega), List.take_of_length_le (by omega)] at h2
   exact ⟨by rw [eqv_true he], S.below⟩
  ·
   have hb2 := hc2
   replace hc2 := of_decide_eq_true hc2
   refine Sx.C.yes (by kernel_rfl) (by kernel_rfl) ?_
   refine Sx.C.skip (Sx.E.next (Sx.C.seq (Sx.C.block (Sx.C.seq ?_))))
   refine Sx.C.draw (.take 0 (.take 1 (.take 2 (.take 3 (.take 4 (.take 5 (.take 6 (.take 7 (.alone 8 (.take 9 .nil)))))))))) [] (fun w S => St.pick S [] _ rfl (by decide)) (by kernel_rfl) (by kernel_rfl) (by kernel_rfl) ?_
   refine Sx.GT.p (.slice A xs.length c) ?_
   refine Sx.GT.p (.int .i64 (i : Int)) ?_
   obtain ⟨b3, f3, es3, eA3, hr3, hl3, hm3⟩ := Sx.old_elem (by decide) h i (by omega)
   subst eA3
   obtain ⟨x3, hx3⟩ : ∃ z_, z_ = (xs[i]'(by omega)) := ⟨_, rfl⟩
   rw [← hx3] at hr3
   have hR3 := hr3
   obtain ⟨P3_0, P3_1, P3_2, P3_3, rfl, hf3_0, hf3_1, hf3_2, hf3_3⟩ := wG_rd hr3
   obtain ⟨A3_0, c3_0, e3_0, -⟩ := lst_val hf3_0
   subst e3_0
   obtain ⟨A3_1, c3_1, e3_1, -⟩ := lst_val hf3_1
   subst e3_1
   obtain ⟨A3_2, c3_2, e3_2, -⟩ := lst_val hf3_2
   subst e3_2
   obtain ⟨A3_3, c3_3, e3_3, -⟩ := lst_val hf3_3
   subst e3_3
   refine Sx.GT.elem 27 39 (.tmp 17) (.tmp 18) 15 184 b3 f3 xs.length c i 2 (by rfl) (by rfl) (by kernel_rfl) (by kernel_rfl) (by kernel_rfl) (by kernel_rfl) (by omega) ?_
   refine Sx.GT.ldr 39 (.tmp 19) b3 (f3 + i * 15) [.slice A3_0 x3.prog.length c3_0, .int .i64 x3.a, .int .i64 x3.pc, .slice A3_1 x3.wr.length c3_1, .slice A3_2 x3.lv.length c3_2, .int .i64 x3.t.1, .int .i64 x3.t.2.1, .bool x3.t.2.2, .int .i64 x3.pd, .int .i64 x3.x.1, .int .i64 x3.x.2.1, .bool x3.x.2.2.1, .int .i64 x3.x.2.2.2, .bool x3.hl, .slice A3_3 x3.seen.length c3_3] 3 (by rfl) (by rfl) (by kernel_rfl) (by kernel_rfl) (fun w S => hm3 w _ S) (by kernel_rfl) (by kernel_rfl) ?_
   refine Sx.GT.p (.slice B ys.length d) ?_
   refine Sx.GT.p (.int .i64 (i : Int)) ?_
   obtain ⟨b4, f4, es4, eA4, hr4, hl4, hm4⟩ := Sx.old_elem (by decide) j i (by omega)
   subst eA4
   obtain ⟨x4, hx4⟩ : ∃ z_, z_ = (ys[i]'(by omega)) := ⟨_, rfl⟩
   rw [← hx4] at hr4
   have hR4 := hr4
   obtain ⟨P4_0, P4_1, P4_2, P4_3, rfl, hf4_0, hf4_1, hf4_2, hf4_3⟩ := wG_rd hr4
   obtain ⟨A4_0, c4_0, e4_0, -⟩ := lst_val hf4_0
   subst e4_0
   obtain ⟨A4_1, c4_1, e4_1, -⟩ := lst_val hf4_1
   subst e4_1
   obtain ⟨A4_2, c4_2, e4_2, -⟩ := lst_val hf4_2
   subst e4_2
   obtain ⟨A4_3, c4_3, e4_3, -⟩ := lst_val hf4_3
   subst e4_3
   refine Sx.GT.elem 27 39 (.tmp 21) (.tmp 22) 15 184 b4 f4 ys.length d i 6 (by rfl) (by rfl) (by kernel_rfl) (by kernel_rfl) (by kernel_rfl) (by kernel_rfl) (by omega) ?_
   refine Sx.GT.ldr 39 (.tmp 23) b4 (f4 + i * 15) [.slice A4_0 x4.prog.length c4_0, .int .i64 x4.a, .int .i64 x4.pc, .slice A4_1 x4.wr.length c4_1, .slice A4_2 x4.lv.length c4_2, .int .i64 x4.t.1, .int .i64 x4.t.2.1, .bool x4.t.2.2, .int .i64 x4.pd, .int .i64 x4.x.1, .int .i64 x4.x.2.1, .bool x4.x.2.2.1, .int .i64 x4.x.2.2.2, .bool x4.hl, .slice A4_3 x4.seen.length c4_3] 7 (by rfl) (by rfl) (by kernel_rfl) (by kernel_rfl) (fun w S => hm4 w _ S) (by kernel_rfl) (by kernel_rfl) ?_
   refine Sx.GT.alone (Sx.Alone.cp 18 #[.agg #[.slice A3_0 x3.prog.length c3_0, .int .i64 x3.a, .int .i64 x3.pc, .slice A3_1 x3.wr.length c3_1, .slice A3_2 x3.lv.length c3_2, .int .i64 x3.t.1, .int .i64 x3.t.2.1, .bool x3.t.2.2, .int .i64 x3.pd, .int .i64 x3.x.1, .int .i64 x3.x.2.1, .bool x3.x.2.2.1, .int .i64 x3.x.2.2.2, .bool x3.hl, .slice A3_3 x3.seen.length c3_3], .agg #[.slice A4_0 x4.prog.length c4_0, .int .i64 x4.a, .int .i64 x4.pc, .slice A4_1 x4.wr.length c4_1, .slice A4_2 x4.lv.length c4_2, .int .i64 x4.t.1, .int .i64 x4.t.2.1, .bool x4.t.2.2, .int .i64 x4.pd, .int .i64 x4.x.1, .int .i64 x4.x.2.1, .bool x4.x.2.2.1, .int .i64 x4.x.2.2.2, .bool x4.hl, .slice A4_3 x4.seen.length c4_3]] (.bool (eqv x3 x4)) (fun w S => by exact ((Guests.law_sameG x3 x4 _ _ _ (cap_G (hcx _ (hx3 ▸ List.getElem_mem _))) (cap_G (hcy _ (hx4 ▸ List.getElem_mem _))) (rd_G (St.old S hR3)) (rd_G (St.old S hR4))).mono fun e w' h => And.intro (h.1.trans (by rw [sameG_eqv])) h.2)) (fun w S => St.pick S [] _ rfl (by decide)) ?_)
   refine Sx.GT.p (.bool (!(eqv x3 x4))) ?_
   refine Sx.GT.nil (Sx.E.next ?_)
   cases hc5 : (eqv x3 x4)
   ·
    have hb5 := hc5
    refine Sx.C.yes (by kernel_rfl) (by kernel_rfl) ?_
    refine Sx.C.seq (Sx.C.region ?_)
    refine Sx.G.p (.bool false) ?_
    refine Sx.G.nil (Sx.E.next (Sx.C.ret (Sx.E.block_ret (Sx.E.then_ret (Sx.E.then_ret (Sx.E.block_ret (Sx.E.then_ret ?_)))))))
    refine Sx.E.ret1 (.bool false) rfl (by kernel_rfl) (fun w S => ?_)
    have hne : xs ≠ ys := take_ne (xs := xs) (ys := ys) (i := i) (by omega) (by omega) (by rw [← hx3, ← hx4]; exact ne_of_eqv hc5)
    exact ⟨by rw [eqv_false hne], S.below⟩
   ·
    have hb5 := hc5
    refine Sx.C.no (by kernel_rfl) (by kernel_rfl) ?_
    refine Sx.C.skip (Sx.E.block_normal (Sx.E.next (Sx.C.region ?_)))
    refine Sx.G.p (.int .i64 (i : Int)) ?_
    refine Sx.G.q (.int .i64 (IntKind.i64.wrap ((i : Int) + 1))) (.int .i64 ((i + 1 : Nat) : Int)) (congrArg (Value.int .i64) (Sx.wrap_up i (by omega))) ?_
    refine Sx.G.p (.int .i64 ((i + 1 : Nat) : Int)) ?_
    refine Sx.G.nil ?_
    have hup : xs.take (i + 1) = ys.take (i + 1) := take_up (by omega) (by omega) hx.2 (by rw [← hx3, ← hx4]; exact eqv_iff.1 hc5)
    exact Sx.E.again (i + 1) ⟨by omega, hup⟩ (by omega) (fun a hA => (Sx.Ag.and hA (Sx.Ag.and hA (Sx.Ag.and hA (Sx.Ag.and hA (Sx.Ag.none hA) _ _ (by kernel_rfl)) _ _ (by kernel_rfl)) _ _ (by kernel_rfl)) _ _ (by kernel_rfl))) (fun w S => S)
 ·
  have hb1 := hc1
  refine Sx.C.yes (by kernel_rfl) (by kernel_rfl) ?_
  refine Sx.C.seq (Sx.C.region ?_)
  refine Sx.G.p (.bool false) ?_
  refine Sx.G.nil (Sx.E.next (Sx.C.ret (Sx.E.then_ret ?_)))
  refine Sx.E.ret1 (.bool false) rfl (by kernel_rfl) (fun w S => ?_)
  have hne : xs ≠ ys := fun e => by subst e; simp at *
  exact ⟨by rw [eqv_false hne], S.below⟩
theorem lawx_bsame (x y : bT) (cs ds : List Value) (w : World) (hc : wB.cap x) (hd : wB.cap y) (h : wB.rd w 0 w.heap.size x cs) (j : wB.rd w 0 w.heap.size y ds) : Calls Tryz.prog 15 #[.agg cs.toArray, .agg ds.toArray] w (fun e w' => e = .returned (.bool (eqv x y)) ∧ Below w.heap.size w w') := by
 obtain ⟨hcap0, hcap1, hcap2, hcap3⟩ := hc
 obtain ⟨hdap0, hdap1, hdap2, hdap3⟩ := hd
 have hR := h
 obtain ⟨hP0, hP1, hP2, rfl, hf0, hf1, hf2⟩ := wB_rd h
 obtain ⟨hA0, hK0, he0, -⟩ := lst_val hf0
 subst he0
 obtain ⟨hA1, hK1, he1, -⟩ := lst_val hf1
 subst he1
 obtain ⟨hA2, hK2, he2, -⟩ := lst_val hf2
 subst he2
 have jR := j
 obtain ⟨jP0, jP1, jP2, rfl, jf0, jf1, jf2⟩ := wB_rd j
 obtain ⟨jA0, jK0, je0, -⟩ := lst_val jf0
 subst je0
 obtain ⟨jA1, jK1, je1, -⟩ := lst_val jf1
 subst je1
 obtain ⟨jA2, jK2, je2, -⟩ := lst_val jf2
 subst je2
 refine Sx.enter (args := [.agg #[.slice hA0 x.mem.length hK0, .slice hA1 x.gs.length hK1, .slice hA2 x.outs.length hK2, .int .i64 x.pd], .agg #[.slice jA0 y.mem.length jK0, .slice jA1 y.gs.length jK1, .slice jA2 y.outs.length jK2, .int .i64 y.pd]]) Tryz.func15 rfl Tryz.ntmps15 rfl ?_
 refine Sx.C.seq (Sx.C.region ?_)
 refine Sx.G.b [.slice hA0 x.mem.length hK0, .slice hA1 x.gs.length hK1, .slice hA2 x.outs.length hK2, .int .i64 x.pd] (fun b1 => ?_)
 refine Sx.G.b [.slice jA0 y.mem.length jK0, .slice jA1 y.gs.length jK1, .slice jA2 y.outs.length jK2, .int .i64 y.pd] (fun b2 => ?_)
 refine Sx.G.p (.bool false) ?_
 refine Sx.G.nil (Sx.E.next (Sx.C.seq (Sx.C.region ?_)))
 refine Sx.G.p (.pointer (some ⟨b1, 0, none⟩)) ?_
 refine Sx.G.g (.slice hA0 x.mem.length hK0) .m1 .m0 ?_
 refine Sx.G.p (.pointer (some ⟨b2, 0, none⟩)) ?_
 refine Sx.G.g (.slice jA0 y.mem.length jK0) .m0 .m0 ?_
 refine Sx.G.cp 41 #[.slice hA0 x.mem.length hK0, .slice jA0 y.mem.length jK0] (.bool (eqv x.mem y.mem)) (fun w S => by exact lawx_lists x.mem y.mem hA0 hK0 jA0 jK0 _ hcap0 hdap0 (St.old (r := (rLsw (rLsw rInt))) S hf0) (St.old (r := (rLsw (rLsw rInt))) S jf0)) ?_
 refine Sx.G.p (.bool (eqv x.mem y.mem)) ?_
 cases hc3 : (eqv x.mem y.mem)
 ·
  have hb3 := hc3
  refine Sx.G.k ?_
  refine Sx.G.k ?_
  refine Sx.G.k ?_
  refine Sx.G.k ?_
  refine Sx.G.k ?_
  refine Sx.G.p (.bool false) ?_
  refine Sx.G.p (.bool false) ?_
  refine Sx.G.k ?_
  refine Sx.G.k ?_
  refine Sx.G.k ?_
  refine Sx.G.k ?_
  refine Sx.G.k ?_
  refine Sx.G.p (.bool false) ?_
  refine Sx.G.p (.bool false) ?_
  refine Sx.G.k ?_
  refine Sx.G.k ?_
  refine Sx.G.k ?_
  refine Sx.G.k ?_
  refine Sx.G.k ?_
  refine Sx.G.p (.bool false) ?_
  refine Sx.G.p (.bool false) ?_
  refine Sx.G.nil (Sx.E.next (Sx.C.ret ?_))
  refine Sx.E.ret1 (.bool false) rfl (by kernel_rfl) (fun w S => ?_)
  exact ⟨congrArg Ending.returned (congrArg Value.bool (by simp only [eqv_B, hb3, Bool.and_true, Bool.and_false, Bool.false_and, Bool.true_and])), S.below⟩
 ·
  have hb3 := hc3
  refine Sx.G.p (.pointer (some ⟨b1, 1, none⟩)) ?_
  refine Sx.G.g (.slice hA1 x.gs.length hK1) .m1 .m1 ?_
  refine Sx.G.p (.pointer (some ⟨b2, 1, none⟩)) ?_
  refine Sx.G.g (.slice jA1 y.gs.length jK1) .m0 .m1 ?_
  refine Sx.G.cp 42 #[.slice hA1 x.gs.length hK1, .slice jA1 y.gs.length jK1] (.bool (eqv x.gs y.gs)) (fun w S => by exact lawx_gs x.gs y.gs hA1 hK1 jA1 jK1 _ hcap1 hdap1 (St.old (r := (rLsw wG)) S hf1) (St.old (r := (rLsw wG)) S jf1)) ?_
  refine Sx.G.p (.bool (eqv x.gs y.gs)) ?_
  refine Sx.G.p (.bool (eqv x.gs y.gs)) ?_
  cases hc4 : (eqv x.gs y.gs)
  ·
   have hb4 := hc4
   refine Sx.G.k ?_
   refine Sx.G.k ?_
   refine Sx.G.k ?_
   refine Sx.G.k ?_
   refine Sx.G.k ?_
   refine Sx.G.p (.bool false) ?_
   refine Sx.G.p (.bool false) ?_
   refine Sx.G.k ?_
   refine Sx.G.k ?_
   refine Sx.G.k ?_
   refine Sx.G.k ?_
   refine Sx.G.k ?_
   refine Sx.G.p (.bool false) ?_
   refine Sx.G.p (.bool false) ?_
   refine Sx.G.nil (Sx.E.next (Sx.C.ret ?_))
   refine Sx.E.ret1 (.bool false) rfl (by kernel_rfl) (fun w S => ?_)
   exact ⟨congrArg Ending.returned (congrArg Value.bool (by simp only [eqv_B, hb3, hb4, Bool.and_true, Bool.and_false, Bool.false_and, Bool.true_and])), S.below⟩
  ·
   have hb4 := hc4
   refine Sx.G.p (.pointer (some ⟨b1, 2, none⟩)) ?_
   refine Sx.G.g (.slice hA2 x.outs.length hK2) .m1 .m2 ?_
   refine Sx.G.p (.pointer (some ⟨b2, 2, none⟩)) ?_
   refine Sx.G.g (.slice jA2 y.outs.length jK2) .m0 .m2 ?_
   refine Sx.G.cp 43 #[.slice hA2 x.outs.length hK2, .slice jA2 y.outs.length jK2] (.bool (eqv x.outs y.outs)) (fun w S => by exact lawx_ints x.outs y.outs hA2 hK2 jA2 jK2 _ hcap2 hdap2 (St.old (r := (rLsw rInt)) S hf2) (St.old (r := (rLsw rInt)) S jf2)) ?_
   refine Sx.G.p (.bool (eqv x.outs y.outs)) ?_
   refine Sx.G.p (.bool (eqv x.outs y.outs)) ?_
   cases hc5 : (eqv x.outs y.outs)
   ·
    have hb5 := hc5
    refine Sx.G.k ?_
    refine Sx.G.k ?_
    refine Sx.G.k ?_
    refine Sx.G.k ?_
    refine Sx.G.k ?_
    refine Sx.G.p (.bool false) ?_
    refine Sx.G.p (.bool false) ?_
    refine Sx.G.nil (Sx.E.next (Sx.C.ret ?_))
    refine Sx.E.ret1 (.bool false) rfl (by kernel_rfl) (fun w S => ?_)
    exact ⟨congrArg Ending.returned (congrArg Value.bool (by simp only [eqv_B, hb3, hb4, hb5, Bool.and_true, Bool.and_false, Bool.false_and, Bool.true_and])), S.below⟩
   ·
    have hb5 := hc5
    refine Sx.G.p (.pointer (some ⟨b1, 3, none⟩)) ?_
    refine Sx.G.g (.int .i64 x.pd) .m1 .m3 ?_
    refine Sx.G.p (.pointer (some ⟨b2, 3, none⟩)) ?_
    refine Sx.G.g (.int .i64 y.pd) .m0 .m3 ?_
    refine Sx.G.p (.bool (x.pd == y.pd)) ?_
    refine Sx.G.p (.bool (x.pd == y.pd)) ?_
    refine Sx.G.p (.bool (x.pd == y.pd)) ?_
    refine Sx.G.nil (Sx.E.next (Sx.C.ret ?_))
    refine Sx.E.ret1 (.bool (x.pd == y.pd)) rfl (by kernel_rfl) (fun w S => ?_)
    exact ⟨congrArg Ending.returned (congrArg Value.bool (by simp only [eqv_B, hb3, hb4, hb5, Bool.and_true, Bool.and_false, Bool.false_and, Bool.true_and])), S.below⟩
end Go.Proofs.YtldgadmpclgfhaaGreat.Kit
namespace Go.Proofs.YtldgadmpclgfhaaGreat.Kit
set_option maxHeartbeats 8000000
set_option maxRecDepth 100000
set_option maxRecDepth 100000
open Go.ChangeShapes Go.WideShapes Go.ChangeAt Go.RowKit Go.Deep
open Go.Proofs.YtldgadmpclgfhaaGreat.Base Go.Proofs.YtldgadmpclgfhaaGreat.Mem Go.Proofs.YtldgadmpclgfhaaGreat.Data Go.Proofs.YtldgadmpclgfhaaGreat.Stt Go.Proofs.YtldgadmpclgfhaaGreat.Guests Go.Proofs.YtldgadmpclgfhaaGreat.Ctls Go.Proofs.YtldgadmpclgfhaaGreat.Exits Go.Proofs.YtldgadmpclgfhaaGreat.Irqs Go.Proofs.YtldgadmpclgfhaaGreat.Inss Go.Proofs.YtldgadmpclgfhaaGreat.Draw
set_option linter.unusedVariables false
set_option linter.unusedSimpArgs false
theorem withG_at (b : bT) (g : Int) (y : gT) : (guestAt (withG b g y) g).2 = inB g 0 ((b.gs.length : Int) - 1) := by
 unfold guestAt withG
 by_cases h : inB g 0 ((b.gs.length : Int) - 1) = true
 ·
  rw [if_pos h]; simp only [List.length_set]; rw [if_pos h, h]
 ·
  rw [if_neg h, if_neg h]; simp only [Bool.not_eq_true] at h; rw [h]
theorem withG_get (b : bT) (g : Int) (y : gT) (h : (guestAt (withG b g y) g).2 = true) : (guestAt (withG b g y) g).1 = y := by
 rw [withG_at] at h
 have hb := inB_iff.1 h
 unfold guestAt withG
 rw [if_pos h]
 simp only [List.length_set]
 rw [if_pos h]
 simp only [List.getD_eq_getElem?_getD]
 rw [List.getElem?_set_self (by omega)]
 rfl
theorem in_len (g : Int) (n : Nat) : inB g 0 ((n : Int) - 1) = (decide (g ≥ 0) && decide (g < (n : Int))) := by
 have e : (inB g 0 ((n : Int) - 1) = true) ↔ ((decide (g ≥ 0) && decide (g < (n : Int))) = true) := by
  rw [inB_iff]; simp only [Bool.and_eq_true, decide_eq_true_eq]; omega
 exact Bool.eq_iff_iff.2 e
theorem one_ok : bareOk (newB [[(7, 0)]]) = true := by decide +kernel
theorem one_len : ((newB [[(7, 0)]]).gs.length : Int) = 1 := by decide +kernel
theorem one_sm : bD (newB [[(7, 0)]]) := by
  refine ⟨⟨by decide +kernel, fun p hp => ?_⟩, ⟨by decide +kernel, fun g hg => ?_⟩, ⟨Nat.zero_le _, fun x hx => by cases hx⟩, (show (Lit.int .i64 0).wf = true by decide)⟩
  · have : p = [0, 0, 0, 0] := (List.mem_replicate.1 hp).2
    subst this
    exact ⟨by decide, fun x hx => by simp only [List.mem_cons, List.not_mem_nil, or_false] at hx; rcases hx with h | h | h | h <;> (rw [h]; exact (show (Lit.int .i64 0).wf = true by decide))⟩
  · have : g = newG [(7, 0)] := by simpa [newB] using hg
    subst this
    exact ⟨new_wf (by decide) (fun s hs => by have : s = (7, 0) := by simpa using hs
                                              subst this; exact ⟨(show (Lit.int .i64 7).wf = true by decide), (show (Lit.int .i64 0).wf = true by decide)⟩), by decide +kernel, by decide +kernel, by decide +kernel, by decide +kernel⟩
theorem bk_one {w0 w : World} {L : List Res} {b d : Nat} {t : TypeId} (S : St w0 w L) (i j : Nat) (h : L[i]? = some (Sx.bk b [.slice (some ⟨d, 0, none⟩) 1 1] t)) (h' : L[j]? = some (vr d [.int .i64 7, .int .i64 0])) : rdLst (rLsw (rPair rInt rInt)) w 0 w.heap.size [[(7, 0)]] [.slice (some ⟨b, 0, none⟩) 1 1] := by
 have hb : w.heap[b]? = some (.cells #[.slice (some ⟨d, 0, none⟩) 1 1] t (0, 0)) := S.at_ i h
 have hlt : b < w.heap.size := by rw [Array.getElem?_eq_some_iff] at hb; exact hb.1
 have hV : Var w d [.int .i64 7, .int .i64 0] := S.at_ j h'
 refine ⟨_, 1, [.slice (some ⟨d, 0, none⟩) 1 1], rfl, Nat.le_refl _, ⟨[_], [], rfl, ?_, rfl⟩, fun q u hu => ⟨b, 0, rfl, Nat.zero_le _, hlt, ?_⟩⟩
 ·
  exact Sx.vr_rd (r := rPair rInt rInt) (xs := [(7, 0)]) (ds := pcells [(7, 0)]) hV (fun _ _ h => h) (p2_all _ _ _ _) ⟨Nat.zero_le _, hV.2⟩ (Nat.le_refl _)
 ·
  rcases q with _ | q
  ·
   cases hu; simp [World.cell?, hb]
  ·
   simp at hu
end Go.Proofs.YtldgadmpclgfhaaGreat.Kit
namespace Go.Proofs.YtldgadmpclgfhaaGreat.Kit
set_option maxHeartbeats 8000000
set_option maxRecDepth 100000
set_option maxRecDepth 100000
open Go.ChangeShapes Go.WideShapes Go.ChangeAt Go.RowKit Go.Deep
open Go.Proofs.YtldgadmpclgfhaaGreat.Base Go.Proofs.YtldgadmpclgfhaaGreat.Mem Go.Proofs.YtldgadmpclgfhaaGreat.Data Go.Proofs.YtldgadmpclgfhaaGreat.Stt Go.Proofs.YtldgadmpclgfhaaGreat.Guests Go.Proofs.YtldgadmpclgfhaaGreat.Ctls Go.Proofs.YtldgadmpclgfhaaGreat.Exits
set_option linter.unusedVariables false
set_option linter.unusedSimpArgs false
theorem cap_new {p : List (Int × Int)} (h : p.length ≤ 1048576) : wG.cap (newG p) :=
 ⟨⟨h, fun _ _ => ⟨trivial, trivial⟩⟩, trivial, trivial, ⟨by simp [newG, Slots.nosL], fun _ _ => ⟨trivial, trivial⟩⟩, ⟨by simp [newG, Slots.nosL], fun _ _ => ⟨trivial, trivial⟩⟩, ⟨trivial, trivial, trivial⟩, trivial, ⟨trivial, trivial, trivial, trivial⟩, trivial, ⟨by simp [newG], fun _ _ => trivial⟩⟩
theorem cap_mem0 : (rLsw (rLsw rInt)).cap (List.replicate 8 ([0, 0, 0, 0] : List Int)) := ⟨by decide, fun x hx => by rw [(List.mem_replicate.1 hx).2]; exact ⟨by decide, fun _ _ => trivial⟩⟩
theorem cap_newB {xs : List (List (Int × Int))} (h : (rLsw (rLsw (rPair rInt rInt))).cap xs) : wB.cap (newB xs) := by
 refine ⟨cap_mem0, ⟨?_, fun g hg => ?_⟩, ⟨by simp [newB], fun _ _ => trivial⟩, trivial⟩
 ·
  show ((xs.take 2).map newG).length ≤ _
  rw [List.length_map, List.length_take]; omega
 ·
  obtain ⟨p, hp, rfl⟩ := List.mem_map.1 (show g ∈ (xs.take 2).map newG from hg)
  exact cap_new (h.2 p (List.mem_of_mem_take hp)).1
theorem cap_putB {b : bT} (n : Int) (h : wB.cap b) : wB.cap (putB b n) := by
 unfold putB
 split
 ·
  exact ⟨h.1, h.2.1, ⟨by show (b.outs ++ [n]).length ≤ _; rw [List.length_append, List.length_singleton]; omega, fun _ _ => trivial⟩, trivial⟩
 ·
  exact h
theorem cap_withG {b : bT} {y : gT} (g : Int) (h : wB.cap b) (hy : wG.cap y) : wB.cap (withG b g y) := by
 unfold withG
 split
 ·
  refine ⟨h.1, ⟨by show (b.gs.set g.toNat y).length ≤ _; rw [List.length_set]; exact h.2.1.1, fun z hz => ?_⟩, h.2.2.1, trivial⟩
  rcases List.mem_or_eq_of_mem_set hz with hz | rfl
  ·
   exact h.2.1.2 z hz
  ·
   exact hy
 ·
  exact h
theorem cap_zeroG : wG.cap zeroG := ⟨⟨by decide, fun _ _ => ⟨trivial, trivial⟩⟩, trivial, trivial, ⟨by decide, fun _ _ => ⟨trivial, trivial⟩⟩, ⟨by decide, fun _ _ => ⟨trivial, trivial⟩⟩, ⟨trivial, trivial, trivial⟩, trivial, ⟨trivial, trivial, trivial, trivial⟩, trivial, ⟨by decide, fun _ _ => trivial⟩⟩
theorem at_facts {b : bT} {g : Int} (h : inB g 0 ((b.gs.length : Int) - 1) = true) : b.gs.getD g.toNat zeroG ∈ b.gs := by
 have hj := inB_iff.1 h
 have : g.toNat < b.gs.length := by omega
 rw [List.getD_eq_getElem?_getD, List.getElem?_eq_getElem this]
 exact List.getElem_mem _
theorem cap_guestAt {b : bT} (g : Int) (h : wB.cap b) : wG.cap (guestAt b g).1 := by
 unfold guestAt
 split
 ·
  rename_i hi; exact h.2.1.2 _ (at_facts hi)
 ·
  exact cap_zeroG
end Go.Proofs.YtldgadmpclgfhaaGreat.Kit
namespace Go.Proofs.YtldgadmpclgfhaaGreat.Irqs
set_option maxHeartbeats 8000000
set_option maxRecDepth 100000
set_option maxRecDepth 100000
open Go.ChangeShapes Go.WideShapes Go.ChangeAt Go.RowKit
open Go.Proofs.YtldgadmpclgfhaaGreat.Base Go.Proofs.YtldgadmpclgfhaaGreat.Mem
set_option linter.unusedVariables false
set_option linter.unusedSimpArgs false
attribute [local go_sem] Oper.semAt_some
section
variable (p n : Int) (w : World)
theorem impl_postOk' : Calls Tryz.prog 91 #[.int .i64 n] w fun e w' => e = .returned (.bool (pend n)) ∧ w = w' := by
 have hv : pend n = (decide (n ≥ 0) && decide (n ≤ 255)) := rfl
 cases h1 : decide (n ≥ 0)
 all_goals
  cases h2 : decide (n ≤ 255)
  all_goals
   rw [h1, h2] at hv
   simp only [Bool.and_false, Bool.and_true] at hv
   rw [hv]; clear hv
   go_enter Tryz.func91, Tryz.ntmps91
   go_wp2
   go_ret
   exact ⟨rfl, rfl⟩
theorem impl_pend' : Calls Tryz.prog 57 #[.int .i64 p] w fun e w' => e = .returned (.bool (pend p)) ∧ w = w' := by
 have K := Lib.hid (fun V : World => impl_postOk' p V)
 generalize pend p = x at K ⊢
 go_enter Tryz.func57, Tryz.ntmps57
 go_wp2_with fail
 refine (K.out _).mono ?_
 rintro e w' ⟨rfl, rfl⟩
 go_wp2_with fail
 go_ret
 exact ⟨rfl, rfl⟩
theorem impl_pend (wp : (Lit.int .i64 p).wf = true) : Calls Tryz.prog 57 #[.int .i64 p] w fun e w' => e = .returned (.bool (pend p)) ∧ Below w.heap.size w w' :=
 (impl_pend' p w).mono fun e w' h => ⟨h.1, h.2 ▸ Below.refl _ _⟩
end
end Go.Proofs.YtldgadmpclgfhaaGreat.Irqs
namespace Go.Proofs.YtldgadmpclgfhaaGreat.Exits
set_option maxHeartbeats 8000000
set_option maxRecDepth 100000
set_option maxRecDepth 100000
open Go.ChangeShapes Go.WideShapes Go.ChangeAt Go.RowKit
open Go.Proofs.YtldgadmpclgfhaaGreat.Base Go.Proofs.YtldgadmpclgfhaaGreat.Mem Go.Proofs.YtldgadmpclgfhaaGreat.Data Go.Proofs.YtldgadmpclgfhaaGreat.Stt
set_option linter.unusedVariables false
set_option linter.unusedSimpArgs false
def usedV (k p : Int) (q : Bool) (n : Int) : Value :=
 if k = 0 then .iface 139 (.agg #[]) else if k = 1 then .iface 141 (.agg #[.int .i64 p, .bool q]) else if k = 2 then .iface 143 (.agg #[.int .i64 n]) else if k = 3 then .iface 144 (.agg #[.int .i64 n])
 else if k = 4 then .iface 145 (.agg #[]) else .nilIface
theorem usedV_0 (p : Int) (q : Bool) (n : Int) : usedV 0 p q n = .iface 139 (.agg #[]) := rfl
theorem usedV_1 (p : Int) (q : Bool) (n : Int) : usedV 1 p q n = .iface 141 (.agg #[.int .i64 p, .bool q]) := rfl
theorem usedV_2 (p : Int) (q : Bool) (n : Int) : usedV 2 p q n = .iface 143 (.agg #[.int .i64 n]) := rfl
theorem usedV_3 (p : Int) (q : Bool) (n : Int) : usedV 3 p q n = .iface 144 (.agg #[.int .i64 n]) := rfl
theorem usedV_4 (p : Int) (q : Bool) (n : Int) : usedV 4 p q n = .iface 145 (.agg #[]) := rfl
theorem usedV_else {k : Int} (p : Int) (q : Bool) (n : Int) (h : (k == 0) = false ∧ (k == 1) = false ∧ (k == 2) = false ∧ (k == 3) = false ∧ (k == 4) = false) : usedV k p q n = .nilIface := by
 simp only [beq_eq_false_iff_ne, ne_eq] at h
 simp [usedV, h]
theorem impl_usedBy (k p : Int) (q : Bool) (n : Int) (w : World) :
  Calls Tryz.prog 129 #[.agg #[.int .i64 k, .int .i64 p, .bool q, .int .i64 n]] w fun e w' => e = .returned (usedV k p q n) ∧ Below w.heap.size w w' := by
 rcases kind_cases k with rfl | rfl | rfl | rfl | rfl | h
 ·
  have HV := Lib.hid (usedV_0 p q n)
  have HB := Lib.hid (show Below w.heap.size w (w.alloc (.cells #[.int .i64 0, .int .i64 p, .bool q, .int .i64 n] 37)) from (Below.refl _ _).alloc (Nat.le_refl _) _)
  go_enter Tryz.func129, Tryz.ntmps129
  go_wp2_with fail
  go_ret
  exact ⟨by rw [HV.out]; rfl, HB.out⟩
 ·
  have HV := Lib.hid (usedV_4 p q n)
  have HB := Lib.hid (show Below w.heap.size w (w.alloc (.cells #[.int .i64 4, .int .i64 p, .bool q, .int .i64 n] 37)) from (Below.refl _ _).alloc (Nat.le_refl _) _)
  go_enter Tryz.func129, Tryz.ntmps129
  go_wp2_with fail
  go_ret
  exact ⟨by rw [HV.out]; rfl, HB.out⟩
 ·
  have HV := Lib.hid (usedV_1 p q n)
  have HB := Lib.hid (show Below w.heap.size w (w.alloc (.cells #[.int .i64 1, .int .i64 p, .bool q, .int .i64 n] 37)) from (Below.refl _ _).alloc (Nat.le_refl _) _)
  go_enter Tryz.func129, Tryz.ntmps129
  go_wp2_with fail
  go_ret
  exact ⟨by rw [HV.out]; rfl, HB.out⟩
 ·
  have HV := Lib.hid (usedV_2 p q n)
  have HB := Lib.hid (show Below w.heap.size w (w.alloc (.cells #[.int .i64 2, .int .i64 p, .bool q, .int .i64 n] 37)) from (Below.refl _ _).alloc (Nat.le_refl _) _)
  go_enter Tryz.func129, Tryz.ntmps129
  go_wp2_with fail
  go_ret
  exact ⟨by rw [HV.out]; rfl, HB.out⟩
 ·
  have HV := Lib.hid (usedV_3 p q n)
  have HB := Lib.hid (show Below w.heap.size w (w.alloc (.cells #[.int .i64 3, .int .i64 p, .bool q, .int .i64 n] 37)) from (Below.refl _ _).alloc (Nat.le_refl _) _)
  go_enter Tryz.func129, Tryz.ntmps129
  go_wp2_with fail
  go_ret
  exact ⟨by rw [HV.out]; rfl, HB.out⟩
 ·
  have HV := Lib.hid (usedV_else (k := k) p q n h)
  obtain ⟨h0, h1, h2, h3, h4⟩ := h
  have HB := Lib.hid (show Below w.heap.size w (w.alloc (.cells #[.int .i64 k, .int .i64 p, .bool q, .int .i64 n] 37)) from (Below.refl _ _).alloc (Nat.le_refl _) _)
  go_enter Tryz.func129, Tryz.ntmps129
  go_wp2_with fail
  go_ret
  exact ⟨by rw [HV.out]; rfl, HB.out⟩
theorem impl_cellOkE (v : Int) (w : World) :
  Calls Tryz.prog 108 #[.int .i64 v] w fun e w' => e = .returned (.bool (inB v 0 99)) ∧ Below w.heap.size w w' := by
 by_cases h0 : v < 0
 ·
  have HV := Lib.hid (inB_false.2 (show v < 0 ∨ 99 < v from .inl h0))
  have h1 : ¬ v ≥ 0 := by omega
  clear h0
  go_enter Tryz.func108, Tryz.ntmps108
  go_wp2_with fail
  go_ret
  exact ⟨by rw [HV.out]; rfl, Below.refl _ _⟩
 ·
  have h1 : v ≥ 0 := by omega
  by_cases h2 : v ≤ 99
  ·
   have HV := Lib.hid (inB_iff.2 (show 0 ≤ v ∧ v ≤ 99 from ⟨h1, h2⟩))
   clear h0
   go_enter Tryz.func108, Tryz.ntmps108
   go_wp2_with fail
   go_ret
   exact ⟨by rw [HV.out]; rfl, Below.refl _ _⟩
  ·
   have HV := Lib.hid (inB_false.2 (show v < 0 ∨ 99 < v from .inr (by omega)))
   clear h0
   go_enter Tryz.func108, Tryz.ntmps108
   go_wp2_with fail
   go_ret
   exact ⟨by rw [HV.out]; rfl, Below.refl _ _⟩
theorem impl_fault' (p : Int) (q : Bool) (w : World) :
  Calls Tryz.prog 130 #[.int .i64 p, .bool q] w (ExitP w (1, p, q, 0)) := by
 have HB := Lib.hid (show Below w.heap.size w (w.alloc (.cells #[.int .i64 1, .int .i64 p, .bool q, .int .i64 0] 37)) from (Below.refl _ _).alloc (Nat.le_refl _) _)
 have t1 : Var (w.alloc (.cells #[.int .i64 1, .int .i64 p, .bool q, .int .i64 0] 37)) w.heap.size [.int .i64 1, .int .i64 p, .bool q, .int .i64 0] := Var.new w [.int .i64 1, .int .i64 p, .bool q, .int .i64 0] 37
 have c0 := t1.cell 0 (v := .int .i64 1) rfl
 have c1 := t1.cell 1 (v := .int .i64 p) rfl
 have c2 := t1.cell 2 (v := .bool q) rfl
 have c3 := t1.cell 3 (v := .int .i64 0) rfl
 clear t1
 go_enter Tryz.func130, Tryz.ntmps130
 go_wp2_with fail
 generalize w.alloc (.cells #[.int .i64 1, .int .i64 p, .bool q, .int .i64 0] 37) = WF at c0 c1 c2 c3 HB ⊢
 exact bodyPost_ret (v := .agg #[.int .i64 1, .int .i64 p, .bool q, .int .i64 0]) (by simp [results, Tryz.results130, go_sem, c0, c1, c2, c3]) rfl ⟨rfl, HB.out⟩
theorem impl_call' (n : Int) (w : World) :
  Calls Tryz.prog 131 #[.int .i64 n] w (ExitP w (2, 0, false, n)) := by
 have HB := Lib.hid (show Below w.heap.size w (w.alloc (.cells #[.int .i64 2, .int .i64 0, .bool false, .int .i64 n] 37)) from (Below.refl _ _).alloc (Nat.le_refl _) _)
 have t1 : Var (w.alloc (.cells #[.int .i64 2, .int .i64 0, .bool false, .int .i64 n] 37)) w.heap.size [.int .i64 2, .int .i64 0, .bool false, .int .i64 n] := Var.new w [.int .i64 2, .int .i64 0, .bool false, .int .i64 n] 37
 have c0 := t1.cell 0 (v := .int .i64 2) rfl
 have c1 := t1.cell 1 (v := .int .i64 0) rfl
 have c2 := t1.cell 2 (v := .bool false) rfl
 have c3 := t1.cell 3 (v := .int .i64 n) rfl
 clear t1
 go_enter Tryz.func131, Tryz.ntmps131
 go_wp2_with fail
 generalize w.alloc (.cells #[.int .i64 2, .int .i64 0, .bool false, .int .i64 n] 37) = WF at c0 c1 c2 c3 HB ⊢
 exact bodyPost_ret (v := .agg #[.int .i64 2, .int .i64 0, .bool false, .int .i64 n]) (by simp [results, Tryz.results131, go_sem, c0, c1, c2, c3]) rfl ⟨rfl, HB.out⟩
theorem impl_out' (n : Int) (w : World) :
  Calls Tryz.prog 132 #[.int .i64 n] w (ExitP w (3, 0, false, n)) := by
 have HB := Lib.hid (show Below w.heap.size w (w.alloc (.cells #[.int .i64 3, .int .i64 0, .bool false, .int .i64 n] 37)) from (Below.refl _ _).alloc (Nat.le_refl _) _)
 have t1 : Var (w.alloc (.cells #[.int .i64 3, .int .i64 0, .bool false, .int .i64 n] 37)) w.heap.size [.int .i64 3, .int .i64 0, .bool false, .int .i64 n] := Var.new w [.int .i64 3, .int .i64 0, .bool false, .int .i64 n] 37
 have c0 := t1.cell 0 (v := .int .i64 3) rfl
 have c1 := t1.cell 1 (v := .int .i64 0) rfl
 have c2 := t1.cell 2 (v := .bool false) rfl
 have c3 := t1.cell 3 (v := .int .i64 n) rfl
 clear t1
 go_enter Tryz.func132, Tryz.ntmps132
 go_wp2_with fail
 generalize w.alloc (.cells #[.int .i64 3, .int .i64 0, .bool false, .int .i64 n] 37) = WF at c0 c1 c2 c3 HB ⊢
 exact bodyPost_ret (v := .agg #[.int .i64 3, .int .i64 0, .bool false, .int .i64 n]) (by simp [results, Tryz.results132, go_sem, c0, c1, c2, c3]) rfl ⟨rfl, HB.out⟩
theorem eqvE_Exit_eql (a0 : Int) (a1 : Int) (a2 : Bool) (a3 : Int) (b0 : Int) (b1 : Int) (b2 : Bool) (b3 : Int) (W : World) : (binOp .eql 37 (.agg #[.int .i64 a0, .int .i64 a1, .bool a2, .int .i64 a3]) (.agg #[.int .i64 b0, .int .i64 b1, .bool b2, .int .i64 b3])).run Tryz.prog W = .ok (.bool (a0 == b0 && a1 == b1 && a2 == b2 && a3 == b3)) W := by
 have ku3 := Tryz.underlying3
 have ka3 := Tryz.isAgg3
 have kz3 := Tryz.sizeOf3
 have ku4 := Tryz.underlying4
 have ka4 := Tryz.isAgg4
 have kz4 := Tryz.sizeOf4
 have hS : Tryz.prog.underlying 37 = some (.struct (Tryz.prog.fieldsOf 37)) := by kernel_rfl
 have hp : Tryz.prog.stoodInHeld 37 = false := by kernel_rfl
 rw [run_eql_struct, show (10000 : Nat) = 9999 + 1 from rfl, run_equalIn_agg W 9999 37 _ _ hS hp]
 simp only [Program.fieldsOf, Tryz.underlying37]
 go_simp
 by_cases h0 : a0 = b0 <;> by_cases h1 : a1 = b1 <;> cases a2 <;> cases b2 <;> by_cases h3 : a3 = b3 <;> simp [h0, h1, h3]
theorem xok_one (p : Int) (q : Bool) (n : Int) : exitOk (1, p, q, n) = (inB p 0 3 && (n == 0)) := rfl
theorem inB_03 (p : Int) : inB p 0 3 = (decide (p ≥ 0) && decide (p < 4)) := by
 rw [Bool.eq_iff_iff, inB_iff]; simp; omega
theorem exitE_else {k : Int} (p : Int) (q : Bool) (n : Int) (h : (k == 0) = false ∧ (k == 1) = false ∧ (k == 2) = false ∧ (k == 3) = false ∧ (k == 4) = false) : false = exitOk (k, p, q, n) := by
 obtain ⟨h0, h1, h2, h3, h4⟩ := h
 simp only [beq_eq_false_iff_ne, ne_eq] at h0 h1 h2 h3 h4
 simp [exitOk, h0, h1, h2, h3, h4]
theorem xok_0 (p : Int) (q : Bool) (n : Int) (w : World) : Calls Tryz.prog 124 #[.agg #[.int .i64 0, .int .i64 p, .bool q, .int .i64 n]] w fun e w' => e = .returned (.bool (exitOk (0, p, q, n))) ∧ Below w.heap.size w w' := by
 refine Sx.enter (args := [.agg #[.int .i64 0, .int .i64 p, .bool q, .int .i64 n]]) Tryz.func124 rfl Tryz.ntmps124 rfl ?_
 refine Sx.C.seq (Sx.C.region ?_)
 refine Sx.G.b [.int .i64 0, .int .i64 p, .bool q, .int .i64 n] (fun b1 => ?_)
 refine Sx.G.p (.bool false) ?_
 refine Sx.G.nil (Sx.E.next (Sx.C.seq (Sx.C.region ?_)))
 refine Sx.G.lw .m0 ?_
 refine Sx.G.cp 129 #[.agg #[.int .i64 0, .int .i64 p, .bool q, .int .i64 n]] (.iface 139 (.agg #[])) (fun w S => by exact ((impl_usedBy 0 p q n _).mono fun e w' h => And.intro (h.1.trans (by rw [usedV_0])) h.2)) ?_
 refine Sx.G.nil (Sx.E.next (Sx.C.block (Sx.C.seq (Sx.C.region ?_))))
 refine Sx.G.p (.tuple #[.agg #[], .bool true]) ?_
 refine Sx.G.p (.bool true) ?_
 refine Sx.G.p (.agg #[]) ?_
 refine Sx.G.nil (Sx.E.next ?_)
 refine Sx.C.yes (by kernel_rfl) (by kernel_rfl) ?_
 refine Sx.C.seq (Sx.C.region ?_)
 refine Sx.G.ar [] (fun b2 => ?_)
 refine Sx.G.sw [] .a0 ?_
 refine Sx.G.nil (Sx.E.next (Sx.C.seq (Sx.C.region ?_)))
 refine Sx.G.lw .m1 ?_
 refine Sx.G.p (.agg #[.int .i64 0, .int .i64 0, .bool false, .int .i64 0]) ?_
 refine Sx.G.pure (.bool ((0 == 0 && p == 0 && q == false && n == 0))) (by kernel_rfl) (fun w => Sx.run_eqs rfl rfl rfl (by kernel_rfl) (fun w => eqvE_Exit_eql 0 p q n 0 0 false 0 w) w) ?_
 refine Sx.G.p (.bool ((0 == 0 && p == 0 && q == false && n == 0))) ?_
 refine Sx.G.nil (Sx.E.next (Sx.C.ret (Sx.E.block_ret ?_)))
 refine Sx.E.ret1 (.bool ((0 == 0 && p == 0 && q == false && n == 0))) rfl (by kernel_rfl) (fun w S => ?_)
 exact ⟨congrArg Ending.returned (congrArg Value.bool (by simp [exitOk])), S.below⟩
theorem xok_1 (p : Int) (q : Bool) (n : Int) (w : World) : Calls Tryz.prog 124 #[.agg #[.int .i64 1, .int .i64 p, .bool q, .int .i64 n]] w fun e w' => e = .returned (.bool (exitOk (1, p, q, n))) ∧ Below w.heap.size w w' := by
 refine Sx.enter (args := [.agg #[.int .i64 1, .int .i64 p, .bool q, .int .i64 n]]) Tryz.func124 rfl Tryz.ntmps124 rfl ?_
 refine Sx.C.seq (Sx.C.region ?_)
 refine Sx.G.b [.int .i64 1, .int .i64 p, .bool q, .int .i64 n] (fun b1 => ?_)
 refine Sx.G.p (.bool false) ?_
 refine Sx.G.nil (Sx.E.next (Sx.C.seq (Sx.C.region ?_)))
 refine Sx.G.lw .m0 ?_
 refine Sx.G.cp 129 #[.agg #[.int .i64 1, .int .i64 p, .bool q, .int .i64 n]] (.iface 141 (.agg #[.int .i64 p, .bool q])) (fun w S => by exact ((impl_usedBy 1 p q n _).mono fun e w' h => And.intro (h.1.trans (by rw [usedV_1])) h.2)) ?_
 refine Sx.G.nil (Sx.E.next (Sx.C.block (Sx.C.seq (Sx.C.region ?_))))
 refine Sx.G.p (.tuple #[.agg #[], .bool false]) ?_
 refine Sx.G.p (.bool false) ?_
 refine Sx.G.p (.agg #[]) ?_
 refine Sx.G.nil (Sx.E.next ?_)
 refine Sx.C.no (by kernel_rfl) (by kernel_rfl) ?_
 refine Sx.C.seq (Sx.C.region ?_)
 refine Sx.G.p (.tuple #[.agg #[.int .i64 p, .bool q], .bool true]) ?_
 refine Sx.G.p (.bool true) ?_
 refine Sx.G.p (.agg #[.int .i64 p, .bool q]) ?_
 refine Sx.G.nil (Sx.E.next ?_)
 refine Sx.C.yes (by kernel_rfl) (by kernel_rfl) ?_
 refine Sx.C.seq (Sx.C.region ?_)
 refine Sx.G.ar [.int .i64 0, .bool false] (fun b2 => ?_)
 refine Sx.G.sw [.int .i64 p, .bool q] .a0 ?_
 refine Sx.G.nil (Sx.E.next (Sx.C.seq ?_))
 refine Sx.C.draw (.take 0 (.take 1 (.take 2 (.take 3 (.take 4 (.take 5 (.take 6 (.take 7 (.take 8 (.take 9 (.take 10 (.take 11 (.take 12 (.take 13 (.alone 14 (.take 15 (.take 16 (.take 17 .nil)))))))))))))))))) [vr b2 [.int .i64 p, .bool q], vr b1 [.int .i64 1, .int .i64 p, .bool q, .int .i64 n]] (fun w S => St.pick S [0, 1] _ rfl (by decide)) (by kernel_rfl) (by kernel_rfl) (by kernel_rfl) ?_
 refine Sx.GT.p (.pointer (some ⟨b2, 0, none⟩)) ?_
 refine Sx.GT.g (.int .i64 p) .m0 .m0 ?_
 refine Sx.GT.p (.bool (decide (p ≥ 0))) ?_
 refine Sx.GT.p (.bool (decide (p ≥ 0))) ?_
 cases hc3 : (decide (p ≥ 0))
 ·
  have hb3 := hc3
  replace hc3 := of_decide_eq_false hc3
  refine Sx.GT.k ?_
  refine Sx.GT.k ?_
  refine Sx.GT.k ?_
  refine Sx.GT.p (.bool false) ?_
  refine Sx.GT.p (.bool false) ?_
  refine Sx.GT.k ?_
  refine Sx.GT.k ?_
  refine Sx.GT.k ?_
  refine Sx.GT.k ?_
  refine Sx.GT.k ?_
  refine Sx.GT.alone (Sx.Alone.k (fun w S => St.pick S [0, 1] _ rfl (by decide)) ?_)
  refine Sx.GT.k ?_
  refine Sx.GT.p (.bool false) ?_
  refine Sx.GT.p (.bool false) ?_
  refine Sx.GT.nil (Sx.E.next (Sx.C.ret (Sx.E.block_ret ?_)))
  refine Sx.E.ret1 (.bool false) rfl (by kernel_rfl) (fun w S => ?_)
  exact ⟨congrArg Ending.returned (congrArg Value.bool (by rw [xok_one, inB_03, hb3]; simp)), S.below⟩
 ·
  have hb3 := hc3
  replace hc3 := of_decide_eq_true hc3
  refine Sx.GT.p (.pointer (some ⟨b2, 0, none⟩)) ?_
  refine Sx.GT.g (.int .i64 p) .m0 .m0 ?_
  refine Sx.GT.p (.bool (decide (p < 4))) ?_
  refine Sx.GT.p (.bool (decide (p < 4))) ?_
  refine Sx.GT.p (.bool (decide (p < 4))) ?_
  cases hc4 : (decide (p < 4))
  ·
   have hb4 := hc4
   replace hc4 := of_decide_eq_false hc4
   refine Sx.GT.k ?_
   refine Sx.GT.k ?_
   refine Sx.GT.k ?_
   refine Sx.GT.k ?_
   refine Sx.GT.k ?_
   refine Sx.GT.alone (Sx.Alone.k (fun w S => St.pick S [0, 1] _ rfl (by decide)) ?_)
   refine Sx.GT.k ?_
   refine Sx.GT.p (.bool false) ?_
   refine Sx.GT.p (.bool false) ?_
   refine Sx.GT.nil (Sx.E.next (Sx.C.ret (Sx.E.block_ret ?_)))
   refine Sx.E.ret1 (.bool false) rfl (by kernel_rfl) (fun w S => ?_)
   exact ⟨congrArg Ending.returned (congrArg Value.bool (by rw [xok_one, inB_03, hb3, hb4]; simp)), S.below⟩
  ·
   have hb4 := hc4
   replace hc4 := of_decide_eq_true hc4
   refine Sx.GT.lw .m1 ?_
   refine Sx.GT.p (.pointer (some ⟨b2, 0, none⟩)) ?_
   refine Sx.GT.g (.int .i64 p) .m0 .m0 ?_
   refine Sx.GT.p (.pointer (some ⟨b2, 1, none⟩)) ?_
   refine Sx.GT.g (.bool q) .m0 .m1 ?_
   refine Sx.GT.alone (Sx.Alone.cp 130 #[.int .i64 p, .bool q] (.agg #[.int .i64 1, .int .i64 p, .bool q, .int .i64 0]) (fun w S => by exact (impl_fault' p q _)) (fun w S => St.pick S [0, 1] _ rfl (by decide)) ?_)
   refine Sx.GT.pure (.bool ((1 == 1 && p == p && q == q && n == 0))) 15 (by rfl) (by kernel_rfl) (fun w => Sx.run_eqs rfl rfl rfl (by kernel_rfl) (fun w => eqvE_Exit_eql 1 p q n 1 p q 0 w) w) ?_
   refine Sx.GT.p (.bool ((1 == 1 && p == p && q == q && n == 0))) ?_
   refine Sx.GT.p (.bool ((1 == 1 && p == p && q == q && n == 0))) ?_
   refine Sx.GT.nil (Sx.E.next (Sx.C.ret (Sx.E.block_ret ?_)))
   refine Sx.E.ret1 (.bool ((1 == 1 && p == p && q == q && n == 0))) rfl (by kernel_rfl) (fun w S => ?_)
   exact ⟨congrArg Ending.returned (congrArg Value.bool (by rw [xok_one, inB_03, hb3, hb4]; simp)), S.below⟩
theorem xok_2 (p : Int) (q : Bool) (n : Int) (w : World) : Calls Tryz.prog 124 #[.agg #[.int .i64 2, .int .i64 p, .bool q, .int .i64 n]] w fun e w' => e = .returned (.bool (exitOk (2, p, q, n))) ∧ Below w.heap.size w w' := by
 refine Sx.enter (args := [.agg #[.int .i64 2, .int .i64 p, .bool q, .int .i64 n]]) Tryz.func124 rfl Tryz.ntmps124 rfl ?_
 refine Sx.C.seq (Sx.C.region ?_)
 refine Sx.G.b [.int .i64 2, .int .i64 p, .bool q, .int .i64 n] (fun b1 => ?_)
 refine Sx.G.p (.bool false) ?_
 refine Sx.G.nil (Sx.E.next (Sx.C.seq (Sx.C.region ?_)))
 refine Sx.G.lw .m0 ?_
 refine Sx.G.cp 129 #[.agg #[.int .i64 2, .int .i64 p, .bool q, .int .i64 n]] (.iface 143 (.agg #[.int .i64 n])) (fun w S => by exact ((impl_usedBy 2 p q n _).mono fun e w' h => And.intro (h.1.trans (by rw [usedV_2])) h.2)) ?_
 refine Sx.G.nil (Sx.E.next (Sx.C.block (Sx.C.seq (Sx.C.region ?_))))
 refine Sx.G.p (.tuple #[.agg #[], .bool false]) ?_
 refine Sx.G.p (.bool false) ?_
 refine Sx.G.p (.agg #[]) ?_
 refine Sx.G.nil (Sx.E.next ?_)
 refine Sx.C.no (by kernel_rfl) (by kernel_rfl) ?_
 refine Sx.C.seq (Sx.C.region ?_)
 refine Sx.G.p (.tuple #[.agg #[.int .i64 0, .bool false], .bool false]) ?_
 refine Sx.G.p (.bool false) ?_
 refine Sx.G.p (.agg #[.int .i64 0, .bool false]) ?_
 refine Sx.G.nil (Sx.E.next ?_)
 refine Sx.C.no (by kernel_rfl) (by kernel_rfl) ?_
 refine Sx.C.seq (Sx.C.region ?_)
 refine Sx.G.p (.tuple #[.agg #[.int .i64 n], .bool true]) ?_
 refine Sx.G.p (.bool true) ?_
 refine Sx.G.p (.agg #[.int .i64 n]) ?_
 refine Sx.G.nil (Sx.E.next ?_)
 refine Sx.C.yes (by kernel_rfl) (by kernel_rfl) ?_
 refine Sx.C.seq (Sx.C.region ?_)
 refine Sx.G.ar [.int .i64 0] (fun b2 => ?_)
 refine Sx.G.sw [.int .i64 n] .a0 ?_
 refine Sx.G.nil (Sx.E.next (Sx.C.seq ?_))
 refine Sx.C.draw (.take 0 (.take 1 (.alone 2 (.take 3 (.take 4 (.take 5 (.take 6 (.alone 7 (.take 8 (.take 9 (.take 10 .nil))))))))))) [vr b2 [.int .i64 n], vr b1 [.int .i64 2, .int .i64 p, .bool q, .int .i64 n]] (fun w S => St.pick S [0, 1] _ rfl (by decide)) (by kernel_rfl) (by kernel_rfl) (by kernel_rfl) ?_
 refine Sx.GT.p (.pointer (some ⟨b2, 0, none⟩)) ?_
 refine Sx.GT.g (.int .i64 n) .m0 .m0 ?_
 refine Sx.GT.alone (Sx.Alone.cp 108 #[.int .i64 n] (.bool (inB n 0 99)) (fun w S => by exact impl_cellOkE n _) (fun w S => St.pick S [0, 1] _ rfl (by decide)) ?_)
 refine Sx.GT.p (.bool (inB n 0 99)) ?_
 cases hc3 : (inB n 0 99)
 ·
  have hb3 := hc3
  refine Sx.GT.k ?_
  refine Sx.GT.k ?_
  refine Sx.GT.k ?_
  refine Sx.GT.alone (Sx.Alone.k (fun w S => St.pick S [0, 1] _ rfl (by decide)) ?_)
  refine Sx.GT.k ?_
  refine Sx.GT.p (.bool false) ?_
  refine Sx.GT.p (.bool false) ?_
  refine Sx.GT.nil (Sx.E.next (Sx.C.ret (Sx.E.block_ret ?_)))
  refine Sx.E.ret1 (.bool false) rfl (by kernel_rfl) (fun w S => ?_)
  exact ⟨congrArg Ending.returned (congrArg Value.bool (by simp [exitOk, hb3])), S.below⟩
 ·
  have hb3 := hc3
  refine Sx.GT.lw .m1 ?_
  refine Sx.GT.p (.pointer (some ⟨b2, 0, none⟩)) ?_
  refine Sx.GT.g (.int .i64 n) .m0 .m0 ?_
  refine Sx.GT.alone (Sx.Alone.cp 131 #[.int .i64 n] (.agg #[.int .i64 2, .int .i64 0, .bool false, .int .i64 n]) (fun w S => by exact (impl_call' n _)) (fun w S => St.pick S [0, 1] _ rfl (by decide)) ?_)
  refine Sx.GT.pure (.bool ((2 == 2 && p == 0 && q == false && n == n))) 8 (by rfl) (by kernel_rfl) (fun w => Sx.run_eqs rfl rfl rfl (by kernel_rfl) (fun w => eqvE_Exit_eql 2 p q n 2 0 false n w) w) ?_
  refine Sx.GT.p (.bool ((2 == 2 && p == 0 && q == false && n == n))) ?_
  refine Sx.GT.p (.bool ((2 == 2 && p == 0 && q == false && n == n))) ?_
  refine Sx.GT.nil (Sx.E.next (Sx.C.ret (Sx.E.block_ret ?_)))
  refine Sx.E.ret1 (.bool ((2 == 2 && p == 0 && q == false && n == n))) rfl (by kernel_rfl) (fun w S => ?_)
  exact ⟨congrArg Ending.returned (congrArg Value.bool (by simp [exitOk, hb3])), S.below⟩
theorem xok_3 (p : Int) (q : Bool) (n : Int) (w : World) : Calls Tryz.prog 124 #[.agg #[.int .i64 3, .int .i64 p, .bool q, .int .i64 n]] w fun e w' => e = .returned (.bool (exitOk (3, p, q, n))) ∧ Below w.heap.size w w' := by
 refine Sx.enter (args := [.agg #[.int .i64 3, .int .i64 p, .bool q, .int .i64 n]]) Tryz.func124 rfl Tryz.ntmps124 rfl ?_
 refine Sx.C.seq (Sx.C.region ?_)
 refine Sx.G.b [.int .i64 3, .int .i64 p, .bool q, .int .i64 n] (fun b1 => ?_)
 refine Sx.G.p (.bool false) ?_
 refine Sx.G.nil (Sx.E.next (Sx.C.seq (Sx.C.region ?_)))
 refine Sx.G.lw .m0 ?_
 refine Sx.G.cp 129 #[.agg #[.int .i64 3, .int .i64 p, .bool q, .int .i64 n]] (.iface 144 (.agg #[.int .i64 n])) (fun w S => by exact ((impl_usedBy 3 p q n _).mono fun e w' h => And.intro (h.1.trans (by rw [usedV_3])) h.2)) ?_
 refine Sx.G.nil (Sx.E.next (Sx.C.block (Sx.C.seq (Sx.C.region ?_))))
 refine Sx.G.p (.tuple #[.agg #[], .bool false]) ?_
 refine Sx.G.p (.bool false) ?_
 refine Sx.G.p (.agg #[]) ?_
 refine Sx.G.nil (Sx.E.next ?_)
 refine Sx.C.no (by kernel_rfl) (by kernel_rfl) ?_
 refine Sx.C.seq (Sx.C.region ?_)
 refine Sx.G.p (.tuple #[.agg #[.int .i64 0, .bool false], .bool false]) ?_
 refine Sx.G.p (.bool false) ?_
 refine Sx.G.p (.agg #[.int .i64 0, .bool false]) ?_
 refine Sx.G.nil (Sx.E.next ?_)
 refine Sx.C.no (by kernel_rfl) (by kernel_rfl) ?_
 refine Sx.C.seq (Sx.C.region ?_)
 refine Sx.G.p (.tuple #[.agg #[.int .i64 0], .bool false]) ?_
 refine Sx.G.p (.bool false) ?_
 refine Sx.G.p (.agg #[.int .i64 0]) ?_
 refine Sx.G.nil (Sx.E.next ?_)
 refine Sx.C.no (by kernel_rfl) (by kernel_rfl) ?_
 refine Sx.C.seq (Sx.C.region ?_)
 refine Sx.G.p (.tuple #[.agg #[.int .i64 n], .bool true]) ?_
 refine Sx.G.p (.bool true) ?_
 refine Sx.G.p (.agg #[.int .i64 n]) ?_
 refine Sx.G.nil (Sx.E.next ?_)
 refine Sx.C.yes (by kernel_rfl) (by kernel_rfl) ?_
 refine Sx.C.seq (Sx.C.region ?_)
 refine Sx.G.ar [.int .i64 0] (fun b2 => ?_)
 refine Sx.G.sw [.int .i64 n] .a0 ?_
 refine Sx.G.nil (Sx.E.next (Sx.C.seq ?_))
 refine Sx.C.draw (.take 0 (.take 1 (.alone 2 (.take 3 (.take 4 (.take 5 (.take 6 (.alone 7 (.take 8 (.take 9 (.take 10 .nil))))))))))) [vr b2 [.int .i64 n], vr b1 [.int .i64 3, .int .i64 p, .bool q, .int .i64 n]] (fun w S => St.pick S [0, 1] _ rfl (by decide)) (by kernel_rfl) (by kernel_rfl) (by kernel_rfl) ?_
 refine Sx.GT.p (.pointer (some ⟨b2, 0, none⟩)) ?_
 refine Sx.GT.g (.int .i64 n) .m0 .m0 ?_
 refine Sx.GT.alone (Sx.Alone.cp 108 #[.int .i64 n] (.bool (inB n 0 99)) (fun w S => by exact impl_cellOkE n _) (fun w S => St.pick S [0, 1] _ rfl (by decide)) ?_)
 refine Sx.GT.p (.bool (inB n 0 99)) ?_
 cases hc3 : (inB n 0 99)
 ·
  have hb3 := hc3
  refine Sx.GT.k ?_
  refine Sx.GT.k ?_
  refine Sx.GT.k ?_
  refine Sx.GT.alone (Sx.Alone.k (fun w S => St.pick S [0, 1] _ rfl (by decide)) ?_)
  refine Sx.GT.k ?_
  refine Sx.GT.p (.bool false) ?_
  refine Sx.GT.p (.bool false) ?_
  refine Sx.GT.nil (Sx.E.next (Sx.C.ret (Sx.E.block_ret ?_)))
  refine Sx.E.ret1 (.bool false) rfl (by kernel_rfl) (fun w S => ?_)
  exact ⟨congrArg Ending.returned (congrArg Value.bool (by simp [exitOk, hb3])), S.below⟩
 ·
  have hb3 := hc3
  refine Sx.GT.lw .m1 ?_
  refine Sx.GT.p (.pointer (some ⟨b2, 0, none⟩)) ?_
  refine Sx.GT.g (.int .i64 n) .m0 .m0 ?_
  refine Sx.GT.alone (Sx.Alone.cp 132 #[.int .i64 n] (.agg #[.int .i64 3, .int .i64 0, .bool false, .int .i64 n]) (fun w S => by exact (impl_out' n _)) (fun w S => St.pick S [0, 1] _ rfl (by decide)) ?_)
  refine Sx.GT.pure (.bool ((3 == 3 && p == 0 && q == false && n == n))) 8 (by rfl) (by kernel_rfl) (fun w => Sx.run_eqs rfl rfl rfl (by kernel_rfl) (fun w => eqvE_Exit_eql 3 p q n 3 0 false n w) w) ?_
  refine Sx.GT.p (.bool ((3 == 3 && p == 0 && q == false && n == n))) ?_
  refine Sx.GT.p (.bool ((3 == 3 && p == 0 && q == false && n == n))) ?_
  refine Sx.GT.nil (Sx.E.next (Sx.C.ret (Sx.E.block_ret ?_)))
  refine Sx.E.ret1 (.bool ((3 == 3 && p == 0 && q == false && n == n))) rfl (by kernel_rfl) (fun w S => ?_)
  exact ⟨congrArg Ending.returned (congrArg Value.bool (by simp [exitOk, hb3])), S.below⟩
theorem xok_4 (p : Int) (q : Bool) (n : Int) (w : World) : Calls Tryz.prog 124 #[.agg #[.int .i64 4, .int .i64 p, .bool q, .int .i64 n]] w fun e w' => e = .returned (.bool (exitOk (4, p, q, n))) ∧ Below w.heap.size w w' := by
 refine Sx.enter (args := [.agg #[.int .i64 4, .int .i64 p, .bool q, .int .i64 n]]) Tryz.func124 rfl Tryz.ntmps124 rfl ?_
 refine Sx.C.seq (Sx.C.region ?_)
 refine Sx.G.b [.int .i64 4, .int .i64 p, .bool q, .int .i64 n] (fun b1 => ?_)
 refine Sx.G.p (.bool false) ?_
 refine Sx.G.nil (Sx.E.next (Sx.C.seq (Sx.C.region ?_)))
 refine Sx.G.lw .m0 ?_
 refine Sx.G.cp 129 #[.agg #[.int .i64 4, .int .i64 p, .bool q, .int .i64 n]] (.iface 145 (.agg #[])) (fun w S => by exact ((impl_usedBy 4 p q n _).mono fun e w' h => And.intro (h.1.trans (by rw [usedV_4])) h.2)) ?_
 refine Sx.G.nil (Sx.E.next (Sx.C.block (Sx.C.seq (Sx.C.region ?_))))
 refine Sx.G.p (.tuple #[.agg #[], .bool false]) ?_
 refine Sx.G.p (.bool false) ?_
 refine Sx.G.p (.agg #[]) ?_
 refine Sx.G.nil (Sx.E.next ?_)
 refine Sx.C.no (by kernel_rfl) (by kernel_rfl) ?_
 refine Sx.C.seq (Sx.C.region ?_)
 refine Sx.G.p (.tuple #[.agg #[.int .i64 0, .bool false], .bool false]) ?_
 refine Sx.G.p (.bool false) ?_
 refine Sx.G.p (.agg #[.int .i64 0, .bool false]) ?_
 refine Sx.G.nil (Sx.E.next ?_)
 refine Sx.C.no (by kernel_rfl) (by kernel_rfl) ?_
 refine Sx.C.seq (Sx.C.region ?_)
 refine Sx.G.p (.tuple #[.agg #[.int .i64 0], .bool false]) ?_
 refine Sx.G.p (.bool false) ?_
 refine Sx.G.p (.agg #[.int .i64 0]) ?_
 refine Sx.G.nil (Sx.E.next ?_)
 refine Sx.C.no (by kernel_rfl) (by kernel_rfl) ?_
 refine Sx.C.seq (Sx.C.region ?_)
 refine Sx.G.p (.tuple #[.agg #[.int .i64 0], .bool false]) ?_
 refine Sx.G.p (.bool false) ?_
 refine Sx.G.p (.agg #[.int .i64 0]) ?_
 refine Sx.G.nil (Sx.E.next ?_)
 refine Sx.C.no (by kernel_rfl) (by kernel_rfl) ?_
 refine Sx.C.seq (Sx.C.region ?_)
 refine Sx.G.p (.tuple #[.agg #[], .bool true]) ?_
 refine Sx.G.p (.bool true) ?_
 refine Sx.G.p (.agg #[]) ?_
 refine Sx.G.nil (Sx.E.next ?_)
 refine Sx.C.yes (by kernel_rfl) (by kernel_rfl) ?_
 refine Sx.C.seq (Sx.C.region ?_)
 refine Sx.G.ar [] (fun b2 => ?_)
 refine Sx.G.sw [] .a0 ?_
 refine Sx.G.nil (Sx.E.next (Sx.C.seq (Sx.C.region ?_)))
 refine Sx.G.lw .m1 ?_
 refine Sx.G.p (.agg #[.int .i64 4, .int .i64 0, .bool false, .int .i64 0]) ?_
 refine Sx.G.pure (.bool ((4 == 4 && p == 0 && q == false && n == 0))) (by kernel_rfl) (fun w => Sx.run_eqs rfl rfl rfl (by kernel_rfl) (fun w => eqvE_Exit_eql 4 p q n 4 0 false 0 w) w) ?_
 refine Sx.G.p (.bool ((4 == 4 && p == 0 && q == false && n == 0))) ?_
 refine Sx.G.nil (Sx.E.next (Sx.C.ret (Sx.E.block_ret ?_)))
 refine Sx.E.ret1 (.bool ((4 == 4 && p == 0 && q == false && n == 0))) rfl (by kernel_rfl) (fun w S => ?_)
 exact ⟨congrArg Ending.returned (congrArg Value.bool (by simp [exitOk])), S.below⟩
theorem xok_else (k p : Int) (q : Bool) (n : Int) (w : World) (hk : (k == 0) = false ∧ (k == 1) = false ∧ (k == 2) = false ∧ (k == 3) = false ∧ (k == 4) = false) : Calls Tryz.prog 124 #[.agg #[.int .i64 k, .int .i64 p, .bool q, .int .i64 n]] w fun e w' => e = .returned (.bool (exitOk (k, p, q, n))) ∧ Below w.heap.size w w' := by
 refine Sx.enter (args := [.agg #[.int .i64 k, .int .i64 p, .bool q, .int .i64 n]]) Tryz.func124 rfl Tryz.ntmps124 rfl ?_
 refine Sx.C.seq (Sx.C.region ?_)
 refine Sx.G.b [.int .i64 k, .int .i64 p, .bool q, .int .i64 n] (fun b1 => ?_)
 refine Sx.G.p (.bool false) ?_
 refine Sx.G.nil (Sx.E.next (Sx.C.seq (Sx.C.region ?_)))
 refine Sx.G.lw .m0 ?_
 refine Sx.G.cp 129 #[.agg #[.int .i64 k, .int .i64 p, .bool q, .int .i64 n]] (.nilIface) (fun w S => by exact ((impl_usedBy k p q n _).mono fun e w' h => And.intro (h.1.trans (by rw [usedV_else p q n hk])) h.2)) ?_
 refine Sx.G.nil (Sx.E.next (Sx.C.block (Sx.C.seq (Sx.C.region ?_))))
 refine Sx.G.p (.tuple #[.agg #[], .bool false]) ?_
 refine Sx.G.p (.bool false) ?_
 refine Sx.G.p (.agg #[]) ?_
 refine Sx.G.nil (Sx.E.next ?_)
 refine Sx.C.no (by kernel_rfl) (by kernel_rfl) ?_
 refine Sx.C.seq (Sx.C.region ?_)
 refine Sx.G.p (.tuple #[.agg #[.int .i64 0, .bool false], .bool false]) ?_
 refine Sx.G.p (.bool false) ?_
 refine Sx.G.p (.agg #[.int .i64 0, .bool false]) ?_
 refine Sx.G.nil (Sx.E.next ?_)
 refine Sx.C.no (by kernel_rfl) (by kernel_rfl) ?_
 refine Sx.C.seq (Sx.C.region ?_)
 refine Sx.G.p (.tuple #[.agg #[.int .i64 0], .bool false]) ?_
 refine Sx.G.p (.bool false) ?_
 refine Sx.G.p (.agg #[.int .i64 0]) ?_
 refine Sx.G.nil (Sx.E.next ?_)
 refine Sx.C.no (by kernel_rfl) (by kernel_rfl) ?_
 refine Sx.C.seq (Sx.C.region ?_)
 refine Sx.G.p (.tuple #[.agg #[.int .i64 0], .bool false]) ?_
 refine Sx.G.p (.bool false) ?_
 refine Sx.G.p (.agg #[.int .i64 0]) ?_
 refine Sx.G.nil (Sx.E.next ?_)
 refine Sx.C.no (by kernel_rfl) (by kernel_rfl) ?_
 refine Sx.C.seq (Sx.C.region ?_)
 refine Sx.G.p (.tuple #[.agg #[], .bool false]) ?_
 refine Sx.G.p (.bool false) ?_
 refine Sx.G.p (.agg #[]) ?_
 refine Sx.G.nil (Sx.E.next ?_)
 refine Sx.C.no (by kernel_rfl) (by kernel_rfl) ?_
 refine Sx.C.seq (Sx.C.region ?_)
 refine Sx.G.p (.nilIface) ?_
 refine Sx.G.nil (Sx.E.next (Sx.C.seq (Sx.C.region ?_)))
 refine Sx.G.p (.bool false) ?_
 refine Sx.G.nil (Sx.E.next (Sx.C.ret (Sx.E.block_ret ?_)))
 refine Sx.E.ret1 (.bool false) rfl (by kernel_rfl) (fun w S => ?_)
 exact ⟨congrArg Ending.returned (congrArg Value.bool (exitE_else p q n hk)), S.below⟩
theorem impl_exitOk (k p : Int) (q : Bool) (n : Int) (w : World) (ws : wfQ (k, p, q, n)) :
  Calls Tryz.prog 124 #[.agg #[.int .i64 k, .int .i64 p, .bool q, .int .i64 n]] w fun e w' => e = .returned (.bool (exitOk (k, p, q, n))) ∧ Below w.heap.size w w' := by
 rcases kind_cases k with rfl | rfl | rfl | rfl | rfl | h
 ·
  exact xok_0 p q n w
 ·
  exact xok_4 p q n w
 ·
  exact xok_1 p q n w
 ·
  exact xok_2 p q n w
 ·
  exact xok_3 p q n w
 ·
  exact xok_else k p q n w h
end Go.Proofs.YtldgadmpclgfhaaGreat.Exits
