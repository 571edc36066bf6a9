/-
  The texts that FnBare wants, part 3: GuestDraw BareDraw. No condition.
-/
import Derived.Test.YtldgadmpclgfhaaGreatFnBareB2
namespace Go.Proofs.YtldgadmpclgfhaaGreat.Guests
set_option maxHeartbeats 8000000
set_option maxRecDepth 100000
open Go.ChangeShapes Go.WideShapes Go.ChangeAt Go.RowKit
open Go.Proofs.YtldgadmpclgfhaaGreat.Base Go.Proofs.YtldgadmpclgfhaaGreat.Mem Go.Proofs.YtldgadmpclgfhaaGreat.Data Go.Proofs.YtldgadmpclgfhaaGreat.Slots Go.Proofs.YtldgadmpclgfhaaGreat.Ints Go.Proofs.YtldgadmpclgfhaaGreat.Inss Go.Proofs.YtldgadmpclgfhaaGreat.Stt Go.Proofs.YtldgadmpclgfhaaGreat.Draw Go.Proofs.YtldgadmpclgfhaaGreat.SDraw Go.Proofs.YtldgadmpclgfhaaGreat.Ctls Go.Proofs.YtldgadmpclgfhaaGreat.Exits Go.Proofs.YtldgadmpclgfhaaGreat.Sx
set_option linter.unusedVariables false
def GMade (w0 w w' : World) (g : gT) (P0 P1 P2 P3 : Value) : Prop := ∃ F0 F1 F2 F3 l0 k0 l1 k1 l2 k2 l3 k3, Sx.Fresh w0 w w' [ow (rLst 55 (rPair rInt rInt)) l0 k0 g.prog [P0] F0, ow (rLst 108 (rPair rInt rInt)) l1 k1 g.wr [P1] F1, ow (rLst 108 (rPair rInt rInt)) l2 k2 g.lv [P2] F2, ow (rLst 3 rInt) l3 k3 g.seen [P3] F3]
def GDraw (w0 : World) (A : Option Addr) (n c : Nat) (w : World) (q : Nat) (e : Ending) (w' : World) : Prop :=
 ∃ g P0 P1 P2 P3, e = .returned (.agg (gV g P0 P1 P2 P3).toArray) ∧ wfGuest g ∧ (g.prog.length ≤ 20 ∧ g.wr.length ≤ 4 ∧ g.lv.length ≤ 4 ∧ g.seen.length ≤ 45) ∧ Cur w0 A n c w' q ∧ w.grownBy w' (some q) ∧ GMade w0 w w' g P0 P1 P2 P3
theorem guest_any (w0 : World) (A : Option Addr) (n c g : Nat) (w : World) (hn : n ≤ 1048576) (hcode : CodeAt w0 A n) (hcur : Cur w0 A n c w g) :
  Calls Tryz.prog 69 #[.pointer (some ⟨g, 0, none⟩)] w (GDraw w0 A n c w g) := by
 have hs0 := st_cur hcur
 have hb0 := hcur.1
 clear hcur
 refine Sx.enterS (args := [.pointer (some ⟨g, 0, none⟩)]) hs0 Tryz.func69 rfl Tryz.ntmps69 rfl ?_
 refine Sx.C.seq (Sx.C.region ?_)
 refine Sx.G.ar [.slice none 0 0, .int .i64 0, .int .i64 0, .slice none 0 0, .slice none 0 0, .int .i64 0, .int .i64 0, .bool false, .int .i64 0, .int .i64 0, .int .i64 0, .bool false, .int .i64 0, .bool false, .slice none 0 0] (fun b1 => ?_)
 refine Sx.G.nil (Sx.E.next (Sx.C.seq (Sx.C.region ?_)))
 refine Sx.G.p (.pointer (some ⟨g, 0, none⟩)) ?_
 refine Sx.G.c 27 #[.pointer (some ⟨g, 0, none⟩)] (fun w2 S => (prog_any w0 A n c g _ hn hcode (Sx.St.cur S 1 rfl)).mono fun e w2' hp => ?_)
 obtain ⟨pb2, pm2, pc2, pl2, rfl, hl2, hm2, hM2, hw2, hown, hcur, hgr⟩ := hp
 rw [← pcells_j] at hown
 subst hl2
 refine ⟨_, _, rfl, Sx.St.plus S (Sx.St.moved S 1 rfl hcur hgr) _ (Sx.row_pairs rfl hown) (Nat.le_refl _) (Nat.le_refl _), ?_⟩
 clear S hcur hgr hown
 refine Sx.G.c 45 #[.slice (some ⟨pb2, 0, none⟩) pl2.length pc2] (fun w3 S => (specx_new pl2 _ _ _ (by omega) (S.reads 0 rfl)).mono fun e w3' hp => ?_)
 obtain ⟨cs, F, rfl, ho, hF, hb⟩ := hp
 obtain ⟨q3_0, q3_1, q3_2, q3_3, G3_0, G3_1, G3_2, G3_3, rfl, S'⟩ := rG_open (S.got hb ho hF)
 obtain ⟨q3A0, q3c0, e0, -⟩ := lst_val (S'.reads 0 rfl)
 subst e0
 obtain ⟨q3A1, q3c1, e1, -⟩ := lst_val (S'.reads 1 rfl)
 subst e1
 obtain ⟨q3A2, q3c2, e2, -⟩ := lst_val (S'.reads 2 rfl)
 subst e2
 obtain ⟨q3A3, q3c3, e3, -⟩ := lst_val (S'.reads 3 rfl)
 subst e3
 refine ⟨_, _, rfl, S', ?_⟩
 clear S S' ho hF hb
 refine Sx.G.ar [.slice none 0 0, .int .i64 0, .int .i64 0, .slice none 0 0, .slice none 0 0, .int .i64 0, .int .i64 0, .bool false, .int .i64 0, .int .i64 0, .int .i64 0, .bool false, .int .i64 0, .bool false, .slice none 0 0] (fun b4 => ?_)
 refine Sx.G.sw [.slice q3A0 (newG pl2).prog.length q3c0, .int .i64 (newG pl2).a, .int .i64 (newG pl2).pc, .slice q3A1 (newG pl2).wr.length q3c1, .slice q3A2 (newG pl2).lv.length q3c2, .int .i64 (newG pl2).t.1, .int .i64 (newG pl2).t.2.1, .bool (newG pl2).t.2.2, .int .i64 (newG pl2).pd, .int .i64 (newG pl2).x.1, .int .i64 (newG pl2).x.2.1, .bool (newG pl2).x.2.2.1, .int .i64 (newG pl2).x.2.2.2, .bool (newG pl2).hl, .slice q3A3 (newG pl2).seen.length q3c3] .a0 ?_
 refine Sx.G.nil (Sx.E.next (Sx.C.seq (Sx.C.region ?_)))
 refine Sx.G.p (.pointer (some ⟨g, 0, none⟩)) ?_
 refine Sx.G.c 100 #[.pointer (some ⟨g, 0, none⟩), .int .i64 4, .int .i64 8] (fun w5 S => (table_any w0 A n c g 4 _ 8 (by decide) (by decide) (by decide) hn hcode (Sx.St.cur S 7 rfl)).mono fun e w5' hp => ?_)
 obtain ⟨tb5, tc5, tl5, rfl, hl5, hw5, hown, hcur, hgr⟩ := hp
 rw [← pcells_s] at hown
 refine ⟨_, _, rfl, Sx.St.plus S (Sx.St.moved S 7 rfl hcur hgr) _ (Sx.row_pairs hl5 hown) (Nat.le_refl _) (Nat.le_refl _), ?_⟩
 clear S hcur hgr hown
 refine Sx.G.p (.pointer (some ⟨b4, 3, none⟩)) ?_
 refine Sx.G.s (.slice (some ⟨tb5, 0, none⟩) 4 tc5) .a1 .a3 ?_
 refine Sx.G.nil (Sx.E.next (Sx.C.seq (Sx.C.region ?_)))
 refine Sx.G.p (.pointer (some ⟨g, 0, none⟩)) ?_
 refine Sx.G.c 100 #[.pointer (some ⟨g, 0, none⟩), .int .i64 4, .int .i64 8] (fun w6 S => (table_any w0 A n c g 4 _ 8 (by decide) (by decide) (by decide) hn hcode (Sx.St.cur S 8 rfl)).mono fun e w6' hp => ?_)
 obtain ⟨tb6, tc6, tl6, rfl, hl6, hw6, hown, hcur, hgr⟩ := hp
 rw [← pcells_s] at hown
 refine ⟨_, _, rfl, Sx.St.plus S (Sx.St.moved S 8 rfl hcur hgr) _ (Sx.row_pairs hl6 hown) (Nat.le_refl _) (Nat.le_refl _), ?_⟩
 clear S hcur hgr hown
 refine Sx.G.p (.pointer (some ⟨b4, 4, none⟩)) ?_
 refine Sx.G.s (.slice (some ⟨tb6, 0, none⟩) 4 tc6) .a2 .a4 ?_
 refine Sx.G.nil (Sx.E.next (Sx.C.seq (Sx.C.region ?_)))
 refine Sx.G.p (.pointer (some ⟨g, 0, none⟩)) ?_
 refine Sx.G.c 39 #[.pointer (some ⟨g, 0, none⟩), .int .i64 100] (fun w7 S => (below_any w0 A n c g _ 100 (by decide) (by decide) hn hcode (Sx.St.cur S 9 rfl)).mono fun e w7' hp => ?_)
 obtain ⟨x7, rfl, hx7, hy7, hcur, hgr⟩ := hp
 refine ⟨_, _, rfl, Sx.St.moved S 9 rfl hcur hgr, ?_⟩
 clear S hcur hgr
 refine Sx.G.p (.pointer (some ⟨b4, 1, none⟩)) ?_
 refine Sx.G.s (.int .i64 x7) .a2 .a1 ?_
 refine Sx.G.nil (Sx.E.next (Sx.C.seq (Sx.C.region ?_)))
 refine Sx.G.p (.pointer (some ⟨g, 0, none⟩)) ?_
 refine Sx.G.c 39 #[.pointer (some ⟨g, 0, none⟩), .int .i64 4] (fun w8 S => (below_any w0 A n c g _ 4 (by decide) (by decide) hn hcode (Sx.St.cur S 9 rfl)).mono fun e w8' hp => ?_)
 obtain ⟨x8, rfl, hx8, hy8, hcur, hgr⟩ := hp
 refine ⟨_, _, rfl, Sx.St.moved S 9 rfl hcur hgr, ?_⟩
 clear S hcur hgr
 refine Sx.G.p (.pointer (some ⟨b4, 2, none⟩)) ?_
 refine Sx.G.s (.int .i64 x8) .a2 .a2 ?_
 refine Sx.G.nil (Sx.E.next (Sx.C.seq (Sx.C.region ?_)))
 refine Sx.G.p (.pointer (some ⟨g, 0, none⟩)) ?_
 refine Sx.G.c 101 #[.pointer (some ⟨g, 0, none⟩)] (fun w9 S => (cctl_any w0 A n c g _ hn hcode (Sx.St.cur S 9 rfl)).mono fun e w9' hp => ?_)
 obtain ⟨ca9, cb9, co9, rfl, hw9, hcur, hgr⟩ := hp
 refine ⟨_, _, rfl, Sx.St.moved S 9 rfl hcur hgr, ?_⟩
 clear S hcur hgr
 refine Sx.G.p (.pointer (some ⟨b4, 5, none⟩)) ?_
 refine Sx.G.sto 35 (.tmp 22) (.tmp 21) b4 5 2 [.slice q3A0 (newG pl2).prog.length q3c0, .int .i64 x7, .int .i64 x8, .slice (some ⟨tb5, 0, none⟩) 4 tc5, .slice (some ⟨tb6, 0, none⟩) 4 tc6, .int .i64 (newG pl2).t.1, .int .i64 (newG pl2).t.2.1, .bool (newG pl2).t.2.2, .int .i64 (newG pl2).pd, .int .i64 (newG pl2).x.1, .int .i64 (newG pl2).x.2.1, .bool (newG pl2).x.2.2.1, .int .i64 (newG pl2).x.2.2.2, .bool (newG pl2).hl, .slice q3A3 (newG pl2).seen.length q3c3] [.int .i64 ca9, .int .i64 cb9, .bool co9] [.slice q3A0 (newG pl2).prog.length q3c0, .int .i64 x7, .int .i64 x8, .slice (some ⟨tb5, 0, none⟩) 4 tc5, .slice (some ⟨tb6, 0, none⟩) 4 tc6, .int .i64 ca9, .int .i64 cb9, .bool co9, .int .i64 (newG pl2).pd, .int .i64 (newG pl2).x.1, .int .i64 (newG pl2).x.2.1, .bool (newG pl2).x.2.2.1, .int .i64 (newG pl2).x.2.2.2, .bool (newG pl2).hl, .slice q3A3 (newG pl2).seen.length q3c3] [ow (rLst 108 (rPair rInt rInt)) w6.heap.size (w6'.heap.size) tl6 [.slice (some ⟨tb6, 0, none⟩) 4 tc6] [tb6], ow (rLst 108 (rPair rInt rInt)) w5.heap.size (w5'.heap.size) tl5 [.slice (some ⟨tb5, 0, none⟩) 4 tc5] [tb5], vr b4 [.slice q3A0 (newG pl2).prog.length q3c0, .int .i64 x7, .int .i64 x8, .slice (some ⟨tb5, 0, none⟩) 4 tc5, .slice (some ⟨tb6, 0, none⟩) 4 tc6, .int .i64 ca9, .int .i64 cb9, .bool co9, .int .i64 (newG pl2).pd, .int .i64 (newG pl2).x.1, .int .i64 (newG pl2).x.2.1, .bool (newG pl2).x.2.2.1, .int .i64 (newG pl2).x.2.2.2, .bool (newG pl2).hl, .slice q3A3 (newG pl2).seen.length q3c3], ow (rLst 55 (rPair rInt rInt)) w3.heap.size w3'.heap.size (newG pl2).prog [.slice q3A0 (newG pl2).prog.length q3c0] G3_0, ow (rLsw (rPair rInt rInt)) w3.heap.size w3'.heap.size (newG pl2).wr [.slice q3A1 (newG pl2).wr.length q3c1] G3_1, ow (rLsw (rPair rInt rInt)) w3.heap.size w3'.heap.size (newG pl2).lv [.slice q3A2 (newG pl2).lv.length q3c2] G3_2, ow (rLst 3 rInt) w3.heap.size w3'.heap.size (newG pl2).seen [.slice q3A3 (newG pl2).seen.length q3c3] G3_3, ow (rLst 55 (rPair rInt rInt)) w2.heap.size (w2'.heap.size) pl2 [.slice (some ⟨pb2, 0, none⟩) pl2.length pc2] [pb2], vr b1 [.slice none 0 0, .int .i64 0, .int .i64 0, .slice none 0 0, .slice none 0 0, .int .i64 0, .int .i64 0, .bool false, .int .i64 0, .int .i64 0, .int .i64 0, .bool false, .int .i64 0, .bool false, .slice none 0 0], Sx.cu A n c g, Sx.frm w0 w g] rfl (by kernel_rfl) (by kernel_rfl) (by kernel_rfl) rfl (by kernel_rfl) rfl (by kernel_rfl) (by kernel_rfl) (by kernel_rfl) ?_
 refine Sx.G.nil (Sx.E.next (Sx.C.seq (Sx.C.seq (Sx.C.region ?_))))
 refine Sx.G.p (.pointer (some ⟨g, 0, none⟩)) ?_
 refine Sx.G.c 26 #[.pointer (some ⟨g, 0, none⟩), .int .i64 3] (fun w10 S => (once_any w0 A n c g _ 3 (by decide) (by decide) hn hcode (Sx.St.cur S 9 rfl)).mono fun e w10' hp => ?_)
 obtain ⟨x10, rfl, hcur, hgr⟩ := hp
 refine ⟨_, _, rfl, Sx.St.moved S 9 rfl hcur hgr, ?_⟩
 clear S hcur hgr
 refine Sx.G.nil (Sx.E.next ?_)
 cases hc11 : (x10)
 ·
  skip
  refine Sx.C.no (by kernel_rfl) (by kernel_rfl) ?_
  refine Sx.C.skip (Sx.E.next (Sx.C.seq (Sx.C.seq (Sx.C.region ?_))))
  refine Sx.G.p (.pointer (some ⟨g, 0, none⟩)) ?_
  refine Sx.G.c 26 #[.pointer (some ⟨g, 0, none⟩), .int .i64 4] (fun w12 S => (once_any w0 A n c g _ 4 (by decide) (by decide) hn hcode (Sx.St.cur S 9 rfl)).mono fun e w12' hp => ?_)
  obtain ⟨x12, rfl, hcur, hgr⟩ := hp
  refine ⟨_, _, rfl, Sx.St.moved S 9 rfl hcur hgr, ?_⟩
  clear S hcur hgr
  refine Sx.G.nil (Sx.E.next ?_)
  cases hc13 : (x12)
  ·
   skip
   refine Sx.C.no (by kernel_rfl) (by kernel_rfl) ?_
   refine Sx.C.skip (Sx.E.next (Sx.C.seq (Sx.C.region ?_)))
   refine Sx.G.p (.pointer (some ⟨g, 0, none⟩)) ?_
   refine Sx.G.c 26 #[.pointer (some ⟨g, 0, none⟩), .int .i64 12] (fun w14 S => (once_any w0 A n c g _ 12 (by decide) (by decide) hn hcode (Sx.St.cur S 9 rfl)).mono fun e w14' hp => ?_)
   obtain ⟨x14, rfl, hcur, hgr⟩ := hp
   refine ⟨_, _, rfl, Sx.St.moved S 9 rfl hcur hgr, ?_⟩
   clear S hcur hgr
   refine Sx.G.p (.pointer (some ⟨b4, 13, none⟩)) ?_
   refine Sx.G.s (.bool (x14)) .a2 .a13 ?_
   refine Sx.G.nil (Sx.E.next (Sx.C.seq (Sx.C.seq (Sx.C.region ?_))))
   refine Sx.G.p (.int .i64 0) ?_
   refine Sx.G.nil (Sx.E.next (Sx.C.block ?_))
   refine Sx.C.loop (α := Nat × List Int × Option Addr × Nat × List Nat × Nat × Nat) (fun x => x.1 ≤ 4 ∧ x.2.1.length = x.1 ∧ ∀ y ∈ x.2.1, (Lit.int .i64 y).wf = true) (fun x => [(4, .int .i64 (x.1 : Int)), (0, .pointer (some ⟨g, 0, none⟩)), (2, .pointer (some ⟨b1, 0, none⟩)), (3, .pointer (some ⟨b4, 0, none⟩))]) (fun x => [ow (rLst 108 (rPair rInt rInt)) w6.heap.size (w6'.heap.size) tl6 [.slice (some ⟨tb6, 0, none⟩) 4 tc6] [tb6], ow (rLst 108 (rPair rInt rInt)) w5.heap.size (w5'.heap.size) tl5 [.slice (some ⟨tb5, 0, none⟩) 4 tc5] [tb5], vr b4 [.slice q3A0 (newG pl2).prog.length q3c0, .int .i64 x7, .int .i64 x8, .slice (some ⟨tb5, 0, none⟩) 4 tc5, .slice (some ⟨tb6, 0, none⟩) 4 tc6, .int .i64 ca9, .int .i64 cb9, .bool co9, .int .i64 (newG pl2).pd, .int .i64 (newG pl2).x.1, .int .i64 (newG pl2).x.2.1, .bool (newG pl2).x.2.2.1, .int .i64 (newG pl2).x.2.2.2, .bool (x14), .slice x.2.2.1 x.2.1.length x.2.2.2.1], ow (rLst 55 (rPair rInt rInt)) w3.heap.size w3'.heap.size (newG pl2).prog [.slice q3A0 (newG pl2).prog.length q3c0] G3_0, ow (rLsw (rPair rInt rInt)) w3.heap.size w3'.heap.size (newG pl2).wr [.slice q3A1 (newG pl2).wr.length q3c1] G3_1, ow (rLsw (rPair rInt rInt)) w3.heap.size w3'.heap.size (newG pl2).lv [.slice q3A2 (newG pl2).lv.length q3c2] G3_2, ow (rLst 3 rInt) x.2.2.2.2.2.1 x.2.2.2.2.2.2 x.2.1 [.slice x.2.2.1 x.2.1.length x.2.2.2.1] x.2.2.2.2.1, ow (rLst 55 (rPair rInt rInt)) w2.heap.size (w2'.heap.size) pl2 [.slice (some ⟨pb2, 0, none⟩) pl2.length pc2] [pb2], vr b1 [.slice none 0 0, .int .i64 0, .int .i64 0, .slice none 0 0, .slice none 0 0, .int .i64 0, .int .i64 0, .bool false, .int .i64 0, .int .i64 0, .int .i64 0, .bool false, .int .i64 0, .bool false, .slice none 0 0], Sx.cu A n c g, Sx.frm w0 w g]) (fun x => 5 - x.1) (0, (newG pl2).seen, q3A3, q3c3, G3_3, w3.heap.size, w3'.heap.size) ⟨Nat.zero_le _, rfl, fun y hy => by cases hy⟩ (fun a hA => (Sx.Ag.and hA (Sx.Ag.and hA (Sx.Ag.and hA (Sx.Ag.and hA (Sx.Ag.none hA) _ _ (by kernel_rfl)) _ _ (by kernel_rfl)) _ _ (by kernel_rfl)) _ _ (by kernel_rfl))) (fun w S => St.pick S [0, 1, 2, 3, 4, 5, 6, 7, 8, 9, 10] _ rfl (by decide)) (fun x hx => ?_)
   obtain ⟨xi, xs, xA, xc, xF, xlo, xhi⟩ := x
   dsimp only at hx
   obtain ⟨hx1, hx2, hx3⟩ := hx
   refine Sx.C.seq (Sx.C.seq (Sx.C.region ?_))
   refine Sx.G.p (.int .i64 (xi : Int)) ?_
   refine Sx.G.p (.pointer (some ⟨g, 0, none⟩)) ?_
   refine Sx.G.c 39 #[.pointer (some ⟨g, 0, none⟩), .int .i64 4] (fun w15 S => (below_any w0 A n c g _ 4 (by decide) (by decide) hn hcode (Sx.St.cur S 9 rfl)).mono fun e w15' hp => ?_)
   obtain ⟨x15, rfl, hx15, hy15, hcur, hgr⟩ := hp
   refine ⟨_, _, rfl, Sx.St.moved S 9 rfl hcur hgr, ?_⟩
   clear S hcur hgr
   refine Sx.G.p (.bool (decide ((xi : Int) < x15))) ?_
   refine Sx.G.nil (Sx.E.next ?_)
   cases hc16 : (decide ((xi : Int) < x15))
   ·
    replace hc16 := of_decide_eq_false hc16
    refine Sx.C.no (by kernel_rfl) (by kernel_rfl) ?_
    refine Sx.C.exit (Sx.E.then_exit (Sx.E.then_exit (Sx.E.block_hit (Sx.E.next (Sx.C.seq (Sx.C.region ?_))))))
    refine Sx.G.lw .m2 ?_
    refine Sx.G.sw [.slice q3A0 (newG pl2).prog.length q3c0, .int .i64 x7, .int .i64 x8, .slice (some ⟨tb5, 0, none⟩) 4 tc5, .slice (some ⟨tb6, 0, none⟩) 4 tc6, .int .i64 ca9, .int .i64 cb9, .bool co9, .int .i64 (newG pl2).pd, .int .i64 (newG pl2).x.1, .int .i64 (newG pl2).x.2.1, .bool (newG pl2).x.2.2.1, .int .i64 (newG pl2).x.2.2.2, .bool (x14), .slice xA xs.length xc] .a8 ?_
    refine Sx.G.nil (Sx.E.next (Sx.C.ret ?_))
    refine Sx.E.retc b1 8 [.slice q3A0 (newG pl2).prog.length q3c0, .int .i64 x7, .int .i64 x8, .slice (some ⟨tb5, 0, none⟩) 4 tc5, .slice (some ⟨tb6, 0, none⟩) 4 tc6, .int .i64 ca9, .int .i64 cb9, .bool co9, .int .i64 (newG pl2).pd, .int .i64 (newG pl2).x.1, .int .i64 (newG pl2).x.2.1, .bool (newG pl2).x.2.2.1, .int .i64 (newG pl2).x.2.2.2, .bool (x14), .slice xA xs.length xc] rfl (by kernel_rfl) rfl (by kernel_rfl) (by kernel_rfl) (fun w S => ?_)
    exact ⟨{ prog := (newG pl2).prog, a := x7, pc := x8, wr := tl5, lv := tl6, t := (ca9, cb9, co9), pd := (newG pl2).pd, x := ((newG pl2).x.1, (newG pl2).x.2.1, (newG pl2).x.2.2.1, (newG pl2).x.2.2.2), hl := (x14), seen := xs }, _, _, _, _, rfl, ⟨⟨Nat.le_trans hM2 (by decide), hw2⟩, Sx.wf_small hx7 (Int.lt_trans hy7 (by decide)), Sx.wf_small hx8 (Int.lt_trans hy8 (by decide)), ⟨by simp only [hl5]; decide, hw5⟩, ⟨by simp only [hl6]; decide, hw6⟩, hw9, (show (Lit.int .i64 0).wf = true by decide), ⟨(show (Lit.int .i64 0).wf = true by decide), (show (Lit.int .i64 0).wf = true by decide), trivial, (show (Lit.int .i64 0).wf = true by decide)⟩, trivial, ⟨by simp only [hx2]; omega, hx3⟩⟩, ⟨hM2, by simp only [hl5]; decide, by simp only [hl6]; decide, by simp only [hx2]; omega⟩, Sx.St.cur S 9 rfl, Sx.St.grown S 10 rfl hb0, _, _, _, _, _, _, _, _, _, _, _, _, Sx.St.made (St.pick S [9, 10, 3, 1, 0, 6] _ rfl (by decide))⟩
   ·
    replace hc16 := of_decide_eq_true hc16
    refine Sx.C.yes (by kernel_rfl) (by kernel_rfl) ?_
    refine Sx.C.skip (Sx.E.next (Sx.C.seq (Sx.C.block ?_)))
    refine Sx.C.cut (fun e a w' => e = .normal ∧ ∃ (Y0 : Int) (Y1 : Nat) (Y2 : Option Addr) (Y3 : Nat) (Y4 : List Nat) (Y5 : Nat), Sx.Ag 50 [(0, .pointer (some ⟨g, 0, none⟩)), (2, .pointer (some ⟨b1, 0, none⟩)), (3, .pointer (some ⟨b4, 0, none⟩)), (4, .int .i64 (xi : Int))] a ∧ St w0 w' [vr Y1 [.int .i64 Y0], ow (rLst 108 (rPair rInt rInt)) w6.heap.size (w6'.heap.size) tl6 [.slice (some ⟨tb6, 0, none⟩) 4 tc6] [tb6], ow (rLst 108 (rPair rInt rInt)) w5.heap.size (w5'.heap.size) tl5 [.slice (some ⟨tb5, 0, none⟩) 4 tc5] [tb5], vr b4 [.slice q3A0 (newG pl2).prog.length q3c0, .int .i64 x7, .int .i64 x8, .slice (some ⟨tb5, 0, none⟩) 4 tc5, .slice (some ⟨tb6, 0, none⟩) 4 tc6, .int .i64 ca9, .int .i64 cb9, .bool co9, .int .i64 (newG pl2).pd, .int .i64 (newG pl2).x.1, .int .i64 (newG pl2).x.2.1, .bool (newG pl2).x.2.2.1, .int .i64 (newG pl2).x.2.2.2, .bool (x14), .slice Y2 ((xs ++ [Y0]).length) Y3], ow (rLst 55 (rPair rInt rInt)) w3.heap.size w3'.heap.size (newG pl2).prog [.slice q3A0 (newG pl2).prog.length q3c0] G3_0, ow (rLsw (rPair rInt rInt)) w3.heap.size w3'.heap.size (newG pl2).wr [.slice q3A1 (newG pl2).wr.length q3c1] G3_1, ow (rLsw (rPair rInt rInt)) w3.heap.size w3'.heap.size (newG pl2).lv [.slice q3A2 (newG pl2).lv.length q3c2] G3_2, ow (rLst 3 rInt) w0.heap.size Y5 (xs ++ [Y0]) [.slice Y2 ((xs ++ [Y0]).length) Y3] Y4, ow (rLst 55 (rPair rInt rInt)) w2.heap.size (w2'.heap.size) pl2 [.slice (some ⟨pb2, 0, none⟩) pl2.length pc2] [pb2], vr b1 [.slice none 0 0, .int .i64 0, .int .i64 0, .slice none 0 0, .slice none 0 0, .int .i64 0, .int .i64 0, .bool false, .int .i64 0, .int .i64 0, .int .i64 0, .bool false, .int .i64 0, .bool false, .slice none 0 0], Sx.cu A n c g, Sx.frm w0 w g] ∧ 0 ≤ Y0 ∧ Y0 < 100) ?_ ?_
    ·
     refine Sx.C.draw (.take 0 (.take 2 (.two 1 (.alone 3 (.alone 4 (.alone 5 (.take 6 (.alone 7 .nil))))) 3 (.two 1 (.alone 4 (.alone 5 (.take 6 (.alone 7 .nil)))) 4 (.alone 1 (.alone 5 (.take 6 (.alone 7 .nil)))))))) [] (fun w S => St.pick S [] _ rfl (by decide)) (by kernel_rfl) (by kernel_rfl) (by kernel_rfl) ?_
     refine Sx.GT.p (.pointer (some ⟨b4, 14, none⟩)) ?_
     refine Sx.GT.p (.pointer (some ⟨g, 0, none⟩)) ?_
     refine Sx.GT.two ?_ ?_
     ·
      refine Sx.Alone.g (.slice xA xs.length xc) .m2 .m14 (fun w S => St.pick S [] _ rfl (by decide)) ?_
      refine Sx.GT.alone (Sx.Alone.c 39 #[.pointer (some ⟨g, 0, none⟩), .int .i64 100] (fun w17 S => (below_any w0 A n c g _ 100 (by decide) (by decide) hn hcode (Sx.St.cur S 9 rfl)).mono fun e w17' hp => ?_))
      obtain ⟨x17, rfl, hx17, hy17, hcur, hgr⟩ := hp
      refine ⟨_, _, rfl, Sx.St.moved S 9 rfl hcur hgr, (fun w S => St.pick S [] _ rfl (by decide)), ?_⟩
      clear S hcur hgr
      refine Sx.GT.alone (Sx.Alone.made 3 [.int .i64 x17] 1 (by rfl) (by kernel_rfl) (fun w => by kernel_rfl) (fun w S => St.pick S [] _ rfl (by decide)) (fun b18 => ?_))
      refine Sx.GT.alone (Sx.Alone.apps 7 (by rfl) (xs ++ [x17]) (fun w S => S.box 0 rfl rfl 1 (Nat.le_refl _)) (by rfl) ((xs ++ [x17]).length) (by simp) flat_int (.tmp 43) (.tmp 46) 28 1 8 (by rfl) (by rfl) (by kernel_rfl) (by kernel_rfl) (by rfl) (by kernel_rfl) (by kernel_rfl) (by simp only [maxLen, List.length_nil, List.length_cons]; omega) (by simp only [List.length_nil, List.length_cons]; omega) (fun _ _ _ _ w S => St.pick S [] _ rfl (by decide)) (fun A19 c19 F19 hi19 hm19 => ?_))
      refine Sx.GT.p (.pointer (some ⟨b4, 14, none⟩)) ?_
      refine Sx.GT.alone (Sx.Alone.s (.slice A19 ((xs ++ [x17]).length) c19) .a3 .a14 (fun w S => St.pick S [] _ rfl (by decide)) ?_)
      exact Sx.GT.nil (fun a w' hA S => ⟨rfl, x17, b18, A19, c19, F19, hi19, (Sx.Ag.and hA (Sx.Ag.and hA (Sx.Ag.and hA (Sx.Ag.and hA (Sx.Ag.none hA) _ _ (by kernel_rfl)) _ _ (by kernel_rfl)) _ _ (by kernel_rfl)) _ _ (by kernel_rfl)), St.pick S [0, 1, 2, 3, 4, 5, 6, 7, 8, 9, 10, 11] _ rfl (by decide), hx17, hy17⟩)
     ·
      refine Sx.Alone.c 39 #[.pointer (some ⟨g, 0, none⟩), .int .i64 100] (fun w20 S => (below_any w0 A n c g _ 100 (by decide) (by decide) hn hcode (Sx.St.cur S 9 rfl)).mono fun e w20' hp => ?_)
      obtain ⟨x20, rfl, hx20, hy20, hcur, hgr⟩ := hp
      refine ⟨_, _, rfl, Sx.St.moved S 9 rfl hcur hgr, (fun w S => St.pick S [] _ rfl (by decide)), ?_⟩
      clear S hcur hgr
      refine Sx.GT.two ?_ ?_
      ·
       refine Sx.Alone.g (.slice xA xs.length xc) .m2 .m14 (fun w S => St.pick S [] _ rfl (by decide)) ?_
       refine Sx.GT.alone (Sx.Alone.made 3 [.int .i64 x20] 1 (by rfl) (by kernel_rfl) (fun w => by kernel_rfl) (fun w S => St.pick S [] _ rfl (by decide)) (fun b21 => ?_))
       refine Sx.GT.alone (Sx.Alone.apps 7 (by rfl) (xs ++ [x20]) (fun w S => S.box 0 rfl rfl 1 (Nat.le_refl _)) (by rfl) ((xs ++ [x20]).length) (by simp) flat_int (.tmp 43) (.tmp 46) 28 1 8 (by rfl) (by rfl) (by kernel_rfl) (by kernel_rfl) (by rfl) (by kernel_rfl) (by kernel_rfl) (by simp only [maxLen, List.length_nil, List.length_cons]; omega) (by simp only [List.length_nil, List.length_cons]; omega) (fun _ _ _ _ w S => St.pick S [] _ rfl (by decide)) (fun A22 c22 F22 hi22 hm22 => ?_))
       refine Sx.GT.p (.pointer (some ⟨b4, 14, none⟩)) ?_
       refine Sx.GT.alone (Sx.Alone.s (.slice A22 ((xs ++ [x20]).length) c22) .a3 .a14 (fun w S => St.pick S [] _ rfl (by decide)) ?_)
       exact Sx.GT.nil (fun a w' hA S => ⟨rfl, x20, b21, A22, c22, F22, hi22, (Sx.Ag.and hA (Sx.Ag.and hA (Sx.Ag.and hA (Sx.Ag.and hA (Sx.Ag.none hA) _ _ (by kernel_rfl)) _ _ (by kernel_rfl)) _ _ (by kernel_rfl)) _ _ (by kernel_rfl)), St.pick S [0, 1, 2, 3, 4, 5, 6, 7, 8, 9, 10, 11] _ rfl (by decide), hx20, hy20⟩)
      ·
       refine Sx.Alone.made 3 [.int .i64 x20] 1 (by rfl) (by kernel_rfl) (fun w => by kernel_rfl) (fun w S => St.pick S [] _ rfl (by decide)) (fun b23 => ?_)
       refine Sx.GT.alone (Sx.Alone.g (.slice xA xs.length xc) .m3 .m14 (fun w S => St.pick S [] _ rfl (by decide)) ?_)
       refine Sx.GT.alone (Sx.Alone.apps 7 (by rfl) (xs ++ [x20]) (fun w S => S.box 0 rfl rfl 1 (Nat.le_refl _)) (by rfl) ((xs ++ [x20]).length) (by simp) flat_int (.tmp 43) (.tmp 46) 28 1 8 (by rfl) (by rfl) (by kernel_rfl) (by kernel_rfl) (by rfl) (by kernel_rfl) (by kernel_rfl) (by simp only [maxLen, List.length_nil, List.length_cons]; omega) (by simp only [List.length_nil, List.length_cons]; omega) (fun _ _ _ _ w S => St.pick S [] _ rfl (by decide)) (fun A24 c24 F24 hi24 hm24 => ?_))
       refine Sx.GT.p (.pointer (some ⟨b4, 14, none⟩)) ?_
       refine Sx.GT.alone (Sx.Alone.s (.slice A24 ((xs ++ [x20]).length) c24) .a3 .a14 (fun w S => St.pick S [] _ rfl (by decide)) ?_)
       exact Sx.GT.nil (fun a w' hA S => ⟨rfl, x20, b23, A24, c24, F24, hi24, (Sx.Ag.and hA (Sx.Ag.and hA (Sx.Ag.and hA (Sx.Ag.and hA (Sx.Ag.none hA) _ _ (by kernel_rfl)) _ _ (by kernel_rfl)) _ _ (by kernel_rfl)) _ _ (by kernel_rfl)), St.pick S [0, 1, 2, 3, 4, 5, 6, 7, 8, 9, 10, 11] _ rfl (by decide), hx20, hy20⟩)
    rintro e a w' ⟨rfl, y25_0, y25_1, y25_2, y25_3, y25_4, y25_5, hA, S, hxy25_0, hyy25_0⟩
    refine Sx.E.out ?_ hA S
    clear hA S a w'
    refine Sx.E.block_normal (Sx.E.next (Sx.C.region ?_))
    refine Sx.G.p (.int .i64 (xi : Int)) ?_
    refine Sx.G.q (.int .i64 (IntKind.i64.wrap ((xi : Int) + 1))) (.int .i64 ((xi + 1 : Nat) : Int)) (congrArg (Value.int .i64) (Sx.wrap_up xi (by omega))) ?_
    refine Sx.G.p (.int .i64 ((xi + 1 : Nat) : Int)) ?_
    refine Sx.G.nil ?_
    have HN : xi + 1 ≤ 4 ∧ (xs ++ [y25_0]).length = xi + 1 ∧ ∀ y ∈ xs ++ [y25_0], (Lit.int .i64 y).wf = true := ⟨by omega, by simp [hx2], fun y hy => by rcases List.mem_append.1 hy with h | h; exact hx3 y h; rw [List.mem_singleton.1 h]; exact Sx.wf_small hxy25_0 (Int.lt_trans hyy25_0 (by decide))⟩
    exact Sx.E.again (xi + 1, xs ++ [y25_0], y25_2, y25_3, y25_4, w0.heap.size, y25_5) HN (by show 5 - (xi + 1) < 5 - xi; omega) (fun a hA => (Sx.Ag.and hA (Sx.Ag.and hA (Sx.Ag.and hA (Sx.Ag.and hA (Sx.Ag.none hA) _ _ (by kernel_rfl)) _ _ (by kernel_rfl)) _ _ (by kernel_rfl)) _ _ (by kernel_rfl))) (fun w S => St.pick S [1, 2, 3, 4, 5, 6, 7, 8, 9, 10, 11] _ rfl (by decide))
  ·
   skip
   refine Sx.C.yes (by kernel_rfl) (by kernel_rfl) ?_
   refine Sx.C.region ?_
   refine Sx.G.p (.pointer (some ⟨g, 0, none⟩)) ?_
   refine Sx.G.c 102 #[.pointer (some ⟨g, 0, none⟩)] (fun w26 S => (exit_any w0 A n c g _ hn hcode (Sx.St.cur S 9 rfl)).mono fun e w26' hp => ?_)
   obtain ⟨ek26, ep26, eq26, em26, rfl, hw26, hcur, hgr⟩ := hp
   refine ⟨_, _, rfl, Sx.St.moved S 9 rfl hcur hgr, ?_⟩
   clear S hcur hgr
   refine Sx.G.p (.pointer (some ⟨b4, 9, none⟩)) ?_
   refine Sx.G.sto 37 (.tmp 32) (.tmp 31) b4 9 2 [.slice q3A0 (newG pl2).prog.length q3c0, .int .i64 x7, .int .i64 x8, .slice (some ⟨tb5, 0, none⟩) 4 tc5, .slice (some ⟨tb6, 0, none⟩) 4 tc6, .int .i64 ca9, .int .i64 cb9, .bool co9, .int .i64 (newG pl2).pd, .int .i64 (newG pl2).x.1, .int .i64 (newG pl2).x.2.1, .bool (newG pl2).x.2.2.1, .int .i64 (newG pl2).x.2.2.2, .bool (newG pl2).hl, .slice q3A3 (newG pl2).seen.length q3c3] [.int .i64 ek26, .int .i64 ep26, .bool eq26, .int .i64 em26] [.slice q3A0 (newG pl2).prog.length q3c0, .int .i64 x7, .int .i64 x8, .slice (some ⟨tb5, 0, none⟩) 4 tc5, .slice (some ⟨tb6, 0, none⟩) 4 tc6, .int .i64 ca9, .int .i64 cb9, .bool co9, .int .i64 (newG pl2).pd, .int .i64 ek26, .int .i64 ep26, .bool eq26, .int .i64 em26, .bool (newG pl2).hl, .slice q3A3 (newG pl2).seen.length q3c3] [ow (rLst 108 (rPair rInt rInt)) w6.heap.size (w6'.heap.size) tl6 [.slice (some ⟨tb6, 0, none⟩) 4 tc6] [tb6], ow (rLst 108 (rPair rInt rInt)) w5.heap.size (w5'.heap.size) tl5 [.slice (some ⟨tb5, 0, none⟩) 4 tc5] [tb5], vr b4 [.slice q3A0 (newG pl2).prog.length q3c0, .int .i64 x7, .int .i64 x8, .slice (some ⟨tb5, 0, none⟩) 4 tc5, .slice (some ⟨tb6, 0, none⟩) 4 tc6, .int .i64 ca9, .int .i64 cb9, .bool co9, .int .i64 (newG pl2).pd, .int .i64 ek26, .int .i64 ep26, .bool eq26, .int .i64 em26, .bool (newG pl2).hl, .slice q3A3 (newG pl2).seen.length q3c3], ow (rLst 55 (rPair rInt rInt)) w3.heap.size w3'.heap.size (newG pl2).prog [.slice q3A0 (newG pl2).prog.length q3c0] G3_0, ow (rLsw (rPair rInt rInt)) w3.heap.size w3'.heap.size (newG pl2).wr [.slice q3A1 (newG pl2).wr.length q3c1] G3_1, ow (rLsw (rPair rInt rInt)) w3.heap.size w3'.heap.size (newG pl2).lv [.slice q3A2 (newG pl2).lv.length q3c2] G3_2, ow (rLst 3 rInt) w3.heap.size w3'.heap.size (newG pl2).seen [.slice q3A3 (newG pl2).seen.length q3c3] G3_3, ow (rLst 55 (rPair rInt rInt)) w2.heap.size (w2'.heap.size) pl2 [.slice (some ⟨pb2, 0, none⟩) pl2.length pc2] [pb2], vr b1 [.slice none 0 0, .int .i64 0, .int .i64 0, .slice none 0 0, .slice none 0 0, .int .i64 0, .int .i64 0, .bool false, .int .i64 0, .int .i64 0, .int .i64 0, .bool false, .int .i64 0, .bool false, .slice none 0 0], Sx.cu A n c g, Sx.frm w0 w g] rfl (by kernel_rfl) (by kernel_rfl) (by kernel_rfl) rfl (by kernel_rfl) rfl (by kernel_rfl) (by kernel_rfl) (by kernel_rfl) ?_
   refine Sx.G.nil (Sx.E.next (Sx.C.seq (Sx.C.region ?_)))
   refine Sx.G.p (.pointer (some ⟨g, 0, none⟩)) ?_
   refine Sx.G.c 26 #[.pointer (some ⟨g, 0, none⟩), .int .i64 12] (fun w27 S => (once_any w0 A n c g _ 12 (by decide) (by decide) hn hcode (Sx.St.cur S 9 rfl)).mono fun e w27' hp => ?_)
   obtain ⟨x27, rfl, hcur, hgr⟩ := hp
   refine ⟨_, _, rfl, Sx.St.moved S 9 rfl hcur hgr, ?_⟩
   clear S hcur hgr
   refine Sx.G.p (.pointer (some ⟨b4, 13, none⟩)) ?_
   refine Sx.G.s (.bool (x27)) .a2 .a13 ?_
   refine Sx.G.nil (Sx.E.next (Sx.C.seq (Sx.C.seq (Sx.C.region ?_))))
   refine Sx.G.p (.int .i64 0) ?_
   refine Sx.G.nil (Sx.E.next (Sx.C.block ?_))
   refine Sx.C.loop (α := Nat × List Int × Option Addr × Nat × List Nat × Nat × Nat) (fun x => x.1 ≤ 4 ∧ x.2.1.length = x.1 ∧ ∀ y ∈ x.2.1, (Lit.int .i64 y).wf = true) (fun x => [(4, .int .i64 (x.1 : Int)), (0, .pointer (some ⟨g, 0, none⟩)), (2, .pointer (some ⟨b1, 0, none⟩)), (3, .pointer (some ⟨b4, 0, none⟩))]) (fun x => [ow (rLst 108 (rPair rInt rInt)) w6.heap.size (w6'.heap.size) tl6 [.slice (some ⟨tb6, 0, none⟩) 4 tc6] [tb6], ow (rLst 108 (rPair rInt rInt)) w5.heap.size (w5'.heap.size) tl5 [.slice (some ⟨tb5, 0, none⟩) 4 tc5] [tb5], vr b4 [.slice q3A0 (newG pl2).prog.length q3c0, .int .i64 x7, .int .i64 x8, .slice (some ⟨tb5, 0, none⟩) 4 tc5, .slice (some ⟨tb6, 0, none⟩) 4 tc6, .int .i64 ca9, .int .i64 cb9, .bool co9, .int .i64 (newG pl2).pd, .int .i64 ek26, .int .i64 ep26, .bool eq26, .int .i64 em26, .bool (x27), .slice x.2.2.1 x.2.1.length x.2.2.2.1], ow (rLst 55 (rPair rInt rInt)) w3.heap.size w3'.heap.size (newG pl2).prog [.slice q3A0 (newG pl2).prog.length q3c0] G3_0, ow (rLsw (rPair rInt rInt)) w3.heap.size w3'.heap.size (newG pl2).wr [.slice q3A1 (newG pl2).wr.length q3c1] G3_1, ow (rLsw (rPair rInt rInt)) w3.heap.size w3'.heap.size (newG pl2).lv [.slice q3A2 (newG pl2).lv.length q3c2] G3_2, ow (rLst 3 rInt) x.2.2.2.2.2.1 x.2.2.2.2.2.2 x.2.1 [.slice x.2.2.1 x.2.1.length x.2.2.2.1] x.2.2.2.2.1, ow (rLst 55 (rPair rInt rInt)) w2.heap.size (w2'.heap.size) pl2 [.slice (some ⟨pb2, 0, none⟩) pl2.length pc2] [pb2], vr b1 [.slice none 0 0, .int .i64 0, .int .i64 0, .slice none 0 0, .slice none 0 0, .int .i64 0, .int .i64 0, .bool false, .int .i64 0, .int .i64 0, .int .i64 0, .bool false, .int .i64 0, .bool false, .slice none 0 0], Sx.cu A n c g, Sx.frm w0 w g]) (fun x => 5 - x.1) (0, (newG pl2).seen, q3A3, q3c3, G3_3, w3.heap.size, w3'.heap.size) ⟨Nat.zero_le _, rfl, fun y hy => by cases hy⟩ (fun a hA => (Sx.Ag.and hA (Sx.Ag.and hA (Sx.Ag.and hA (Sx.Ag.and hA (Sx.Ag.none hA) _ _ (by kernel_rfl)) _ _ (by kernel_rfl)) _ _ (by kernel_rfl)) _ _ (by kernel_rfl))) (fun w S => St.pick S [0, 1, 2, 3, 4, 5, 6, 7, 8, 9, 10] _ rfl (by decide)) (fun x hx => ?_)
   obtain ⟨xi, xs, xA, xc, xF, xlo, xhi⟩ := x
   dsimp only at hx
   obtain ⟨hx1, hx2, hx3⟩ := hx
   refine Sx.C.seq (Sx.C.seq (Sx.C.region ?_))
   refine Sx.G.p (.int .i64 (xi : Int)) ?_
   refine Sx.G.p (.pointer (some ⟨g, 0, none⟩)) ?_
   refine Sx.G.c 39 #[.pointer (some ⟨g, 0, none⟩), .int .i64 4] (fun w28 S => (below_any w0 A n c g _ 4 (by decide) (by decide) hn hcode (Sx.St.cur S 9 rfl)).mono fun e w28' hp => ?_)
   obtain ⟨x28, rfl, hx28, hy28, hcur, hgr⟩ := hp
   refine ⟨_, _, rfl, Sx.St.moved S 9 rfl hcur hgr, ?_⟩
   clear S hcur hgr
   refine Sx.G.p (.bool (decide ((xi : Int) < x28))) ?_
   refine Sx.G.nil (Sx.E.next ?_)
   cases hc29 : (decide ((xi : Int) < x28))
   ·
    replace hc29 := of_decide_eq_false hc29
    refine Sx.C.no (by kernel_rfl) (by kernel_rfl) ?_
    refine Sx.C.exit (Sx.E.then_exit (Sx.E.then_exit (Sx.E.block_hit (Sx.E.next (Sx.C.seq (Sx.C.region ?_))))))
    refine Sx.G.lw .m2 ?_
    refine Sx.G.sw [.slice q3A0 (newG pl2).prog.length q3c0, .int .i64 x7, .int .i64 x8, .slice (some ⟨tb5, 0, none⟩) 4 tc5, .slice (some ⟨tb6, 0, none⟩) 4 tc6, .int .i64 ca9, .int .i64 cb9, .bool co9, .int .i64 (newG pl2).pd, .int .i64 ek26, .int .i64 ep26, .bool eq26, .int .i64 em26, .bool (x27), .slice xA xs.length xc] .a8 ?_
    refine Sx.G.nil (Sx.E.next (Sx.C.ret ?_))
    refine Sx.E.retc b1 8 [.slice q3A0 (newG pl2).prog.length q3c0, .int .i64 x7, .int .i64 x8, .slice (some ⟨tb5, 0, none⟩) 4 tc5, .slice (some ⟨tb6, 0, none⟩) 4 tc6, .int .i64 ca9, .int .i64 cb9, .bool co9, .int .i64 (newG pl2).pd, .int .i64 ek26, .int .i64 ep26, .bool eq26, .int .i64 em26, .bool (x27), .slice xA xs.length xc] rfl (by kernel_rfl) rfl (by kernel_rfl) (by kernel_rfl) (fun w S => ?_)
    exact ⟨{ prog := (newG pl2).prog, a := x7, pc := x8, wr := tl5, lv := tl6, t := (ca9, cb9, co9), pd := (newG pl2).pd, x := (ek26, ep26, eq26, em26), hl := (x27), seen := xs }, _, _, _, _, rfl, ⟨⟨Nat.le_trans hM2 (by decide), hw2⟩, Sx.wf_small hx7 (Int.lt_trans hy7 (by decide)), Sx.wf_small hx8 (Int.lt_trans hy8 (by decide)), ⟨by simp only [hl5]; decide, hw5⟩, ⟨by simp only [hl6]; decide, hw6⟩, hw9, (show (Lit.int .i64 0).wf = true by decide), hw26, trivial, ⟨by simp only [hx2]; omega, hx3⟩⟩, ⟨hM2, by simp only [hl5]; decide, by simp only [hl6]; decide, by simp only [hx2]; omega⟩, Sx.St.cur S 9 rfl, Sx.St.grown S 10 rfl hb0, _, _, _, _, _, _, _, _, _, _, _, _, Sx.St.made (St.pick S [9, 10, 3, 1, 0, 6] _ rfl (by decide))⟩
   ·
    replace hc29 := of_decide_eq_true hc29
    refine Sx.C.yes (by kernel_rfl) (by kernel_rfl) ?_
    refine Sx.C.skip (Sx.E.next (Sx.C.seq (Sx.C.block ?_)))
    refine Sx.C.cut (fun e a w' => e = .normal ∧ ∃ (Y0 : Int) (Y1 : Nat) (Y2 : Option Addr) (Y3 : Nat) (Y4 : List Nat) (Y5 : Nat), Sx.Ag 50 [(0, .pointer (some ⟨g, 0, none⟩)), (2, .pointer (some ⟨b1, 0, none⟩)), (3, .pointer (some ⟨b4, 0, none⟩)), (4, .int .i64 (xi : Int))] a ∧ St w0 w' [vr Y1 [.int .i64 Y0], ow (rLst 108 (rPair rInt rInt)) w6.heap.size (w6'.heap.size) tl6 [.slice (some ⟨tb6, 0, none⟩) 4 tc6] [tb6], ow (rLst 108 (rPair rInt rInt)) w5.heap.size (w5'.heap.size) tl5 [.slice (some ⟨tb5, 0, none⟩) 4 tc5] [tb5], vr b4 [.slice q3A0 (newG pl2).prog.length q3c0, .int .i64 x7, .int .i64 x8, .slice (some ⟨tb5, 0, none⟩) 4 tc5, .slice (some ⟨tb6, 0, none⟩) 4 tc6, .int .i64 ca9, .int .i64 cb9, .bool co9, .int .i64 (newG pl2).pd, .int .i64 ek26, .int .i64 ep26, .bool eq26, .int .i64 em26, .bool (x27), .slice Y2 ((xs ++ [Y0]).length) Y3], ow (rLst 55 (rPair rInt rInt)) w3.heap.size w3'.heap.size (newG pl2).prog [.slice q3A0 (newG pl2).prog.length q3c0] G3_0, ow (rLsw (rPair rInt rInt)) w3.heap.size w3'.heap.size (newG pl2).wr [.slice q3A1 (newG pl2).wr.length q3c1] G3_1, ow (rLsw (rPair rInt rInt)) w3.heap.size w3'.heap.size (newG pl2).lv [.slice q3A2 (newG pl2).lv.length q3c2] G3_2, ow (rLst 3 rInt) w0.heap.size Y5 (xs ++ [Y0]) [.slice Y2 ((xs ++ [Y0]).length) Y3] Y4, ow (rLst 55 (rPair rInt rInt)) w2.heap.size (w2'.heap.size) pl2 [.slice (some ⟨pb2, 0, none⟩) pl2.length pc2] [pb2], vr b1 [.slice none 0 0, .int .i64 0, .int .i64 0, .slice none 0 0, .slice none 0 0, .int .i64 0, .int .i64 0, .bool false, .int .i64 0, .int .i64 0, .int .i64 0, .bool false, .int .i64 0, .bool false, .slice none 0 0], Sx.cu A n c g, Sx.frm w0 w g] ∧ 0 ≤ Y0 ∧ Y0 < 100) ?_ ?_
    ·
     refine Sx.C.draw (.take 0 (.take 2 (.two 1 (.alone 3 (.alone 4 (.alone 5 (.take 6 (.alone 7 .nil))))) 3 (.two 1 (.alone 4 (.alone 5 (.take 6 (.alone 7 .nil)))) 4 (.alone 1 (.alone 5 (.take 6 (.alone 7 .nil)))))))) [] (fun w S => St.pick S [] _ rfl (by decide)) (by kernel_rfl) (by kernel_rfl) (by kernel_rfl) ?_
     refine Sx.GT.p (.pointer (some ⟨b4, 14, none⟩)) ?_
     refine Sx.GT.p (.pointer (some ⟨g, 0, none⟩)) ?_
     refine Sx.GT.two ?_ ?_
     ·
      refine Sx.Alone.g (.slice xA xs.length xc) .m2 .m14 (fun w S => St.pick S [] _ rfl (by decide)) ?_
      refine Sx.GT.alone (Sx.Alone.c 39 #[.pointer (some ⟨g, 0, none⟩), .int .i64 100] (fun w30 S => (below_any w0 A n c g _ 100 (by decide) (by decide) hn hcode (Sx.St.cur S 9 rfl)).mono fun e w30' hp => ?_))
      obtain ⟨x30, rfl, hx30, hy30, hcur, hgr⟩ := hp
      refine ⟨_, _, rfl, Sx.St.moved S 9 rfl hcur hgr, (fun w S => St.pick S [] _ rfl (by decide)), ?_⟩
      clear S hcur hgr
      refine Sx.GT.alone (Sx.Alone.made 3 [.int .i64 x30] 1 (by rfl) (by kernel_rfl) (fun w => by kernel_rfl) (fun w S => St.pick S [] _ rfl (by decide)) (fun b31 => ?_))
      refine Sx.GT.alone (Sx.Alone.apps 7 (by rfl) (xs ++ [x30]) (fun w S => S.box 0 rfl rfl 1 (Nat.le_refl _)) (by rfl) ((xs ++ [x30]).length) (by simp) flat_int (.tmp 43) (.tmp 46) 28 1 8 (by rfl) (by rfl) (by kernel_rfl) (by kernel_rfl) (by rfl) (by kernel_rfl) (by kernel_rfl) (by simp only [maxLen, List.length_nil, List.length_cons]; omega) (by simp only [List.length_nil, List.length_cons]; omega) (fun _ _ _ _ w S => St.pick S [] _ rfl (by decide)) (fun A32 c32 F32 hi32 hm32 => ?_))
      refine Sx.GT.p (.pointer (some ⟨b4, 14, none⟩)) ?_
      refine Sx.GT.alone (Sx.Alone.s (.slice A32 ((xs ++ [x30]).length) c32) .a3 .a14 (fun w S => St.pick S [] _ rfl (by decide)) ?_)
      exact Sx.GT.nil (fun a w' hA S => ⟨rfl, x30, b31, A32, c32, F32, hi32, (Sx.Ag.and hA (Sx.Ag.and hA (Sx.Ag.and hA (Sx.Ag.and hA (Sx.Ag.none hA) _ _ (by kernel_rfl)) _ _ (by kernel_rfl)) _ _ (by kernel_rfl)) _ _ (by kernel_rfl)), St.pick S [0, 1, 2, 3, 4, 5, 6, 7, 8, 9, 10, 11] _ rfl (by decide), hx30, hy30⟩)
     ·
      refine Sx.Alone.c 39 #[.pointer (some ⟨g, 0, none⟩), .int .i64 100] (fun w33 S => (below_any w0 A n c g _ 100 (by decide) (by decide) hn hcode (Sx.St.cur S 9 rfl)).mono fun e w33' hp => ?_)
      obtain ⟨x33, rfl, hx33, hy33, hcur, hgr⟩ := hp
      refine ⟨_, _, rfl, Sx.St.moved S 9 rfl hcur hgr, (fun w S => St.pick S [] _ rfl (by decide)), ?_⟩
      clear S hcur hgr
      refine Sx.GT.two ?_ ?_
      ·
       refine Sx.Alone.g (.slice xA xs.length xc) .m2 .m14 (fun w S => St.pick S [] _ rfl (by decide)) ?_
       refine Sx.GT.alone (Sx.Alone.made 3 [.int .i64 x33] 1 (by rfl) (by kernel_rfl) (fun w => by kernel_rfl) (fun w S => St.pick S [] _ rfl (by decide)) (fun b34 => ?_))
       refine Sx.GT.alone (Sx.Alone.apps 7 (by rfl) (xs ++ [x33]) (fun w S => S.box 0 rfl rfl 1 (Nat.le_refl _)) (by rfl) ((xs ++ [x33]).length) (by simp) flat_int (.tmp 43) (.tmp 46) 28 1 8 (by rfl) (by rfl) (by kernel_rfl) (by kernel_rfl) (by rfl) (by kernel_rfl) (by kernel_rfl) (by simp only [maxLen, List.length_nil, List.length_cons]; omega) (by simp only [List.length_nil, List.length_cons]; omega) (fun _ _ _ _ w S => St.pick S [] _ rfl (by decide)) (fun A35 c35 F35 hi35 hm35 => ?_))
       refine Sx.GT.p (.pointer (some ⟨b4, 14, none⟩)) ?_
       refine Sx.GT.alone (Sx.Alone.s (.slice A35 ((xs ++ [x33]).length) c35) .a3 .a14 (fun w S => St.pick S [] _ rfl (by decide)) ?_)
       exact Sx.GT.nil (fun a w' hA S => ⟨rfl, x33, b34, A35, c35, F35, hi35, (Sx.Ag.and hA (Sx.Ag.and hA (Sx.Ag.and hA (Sx.Ag.and hA (Sx.Ag.none hA) _ _ (by kernel_rfl)) _ _ (by kernel_rfl)) _ _ (by kernel_rfl)) _ _ (by kernel_rfl)), St.pick S [0, 1, 2, 3, 4, 5, 6, 7, 8, 9, 10, 11] _ rfl (by decide), hx33, hy33⟩)
      ·
       refine Sx.Alone.made 3 [.int .i64 x33] 1 (by rfl) (by kernel_rfl) (fun w => by kernel_rfl) (fun w S => St.pick S [] _ rfl (by decide)) (fun b36 => ?_)
       refine Sx.GT.alone (Sx.Alone.g (.slice xA xs.length xc) .m3 .m14 (fun w S => St.pick S [] _ rfl (by decide)) ?_)
       refine Sx.GT.alone (Sx.Alone.apps 7 (by rfl) (xs ++ [x33]) (fun w S => S.box 0 rfl rfl 1 (Nat.le_refl _)) (by rfl) ((xs ++ [x33]).length) (by simp) flat_int (.tmp 43) (.tmp 46) 28 1 8 (by rfl) (by rfl) (by kernel_rfl) (by kernel_rfl) (by rfl) (by kernel_rfl) (by kernel_rfl) (by simp only [maxLen, List.length_nil, List.length_cons]; omega) (by simp only [List.length_nil, List.length_cons]; omega) (fun _ _ _ _ w S => St.pick S [] _ rfl (by decide)) (fun A37 c37 F37 hi37 hm37 => ?_))
       refine Sx.GT.p (.pointer (some ⟨b4, 14, none⟩)) ?_
       refine Sx.GT.alone (Sx.Alone.s (.slice A37 ((xs ++ [x33]).length) c37) .a3 .a14 (fun w S => St.pick S [] _ rfl (by decide)) ?_)
       exact Sx.GT.nil (fun a w' hA S => ⟨rfl, x33, b36, A37, c37, F37, hi37, (Sx.Ag.and hA (Sx.Ag.and hA (Sx.Ag.and hA (Sx.Ag.and hA (Sx.Ag.none hA) _ _ (by kernel_rfl)) _ _ (by kernel_rfl)) _ _ (by kernel_rfl)) _ _ (by kernel_rfl)), St.pick S [0, 1, 2, 3, 4, 5, 6, 7, 8, 9, 10, 11] _ rfl (by decide), hx33, hy33⟩)
    rintro e a w' ⟨rfl, y38_0, y38_1, y38_2, y38_3, y38_4, y38_5, hA, S, hxy38_0, hyy38_0⟩
    refine Sx.E.out ?_ hA S
    clear hA S a w'
    refine Sx.E.block_normal (Sx.E.next (Sx.C.region ?_))
    refine Sx.G.p (.int .i64 (xi : Int)) ?_
    refine Sx.G.q (.int .i64 (IntKind.i64.wrap ((xi : Int) + 1))) (.int .i64 ((xi + 1 : Nat) : Int)) (congrArg (Value.int .i64) (Sx.wrap_up xi (by omega))) ?_
    refine Sx.G.p (.int .i64 ((xi + 1 : Nat) : Int)) ?_
    refine Sx.G.nil ?_
    have HN : xi + 1 ≤ 4 ∧ (xs ++ [y38_0]).length = xi + 1 ∧ ∀ y ∈ xs ++ [y38_0], (Lit.int .i64 y).wf = true := ⟨by omega, by simp [hx2], fun y hy => by rcases List.mem_append.1 hy with h | h; exact hx3 y h; rw [List.mem_singleton.1 h]; exact Sx.wf_small hxy38_0 (Int.lt_trans hyy38_0 (by decide))⟩
    exact Sx.E.again (xi + 1, xs ++ [y38_0], y38_2, y38_3, y38_4, w0.heap.size, y38_5) HN (by show 5 - (xi + 1) < 5 - xi; omega) (fun a hA => (Sx.Ag.and hA (Sx.Ag.and hA (Sx.Ag.and hA (Sx.Ag.and hA (Sx.Ag.none hA) _ _ (by kernel_rfl)) _ _ (by kernel_rfl)) _ _ (by kernel_rfl)) _ _ (by kernel_rfl))) (fun w S => St.pick S [1, 2, 3, 4, 5, 6, 7, 8, 9, 10, 11] _ rfl (by decide))
 ·
  skip
  refine Sx.C.yes (by kernel_rfl) (by kernel_rfl) ?_
  refine Sx.C.region ?_
  refine Sx.G.p (.pointer (some ⟨g, 0, none⟩)) ?_
  refine Sx.G.c 39 #[.pointer (some ⟨g, 0, none⟩), .int .i64 256] (fun w39 S => (below_any w0 A n c g _ 256 (by decide) (by decide) hn hcode (Sx.St.cur S 9 rfl)).mono fun e w39' hp => ?_)
  obtain ⟨x39, rfl, hx39, hy39, hcur, hgr⟩ := hp
  refine ⟨_, _, rfl, Sx.St.moved S 9 rfl hcur hgr, ?_⟩
  clear S hcur hgr
  refine Sx.G.p (.pointer (some ⟨b4, 8, none⟩)) ?_
  refine Sx.G.s (.int .i64 x39) .a2 .a8 ?_
  refine Sx.G.nil (Sx.E.next (Sx.C.seq (Sx.C.seq (Sx.C.region ?_))))
  refine Sx.G.p (.pointer (some ⟨g, 0, none⟩)) ?_
  refine Sx.G.c 26 #[.pointer (some ⟨g, 0, none⟩), .int .i64 4] (fun w40 S => (once_any w0 A n c g _ 4 (by decide) (by decide) hn hcode (Sx.St.cur S 9 rfl)).mono fun e w40' hp => ?_)
  obtain ⟨x40, rfl, hcur, hgr⟩ := hp
  refine ⟨_, _, rfl, Sx.St.moved S 9 rfl hcur hgr, ?_⟩
  clear S hcur hgr
  refine Sx.G.nil (Sx.E.next ?_)
  cases hc41 : (x40)
  ·
   skip
   refine Sx.C.no (by kernel_rfl) (by kernel_rfl) ?_
   refine Sx.C.skip (Sx.E.next (Sx.C.seq (Sx.C.region ?_)))
   refine Sx.G.p (.pointer (some ⟨g, 0, none⟩)) ?_
   refine Sx.G.c 26 #[.pointer (some ⟨g, 0, none⟩), .int .i64 12] (fun w42 S => (once_any w0 A n c g _ 12 (by decide) (by decide) hn hcode (Sx.St.cur S 9 rfl)).mono fun e w42' hp => ?_)
   obtain ⟨x42, rfl, hcur, hgr⟩ := hp
   refine ⟨_, _, rfl, Sx.St.moved S 9 rfl hcur hgr, ?_⟩
   clear S hcur hgr
   refine Sx.G.p (.pointer (some ⟨b4, 13, none⟩)) ?_
   refine Sx.G.s (.bool (x42)) .a2 .a13 ?_
   refine Sx.G.nil (Sx.E.next (Sx.C.seq (Sx.C.seq (Sx.C.region ?_))))
   refine Sx.G.p (.int .i64 0) ?_
   refine Sx.G.nil (Sx.E.next (Sx.C.block ?_))
   refine Sx.C.loop (α := Nat × List Int × Option Addr × Nat × List Nat × Nat × Nat) (fun x => x.1 ≤ 4 ∧ x.2.1.length = x.1 ∧ ∀ y ∈ x.2.1, (Lit.int .i64 y).wf = true) (fun x => [(4, .int .i64 (x.1 : Int)), (0, .pointer (some ⟨g, 0, none⟩)), (2, .pointer (some ⟨b1, 0, none⟩)), (3, .pointer (some ⟨b4, 0, none⟩))]) (fun x => [ow (rLst 108 (rPair rInt rInt)) w6.heap.size (w6'.heap.size) tl6 [.slice (some ⟨tb6, 0, none⟩) 4 tc6] [tb6], ow (rLst 108 (rPair rInt rInt)) w5.heap.size (w5'.heap.size) tl5 [.slice (some ⟨tb5, 0, none⟩) 4 tc5] [tb5], vr b4 [.slice q3A0 (newG pl2).prog.length q3c0, .int .i64 x7, .int .i64 x8, .slice (some ⟨tb5, 0, none⟩) 4 tc5, .slice (some ⟨tb6, 0, none⟩) 4 tc6, .int .i64 ca9, .int .i64 cb9, .bool co9, .int .i64 x39, .int .i64 (newG pl2).x.1, .int .i64 (newG pl2).x.2.1, .bool (newG pl2).x.2.2.1, .int .i64 (newG pl2).x.2.2.2, .bool (x42), .slice x.2.2.1 x.2.1.length x.2.2.2.1], ow (rLst 55 (rPair rInt rInt)) w3.heap.size w3'.heap.size (newG pl2).prog [.slice q3A0 (newG pl2).prog.length q3c0] G3_0, ow (rLsw (rPair rInt rInt)) w3.heap.size w3'.heap.size (newG pl2).wr [.slice q3A1 (newG pl2).wr.length q3c1] G3_1, ow (rLsw (rPair rInt rInt)) w3.heap.size w3'.heap.size (newG pl2).lv [.slice q3A2 (newG pl2).lv.length q3c2] G3_2, ow (rLst 3 rInt) x.2.2.2.2.2.1 x.2.2.2.2.2.2 x.2.1 [.slice x.2.2.1 x.2.1.length x.2.2.2.1] x.2.2.2.2.1, ow (rLst 55 (rPair rInt rInt)) w2.heap.size (w2'.heap.size) pl2 [.slice (some ⟨pb2, 0, none⟩) pl2.length pc2] [pb2], vr b1 [.slice none 0 0, .int .i64 0, .int .i64 0, .slice none 0 0, .slice none 0 0, .int .i64 0, .int .i64 0, .bool false, .int .i64 0, .int .i64 0, .int .i64 0, .bool false, .int .i64 0, .bool false, .slice none 0 0], Sx.cu A n c g, Sx.frm w0 w g]) (fun x => 5 - x.1) (0, (newG pl2).seen, q3A3, q3c3, G3_3, w3.heap.size, w3'.heap.size) ⟨Nat.zero_le _, rfl, fun y hy => by cases hy⟩ (fun a hA => (Sx.Ag.and hA (Sx.Ag.and hA (Sx.Ag.and hA (Sx.Ag.and hA (Sx.Ag.none hA) _ _ (by kernel_rfl)) _ _ (by kernel_rfl)) _ _ (by kernel_rfl)) _ _ (by kernel_rfl))) (fun w S => St.pick S [0, 1, 2, 3, 4, 5, 6, 7, 8, 9, 10] _ rfl (by decide)) (fun x hx => ?_)
   obtain ⟨xi, xs, xA, xc, xF, xlo, xhi⟩ := x
   dsimp only at hx
   obtain ⟨hx1, hx2, hx3⟩ := hx
   refine Sx.C.seq (Sx.C.seq (Sx.C.region ?_))
   refine Sx.G.p (.int .i64 (xi : Int)) ?_
   refine Sx.G.p (.pointer (some ⟨g, 0, none⟩)) ?_
   refine Sx.G.c 39 #[.pointer (some ⟨g, 0, none⟩), .int .i64 4] (fun w43 S => (below_any w0 A n c g _ 4 (by decide) (by decide) hn hcode (Sx.St.cur S 9 rfl)).mono fun e w43' hp => ?_)
   obtain ⟨x43, rfl, hx43, hy43, hcur, hgr⟩ := hp
   refine ⟨_, _, rfl, Sx.St.moved S 9 rfl hcur hgr, ?_⟩
   clear S hcur hgr
   refine Sx.G.p (.bool (decide ((xi : Int) < x43))) ?_
   refine Sx.G.nil (Sx.E.next ?_)
   cases hc44 : (decide ((xi : Int) < x43))
   ·
    replace hc44 := of_decide_eq_false hc44
    refine Sx.C.no (by kernel_rfl) (by kernel_rfl) ?_
    refine Sx.C.exit (Sx.E.then_exit (Sx.E.then_exit (Sx.E.block_hit (Sx.E.next (Sx.C.seq (Sx.C.region ?_))))))
    refine Sx.G.lw .m2 ?_
    refine Sx.G.sw [.slice q3A0 (newG pl2).prog.length q3c0, .int .i64 x7, .int .i64 x8, .slice (some ⟨tb5, 0, none⟩) 4 tc5, .slice (some ⟨tb6, 0, none⟩) 4 tc6, .int .i64 ca9, .int .i64 cb9, .bool co9, .int .i64 x39, .int .i64 (newG pl2).x.1, .int .i64 (newG pl2).x.2.1, .bool (newG pl2).x.2.2.1, .int .i64 (newG pl2).x.2.2.2, .bool (x42), .slice xA xs.length xc] .a8 ?_
    refine Sx.G.nil (Sx.E.next (Sx.C.ret ?_))
    refine Sx.E.retc b1 8 [.slice q3A0 (newG pl2).prog.length q3c0, .int .i64 x7, .int .i64 x8, .slice (some ⟨tb5, 0, none⟩) 4 tc5, .slice (some ⟨tb6, 0, none⟩) 4 tc6, .int .i64 ca9, .int .i64 cb9, .bool co9, .int .i64 x39, .int .i64 (newG pl2).x.1, .int .i64 (newG pl2).x.2.1, .bool (newG pl2).x.2.2.1, .int .i64 (newG pl2).x.2.2.2, .bool (x42), .slice xA xs.length xc] rfl (by kernel_rfl) rfl (by kernel_rfl) (by kernel_rfl) (fun w S => ?_)
    exact ⟨{ prog := (newG pl2).prog, a := x7, pc := x8, wr := tl5, lv := tl6, t := (ca9, cb9, co9), pd := x39, x := ((newG pl2).x.1, (newG pl2).x.2.1, (newG pl2).x.2.2.1, (newG pl2).x.2.2.2), hl := (x42), seen := xs }, _, _, _, _, rfl, ⟨⟨Nat.le_trans hM2 (by decide), hw2⟩, Sx.wf_small hx7 (Int.lt_trans hy7 (by decide)), Sx.wf_small hx8 (Int.lt_trans hy8 (by decide)), ⟨by simp only [hl5]; decide, hw5⟩, ⟨by simp only [hl6]; decide, hw6⟩, hw9, Sx.wf_small hx39 (Int.lt_trans hy39 (by decide)), ⟨(show (Lit.int .i64 0).wf = true by decide), (show (Lit.int .i64 0).wf = true by decide), trivial, (show (Lit.int .i64 0).wf = true by decide)⟩, trivial, ⟨by simp only [hx2]; omega, hx3⟩⟩, ⟨hM2, by simp only [hl5]; decide, by simp only [hl6]; decide, by simp only [hx2]; omega⟩, Sx.St.cur S 9 rfl, Sx.St.grown S 10 rfl hb0, _, _, _, _, _, _, _, _, _, _, _, _, Sx.St.made (St.pick S [9, 10, 3, 1, 0, 6] _ rfl (by decide))⟩
   ·
    replace hc44 := of_decide_eq_true hc44
    refine Sx.C.yes (by kernel_rfl) (by kernel_rfl) ?_
    refine Sx.C.skip (Sx.E.next (Sx.C.seq (Sx.C.block ?_)))
    refine Sx.C.cut (fun e a w' => e = .normal ∧ ∃ (Y0 : Int) (Y1 : Nat) (Y2 : Option Addr) (Y3 : Nat) (Y4 : List Nat) (Y5 : Nat), Sx.Ag 50 [(0, .pointer (some ⟨g, 0, none⟩)), (2, .pointer (some ⟨b1, 0, none⟩)), (3, .pointer (some ⟨b4, 0, none⟩)), (4, .int .i64 (xi : Int))] a ∧ St w0 w' [vr Y1 [.int .i64 Y0], ow (rLst 108 (rPair rInt rInt)) w6.heap.size (w6'.heap.size) tl6 [.slice (some ⟨tb6, 0, none⟩) 4 tc6] [tb6], ow (rLst 108 (rPair rInt rInt)) w5.heap.size (w5'.heap.size) tl5 [.slice (some ⟨tb5, 0, none⟩) 4 tc5] [tb5], vr b4 [.slice q3A0 (newG pl2).prog.length q3c0, .int .i64 x7, .int .i64 x8, .slice (some ⟨tb5, 0, none⟩) 4 tc5, .slice (some ⟨tb6, 0, none⟩) 4 tc6, .int .i64 ca9, .int .i64 cb9, .bool co9, .int .i64 x39, .int .i64 (newG pl2).x.1, .int .i64 (newG pl2).x.2.1, .bool (newG pl2).x.2.2.1, .int .i64 (newG pl2).x.2.2.2, .bool (x42), .slice Y2 ((xs ++ [Y0]).length) Y3], ow (rLst 55 (rPair rInt rInt)) w3.heap.size w3'.heap.size (newG pl2).prog [.slice q3A0 (newG pl2).prog.length q3c0] G3_0, ow (rLsw (rPair rInt rInt)) w3.heap.size w3'.heap.size (newG pl2).wr [.slice q3A1 (newG pl2).wr.length q3c1] G3_1, ow (rLsw (rPair rInt rInt)) w3.heap.size w3'.heap.size (newG pl2).lv [.slice q3A2 (newG pl2).lv.length q3c2] G3_2, ow (rLst 3 rInt) w0.heap.size Y5 (xs ++ [Y0]) [.slice Y2 ((xs ++ [Y0]).length) Y3] Y4, ow (rLst 55 (rPair rInt rInt)) w2.heap.size (w2'.heap.size) pl2 [.slice (some ⟨pb2, 0, none⟩) pl2.length pc2] [pb2], vr b1 [.slice none 0 0, .int .i64 0, .int .i64 0, .slice none 0 0, .slice none 0 0, .int .i64 0, .int .i64 0, .bool false, .int .i64 0, .int .i64 0, .int .i64 0, .bool false, .int .i64 0, .bool false, .slice none 0 0], Sx.cu A n c g, Sx.frm w0 w g] ∧ 0 ≤ Y0 ∧ Y0 < 100) ?_ ?_
    ·
     refine Sx.C.draw (.take 0 (.take 2 (.two 1 (.alone 3 (.alone 4 (.alone 5 (.take 6 (.alone 7 .nil))))) 3 (.two 1 (.alone 4 (.alone 5 (.take 6 (.alone 7 .nil)))) 4 (.alone 1 (.alone 5 (.take 6 (.alone 7 .nil)))))))) [] (fun w S => St.pick S [] _ rfl (by decide)) (by kernel_rfl) (by kernel_rfl) (by kernel_rfl) ?_
     refine Sx.GT.p (.pointer (some ⟨b4, 14, none⟩)) ?_
     refine Sx.GT.p (.pointer (some ⟨g, 0, none⟩)) ?_
     refine Sx.GT.two ?_ ?_
     ·
      refine Sx.Alone.g (.slice xA xs.length xc) .m2 .m14 (fun w S => St.pick S [] _ rfl (by decide)) ?_
      refine Sx.GT.alone (Sx.Alone.c 39 #[.pointer (some ⟨g, 0, none⟩), .int .i64 100] (fun w45 S => (below_any w0 A n c g _ 100 (by decide) (by decide) hn hcode (Sx.St.cur S 9 rfl)).mono fun e w45' hp => ?_))
      obtain ⟨x45, rfl, hx45, hy45, hcur, hgr⟩ := hp
      refine ⟨_, _, rfl, Sx.St.moved S 9 rfl hcur hgr, (fun w S => St.pick S [] _ rfl (by decide)), ?_⟩
      clear S hcur hgr
      refine Sx.GT.alone (Sx.Alone.made 3 [.int .i64 x45] 1 (by rfl) (by kernel_rfl) (fun w => by kernel_rfl) (fun w S => St.pick S [] _ rfl (by decide)) (fun b46 => ?_))
      refine Sx.GT.alone (Sx.Alone.apps 7 (by rfl) (xs ++ [x45]) (fun w S => S.box 0 rfl rfl 1 (Nat.le_refl _)) (by rfl) ((xs ++ [x45]).length) (by simp) flat_int (.tmp 43) (.tmp 46) 28 1 8 (by rfl) (by rfl) (by kernel_rfl) (by kernel_rfl) (by rfl) (by kernel_rfl) (by kernel_rfl) (by simp only [maxLen, List.length_nil, List.length_cons]; omega) (by simp only [List.length_nil, List.length_cons]; omega) (fun _ _ _ _ w S => St.pick S [] _ rfl (by decide)) (fun A47 c47 F47 hi47 hm47 => ?_))
      refine Sx.GT.p (.pointer (some ⟨b4, 14, none⟩)) ?_
      refine Sx.GT.alone (Sx.Alone.s (.slice A47 ((xs ++ [x45]).length) c47) .a3 .a14 (fun w S => St.pick S [] _ rfl (by decide)) ?_)
      exact Sx.GT.nil (fun a w' hA S => ⟨rfl, x45, b46, A47, c47, F47, hi47, (Sx.Ag.and hA (Sx.Ag.and hA (Sx.Ag.and hA (Sx.Ag.and hA (Sx.Ag.none hA) _ _ (by kernel_rfl)) _ _ (by kernel_rfl)) _ _ (by kernel_rfl)) _ _ (by kernel_rfl)), St.pick S [0, 1, 2, 3, 4, 5, 6, 7, 8, 9, 10, 11] _ rfl (by decide), hx45, hy45⟩)
     ·
      refine Sx.Alone.c 39 #[.pointer (some ⟨g, 0, none⟩), .int .i64 100] (fun w48 S => (below_any w0 A n c g _ 100 (by decide) (by decide) hn hcode (Sx.St.cur S 9 rfl)).mono fun e w48' hp => ?_)
      obtain ⟨x48, rfl, hx48, hy48, hcur, hgr⟩ := hp
      refine ⟨_, _, rfl, Sx.St.moved S 9 rfl hcur hgr, (fun w S => St.pick S [] _ rfl (by decide)), ?_⟩
      clear S hcur hgr
      refine Sx.GT.two ?_ ?_
      ·
       refine Sx.Alone.g (.slice xA xs.length xc) .m2 .m14 (fun w S => St.pick S [] _ rfl (by decide)) ?_
       refine Sx.GT.alone (Sx.Alone.made 3 [.int .i64 x48] 1 (by rfl) (by kernel_rfl) (fun w => by kernel_rfl) (fun w S => St.pick S [] _ rfl (by decide)) (fun b49 => ?_))
       refine Sx.GT.alone (Sx.Alone.apps 7 (by rfl) (xs ++ [x48]) (fun w S => S.box 0 rfl rfl 1 (Nat.le_refl _)) (by rfl) ((xs ++ [x48]).length) (by simp) flat_int (.tmp 43) (.tmp 46) 28 1 8 (by rfl) (by rfl) (by kernel_rfl) (by kernel_rfl) (by rfl) (by kernel_rfl) (by kernel_rfl) (by simp only [maxLen, List.length_nil, List.length_cons]; omega) (by simp only [List.length_nil, List.length_cons]; omega) (fun _ _ _ _ w S => St.pick S [] _ rfl (by decide)) (fun A50 c50 F50 hi50 hm50 => ?_))
       refine Sx.GT.p (.pointer (some ⟨b4, 14, none⟩)) ?_
       refine Sx.GT.alone (Sx.Alone.s (.slice A50 ((xs ++ [x48]).length) c50) .a3 .a14 (fun w S => St.pick S [] _ rfl (by decide)) ?_)
       exact Sx.GT.nil (fun a w' hA S => ⟨rfl, x48, b49, A50, c50, F50, hi50, (Sx.Ag.and hA (Sx.Ag.and hA (Sx.Ag.and hA (Sx.Ag.and hA (Sx.Ag.none hA) _ _ (by kernel_rfl)) _ _ (by kernel_rfl)) _ _ (by kernel_rfl)) _ _ (by kernel_rfl)), St.pick S [0, 1, 2, 3, 4, 5, 6, 7, 8, 9, 10, 11] _ rfl (by decide), hx48, hy48⟩)
      ·
       refine Sx.Alone.made 3 [.int .i64 x48] 1 (by rfl) (by kernel_rfl) (fun w => by kernel_rfl) (fun w S => St.pick S [] _ rfl (by decide)) (fun b51 => ?_)
       refine Sx.GT.alone (Sx.Alone.g (.slice xA xs.length xc) .m3 .m14 (fun w S => St.pick S [] _ rfl (by decide)) ?_)
       refine Sx.GT.alone (Sx.Alone.apps 7 (by rfl) (xs ++ [x48]) (fun w S => S.box 0 rfl rfl 1 (Nat.le_refl _)) (by rfl) ((xs ++ [x48]).length) (by simp) flat_int (.tmp 43) (.tmp 46) 28 1 8 (by rfl) (by rfl) (by kernel_rfl) (by kernel_rfl) (by rfl) (by kernel_rfl) (by kernel_rfl) (by simp only [maxLen, List.length_nil, List.length_cons]; omega) (by simp only [List.length_nil, List.length_cons]; omega) (fun _ _ _ _ w S => St.pick S [] _ rfl (by decide)) (fun A52 c52 F52 hi52 hm52 => ?_))
       refine Sx.GT.p (.pointer (some ⟨b4, 14, none⟩)) ?_
       refine Sx.GT.alone (Sx.Alone.s (.slice A52 ((xs ++ [x48]).length) c52) .a3 .a14 (fun w S => St.pick S [] _ rfl (by decide)) ?_)
       exact Sx.GT.nil (fun a w' hA S => ⟨rfl, x48, b51, A52, c52, F52, hi52, (Sx.Ag.and hA (Sx.Ag.and hA (Sx.Ag.and hA (Sx.Ag.and hA (Sx.Ag.none hA) _ _ (by kernel_rfl)) _ _ (by kernel_rfl)) _ _ (by kernel_rfl)) _ _ (by kernel_rfl)), St.pick S [0, 1, 2, 3, 4, 5, 6, 7, 8, 9, 10, 11] _ rfl (by decide), hx48, hy48⟩)
    rintro e a w' ⟨rfl, y53_0, y53_1, y53_2, y53_3, y53_4, y53_5, hA, S, hxy53_0, hyy53_0⟩
    refine Sx.E.out ?_ hA S
    clear hA S a w'
    refine Sx.E.block_normal (Sx.E.next (Sx.C.region ?_))
    refine Sx.G.p (.int .i64 (xi : Int)) ?_
    refine Sx.G.q (.int .i64 (IntKind.i64.wrap ((xi : Int) + 1))) (.int .i64 ((xi + 1 : Nat) : Int)) (congrArg (Value.int .i64) (Sx.wrap_up xi (by omega))) ?_
    refine Sx.G.p (.int .i64 ((xi + 1 : Nat) : Int)) ?_
    refine Sx.G.nil ?_
    have HN : xi + 1 ≤ 4 ∧ (xs ++ [y53_0]).length = xi + 1 ∧ ∀ y ∈ xs ++ [y53_0], (Lit.int .i64 y).wf = true := ⟨by omega, by simp [hx2], fun y hy => by rcases List.mem_append.1 hy with h | h; exact hx3 y h; rw [List.mem_singleton.1 h]; exact Sx.wf_small hxy53_0 (Int.lt_trans hyy53_0 (by decide))⟩
    exact Sx.E.again (xi + 1, xs ++ [y53_0], y53_2, y53_3, y53_4, w0.heap.size, y53_5) HN (by show 5 - (xi + 1) < 5 - xi; omega) (fun a hA => (Sx.Ag.and hA (Sx.Ag.and hA (Sx.Ag.and hA (Sx.Ag.and hA (Sx.Ag.none hA) _ _ (by kernel_rfl)) _ _ (by kernel_rfl)) _ _ (by kernel_rfl)) _ _ (by kernel_rfl))) (fun w S => St.pick S [1, 2, 3, 4, 5, 6, 7, 8, 9, 10, 11] _ rfl (by decide))
  ·
   skip
   refine Sx.C.yes (by kernel_rfl) (by kernel_rfl) ?_
   refine Sx.C.region ?_
   refine Sx.G.p (.pointer (some ⟨g, 0, none⟩)) ?_
   refine Sx.G.c 102 #[.pointer (some ⟨g, 0, none⟩)] (fun w54 S => (exit_any w0 A n c g _ hn hcode (Sx.St.cur S 9 rfl)).mono fun e w54' hp => ?_)
   obtain ⟨ek54, ep54, eq54, em54, rfl, hw54, hcur, hgr⟩ := hp
   refine ⟨_, _, rfl, Sx.St.moved S 9 rfl hcur hgr, ?_⟩
   clear S hcur hgr
   refine Sx.G.p (.pointer (some ⟨b4, 9, none⟩)) ?_
   refine Sx.G.sto 37 (.tmp 32) (.tmp 31) b4 9 2 [.slice q3A0 (newG pl2).prog.length q3c0, .int .i64 x7, .int .i64 x8, .slice (some ⟨tb5, 0, none⟩) 4 tc5, .slice (some ⟨tb6, 0, none⟩) 4 tc6, .int .i64 ca9, .int .i64 cb9, .bool co9, .int .i64 x39, .int .i64 (newG pl2).x.1, .int .i64 (newG pl2).x.2.1, .bool (newG pl2).x.2.2.1, .int .i64 (newG pl2).x.2.2.2, .bool (newG pl2).hl, .slice q3A3 (newG pl2).seen.length q3c3] [.int .i64 ek54, .int .i64 ep54, .bool eq54, .int .i64 em54] [.slice q3A0 (newG pl2).prog.length q3c0, .int .i64 x7, .int .i64 x8, .slice (some ⟨tb5, 0, none⟩) 4 tc5, .slice (some ⟨tb6, 0, none⟩) 4 tc6, .int .i64 ca9, .int .i64 cb9, .bool co9, .int .i64 x39, .int .i64 ek54, .int .i64 ep54, .bool eq54, .int .i64 em54, .bool (newG pl2).hl, .slice q3A3 (newG pl2).seen.length q3c3] [ow (rLst 108 (rPair rInt rInt)) w6.heap.size (w6'.heap.size) tl6 [.slice (some ⟨tb6, 0, none⟩) 4 tc6] [tb6], ow (rLst 108 (rPair rInt rInt)) w5.heap.size (w5'.heap.size) tl5 [.slice (some ⟨tb5, 0, none⟩) 4 tc5] [tb5], vr b4 [.slice q3A0 (newG pl2).prog.length q3c0, .int .i64 x7, .int .i64 x8, .slice (some ⟨tb5, 0, none⟩) 4 tc5, .slice (some ⟨tb6, 0, none⟩) 4 tc6, .int .i64 ca9, .int .i64 cb9, .bool co9, .int .i64 x39, .int .i64 ek54, .int .i64 ep54, .bool eq54, .int .i64 em54, .bool (newG pl2).hl, .slice q3A3 (newG pl2).seen.length q3c3], ow (rLst 55 (rPair rInt rInt)) w3.heap.size w3'.heap.size (newG pl2).prog [.slice q3A0 (newG pl2).prog.length q3c0] G3_0, ow (rLsw (rPair rInt rInt)) w3.heap.size w3'.heap.size (newG pl2).wr [.slice q3A1 (newG pl2).wr.length q3c1] G3_1, ow (rLsw (rPair rInt rInt)) w3.heap.size w3'.heap.size (newG pl2).lv [.slice q3A2 (newG pl2).lv.length q3c2] G3_2, ow (rLst 3 rInt) w3.heap.size w3'.heap.size (newG pl2).seen [.slice q3A3 (newG pl2).seen.length q3c3] G3_3, ow (rLst 55 (rPair rInt rInt)) w2.heap.size (w2'.heap.size) pl2 [.slice (some ⟨pb2, 0, none⟩) pl2.length pc2] [pb2], vr b1 [.slice none 0 0, .int .i64 0, .int .i64 0, .slice none 0 0, .slice none 0 0, .int .i64 0, .int .i64 0, .bool false, .int .i64 0, .int .i64 0, .int .i64 0, .bool false, .int .i64 0, .bool false, .slice none 0 0], Sx.cu A n c g, Sx.frm w0 w g] rfl (by kernel_rfl) (by kernel_rfl) (by kernel_rfl) rfl (by kernel_rfl) rfl (by kernel_rfl) (by kernel_rfl) (by kernel_rfl) ?_
   refine Sx.G.nil (Sx.E.next (Sx.C.seq (Sx.C.region ?_)))
   refine Sx.G.p (.pointer (some ⟨g, 0, none⟩)) ?_
   refine Sx.G.c 26 #[.pointer (some ⟨g, 0, none⟩), .int .i64 12] (fun w55 S => (once_any w0 A n c g _ 12 (by decide) (by decide) hn hcode (Sx.St.cur S 9 rfl)).mono fun e w55' hp => ?_)
   obtain ⟨x55, rfl, hcur, hgr⟩ := hp
   refine ⟨_, _, rfl, Sx.St.moved S 9 rfl hcur hgr, ?_⟩
   clear S hcur hgr
   refine Sx.G.p (.pointer (some ⟨b4, 13, none⟩)) ?_
   refine Sx.G.s (.bool (x55)) .a2 .a13 ?_
   refine Sx.G.nil (Sx.E.next (Sx.C.seq (Sx.C.seq (Sx.C.region ?_))))
   refine Sx.G.p (.int .i64 0) ?_
   refine Sx.G.nil (Sx.E.next (Sx.C.block ?_))
   refine Sx.C.loop (α := Nat × List Int × Option Addr × Nat × List Nat × Nat × Nat) (fun x => x.1 ≤ 4 ∧ x.2.1.length = x.1 ∧ ∀ y ∈ x.2.1, (Lit.int .i64 y).wf = true) (fun x => [(4, .int .i64 (x.1 : Int)), (0, .pointer (some ⟨g, 0, none⟩)), (2, .pointer (some ⟨b1, 0, none⟩)), (3, .pointer (some ⟨b4, 0, none⟩))]) (fun x => [ow (rLst 108 (rPair rInt rInt)) w6.heap.size (w6'.heap.size) tl6 [.slice (some ⟨tb6, 0, none⟩) 4 tc6] [tb6], ow (rLst 108 (rPair rInt rInt)) w5.heap.size (w5'.heap.size) tl5 [.slice (some ⟨tb5, 0, none⟩) 4 tc5] [tb5], vr b4 [.slice q3A0 (newG pl2).prog.length q3c0, .int .i64 x7, .int .i64 x8, .slice (some ⟨tb5, 0, none⟩) 4 tc5, .slice (some ⟨tb6, 0, none⟩) 4 tc6, .int .i64 ca9, .int .i64 cb9, .bool co9, .int .i64 x39, .int .i64 ek54, .int .i64 ep54, .bool eq54, .int .i64 em54, .bool (x55), .slice x.2.2.1 x.2.1.length x.2.2.2.1], ow (rLst 55 (rPair rInt rInt)) w3.heap.size w3'.heap.size (newG pl2).prog [.slice q3A0 (newG pl2).prog.length q3c0] G3_0, ow (rLsw (rPair rInt rInt)) w3.heap.size w3'.heap.size (newG pl2).wr [.slice q3A1 (newG pl2).wr.length q3c1] G3_1, ow (rLsw (rPair rInt rInt)) w3.heap.size w3'.heap.size (newG pl2).lv [.slice q3A2 (newG pl2).lv.length q3c2] G3_2, ow (rLst 3 rInt) x.2.2.2.2.2.1 x.2.2.2.2.2.2 x.2.1 [.slice x.2.2.1 x.2.1.length x.2.2.2.1] x.2.2.2.2.1, ow (rLst 55 (rPair rInt rInt)) w2.heap.size (w2'.heap.size) pl2 [.slice (some ⟨pb2, 0, none⟩) pl2.length pc2] [pb2], vr b1 [.slice none 0 0, .int .i64 0, .int .i64 0, .slice none 0 0, .slice none 0 0, .int .i64 0, .int .i64 0, .bool false, .int .i64 0, .int .i64 0, .int .i64 0, .bool false, .int .i64 0, .bool false, .slice none 0 0], Sx.cu A n c g, Sx.frm w0 w g]) (fun x => 5 - x.1) (0, (newG pl2).seen, q3A3, q3c3, G3_3, w3.heap.size, w3'.heap.size) ⟨Nat.zero_le _, rfl, fun y hy => by cases hy⟩ (fun a hA => (Sx.Ag.and hA (Sx.Ag.and hA (Sx.Ag.and hA (Sx.Ag.and hA (Sx.Ag.none hA) _ _ (by kernel_rfl)) _ _ (by kernel_rfl)) _ _ (by kernel_rfl)) _ _ (by kernel_rfl))) (fun w S => St.pick S [0, 1, 2, 3, 4, 5, 6, 7, 8, 9, 10] _ rfl (by decide)) (fun x hx => ?_)
   obtain ⟨xi, xs, xA, xc, xF, xlo, xhi⟩ := x
   dsimp only at hx
   obtain ⟨hx1, hx2, hx3⟩ := hx
   refine Sx.C.seq (Sx.C.seq (Sx.C.region ?_))
   refine Sx.G.p (.int .i64 (xi : Int)) ?_
   refine Sx.G.p (.pointer (some ⟨g, 0, none⟩)) ?_
   refine Sx.G.c 39 #[.pointer (some ⟨g, 0, none⟩), .int .i64 4] (fun w56 S => (below_any w0 A n c g _ 4 (by decide) (by decide) hn hcode (Sx.St.cur S 9 rfl)).mono fun e w56' hp => ?_)
   obtain ⟨x56, rfl, hx56, hy56, hcur, hgr⟩ := hp
   refine ⟨_, _, rfl, Sx.St.moved S 9 rfl hcur hgr, ?_⟩
   clear S hcur hgr
   refine Sx.G.p (.bool (decide ((xi : Int) < x56))) ?_
   refine Sx.G.nil (Sx.E.next ?_)
   cases hc57 : (decide ((xi : Int) < x56))
   ·
    replace hc57 := of_decide_eq_false hc57
    refine Sx.C.no (by kernel_rfl) (by kernel_rfl) ?_
    refine Sx.C.exit (Sx.E.then_exit (Sx.E.then_exit (Sx.E.block_hit (Sx.E.next (Sx.C.seq (Sx.C.region ?_))))))
    refine Sx.G.lw .m2 ?_
    refine Sx.G.sw [.slice q3A0 (newG pl2).prog.length q3c0, .int .i64 x7, .int .i64 x8, .slice (some ⟨tb5, 0, none⟩) 4 tc5, .slice (some ⟨tb6, 0, none⟩) 4 tc6, .int .i64 ca9, .int .i64 cb9, .bool co9, .int .i64 x39, .int .i64 ek54, .int .i64 ep54, .bool eq54, .int .i64 em54, .bool (x55), .slice xA xs.length xc] .a8 ?_
    refine Sx.G.nil (Sx.E.next (Sx.C.ret ?_))
    refine Sx.E.retc b1 8 [.slice q3A0 (newG pl2).prog.length q3c0, .int .i64 x7, .int .i64 x8, .slice (some ⟨tb5, 0, none⟩) 4 tc5, .slice (some ⟨tb6, 0, none⟩) 4 tc6, .int .i64 ca9, .int .i64 cb9, .bool co9, .int .i64 x39, .int .i64 ek54, .int .i64 ep54, .bool eq54, .int .i64 em54, .bool (x55), .slice xA xs.length xc] rfl (by kernel_rfl) rfl (by kernel_rfl) (by kernel_rfl) (fun w S => ?_)
    exact ⟨{ prog := (newG pl2).prog, a := x7, pc := x8, wr := tl5, lv := tl6, t := (ca9, cb9, co9), pd := x39, x := (ek54, ep54, eq54, em54), hl := (x55), seen := xs }, _, _, _, _, rfl, ⟨⟨Nat.le_trans hM2 (by decide), hw2⟩, Sx.wf_small hx7 (Int.lt_trans hy7 (by decide)), Sx.wf_small hx8 (Int.lt_trans hy8 (by decide)), ⟨by simp only [hl5]; decide, hw5⟩, ⟨by simp only [hl6]; decide, hw6⟩, hw9, Sx.wf_small hx39 (Int.lt_trans hy39 (by decide)), hw54, trivial, ⟨by simp only [hx2]; omega, hx3⟩⟩, ⟨hM2, by simp only [hl5]; decide, by simp only [hl6]; decide, by simp only [hx2]; omega⟩, Sx.St.cur S 9 rfl, Sx.St.grown S 10 rfl hb0, _, _, _, _, _, _, _, _, _, _, _, _, Sx.St.made (St.pick S [9, 10, 3, 1, 0, 6] _ rfl (by decide))⟩
   ·
    replace hc57 := of_decide_eq_true hc57
    refine Sx.C.yes (by kernel_rfl) (by kernel_rfl) ?_
    refine Sx.C.skip (Sx.E.next (Sx.C.seq (Sx.C.block ?_)))
    refine Sx.C.cut (fun e a w' => e = .normal ∧ ∃ (Y0 : Int) (Y1 : Nat) (Y2 : Option Addr) (Y3 : Nat) (Y4 : List Nat) (Y5 : Nat), Sx.Ag 50 [(0, .pointer (some ⟨g, 0, none⟩)), (2, .pointer (some ⟨b1, 0, none⟩)), (3, .pointer (some ⟨b4, 0, none⟩)), (4, .int .i64 (xi : Int))] a ∧ St w0 w' [vr Y1 [.int .i64 Y0], ow (rLst 108 (rPair rInt rInt)) w6.heap.size (w6'.heap.size) tl6 [.slice (some ⟨tb6, 0, none⟩) 4 tc6] [tb6], ow (rLst 108 (rPair rInt rInt)) w5.heap.size (w5'.heap.size) tl5 [.slice (some ⟨tb5, 0, none⟩) 4 tc5] [tb5], vr b4 [.slice q3A0 (newG pl2).prog.length q3c0, .int .i64 x7, .int .i64 x8, .slice (some ⟨tb5, 0, none⟩) 4 tc5, .slice (some ⟨tb6, 0, none⟩) 4 tc6, .int .i64 ca9, .int .i64 cb9, .bool co9, .int .i64 x39, .int .i64 ek54, .int .i64 ep54, .bool eq54, .int .i64 em54, .bool (x55), .slice Y2 ((xs ++ [Y0]).length) Y3], ow (rLst 55 (rPair rInt rInt)) w3.heap.size w3'.heap.size (newG pl2).prog [.slice q3A0 (newG pl2).prog.length q3c0] G3_0, ow (rLsw (rPair rInt rInt)) w3.heap.size w3'.heap.size (newG pl2).wr [.slice q3A1 (newG pl2).wr.length q3c1] G3_1, ow (rLsw (rPair rInt rInt)) w3.heap.size w3'.heap.size (newG pl2).lv [.slice q3A2 (newG pl2).lv.length q3c2] G3_2, ow (rLst 3 rInt) w0.heap.size Y5 (xs ++ [Y0]) [.slice Y2 ((xs ++ [Y0]).length) Y3] Y4, ow (rLst 55 (rPair rInt rInt)) w2.heap.size (w2'.heap.size) pl2 [.slice (some ⟨pb2, 0, none⟩) pl2.length pc2] [pb2], vr b1 [.slice none 0 0, .int .i64 0, .int .i64 0, .slice none 0 0, .slice none 0 0, .int .i64 0, .int .i64 0, .bool false, .int .i64 0, .int .i64 0, .int .i64 0, .bool false, .int .i64 0, .bool false, .slice none 0 0], Sx.cu A n c g, Sx.frm w0 w g] ∧ 0 ≤ Y0 ∧ Y0 < 100) ?_ ?_
    ·
     refine Sx.C.draw (.take 0 (.take 2 (.two 1 (.alone 3 (.alone 4 (.alone 5 (.take 6 (.alone 7 .nil))))) 3 (.two 1 (.alone 4 (.alone 5 (.take 6 (.alone 7 .nil)))) 4 (.alone 1 (.alone 5 (.take 6 (.alone 7 .nil)))))))) [] (fun w S => St.pick S [] _ rfl (by decide)) (by kernel_rfl) (by kernel_rfl) (by kernel_rfl) ?_
     refine Sx.GT.p (.pointer (some ⟨b4, 14, none⟩)) ?_
     refine Sx.GT.p (.pointer (some ⟨g, 0, none⟩)) ?_
     refine Sx.GT.two ?_ ?_
     ·
      refine Sx.Alone.g (.slice xA xs.length xc) .m2 .m14 (fun w S => St.pick S [] _ rfl (by decide)) ?_
      refine Sx.GT.alone (Sx.Alone.c 39 #[.pointer (some ⟨g, 0, none⟩), .int .i64 100] (fun w58 S => (below_any w0 A n c g _ 100 (by decide) (by decide) hn hcode (Sx.St.cur S 9 rfl)).mono fun e w58' hp => ?_))
      obtain ⟨x58, rfl, hx58, hy58, hcur, hgr⟩ := hp
      refine ⟨_, _, rfl, Sx.St.moved S 9 rfl hcur hgr, (fun w S => St.pick S [] _ rfl (by decide)), ?_⟩
      clear S hcur hgr
      refine Sx.GT.alone (Sx.Alone.made 3 [.int .i64 x58] 1 (by rfl) (by kernel_rfl) (fun w => by kernel_rfl) (fun w S => St.pick S [] _ rfl (by decide)) (fun b59 => ?_))
      refine Sx.GT.alone (Sx.Alone.apps 7 (by rfl) (xs ++ [x58]) (fun w S => S.box 0 rfl rfl 1 (Nat.le_refl _)) (by rfl) ((xs ++ [x58]).length) (by simp) flat_int (.tmp 43) (.tmp 46) 28 1 8 (by rfl) (by rfl) (by kernel_rfl) (by kernel_rfl) (by rfl) (by kernel_rfl) (by kernel_rfl) (by simp only [maxLen, List.length_nil, List.length_cons]; omega) (by simp only [List.length_nil, List.length_cons]; omega) (fun _ _ _ _ w S => St.pick S [] _ rfl (by decide)) (fun A60 c60 F60 hi60 hm60 => ?_))
      refine Sx.GT.p (.pointer (some ⟨b4, 14, none⟩)) ?_
      refine Sx.GT.alone (Sx.Alone.s (.slice A60 ((xs ++ [x58]).length) c60) .a3 .a14 (fun w S => St.pick S [] _ rfl (by decide)) ?_)
      exact Sx.GT.nil (fun a w' hA S => ⟨rfl, x58, b59, A60, c60, F60, hi60, (Sx.Ag.and hA (Sx.Ag.and hA (Sx.Ag.and hA (Sx.Ag.and hA (Sx.Ag.none hA) _ _ (by kernel_rfl)) _ _ (by kernel_rfl)) _ _ (by kernel_rfl)) _ _ (by kernel_rfl)), St.pick S [0, 1, 2, 3, 4, 5, 6, 7, 8, 9, 10, 11] _ rfl (by decide), hx58, hy58⟩)
     ·
      refine Sx.Alone.c 39 #[.pointer (some ⟨g, 0, none⟩), .int .i64 100] (fun w61 S => (below_any w0 A n c g _ 100 (by decide) (by decide) hn hcode (Sx.St.cur S 9 rfl)).mono fun e w61' hp => ?_)
      obtain ⟨x61, rfl, hx61, hy61, hcur, hgr⟩ := hp
      refine ⟨_, _, rfl, Sx.St.moved S 9 rfl hcur hgr, (fun w S => St.pick S [] _ rfl (by decide)), ?_⟩
      clear S hcur hgr
      refine Sx.GT.two ?_ ?_
      ·
       refine Sx.Alone.g (.slice xA xs.length xc) .m2 .m14 (fun w S => St.pick S [] _ rfl (by decide)) ?_
       refine Sx.GT.alone (Sx.Alone.made 3 [.int .i64 x61] 1 (by rfl) (by kernel_rfl) (fun w => by kernel_rfl) (fun w S => St.pick S [] _ rfl (by decide)) (fun b62 => ?_))
       refine Sx.GT.alone (Sx.Alone.apps 7 (by rfl) (xs ++ [x61]) (fun w S => S.box 0 rfl rfl 1 (Nat.le_refl _)) (by rfl) ((xs ++ [x61]).length) (by simp) flat_int (.tmp 43) (.tmp 46) 28 1 8 (by rfl) (by rfl) (by kernel_rfl) (by kernel_rfl) (by rfl) (by kernel_rfl) (by kernel_rfl) (by simp only [maxLen, List.length_nil, List.length_cons]; omega) (by simp only [List.length_nil, List.length_cons]; omega) (fun _ _ _ _ w S => St.pick S [] _ rfl (by decide)) (fun A63 c63 F63 hi63 hm63 => ?_))
       refine Sx.GT.p (.pointer (some ⟨b4, 14, none⟩)) ?_
       refine Sx.GT.alone (Sx.Alone.s (.slice A63 ((xs ++ [x61]).length) c63) .a3 .a14 (fun w S => St.pick S [] _ rfl (by decide)) ?_)
       exact Sx.GT.nil (fun a w' hA S => ⟨rfl, x61, b62, A63, c63, F63, hi63, (Sx.Ag.and hA (Sx.Ag.and hA (Sx.Ag.and hA (Sx.Ag.and hA (Sx.Ag.none hA) _ _ (by kernel_rfl)) _ _ (by kernel_rfl)) _ _ (by kernel_rfl)) _ _ (by kernel_rfl)), St.pick S [0, 1, 2, 3, 4, 5, 6, 7, 8, 9, 10, 11] _ rfl (by decide), hx61, hy61⟩)
      ·
       refine Sx.Alone.made 3 [.int .i64 x61] 1 (by rfl) (by kernel_rfl) (fun w => by kernel_rfl) (fun w S => St.pick S [] _ rfl (by decide)) (fun b64 => ?_)
       refine Sx.GT.alone (Sx.Alone.g (.slice xA xs.length xc) .m3 .m14 (fun w S => St.pick S [] _ rfl (by decide)) ?_)
       refine Sx.GT.alone (Sx.Alone.apps 7 (by rfl) (xs ++ [x61]) (fun w S => S.box 0 rfl rfl 1 (Nat.le_refl _)) (by rfl) ((xs ++ [x61]).length) (by simp) flat_int (.tmp 43) (.tmp 46) 28 1 8 (by rfl) (by rfl) (by kernel_rfl) (by kernel_rfl) (by rfl) (by kernel_rfl) (by kernel_rfl) (by simp only [maxLen, List.length_nil, List.length_cons]; omega) (by simp only [List.length_nil, List.length_cons]; omega) (fun _ _ _ _ w S => St.pick S [] _ rfl (by decide)) (fun A65 c65 F65 hi65 hm65 => ?_))
       refine Sx.GT.p (.pointer (some ⟨b4, 14, none⟩)) ?_
       refine Sx.GT.alone (Sx.Alone.s (.slice A65 ((xs ++ [x61]).length) c65) .a3 .a14 (fun w S => St.pick S [] _ rfl (by decide)) ?_)
       exact Sx.GT.nil (fun a w' hA S => ⟨rfl, x61, b64, A65, c65, F65, hi65, (Sx.Ag.and hA (Sx.Ag.and hA (Sx.Ag.and hA (Sx.Ag.and hA (Sx.Ag.none hA) _ _ (by kernel_rfl)) _ _ (by kernel_rfl)) _ _ (by kernel_rfl)) _ _ (by kernel_rfl)), St.pick S [0, 1, 2, 3, 4, 5, 6, 7, 8, 9, 10, 11] _ rfl (by decide), hx61, hy61⟩)
    rintro e a w' ⟨rfl, y66_0, y66_1, y66_2, y66_3, y66_4, y66_5, hA, S, hxy66_0, hyy66_0⟩
    refine Sx.E.out ?_ hA S
    clear hA S a w'
    refine Sx.E.block_normal (Sx.E.next (Sx.C.region ?_))
    refine Sx.G.p (.int .i64 (xi : Int)) ?_
    refine Sx.G.q (.int .i64 (IntKind.i64.wrap ((xi : Int) + 1))) (.int .i64 ((xi + 1 : Nat) : Int)) (congrArg (Value.int .i64) (Sx.wrap_up xi (by omega))) ?_
    refine Sx.G.p (.int .i64 ((xi + 1 : Nat) : Int)) ?_
    refine Sx.G.nil ?_
    have HN : xi + 1 ≤ 4 ∧ (xs ++ [y66_0]).length = xi + 1 ∧ ∀ y ∈ xs ++ [y66_0], (Lit.int .i64 y).wf = true := ⟨by omega, by simp [hx2], fun y hy => by rcases List.mem_append.1 hy with h | h; exact hx3 y h; rw [List.mem_singleton.1 h]; exact Sx.wf_small hxy66_0 (Int.lt_trans hyy66_0 (by decide))⟩
    exact Sx.E.again (xi + 1, xs ++ [y66_0], y66_2, y66_3, y66_4, w0.heap.size, y66_5) HN (by show 5 - (xi + 1) < 5 - xi; omega) (fun a hA => (Sx.Ag.and hA (Sx.Ag.and hA (Sx.Ag.and hA (Sx.Ag.and hA (Sx.Ag.none hA) _ _ (by kernel_rfl)) _ _ (by kernel_rfl)) _ _ (by kernel_rfl)) _ _ (by kernel_rfl))) (fun w S => St.pick S [1, 2, 3, 4, 5, 6, 7, 8, 9, 10, 11] _ rfl (by decide))
def GRead (w0 w w' : World) (g : gT) (A0 : Option Addr) (c0 : Nat) (A1 : Option Addr) (c1 : Nat) (A2 : Option Addr) (c2 : Nat) (A3 : Option Addr) (c3 : Nat) : Prop := ∃ F3 l0 k0 l1 k1 l2 k2 l3 k3, Sx.Fresh w0 w w' [Sx.rp l0 k0 g.prog A0 c0, Sx.rp l1 k1 g.wr A1 c1, Sx.rp l2 k2 g.lv A2 c2, ow (rLst 3 rInt) l3 k3 g.seen [.slice A3 g.seen.length c3] F3]
def GAny (w0 : World) (A : Option Addr) (n c : Nat) (w : World) (q : Nat) (e : Ending) (w' : World) : Prop :=
 ∃ g A0 c0 A1 c1 A2 c2 A3 c3, e = .returned (.agg (gV g (.slice A0 g.prog.length c0) (.slice A1 g.wr.length c1) (.slice A2 g.lv.length c2) (.slice A3 g.seen.length c3)).toArray) ∧ wfGuest g ∧ (g.prog.length ≤ 20 ∧ g.wr.length ≤ 4 ∧ g.lv.length ≤ 4 ∧ g.seen.length ≤ 45) ∧ Cur w0 A n c w' q ∧ w.grownBy w' (some q) ∧ GRead w0 w w' g A0 c0 A1 c1 A2 c2 A3 c3
theorem gany_any (w0 : World) (A : Option Addr) (n c g : Nat) (w : World) (hn : n ≤ 1048576) (hcode : CodeAt w0 A n) (hcur : Cur w0 A n c w g) :
  Calls Tryz.prog 33 #[.pointer (some ⟨g, 0, none⟩)] w (GAny w0 A n c w g) := by
 have hs0 := st_cur hcur
 have hb0 := hcur.1
 clear hcur
 refine Sx.enterS (args := [.pointer (some ⟨g, 0, none⟩)]) hs0 Tryz.func33 rfl Tryz.ntmps33 rfl ?_
 refine Sx.C.seq (Sx.C.region ?_)
 refine Sx.G.ar [.slice none 0 0, .int .i64 0, .int .i64 0, .slice none 0 0, .slice none 0 0, .int .i64 0, .int .i64 0, .bool false, .int .i64 0, .int .i64 0, .int .i64 0, .bool false, .int .i64 0, .bool false, .slice none 0 0] (fun b1 => ?_)
 refine Sx.G.nil (Sx.E.next (Sx.C.seq (Sx.C.region ?_)))
 refine Sx.G.p (.pointer (some ⟨g, 0, none⟩)) ?_
 refine Sx.G.c 69 #[.pointer (some ⟨g, 0, none⟩)] (fun w2 S => (guest_any w0 A n c g _ hn hcode (Sx.St.cur S 1 rfl)).mono fun e w2' hp => ?_)
 obtain ⟨g2, p20, p21, p22, p23, rfl, hwf, hsm, hcur, hgr, F20, F21, F22, F23, l20, k20, l21, k21, l22, k22, l23, k23, hfr⟩ := hp
 obtain ⟨p2A0, p2c0, e0, -⟩ := lst_val ((rLst 55 (rPair rInt rInt)).reads (hfr.says 0 _ rfl).1)
 subst e0
 obtain ⟨p2A1, p2c1, e1, -⟩ := lst_val ((rLst 108 (rPair rInt rInt)).reads (hfr.says 1 _ rfl).1)
 subst e1
 obtain ⟨p2A2, p2c2, e2, -⟩ := lst_val ((rLst 108 (rPair rInt rInt)).reads (hfr.says 2 _ rfl).1)
 subst e2
 obtain ⟨p2A3, p2c3, e3, -⟩ := lst_val ((rLst 3 rInt).reads (hfr.says 3 _ rfl).1)
 subst e3
 refine ⟨_, _, rfl, Sx.St.joinD S (Sx.St.moved S 1 rfl hcur hgr) hfr, ?_⟩
 clear S hcur hgr hfr
 refine Sx.G.ar [.slice none 0 0, .int .i64 0, .int .i64 0, .slice none 0 0, .slice none 0 0, .int .i64 0, .int .i64 0, .bool false, .int .i64 0, .int .i64 0, .int .i64 0, .bool false, .int .i64 0, .bool false, .slice none 0 0] (fun b3 => ?_)
 refine Sx.G.sw [.slice p2A0 g2.prog.length p2c0, .int .i64 g2.a, .int .i64 g2.pc, .slice p2A1 g2.wr.length p2c1, .slice p2A2 g2.lv.length p2c2, .int .i64 g2.t.1, .int .i64 g2.t.2.1, .bool g2.t.2.2, .int .i64 g2.pd, .int .i64 g2.x.1, .int .i64 g2.x.2.1, .bool g2.x.2.2.1, .int .i64 g2.x.2.2.2, .bool g2.hl, .slice p2A3 g2.seen.length p2c3] .a0 ?_
 refine Sx.G.nil (Sx.E.next (Sx.C.seq (Sx.C.seq (Sx.C.region ?_))))
 refine Sx.G.p (.pointer (some ⟨g, 0, none⟩)) ?_
 refine Sx.G.c 39 #[.pointer (some ⟨g, 0, none⟩), .int .i64 14] (fun w4 S => (below_any w0 A n c g _ 14 (by decide) (by decide) hn hcode (Sx.St.cur S 6 rfl)).mono fun e w4' hp => ?_)
 obtain ⟨x4, rfl, hx4, hy4, hcur, hgr⟩ := hp
 refine ⟨_, _, rfl, Sx.St.moved S 6 rfl hcur hgr, ?_⟩
 clear S hcur hgr
 refine Sx.G.nil (Sx.E.next (Sx.C.block (Sx.C.seq (Sx.C.region ?_))))
 refine Sx.G.p (.bool (x4 == 0)) ?_
 refine Sx.G.p (.bool (x4 == 0)) ?_
 refine Sx.G.nil (Sx.E.next ?_)
 cases hc5 : (x4 == 0)
 ·
  skip
  refine Sx.C.no (by kernel_rfl) (by kernel_rfl) ?_
  refine Sx.C.seq (Sx.C.region ?_)
  refine Sx.G.p (.bool (x4 == 1)) ?_
  refine Sx.G.p (.bool (x4 == 1)) ?_
  refine Sx.G.nil (Sx.E.next ?_)
  cases hc6 : (x4 == 1)
  ·
   skip
   refine Sx.C.no (by kernel_rfl) (by kernel_rfl) ?_
   refine Sx.C.seq (Sx.C.region ?_)
   refine Sx.G.p (.bool (x4 == 2)) ?_
   refine Sx.G.p (.bool (x4 == 2)) ?_
   refine Sx.G.nil (Sx.E.next ?_)
   cases hc7 : (x4 == 2)
   ·
    skip
    refine Sx.C.no (by kernel_rfl) (by kernel_rfl) ?_
    refine Sx.C.seq (Sx.C.region ?_)
    refine Sx.G.p (.bool (x4 == 3)) ?_
    refine Sx.G.p (.bool (x4 == 3)) ?_
    refine Sx.G.nil (Sx.E.next ?_)
    cases hc8 : (x4 == 3)
    ·
     skip
     refine Sx.C.no (by kernel_rfl) (by kernel_rfl) ?_
     refine Sx.C.seq (Sx.C.region ?_)
     refine Sx.G.p (.bool (x4 == 4)) ?_
     refine Sx.G.p (.bool (x4 == 4)) ?_
     refine Sx.G.nil (Sx.E.next ?_)
     cases hc9 : (x4 == 4)
     ·
      skip
      refine Sx.C.no (by kernel_rfl) (by kernel_rfl) ?_
      refine Sx.C.seq (Sx.C.region ?_)
      refine Sx.G.p (.bool (x4 == 5)) ?_
      refine Sx.G.p (.bool (x4 == 5)) ?_
      refine Sx.G.nil (Sx.E.next ?_)
      cases hc10 : (x4 == 5)
      ·
       skip
       refine Sx.C.no (by kernel_rfl) (by kernel_rfl) ?_
       refine Sx.C.seq (Sx.C.region ?_)
       refine Sx.G.p (.bool (x4 == 6)) ?_
       refine Sx.G.p (.bool (x4 == 6)) ?_
       refine Sx.G.nil (Sx.E.next ?_)
       cases hc11 : (x4 == 6)
       ·
        skip
        refine Sx.C.no (by kernel_rfl) (by kernel_rfl) ?_
        refine Sx.C.seq (Sx.C.region ?_)
        refine Sx.G.p (.bool (x4 == 7)) ?_
        refine Sx.G.p (.bool (x4 == 7)) ?_
        refine Sx.G.nil (Sx.E.next ?_)
        cases hc12 : (x4 == 7)
        ·
         skip
         refine Sx.C.no (by kernel_rfl) (by kernel_rfl) ?_
         refine Sx.C.seq (Sx.C.region ?_)
         refine Sx.G.p (.bool (x4 == 8)) ?_
         refine Sx.G.p (.bool (x4 == 8)) ?_
         refine Sx.G.nil (Sx.E.next ?_)
         cases hc13 : (x4 == 8)
         ·
          skip
          refine Sx.C.no (by kernel_rfl) (by kernel_rfl) ?_
          refine Sx.C.skip (Sx.E.block_normal (Sx.E.next (Sx.C.seq (Sx.C.region ?_))))
          refine Sx.G.lw .m0 ?_
          refine Sx.G.sw [.slice p2A0 g2.prog.length p2c0, .int .i64 g2.a, .int .i64 g2.pc, .slice p2A1 g2.wr.length p2c1, .slice p2A2 g2.lv.length p2c2, .int .i64 g2.t.1, .int .i64 g2.t.2.1, .bool g2.t.2.2, .int .i64 g2.pd, .int .i64 g2.x.1, .int .i64 g2.x.2.1, .bool g2.x.2.2.1, .int .i64 g2.x.2.2.2, .bool g2.hl, .slice p2A3 g2.seen.length p2c3] .a5 ?_
          refine Sx.G.nil (Sx.E.next (Sx.C.ret ?_))
          refine Sx.E.retc b1 5 [.slice p2A0 g2.prog.length p2c0, .int .i64 g2.a, .int .i64 g2.pc, .slice p2A1 g2.wr.length p2c1, .slice p2A2 g2.lv.length p2c2, .int .i64 g2.t.1, .int .i64 g2.t.2.1, .bool g2.t.2.2, .int .i64 g2.pd, .int .i64 g2.x.1, .int .i64 g2.x.2.1, .bool g2.x.2.2.1, .int .i64 g2.x.2.2.2, .bool g2.hl, .slice p2A3 g2.seen.length p2c3] rfl (by kernel_rfl) rfl (by kernel_rfl) (by kernel_rfl) (fun w S => ?_)
          obtain ⟨-, S⟩ := Sx.St.toRp S 1 rfl
          obtain ⟨-, S⟩ := Sx.St.toRp S 2 rfl
          obtain ⟨-, S⟩ := Sx.St.toRp S 3 rfl
          exact ⟨{ prog := g2.prog, a := g2.a, pc := g2.pc, wr := g2.wr, lv := g2.lv, t := (g2.t.1, g2.t.2.1, g2.t.2.2), pd := g2.pd, x := (g2.x.1, g2.x.2.1, g2.x.2.2.1, g2.x.2.2.2), hl := g2.hl, seen := g2.seen }, _, _, _, _, _, _, _, _, rfl, ⟨hwf.1, hwf.2.1, hwf.2.2.1, hwf.2.2.2.1, hwf.2.2.2.2.1, hwf.2.2.2.2.2.1, hwf.2.2.2.2.2.2.1, hwf.2.2.2.2.2.2.2.1, trivial, hwf.2.2.2.2.2.2.2.2.2⟩, ⟨hsm.1, hsm.2.1, hsm.2.2.1, hsm.2.2.2⟩, Sx.St.cur S 6 rfl, Sx.St.grown S 7 rfl hb0, _, _, _, _, _, _, _, _, _, Sx.St.made (St.pick S [6, 7, 1, 2, 3, 4] _ rfl (by decide))⟩
         ·
          skip
          refine Sx.C.yes (by kernel_rfl) (by kernel_rfl) ?_
          refine Sx.C.region ?_
          refine Sx.G.p (.pointer (some ⟨g, 0, none⟩)) ?_
          refine Sx.G.c 72 #[.pointer (some ⟨g, 0, none⟩), .int .i64 4, .int .i64 8] (fun w14 S => (anyTable_cap w0 A n c g 4 _ 8 (by decide) (by decide) (by decide) (by decide) hn hcode (Sx.St.cur S 6 rfl)).mono fun e w14' hp => ?_)
          obtain ⟨ta14, tm14, tc14, tl14, rfl, hcp14, hM14, hl14, hw14, hown, hcur, hgr⟩ := hp
          rw [← pcells_s] at hown
          subst hl14
          refine ⟨_, _, rfl, Sx.St.plus S (Sx.St.moved S 6 rfl hcur hgr) _ (Sx.lies_rp rfl hcp14 hown) (Nat.le_refl _) (Nat.le_refl _), ?_⟩
          clear S hcur hgr hown
          refine Sx.G.p (.pointer (some ⟨b3, 3, none⟩)) ?_
          refine Sx.G.s (.slice (some ta14) tl14.length tc14) .a1 .a3 ?_
          refine Sx.G.nil (Sx.E.block_normal (Sx.E.next (Sx.C.seq (Sx.C.region ?_))))
          refine Sx.G.lw .m1 ?_
          refine Sx.G.sw [.slice p2A0 g2.prog.length p2c0, .int .i64 g2.a, .int .i64 g2.pc, .slice (some ta14) tl14.length tc14, .slice p2A2 g2.lv.length p2c2, .int .i64 g2.t.1, .int .i64 g2.t.2.1, .bool g2.t.2.2, .int .i64 g2.pd, .int .i64 g2.x.1, .int .i64 g2.x.2.1, .bool g2.x.2.2.1, .int .i64 g2.x.2.2.2, .bool g2.hl, .slice p2A3 g2.seen.length p2c3] .a6 ?_
          refine Sx.G.nil (Sx.E.next (Sx.C.ret ?_))
          refine Sx.E.retc b1 6 [.slice p2A0 g2.prog.length p2c0, .int .i64 g2.a, .int .i64 g2.pc, .slice (some ta14) tl14.length tc14, .slice p2A2 g2.lv.length p2c2, .int .i64 g2.t.1, .int .i64 g2.t.2.1, .bool g2.t.2.2, .int .i64 g2.pd, .int .i64 g2.x.1, .int .i64 g2.x.2.1, .bool g2.x.2.2.1, .int .i64 g2.x.2.2.2, .bool g2.hl, .slice p2A3 g2.seen.length p2c3] rfl (by kernel_rfl) rfl (by kernel_rfl) (by kernel_rfl) (fun w S => ?_)
          obtain ⟨-, S⟩ := Sx.St.toRp S 2 rfl
          obtain ⟨-, S⟩ := Sx.St.toRp S 4 rfl
          exact ⟨{ prog := g2.prog, a := g2.a, pc := g2.pc, wr := tl14, lv := g2.lv, t := (g2.t.1, g2.t.2.1, g2.t.2.2), pd := g2.pd, x := (g2.x.1, g2.x.2.1, g2.x.2.2.1, g2.x.2.2.2), hl := g2.hl, seen := g2.seen }, _, _, _, _, _, _, _, _, rfl, ⟨hwf.1, hwf.2.1, hwf.2.2.1, ⟨Nat.le_trans hM14 (by decide), hw14⟩, hwf.2.2.2.2.1, hwf.2.2.2.2.2.1, hwf.2.2.2.2.2.2.1, hwf.2.2.2.2.2.2.2.1, trivial, hwf.2.2.2.2.2.2.2.2.2⟩, ⟨hsm.1, hM14, hsm.2.2.1, hsm.2.2.2⟩, Sx.St.cur S 7 rfl, Sx.St.grown S 8 rfl hb0, _, _, _, _, _, _, _, _, _, Sx.St.made (St.pick S [7, 8, 2, 0, 4, 5] _ rfl (by decide))⟩
        ·
         skip
         refine Sx.C.yes (by kernel_rfl) (by kernel_rfl) ?_
         refine Sx.C.block ?_
         refine Sx.C.loop (α := Nat × List Int × Option Addr × Nat × List Nat × Nat × Nat) (fun x => x.1 ≤ 45 ∧ x.2.1.length = x.1 ∧ ∀ y ∈ x.2.1, (Lit.int .i64 y).wf = true) (fun x => [(0, .pointer (some ⟨g, 0, none⟩)), (2, .pointer (some ⟨b1, 0, none⟩)), (3, .pointer (some ⟨b3, 0, none⟩))]) (fun x => [vr b3 [.slice p2A0 g2.prog.length p2c0, .int .i64 g2.a, .int .i64 g2.pc, .slice p2A1 g2.wr.length p2c1, .slice p2A2 g2.lv.length p2c2, .int .i64 g2.t.1, .int .i64 g2.t.2.1, .bool g2.t.2.2, .int .i64 g2.pd, .int .i64 g2.x.1, .int .i64 g2.x.2.1, .bool g2.x.2.2.1, .int .i64 g2.x.2.2.2, .bool g2.hl, .slice x.2.2.1 x.2.1.length x.2.2.2.1], ow (rLst 55 (rPair rInt rInt)) l20 k20 g2.prog [.slice p2A0 g2.prog.length p2c0] F20, ow (rLst 108 (rPair rInt rInt)) l21 k21 g2.wr [.slice p2A1 g2.wr.length p2c1] F21, ow (rLst 108 (rPair rInt rInt)) l22 k22 g2.lv [.slice p2A2 g2.lv.length p2c2] F22, ow (rLst 3 rInt) x.2.2.2.2.2.1 x.2.2.2.2.2.2 x.2.1 [.slice x.2.2.1 x.2.1.length x.2.2.2.1] x.2.2.2.2.1, vr b1 [.slice none 0 0, .int .i64 0, .int .i64 0, .slice none 0 0, .slice none 0 0, .int .i64 0, .int .i64 0, .bool false, .int .i64 0, .int .i64 0, .int .i64 0, .bool false, .int .i64 0, .bool false, .slice none 0 0], Sx.cu A n c g, Sx.frm w0 w g]) (fun x => 50 - x.1) (g2.seen.length, g2.seen, p2A3, p2c3, F23, l23, k23) ⟨hsm.2.2.2, rfl, hwf.2.2.2.2.2.2.2.2.2.2⟩ (fun a hA => (Sx.Ag.and hA (Sx.Ag.and hA (Sx.Ag.and hA (Sx.Ag.none hA) _ _ (by kernel_rfl)) _ _ (by kernel_rfl)) _ _ (by kernel_rfl))) (fun w S => St.pick S [0, 1, 2, 3, 4, 5, 6, 7] _ rfl (by decide)) (fun x hx => ?_)
         obtain ⟨xi, xs, xA, xc, xF, xlo, xhi⟩ := x
         dsimp only at hx
         obtain ⟨hx1, hx2, hx3⟩ := hx
         refine Sx.C.seq (Sx.C.seq ?_)
         refine Sx.C.draw (.take 0 (.take 1 (.take 2 (.take 3 (.alone 4 (.take 5 (.take 6 .nil))))))) [vr b3 [.slice p2A0 g2.prog.length p2c0, .int .i64 g2.a, .int .i64 g2.pc, .slice p2A1 g2.wr.length p2c1, .slice p2A2 g2.lv.length p2c2, .int .i64 g2.t.1, .int .i64 g2.t.2.1, .bool g2.t.2.2, .int .i64 g2.pd, .int .i64 g2.x.1, .int .i64 g2.x.2.1, .bool g2.x.2.2.1, .int .i64 g2.x.2.2.2, .bool g2.hl, .slice xA xs.length xc]] (fun w S => St.pick S [0] _ rfl (by decide)) (by kernel_rfl) (by kernel_rfl) (by kernel_rfl) ?_
         refine Sx.GT.p (.pointer (some ⟨b3, 14, none⟩)) ?_
         refine Sx.GT.g (.slice xA xs.length xc) .m0 .m14 ?_
         refine Sx.GT.p (.int .i64 ((xs.length : Nat) : Int)) ?_
         refine Sx.GT.p (.pointer (some ⟨g, 0, none⟩)) ?_
         refine Sx.GT.alone (Sx.Alone.c 39 #[.pointer (some ⟨g, 0, none⟩), .int .i64 3] (fun w15 S => (below_any w0 A n c g _ 3 (by decide) (by decide) hn hcode (Sx.St.cur S 6 rfl)).mono fun e w15' hp => ?_))
         obtain ⟨x15, rfl, hx15, hy15, hcur, hgr⟩ := hp
         refine ⟨_, _, rfl, Sx.St.moved S 6 rfl hcur hgr, (fun w S => St.pick S [0] _ rfl (by decide)), ?_⟩
         clear S hcur hgr
         refine Sx.GT.q (.int .i64 (IntKind.i64.wrap (39 + x15))) (.int .i64 (39 + x15)) (congrArg (Value.int .i64) (by rw [IntKind.wrap_i64]; omega)) ?_
         refine Sx.GT.p (.bool (decide (((xs.length : Nat) : Int) < (39 + x15)))) ?_
         refine Sx.GT.nil (Sx.E.next ?_)
         cases hc16 : (decide (((xs.length : Nat) : Int) < (39 + x15)))
         ·
          replace hc16 := of_decide_eq_false hc16
          refine Sx.C.no (by kernel_rfl) (by kernel_rfl) ?_
          refine Sx.C.exit (Sx.E.then_exit (Sx.E.then_exit (Sx.E.block_hit (Sx.E.block_normal (Sx.E.next (Sx.C.seq (Sx.C.region ?_)))))))
          refine Sx.G.lw .m0 ?_
          refine Sx.G.sw [.slice p2A0 g2.prog.length p2c0, .int .i64 g2.a, .int .i64 g2.pc, .slice p2A1 g2.wr.length p2c1, .slice p2A2 g2.lv.length p2c2, .int .i64 g2.t.1, .int .i64 g2.t.2.1, .bool g2.t.2.2, .int .i64 g2.pd, .int .i64 g2.x.1, .int .i64 g2.x.2.1, .bool g2.x.2.2.1, .int .i64 g2.x.2.2.2, .bool g2.hl, .slice xA xs.length xc] .a5 ?_
          refine Sx.G.nil (Sx.E.next (Sx.C.ret ?_))
          refine Sx.E.retc b1 5 [.slice p2A0 g2.prog.length p2c0, .int .i64 g2.a, .int .i64 g2.pc, .slice p2A1 g2.wr.length p2c1, .slice p2A2 g2.lv.length p2c2, .int .i64 g2.t.1, .int .i64 g2.t.2.1, .bool g2.t.2.2, .int .i64 g2.pd, .int .i64 g2.x.1, .int .i64 g2.x.2.1, .bool g2.x.2.2.1, .int .i64 g2.x.2.2.2, .bool g2.hl, .slice xA xs.length xc] rfl (by kernel_rfl) rfl (by kernel_rfl) (by kernel_rfl) (fun w S => ?_)
          obtain ⟨-, S⟩ := Sx.St.toRp S 1 rfl
          obtain ⟨-, S⟩ := Sx.St.toRp S 2 rfl
          obtain ⟨-, S⟩ := Sx.St.toRp S 3 rfl
          exact ⟨{ prog := g2.prog, a := g2.a, pc := g2.pc, wr := g2.wr, lv := g2.lv, t := (g2.t.1, g2.t.2.1, g2.t.2.2), pd := g2.pd, x := (g2.x.1, g2.x.2.1, g2.x.2.2.1, g2.x.2.2.2), hl := g2.hl, seen := xs }, _, _, _, _, _, _, _, _, rfl, ⟨hwf.1, hwf.2.1, hwf.2.2.1, hwf.2.2.2.1, hwf.2.2.2.2.1, hwf.2.2.2.2.2.1, hwf.2.2.2.2.2.2.1, hwf.2.2.2.2.2.2.2.1, trivial, ⟨by simp only [hx2]; omega, hx3⟩⟩, ⟨hsm.1, hsm.2.1, hsm.2.2.1, by simp only [hx2]; omega⟩, Sx.St.cur S 6 rfl, Sx.St.grown S 7 rfl hb0, _, _, _, _, _, _, _, _, _, Sx.St.made (St.pick S [6, 7, 1, 2, 3, 4] _ rfl (by decide))⟩
         ·
          replace hc16 := of_decide_eq_true hc16
          refine Sx.C.yes (by kernel_rfl) (by kernel_rfl) ?_
          refine Sx.C.skip (Sx.E.next (Sx.C.block (Sx.C.region ?_)))
          refine Sx.G.p (.pointer (some ⟨b3, 14, none⟩)) ?_
          refine Sx.G.g (.slice xA xs.length xc) .m0 .m14 ?_
          refine Sx.G.made 3 [.int .i64 1] 1 (by kernel_rfl) (fun w => by kernel_rfl) (fun b17 => ?_)
          refine Sx.G.apps 5 rfl (xs ++ [1]) (fun w S => S.box 0 rfl rfl 1 (Nat.le_refl _)) rfl ((xs ++ [1]).length) (by simp) flat_int (.tmp 55) (.tmp 56) 28 1 8 rfl rfl (by kernel_rfl) (by kernel_rfl) rfl (by kernel_rfl) (by kernel_rfl) (by simp only [maxLen, List.length_nil, List.length_cons]; omega) (by simp only [List.length_nil, List.length_cons]; omega) (fun A18 c18 F18 hi18 hm18 => ?_)
          refine Sx.G.p (.pointer (some ⟨b3, 14, none⟩)) ?_
          refine Sx.G.s (.slice A18 ((xs ++ [1]).length) c18) .a1 .a14 ?_
          refine Sx.G.nil (Sx.E.block_normal ?_)
          have HN : xi + 1 ≤ 45 ∧ (xs ++ [1]).length = xi + 1 ∧ ∀ y ∈ xs ++ [1], (Lit.int .i64 y).wf = true := ⟨by omega, by simp [hx2], fun y hy => by rcases List.mem_append.1 hy with h | h; exact hx3 y h; rw [List.mem_singleton.1 h]; decide⟩
          exact Sx.E.again (xi + 1, xs ++ [1], A18, c18, F18, w0.heap.size, hi18) HN (by show 50 - (xi + 1) < 50 - xi; omega) (fun a hA => (Sx.Ag.and hA (Sx.Ag.and hA (Sx.Ag.and hA (Sx.Ag.none hA) _ _ (by kernel_rfl)) _ _ (by kernel_rfl)) _ _ (by kernel_rfl))) (fun w S => St.pick S [1, 2, 3, 4, 5, 6, 7, 8] _ rfl (by decide))
       ·
        skip
        refine Sx.C.yes (by kernel_rfl) (by kernel_rfl) ?_
        refine Sx.C.region ?_
        refine Sx.G.p (.pointer (some ⟨g, 0, none⟩)) ?_
        refine Sx.G.c 74 #[.pointer (some ⟨g, 0, none⟩)] (fun w19 S => (anyExit_any w0 A n c g _ hn hcode (Sx.St.cur S 6 rfl)).mono fun e w19' hp => ?_)
        obtain ⟨ek19, ep19, eq19, em19, rfl, hw19, hcur, hgr⟩ := hp
        refine ⟨_, _, rfl, Sx.St.moved S 6 rfl hcur hgr, ?_⟩
        clear S hcur hgr
        refine Sx.G.p (.pointer (some ⟨b3, 9, none⟩)) ?_
        refine Sx.G.sto 37 (.tmp 44) (.tmp 43) b3 9 0 [.slice p2A0 g2.prog.length p2c0, .int .i64 g2.a, .int .i64 g2.pc, .slice p2A1 g2.wr.length p2c1, .slice p2A2 g2.lv.length p2c2, .int .i64 g2.t.1, .int .i64 g2.t.2.1, .bool g2.t.2.2, .int .i64 g2.pd, .int .i64 g2.x.1, .int .i64 g2.x.2.1, .bool g2.x.2.2.1, .int .i64 g2.x.2.2.2, .bool g2.hl, .slice p2A3 g2.seen.length p2c3] [.int .i64 ek19, .int .i64 ep19, .bool eq19, .int .i64 em19] [.slice p2A0 g2.prog.length p2c0, .int .i64 g2.a, .int .i64 g2.pc, .slice p2A1 g2.wr.length p2c1, .slice p2A2 g2.lv.length p2c2, .int .i64 g2.t.1, .int .i64 g2.t.2.1, .bool g2.t.2.2, .int .i64 g2.pd, .int .i64 ek19, .int .i64 ep19, .bool eq19, .int .i64 em19, .bool g2.hl, .slice p2A3 g2.seen.length p2c3] [vr b3 [.slice p2A0 g2.prog.length p2c0, .int .i64 g2.a, .int .i64 g2.pc, .slice p2A1 g2.wr.length p2c1, .slice p2A2 g2.lv.length p2c2, .int .i64 g2.t.1, .int .i64 g2.t.2.1, .bool g2.t.2.2, .int .i64 g2.pd, .int .i64 ek19, .int .i64 ep19, .bool eq19, .int .i64 em19, .bool g2.hl, .slice p2A3 g2.seen.length p2c3], ow (rLst 55 (rPair rInt rInt)) l20 k20 g2.prog [.slice p2A0 g2.prog.length p2c0] F20, ow (rLst 108 (rPair rInt rInt)) l21 k21 g2.wr [.slice p2A1 g2.wr.length p2c1] F21, ow (rLst 108 (rPair rInt rInt)) l22 k22 g2.lv [.slice p2A2 g2.lv.length p2c2] F22, ow (rLst 3 rInt) l23 k23 g2.seen [.slice p2A3 g2.seen.length p2c3] F23, vr b1 [.slice none 0 0, .int .i64 0, .int .i64 0, .slice none 0 0, .slice none 0 0, .int .i64 0, .int .i64 0, .bool false, .int .i64 0, .int .i64 0, .int .i64 0, .bool false, .int .i64 0, .bool false, .slice none 0 0], Sx.cu A n c g, Sx.frm w0 w g] rfl (by kernel_rfl) (by kernel_rfl) (by kernel_rfl) rfl (by kernel_rfl) rfl (by kernel_rfl) (by kernel_rfl) (by kernel_rfl) ?_
        refine Sx.G.nil (Sx.E.block_normal (Sx.E.next (Sx.C.seq (Sx.C.region ?_))))
        refine Sx.G.lw .m0 ?_
        refine Sx.G.sw [.slice p2A0 g2.prog.length p2c0, .int .i64 g2.a, .int .i64 g2.pc, .slice p2A1 g2.wr.length p2c1, .slice p2A2 g2.lv.length p2c2, .int .i64 g2.t.1, .int .i64 g2.t.2.1, .bool g2.t.2.2, .int .i64 g2.pd, .int .i64 ek19, .int .i64 ep19, .bool eq19, .int .i64 em19, .bool g2.hl, .slice p2A3 g2.seen.length p2c3] .a5 ?_
        refine Sx.G.nil (Sx.E.next (Sx.C.ret ?_))
        refine Sx.E.retc b1 5 [.slice p2A0 g2.prog.length p2c0, .int .i64 g2.a, .int .i64 g2.pc, .slice p2A1 g2.wr.length p2c1, .slice p2A2 g2.lv.length p2c2, .int .i64 g2.t.1, .int .i64 g2.t.2.1, .bool g2.t.2.2, .int .i64 g2.pd, .int .i64 ek19, .int .i64 ep19, .bool eq19, .int .i64 em19, .bool g2.hl, .slice p2A3 g2.seen.length p2c3] rfl (by kernel_rfl) rfl (by kernel_rfl) (by kernel_rfl) (fun w S => ?_)
        obtain ⟨-, S⟩ := Sx.St.toRp S 1 rfl
        obtain ⟨-, S⟩ := Sx.St.toRp S 2 rfl
        obtain ⟨-, S⟩ := Sx.St.toRp S 3 rfl
        exact ⟨{ prog := g2.prog, a := g2.a, pc := g2.pc, wr := g2.wr, lv := g2.lv, t := (g2.t.1, g2.t.2.1, g2.t.2.2), pd := g2.pd, x := (ek19, ep19, eq19, em19), hl := g2.hl, seen := g2.seen }, _, _, _, _, _, _, _, _, rfl, ⟨hwf.1, hwf.2.1, hwf.2.2.1, hwf.2.2.2.1, hwf.2.2.2.2.1, hwf.2.2.2.2.2.1, hwf.2.2.2.2.2.2.1, hw19, trivial, hwf.2.2.2.2.2.2.2.2.2⟩, ⟨hsm.1, hsm.2.1, hsm.2.2.1, hsm.2.2.2⟩, Sx.St.cur S 6 rfl, Sx.St.grown S 7 rfl hb0, _, _, _, _, _, _, _, _, _, Sx.St.made (St.pick S [6, 7, 1, 2, 3, 4] _ rfl (by decide))⟩
      ·
       skip
       refine Sx.C.yes (by kernel_rfl) (by kernel_rfl) ?_
       refine Sx.C.region ?_
       refine Sx.G.p (.pointer (some ⟨g, 0, none⟩)) ?_
       refine Sx.G.c 70 #[.pointer (some ⟨g, 0, none⟩)] (fun w20 S => (Irqs.pend_any w0 A n c g _ hn hcode (Sx.St.cur S 6 rfl)).mono fun e w20' hp => ?_)
       obtain ⟨x20, rfl, hw20, hcur, hgr⟩ := hp
       refine ⟨_, _, rfl, Sx.St.moved S 6 rfl hcur hgr, ?_⟩
       clear S hcur hgr
       refine Sx.G.p (.pointer (some ⟨b3, 8, none⟩)) ?_
       refine Sx.G.s (.int .i64 x20) .a0 .a8 ?_
       refine Sx.G.nil (Sx.E.block_normal (Sx.E.next (Sx.C.seq (Sx.C.region ?_))))
       refine Sx.G.lw .m0 ?_
       refine Sx.G.sw [.slice p2A0 g2.prog.length p2c0, .int .i64 g2.a, .int .i64 g2.pc, .slice p2A1 g2.wr.length p2c1, .slice p2A2 g2.lv.length p2c2, .int .i64 g2.t.1, .int .i64 g2.t.2.1, .bool g2.t.2.2, .int .i64 x20, .int .i64 g2.x.1, .int .i64 g2.x.2.1, .bool g2.x.2.2.1, .int .i64 g2.x.2.2.2, .bool g2.hl, .slice p2A3 g2.seen.length p2c3] .a5 ?_
       refine Sx.G.nil (Sx.E.next (Sx.C.ret ?_))
       refine Sx.E.retc b1 5 [.slice p2A0 g2.prog.length p2c0, .int .i64 g2.a, .int .i64 g2.pc, .slice p2A1 g2.wr.length p2c1, .slice p2A2 g2.lv.length p2c2, .int .i64 g2.t.1, .int .i64 g2.t.2.1, .bool g2.t.2.2, .int .i64 x20, .int .i64 g2.x.1, .int .i64 g2.x.2.1, .bool g2.x.2.2.1, .int .i64 g2.x.2.2.2, .bool g2.hl, .slice p2A3 g2.seen.length p2c3] rfl (by kernel_rfl) rfl (by kernel_rfl) (by kernel_rfl) (fun w S => ?_)
       obtain ⟨-, S⟩ := Sx.St.toRp S 1 rfl
       obtain ⟨-, S⟩ := Sx.St.toRp S 2 rfl
       obtain ⟨-, S⟩ := Sx.St.toRp S 3 rfl
       exact ⟨{ prog := g2.prog, a := g2.a, pc := g2.pc, wr := g2.wr, lv := g2.lv, t := (g2.t.1, g2.t.2.1, g2.t.2.2), pd := x20, x := (g2.x.1, g2.x.2.1, g2.x.2.2.1, g2.x.2.2.2), hl := g2.hl, seen := g2.seen }, _, _, _, _, _, _, _, _, rfl, ⟨hwf.1, hwf.2.1, hwf.2.2.1, hwf.2.2.2.1, hwf.2.2.2.2.1, hwf.2.2.2.2.2.1, hw20, hwf.2.2.2.2.2.2.2.1, trivial, hwf.2.2.2.2.2.2.2.2.2⟩, ⟨hsm.1, hsm.2.1, hsm.2.2.1, hsm.2.2.2⟩, Sx.St.cur S 6 rfl, Sx.St.grown S 7 rfl hb0, _, _, _, _, _, _, _, _, _, Sx.St.made (St.pick S [6, 7, 1, 2, 3, 4] _ rfl (by decide))⟩
     ·
      skip
      refine Sx.C.yes (by kernel_rfl) (by kernel_rfl) ?_
      refine Sx.C.region ?_
      refine Sx.G.p (.pointer (some ⟨g, 0, none⟩)) ?_
      refine Sx.G.c 73 #[.pointer (some ⟨g, 0, none⟩)] (fun w21 S => (cany_any w0 A n c g _ hn hcode (Sx.St.cur S 6 rfl)).mono fun e w21' hp => ?_)
      obtain ⟨ca21, cb21, co21, rfl, hw21, hcur, hgr⟩ := hp
      refine ⟨_, _, rfl, Sx.St.moved S 6 rfl hcur hgr, ?_⟩
      clear S hcur hgr
      refine Sx.G.p (.pointer (some ⟨b3, 5, none⟩)) ?_
      refine Sx.G.sto 35 (.tmp 34) (.tmp 33) b3 5 0 [.slice p2A0 g2.prog.length p2c0, .int .i64 g2.a, .int .i64 g2.pc, .slice p2A1 g2.wr.length p2c1, .slice p2A2 g2.lv.length p2c2, .int .i64 g2.t.1, .int .i64 g2.t.2.1, .bool g2.t.2.2, .int .i64 g2.pd, .int .i64 g2.x.1, .int .i64 g2.x.2.1, .bool g2.x.2.2.1, .int .i64 g2.x.2.2.2, .bool g2.hl, .slice p2A3 g2.seen.length p2c3] [.int .i64 ca21, .int .i64 cb21, .bool co21] [.slice p2A0 g2.prog.length p2c0, .int .i64 g2.a, .int .i64 g2.pc, .slice p2A1 g2.wr.length p2c1, .slice p2A2 g2.lv.length p2c2, .int .i64 ca21, .int .i64 cb21, .bool co21, .int .i64 g2.pd, .int .i64 g2.x.1, .int .i64 g2.x.2.1, .bool g2.x.2.2.1, .int .i64 g2.x.2.2.2, .bool g2.hl, .slice p2A3 g2.seen.length p2c3] [vr b3 [.slice p2A0 g2.prog.length p2c0, .int .i64 g2.a, .int .i64 g2.pc, .slice p2A1 g2.wr.length p2c1, .slice p2A2 g2.lv.length p2c2, .int .i64 ca21, .int .i64 cb21, .bool co21, .int .i64 g2.pd, .int .i64 g2.x.1, .int .i64 g2.x.2.1, .bool g2.x.2.2.1, .int .i64 g2.x.2.2.2, .bool g2.hl, .slice p2A3 g2.seen.length p2c3], ow (rLst 55 (rPair rInt rInt)) l20 k20 g2.prog [.slice p2A0 g2.prog.length p2c0] F20, ow (rLst 108 (rPair rInt rInt)) l21 k21 g2.wr [.slice p2A1 g2.wr.length p2c1] F21, ow (rLst 108 (rPair rInt rInt)) l22 k22 g2.lv [.slice p2A2 g2.lv.length p2c2] F22, ow (rLst 3 rInt) l23 k23 g2.seen [.slice p2A3 g2.seen.length p2c3] F23, vr b1 [.slice none 0 0, .int .i64 0, .int .i64 0, .slice none 0 0, .slice none 0 0, .int .i64 0, .int .i64 0, .bool false, .int .i64 0, .int .i64 0, .int .i64 0, .bool false, .int .i64 0, .bool false, .slice none 0 0], Sx.cu A n c g, Sx.frm w0 w g] rfl (by kernel_rfl) (by kernel_rfl) (by kernel_rfl) rfl (by kernel_rfl) rfl (by kernel_rfl) (by kernel_rfl) (by kernel_rfl) ?_
      refine Sx.G.nil (Sx.E.block_normal (Sx.E.next (Sx.C.seq (Sx.C.region ?_))))
      refine Sx.G.lw .m0 ?_
      refine Sx.G.sw [.slice p2A0 g2.prog.length p2c0, .int .i64 g2.a, .int .i64 g2.pc, .slice p2A1 g2.wr.length p2c1, .slice p2A2 g2.lv.length p2c2, .int .i64 ca21, .int .i64 cb21, .bool co21, .int .i64 g2.pd, .int .i64 g2.x.1, .int .i64 g2.x.2.1, .bool g2.x.2.2.1, .int .i64 g2.x.2.2.2, .bool g2.hl, .slice p2A3 g2.seen.length p2c3] .a5 ?_
      refine Sx.G.nil (Sx.E.next (Sx.C.ret ?_))
      refine Sx.E.retc b1 5 [.slice p2A0 g2.prog.length p2c0, .int .i64 g2.a, .int .i64 g2.pc, .slice p2A1 g2.wr.length p2c1, .slice p2A2 g2.lv.length p2c2, .int .i64 ca21, .int .i64 cb21, .bool co21, .int .i64 g2.pd, .int .i64 g2.x.1, .int .i64 g2.x.2.1, .bool g2.x.2.2.1, .int .i64 g2.x.2.2.2, .bool g2.hl, .slice p2A3 g2.seen.length p2c3] rfl (by kernel_rfl) rfl (by kernel_rfl) (by kernel_rfl) (fun w S => ?_)
      obtain ⟨-, S⟩ := Sx.St.toRp S 1 rfl
      obtain ⟨-, S⟩ := Sx.St.toRp S 2 rfl
      obtain ⟨-, S⟩ := Sx.St.toRp S 3 rfl
      exact ⟨{ prog := g2.prog, a := g2.a, pc := g2.pc, wr := g2.wr, lv := g2.lv, t := (ca21, cb21, co21), pd := g2.pd, x := (g2.x.1, g2.x.2.1, g2.x.2.2.1, g2.x.2.2.2), hl := g2.hl, seen := g2.seen }, _, _, _, _, _, _, _, _, rfl, ⟨hwf.1, hwf.2.1, hwf.2.2.1, hwf.2.2.2.1, hwf.2.2.2.2.1, hw21, hwf.2.2.2.2.2.2.1, hwf.2.2.2.2.2.2.2.1, trivial, hwf.2.2.2.2.2.2.2.2.2⟩, ⟨hsm.1, hsm.2.1, hsm.2.2.1, hsm.2.2.2⟩, Sx.St.cur S 6 rfl, Sx.St.grown S 7 rfl hb0, _, _, _, _, _, _, _, _, _, Sx.St.made (St.pick S [6, 7, 1, 2, 3, 4] _ rfl (by decide))⟩
    ·
     skip
     refine Sx.C.yes (by kernel_rfl) (by kernel_rfl) ?_
     refine Sx.C.region ?_
     refine Sx.G.p (.pointer (some ⟨g, 0, none⟩)) ?_
     refine Sx.G.c 72 #[.pointer (some ⟨g, 0, none⟩), .int .i64 4, .int .i64 8] (fun w22 S => (anyTable_cap w0 A n c g 4 _ 8 (by decide) (by decide) (by decide) (by decide) hn hcode (Sx.St.cur S 6 rfl)).mono fun e w22' hp => ?_)
     obtain ⟨ta22, tm22, tc22, tl22, rfl, hcp22, hM22, hl22, hw22, hown, hcur, hgr⟩ := hp
     rw [← pcells_s] at hown
     subst hl22
     refine ⟨_, _, rfl, Sx.St.plus S (Sx.St.moved S 6 rfl hcur hgr) _ (Sx.lies_rp rfl hcp22 hown) (Nat.le_refl _) (Nat.le_refl _), ?_⟩
     clear S hcur hgr hown
     refine Sx.G.p (.pointer (some ⟨b3, 4, none⟩)) ?_
     refine Sx.G.s (.slice (some ta22) tl22.length tc22) .a1 .a4 ?_
     refine Sx.G.nil (Sx.E.block_normal (Sx.E.next (Sx.C.seq (Sx.C.region ?_))))
     refine Sx.G.lw .m1 ?_
     refine Sx.G.sw [.slice p2A0 g2.prog.length p2c0, .int .i64 g2.a, .int .i64 g2.pc, .slice p2A1 g2.wr.length p2c1, .slice (some ta22) tl22.length tc22, .int .i64 g2.t.1, .int .i64 g2.t.2.1, .bool g2.t.2.2, .int .i64 g2.pd, .int .i64 g2.x.1, .int .i64 g2.x.2.1, .bool g2.x.2.2.1, .int .i64 g2.x.2.2.2, .bool g2.hl, .slice p2A3 g2.seen.length p2c3] .a6 ?_
     refine Sx.G.nil (Sx.E.next (Sx.C.ret ?_))
     refine Sx.E.retc b1 6 [.slice p2A0 g2.prog.length p2c0, .int .i64 g2.a, .int .i64 g2.pc, .slice p2A1 g2.wr.length p2c1, .slice (some ta22) tl22.length tc22, .int .i64 g2.t.1, .int .i64 g2.t.2.1, .bool g2.t.2.2, .int .i64 g2.pd, .int .i64 g2.x.1, .int .i64 g2.x.2.1, .bool g2.x.2.2.1, .int .i64 g2.x.2.2.2, .bool g2.hl, .slice p2A3 g2.seen.length p2c3] rfl (by kernel_rfl) rfl (by kernel_rfl) (by kernel_rfl) (fun w S => ?_)
     obtain ⟨-, S⟩ := Sx.St.toRp S 2 rfl
     obtain ⟨-, S⟩ := Sx.St.toRp S 3 rfl
     exact ⟨{ prog := g2.prog, a := g2.a, pc := g2.pc, wr := g2.wr, lv := tl22, t := (g2.t.1, g2.t.2.1, g2.t.2.2), pd := g2.pd, x := (g2.x.1, g2.x.2.1, g2.x.2.2.1, g2.x.2.2.2), hl := g2.hl, seen := g2.seen }, _, _, _, _, _, _, _, _, rfl, ⟨hwf.1, hwf.2.1, hwf.2.2.1, hwf.2.2.2.1, ⟨Nat.le_trans hM22 (by decide), hw22⟩, hwf.2.2.2.2.2.1, hwf.2.2.2.2.2.2.1, hwf.2.2.2.2.2.2.2.1, trivial, hwf.2.2.2.2.2.2.2.2.2⟩, ⟨hsm.1, hsm.2.1, hM22, hsm.2.2.2⟩, Sx.St.cur S 7 rfl, Sx.St.grown S 8 rfl hb0, _, _, _, _, _, _, _, _, _, Sx.St.made (St.pick S [7, 8, 2, 3, 0, 5] _ rfl (by decide))⟩
   ·
    skip
    refine Sx.C.yes (by kernel_rfl) (by kernel_rfl) ?_
    refine Sx.C.region ?_
    refine Sx.G.p (.pointer (some ⟨g, 0, none⟩)) ?_
    refine Sx.G.block 3 [.int .i64 (-1), .int .i64 12, .int .i64 13, .int .i64 9223372036854775807] 4 (by kernel_rfl) (fun w => by kernel_rfl) (fun b23 => ?_)
    refine Sx.G.c 71 #[.pointer (some ⟨g, 0, none⟩), .slice (some ⟨b23, 0, none⟩) 4 4] (fun w24 S => (pick_any w0 A n c g _ b23 4 [(-1), 12, 13, 9223372036854775807] (by decide) (by decide) hn hcode (Sx.St.cur S 7 rfl) (Sx.St.bk_ne S 0 7 rfl rfl (by decide)) rfl (St.at_ S 0 rfl)).mono fun e w24' hp => ?_)
    obtain ⟨x24, rfl, hx24, hcur, hgr⟩ := hp
    have hw24 : (Lit.int .i64 x24).wf = true := (show ∀ y ∈ ([(-1), 12, 13, 9223372036854775807] : List Int), (Lit.int .i64 y).wf = true by decide) _ hx24
    refine ⟨_, _, rfl, Sx.St.moved S 7 rfl hcur hgr, ?_⟩
    clear S hcur hgr
    refine Sx.G.p (.pointer (some ⟨b3, 2, none⟩)) ?_
    refine Sx.G.s (.int .i64 x24) .a1 .a2 ?_
    refine Sx.G.nil (Sx.E.block_normal (Sx.E.next (Sx.C.seq (Sx.C.region ?_))))
    refine Sx.G.lw .m1 ?_
    refine Sx.G.sw [.slice p2A0 g2.prog.length p2c0, .int .i64 g2.a, .int .i64 x24, .slice p2A1 g2.wr.length p2c1, .slice p2A2 g2.lv.length p2c2, .int .i64 g2.t.1, .int .i64 g2.t.2.1, .bool g2.t.2.2, .int .i64 g2.pd, .int .i64 g2.x.1, .int .i64 g2.x.2.1, .bool g2.x.2.2.1, .int .i64 g2.x.2.2.2, .bool g2.hl, .slice p2A3 g2.seen.length p2c3] .a6 ?_
    refine Sx.G.nil (Sx.E.next (Sx.C.ret ?_))
    refine Sx.E.retc b1 6 [.slice p2A0 g2.prog.length p2c0, .int .i64 g2.a, .int .i64 x24, .slice p2A1 g2.wr.length p2c1, .slice p2A2 g2.lv.length p2c2, .int .i64 g2.t.1, .int .i64 g2.t.2.1, .bool g2.t.2.2, .int .i64 g2.pd, .int .i64 g2.x.1, .int .i64 g2.x.2.1, .bool g2.x.2.2.1, .int .i64 g2.x.2.2.2, .bool g2.hl, .slice p2A3 g2.seen.length p2c3] rfl (by kernel_rfl) rfl (by kernel_rfl) (by kernel_rfl) (fun w S => ?_)
    obtain ⟨-, S⟩ := Sx.St.toRp S 2 rfl
    obtain ⟨-, S⟩ := Sx.St.toRp S 3 rfl
    obtain ⟨-, S⟩ := Sx.St.toRp S 4 rfl
    exact ⟨{ prog := g2.prog, a := g2.a, pc := x24, wr := g2.wr, lv := g2.lv, t := (g2.t.1, g2.t.2.1, g2.t.2.2), pd := g2.pd, x := (g2.x.1, g2.x.2.1, g2.x.2.2.1, g2.x.2.2.2), hl := g2.hl, seen := g2.seen }, _, _, _, _, _, _, _, _, rfl, ⟨hwf.1, hwf.2.1, hw24, hwf.2.2.2.1, hwf.2.2.2.2.1, hwf.2.2.2.2.2.1, hwf.2.2.2.2.2.2.1, hwf.2.2.2.2.2.2.2.1, trivial, hwf.2.2.2.2.2.2.2.2.2⟩, ⟨hsm.1, hsm.2.1, hsm.2.2.1, hsm.2.2.2⟩, Sx.St.cur S 7 rfl, Sx.St.grown S 8 rfl hb0, _, _, _, _, _, _, _, _, _, Sx.St.made (St.pick S [7, 8, 2, 3, 4, 5] _ rfl (by decide))⟩
  ·
   skip
   refine Sx.C.yes (by kernel_rfl) (by kernel_rfl) ?_
   refine Sx.C.region ?_
   refine Sx.G.p (.pointer (some ⟨g, 0, none⟩)) ?_
   refine Sx.G.block 3 [.int .i64 (-1), .int .i64 100] 2 (by kernel_rfl) (fun w => by kernel_rfl) (fun b25 => ?_)
   refine Sx.G.c 71 #[.pointer (some ⟨g, 0, none⟩), .slice (some ⟨b25, 0, none⟩) 2 2] (fun w26 S => (pick_any w0 A n c g _ b25 2 [(-1), 100] (by decide) (by decide) hn hcode (Sx.St.cur S 7 rfl) (Sx.St.bk_ne S 0 7 rfl rfl (by decide)) rfl (St.at_ S 0 rfl)).mono fun e w26' hp => ?_)
   obtain ⟨x26, rfl, hx26, hcur, hgr⟩ := hp
   have hw26 : (Lit.int .i64 x26).wf = true := (show ∀ y ∈ ([(-1), 100] : List Int), (Lit.int .i64 y).wf = true by decide) _ hx26
   refine ⟨_, _, rfl, Sx.St.moved S 7 rfl hcur hgr, ?_⟩
   clear S hcur hgr
   refine Sx.G.p (.pointer (some ⟨b3, 1, none⟩)) ?_
   refine Sx.G.s (.int .i64 x26) .a1 .a1 ?_
   refine Sx.G.nil (Sx.E.block_normal (Sx.E.next (Sx.C.seq (Sx.C.region ?_))))
   refine Sx.G.lw .m1 ?_
   refine Sx.G.sw [.slice p2A0 g2.prog.length p2c0, .int .i64 x26, .int .i64 g2.pc, .slice p2A1 g2.wr.length p2c1, .slice p2A2 g2.lv.length p2c2, .int .i64 g2.t.1, .int .i64 g2.t.2.1, .bool g2.t.2.2, .int .i64 g2.pd, .int .i64 g2.x.1, .int .i64 g2.x.2.1, .bool g2.x.2.2.1, .int .i64 g2.x.2.2.2, .bool g2.hl, .slice p2A3 g2.seen.length p2c3] .a6 ?_
   refine Sx.G.nil (Sx.E.next (Sx.C.ret ?_))
   refine Sx.E.retc b1 6 [.slice p2A0 g2.prog.length p2c0, .int .i64 x26, .int .i64 g2.pc, .slice p2A1 g2.wr.length p2c1, .slice p2A2 g2.lv.length p2c2, .int .i64 g2.t.1, .int .i64 g2.t.2.1, .bool g2.t.2.2, .int .i64 g2.pd, .int .i64 g2.x.1, .int .i64 g2.x.2.1, .bool g2.x.2.2.1, .int .i64 g2.x.2.2.2, .bool g2.hl, .slice p2A3 g2.seen.length p2c3] rfl (by kernel_rfl) rfl (by kernel_rfl) (by kernel_rfl) (fun w S => ?_)
   obtain ⟨-, S⟩ := Sx.St.toRp S 2 rfl
   obtain ⟨-, S⟩ := Sx.St.toRp S 3 rfl
   obtain ⟨-, S⟩ := Sx.St.toRp S 4 rfl
   exact ⟨{ prog := g2.prog, a := x26, pc := g2.pc, wr := g2.wr, lv := g2.lv, t := (g2.t.1, g2.t.2.1, g2.t.2.2), pd := g2.pd, x := (g2.x.1, g2.x.2.1, g2.x.2.2.1, g2.x.2.2.2), hl := g2.hl, seen := g2.seen }, _, _, _, _, _, _, _, _, rfl, ⟨hwf.1, hw26, hwf.2.2.1, hwf.2.2.2.1, hwf.2.2.2.2.1, hwf.2.2.2.2.2.1, hwf.2.2.2.2.2.2.1, hwf.2.2.2.2.2.2.2.1, trivial, hwf.2.2.2.2.2.2.2.2.2⟩, ⟨hsm.1, hsm.2.1, hsm.2.2.1, hsm.2.2.2⟩, Sx.St.cur S 7 rfl, Sx.St.grown S 8 rfl hb0, _, _, _, _, _, _, _, _, _, Sx.St.made (St.pick S [7, 8, 2, 3, 4, 5] _ rfl (by decide))⟩
 ·
  skip
  refine Sx.C.yes (by kernel_rfl) (by kernel_rfl) ?_
  refine Sx.C.region ?_
  refine Sx.G.p (.pointer (some ⟨g, 0, none⟩)) ?_
  refine Sx.G.c 28 #[.pointer (some ⟨g, 0, none⟩)] (fun w27 S => (anyProg_cap w0 A n c g _ hn hcode (Sx.St.cur S 6 rfl)).mono fun e w27' hp => ?_)
  obtain ⟨pb27, pm27, pc27, pl27, rfl, hl27, ⟨hM27, hcp27⟩, hw27, hown, hcur, hgr⟩ := hp
  rw [← pcells_j] at hown
  subst hl27
  refine ⟨_, _, rfl, Sx.St.plus S (Sx.St.moved S 6 rfl hcur hgr) _ (Sx.lies_rp rfl hcp27 hown) (Nat.le_refl _) (Nat.le_refl _), ?_⟩
  clear S hcur hgr hown
  refine Sx.G.p (.pointer (some ⟨b3, 0, none⟩)) ?_
  refine Sx.G.s (.slice (some ⟨pb27, 0, none⟩) pl27.length pc27) .a1 .a0 ?_
  refine Sx.G.nil (Sx.E.block_normal (Sx.E.next (Sx.C.seq (Sx.C.region ?_))))
  refine Sx.G.lw .m1 ?_
  refine Sx.G.sw [.slice (some ⟨pb27, 0, none⟩) pl27.length pc27, .int .i64 g2.a, .int .i64 g2.pc, .slice p2A1 g2.wr.length p2c1, .slice p2A2 g2.lv.length p2c2, .int .i64 g2.t.1, .int .i64 g2.t.2.1, .bool g2.t.2.2, .int .i64 g2.pd, .int .i64 g2.x.1, .int .i64 g2.x.2.1, .bool g2.x.2.2.1, .int .i64 g2.x.2.2.2, .bool g2.hl, .slice p2A3 g2.seen.length p2c3] .a6 ?_
  refine Sx.G.nil (Sx.E.next (Sx.C.ret ?_))
  refine Sx.E.retc b1 6 [.slice (some ⟨pb27, 0, none⟩) pl27.length pc27, .int .i64 g2.a, .int .i64 g2.pc, .slice p2A1 g2.wr.length p2c1, .slice p2A2 g2.lv.length p2c2, .int .i64 g2.t.1, .int .i64 g2.t.2.1, .bool g2.t.2.2, .int .i64 g2.pd, .int .i64 g2.x.1, .int .i64 g2.x.2.1, .bool g2.x.2.2.1, .int .i64 g2.x.2.2.2, .bool g2.hl, .slice p2A3 g2.seen.length p2c3] rfl (by kernel_rfl) rfl (by kernel_rfl) (by kernel_rfl) (fun w S => ?_)
  obtain ⟨-, S⟩ := Sx.St.toRp S 3 rfl
  obtain ⟨-, S⟩ := Sx.St.toRp S 4 rfl
  exact ⟨{ prog := pl27, a := g2.a, pc := g2.pc, wr := g2.wr, lv := g2.lv, t := (g2.t.1, g2.t.2.1, g2.t.2.2), pd := g2.pd, x := (g2.x.1, g2.x.2.1, g2.x.2.2.1, g2.x.2.2.2), hl := g2.hl, seen := g2.seen }, _, _, _, _, _, _, _, _, rfl, ⟨⟨Nat.le_trans hM27 (by decide), hw27⟩, hwf.2.1, hwf.2.2.1, hwf.2.2.2.1, hwf.2.2.2.2.1, hwf.2.2.2.2.2.1, hwf.2.2.2.2.2.2.1, hwf.2.2.2.2.2.2.2.1, trivial, hwf.2.2.2.2.2.2.2.2.2⟩, ⟨hM27, hsm.2.1, hsm.2.2.1, hsm.2.2.2⟩, Sx.St.cur S 7 rfl, Sx.St.grown S 8 rfl hb0, _, _, _, _, _, _, _, _, _, Sx.St.made (St.pick S [7, 8, 0, 3, 4, 5] _ rfl (by decide))⟩
end Go.Proofs.YtldgadmpclgfhaaGreat.Guests
namespace Go.Proofs.YtldgadmpclgfhaaGreat.Kit
set_option maxHeartbeats 8000000
set_option maxRecDepth 100000
open Go.ChangeShapes Go.WideShapes Go.ChangeAt Go.RowKit Go.Deep
open Go.Proofs.YtldgadmpclgfhaaGreat.Base Go.Proofs.YtldgadmpclgfhaaGreat.Mem Go.Proofs.YtldgadmpclgfhaaGreat.Data Go.Proofs.YtldgadmpclgfhaaGreat.Stt Go.Proofs.YtldgadmpclgfhaaGreat.Guests Go.Proofs.YtldgadmpclgfhaaGreat.Ctls Go.Proofs.YtldgadmpclgfhaaGreat.Exits Go.Proofs.YtldgadmpclgfhaaGreat.Irqs Go.Proofs.YtldgadmpclgfhaaGreat.Inss Go.Proofs.YtldgadmpclgfhaaGreat.Draw Go.Proofs.YtldgadmpclgfhaaGreat.SDraw
set_option linter.unusedVariables false
set_option linter.unusedSimpArgs false
def numD (x : Int) : Prop := (Lit.int .i64 x).wf = true
def pageD (p : List Int) : Prop := p.length = 4 ∧ ∀ x ∈ p, numD x
def pageA (p : List Int) : Prop := p.length ≤ 5 ∧ ∀ x ∈ p, numD x
def memD (m : List (List Int)) : Prop := m.length ≤ 8 ∧ ∀ p ∈ m, pageA p
def gD (g : gT) : Prop := wfGuest g ∧ g.prog.length ≤ 20 ∧ g.wr.length ≤ 4 ∧ g.lv.length ≤ 4 ∧ g.seen.length ≤ 46
def gsD (l : List gT) : Prop := l.length ≤ 4 ∧ ∀ g ∈ l, gD g
def outsD (l : List Int) : Prop := l.length ≤ 50 ∧ ∀ x ∈ l, numD x
def bD (b : bT) : Prop := memD b.mem ∧ gsD b.gs ∧ outsD b.outs ∧ numD b.pd
def bA (b : bT) : Prop := bD b ∧ b.outs.length ≤ 45
theorem pageA.take {p : List Int} (h : pageA p) (k : Nat) : pageA (p.take k) := ⟨by rw [List.length_take]; have := h.1; omega, fun x hx => h.2 x (List.mem_of_mem_take hx)⟩
theorem pageD.any {p : List Int} (h : pageD p) : pageA p := ⟨by rw [h.1]; decide, h.2⟩
theorem gD.cap {g : gT} (h : gD g) : wG.cap g := (gcap_rg ⟨by have := h.2.1; omega, by have := h.2.2.1; omega, by have := h.2.2.2.1; omega, by have := h.2.2.2.2; omega⟩ : rG.cap g)
theorem kd_page (w0 : World) (A : Option Addr) (n c g : Nat) (w : World) (hn : n ≤ 1048576) (hcode : CodeAt w0 A n) (hcur : Cur w0 A n c w g) : Calls Tryz.prog 116 #[.pointer (some ⟨g, 0, none⟩)] w (fun e w' => ∃ l a b lo hi F, pageD l ∧ Sx.Drawn w0 A n c w g (.slice a l.length b) [ow (rLst 3 rInt) lo hi l [.slice a l.length b] F] e w') := by
 have hs0 := Sx.st_cur hcur
 have hb0 := hcur.1
 clear hcur
 refine Sx.enterS (args := [.pointer (some ⟨g, 0, none⟩)]) hs0 Tryz.func116 rfl Tryz.ntmps116 rfl ?_
 refine Sx.C.seq (Sx.C.region ?_)
 refine Sx.G.p (.slice none 0 0) ?_
 refine Sx.G.nil (Sx.E.next (Sx.C.seq (Sx.C.region ?_)))
 refine Sx.G.fresh 3 rInt (by kernel_rfl) (fun w => by kernel_rfl) (fun b1 hi1 => ?_)
 refine Sx.G.p (.slice (some ⟨b1, 0, none⟩) 0 0) ?_
 refine Sx.G.nil (Sx.E.next (Sx.C.seq (Sx.C.seq (Sx.C.region ?_))))
 refine Sx.G.p (.int .i64 0) ?_
 refine Sx.G.nil (Sx.E.next (Sx.C.block ?_))
 refine Sx.C.loop (α := Nat × (List Int) × Option Addr × Nat × List Nat × Nat × Nat) (fun x => x.1 ≤ 4 ∧ x.2.1.length = x.1 ∧ ∀ y ∈ x.2.1, numD y) (fun x => [(4, .int .i64 (x.1 : Int)), (3, .slice x.2.2.1 x.2.1.length x.2.2.2.1), (0, .pointer (some ⟨g, 0, none⟩)), (2, .slice none 0 0)]) (fun x => [ow (rLst 3 rInt) x.2.2.2.2.2.1 x.2.2.2.2.2.2 x.2.1 [.slice x.2.2.1 x.2.1.length x.2.2.2.1] x.2.2.2.2.1, Sx.cu A n c g, Sx.frm w0 w g]) (fun x => 4 + 1 - x.1) (0, [], (some ⟨b1, 0, none⟩), 0, [b1], b1, hi1) ⟨Nat.zero_le _, rfl, fun y hy => by cases hy⟩ (fun a hA => (Sx.Ag.and hA (Sx.Ag.and hA (Sx.Ag.and hA (Sx.Ag.and hA (Sx.Ag.none hA) _ _ (by kernel_rfl)) _ _ (by kernel_rfl)) _ _ (by kernel_rfl)) _ _ (by kernel_rfl))) (fun w S => St.pick S [0, 1, 2] _ rfl (by decide)) (fun x hx => ?_)
 obtain ⟨xip, xsp, xAp, xcp, xFp, xlop, xhip⟩ := x
 dsimp only at hx
 obtain ⟨hbp, hlp, hpp⟩ := hx
 refine Sx.C.seq (Sx.C.seq (Sx.C.region ?_))
 refine Sx.G.p (.int .i64 (xip : Int)) ?_
 refine Sx.G.p (.bool (decide ((xip : Int) < 4))) ?_
 refine Sx.G.nil (Sx.E.next ?_)
 cases hc2 : (decide ((xip : Int) < 4))
 ·
  have hb2 := hc2
  replace hc2 := of_decide_eq_false hc2
  refine Sx.C.no (by kernel_rfl) (by kernel_rfl) ?_
  refine Sx.C.exit (Sx.E.then_exit (Sx.E.then_exit (Sx.E.block_hit (Sx.E.next (Sx.C.seq (Sx.C.region ?_))))))
  refine Sx.G.p (.slice xAp xsp.length xcp) ?_
  refine Sx.G.p (.slice xAp xsp.length xcp) ?_
  refine Sx.G.nil (Sx.E.next (Sx.C.ret ?_))
  refine Sx.E.ret1 (.slice xAp xsp.length xcp) rfl (by kernel_rfl) (fun w S => ?_)
  have hl4 : xsp.length = 4 := by omega
  exact ⟨xsp, _, _, _, _, _, ⟨hl4, hpp⟩, Sx.Drawn.made hb0 (St.pick S [1, 2, 0] _ rfl (by decide))⟩
 ·
  have hb2 := hc2
  replace hc2 := of_decide_eq_true hc2
  refine Sx.C.yes (by kernel_rfl) (by kernel_rfl) ?_
  refine Sx.C.skip (Sx.E.next (Sx.C.seq (Sx.C.block (Sx.C.region ?_))))
  refine Sx.G.p (.slice xAp xsp.length xcp) ?_
  refine Sx.G.p (.pointer (some ⟨g, 0, none⟩)) ?_
  refine Sx.G.c 39 #[.pointer (some ⟨g, 0, none⟩), .int .i64 100] (fun w3 S => (below_any w0 A n c g _ 100 (by decide) (by decide) hn hcode (Sx.St.cur S 1 rfl)).mono fun e w3' hp => ?_)
  obtain ⟨x3, rfl, hx3, hy3, hcur, hgr⟩ := hp
  refine ⟨_, _, rfl, Sx.St.moved S 1 rfl hcur hgr, ?_⟩
  clear S hcur hgr
  refine Sx.G.made 3 [.int .i64 x3] 1 (by kernel_rfl) (fun w => by kernel_rfl) (fun b4 => ?_)
  refine Sx.G.apps 1 rfl (xsp ++ [x3]) (fun w S => S.box 0 rfl rfl 1 (Nat.le_refl _)) rfl ((xsp ++ [x3]).length) (by simp) flat_int (.tmp 10) (.tmp 13) 28 1 8 rfl rfl (by kernel_rfl) (by kernel_rfl) rfl (by kernel_rfl) (by kernel_rfl) (by simp only [maxLen, List.length_nil, List.length_cons]; omega) (by simp only [List.length_nil, List.length_cons]; omega) (fun A5 c5 F5 hi5 hm5 => ?_)
  refine Sx.G.p (.slice A5 ((xsp ++ [x3]).length) c5) ?_
  refine Sx.G.nil (Sx.E.block_normal (Sx.E.next (Sx.C.region ?_)))
  refine Sx.G.p (.int .i64 (xip : Int)) ?_
  refine Sx.G.q (.int .i64 (IntKind.i64.wrap ((xip : Int) + 1))) (.int .i64 ((xip + 1 : Nat) : Int)) (congrArg (Value.int .i64) (Sx.wrap_up xip (by omega))) ?_
  refine Sx.G.p (.int .i64 ((xip + 1 : Nat) : Int)) ?_
  refine Sx.G.nil ?_
  have HN : xip + 1 ≤ 4 ∧ (xsp ++ [x3]).length = xip + 1 ∧ ∀ y ∈ xsp ++ [x3], numD y := ⟨by omega, by simp [hlp], fun y hy => by rcases List.mem_append.1 hy with h | h; exact hpp y h; rw [List.mem_singleton.1 h]; exact (Sx.wf_small hx3 (Int.lt_trans hy3 (by decide)))⟩
  exact Sx.E.again (xip + 1, xsp ++ [x3], A5, c5, F5, w0.heap.size, hi5) HN (by show 4 + 1 - (xip + 1) < 4 + 1 - xip; omega) (fun a hA => (Sx.Ag.and hA (Sx.Ag.and hA (Sx.Ag.and hA (Sx.Ag.and hA (Sx.Ag.none hA) _ _ (by kernel_rfl)) _ _ (by kernel_rfl)) _ _ (by kernel_rfl)) _ _ (by kernel_rfl))) (fun w S => St.pick S [1, 2, 3] _ rfl (by decide))
theorem kd_mem8 (w0 : World) (A : Option Addr) (n c g : Nat) (w : World) (hn : n ≤ 1048576) (hcode : CodeAt w0 A n) (hcur : Cur w0 A n c w g) : Calls Tryz.prog 99 #[.pointer (some ⟨g, 0, none⟩), .int .i64 8] w (fun e w' => ∃ l a b lo hi F, (l.length = 8 ∧ ∀ p ∈ l, pageD p) ∧ Sx.Drawn w0 A n c w g (.slice a l.length b) [ow (rLst 28 (rLst 3 rInt)) lo hi l [.slice a l.length b] F] e w') := by
 have hs0 := Sx.st_cur hcur
 have hb0 := hcur.1
 clear hcur
 refine Sx.enterS (args := [.pointer (some ⟨g, 0, none⟩), .int .i64 8]) hs0 Tryz.func99 rfl Tryz.ntmps99 rfl ?_
 refine Sx.C.seq (Sx.C.region ?_)
 refine Sx.G.p (.slice none 0 0) ?_
 refine Sx.G.nil (Sx.E.next (Sx.C.seq (Sx.C.region ?_)))
 refine Sx.G.fresh 28 (rLsw rInt) (by kernel_rfl) (fun w => by kernel_rfl) (fun b1 hi1 => ?_)
 refine Sx.G.p (.slice (some ⟨b1, 0, none⟩) 0 0) ?_
 refine Sx.G.nil (Sx.E.next (Sx.C.seq (Sx.C.seq (Sx.C.region ?_))))
 refine Sx.G.p (.int .i64 0) ?_
 refine Sx.G.nil (Sx.E.next (Sx.C.block ?_))
 refine Sx.C.loop (α := Nat × (List (List Int)) × Option Addr × Nat × List Nat × Nat × Nat) (fun x => x.1 ≤ 8 ∧ x.2.1.length = x.1 ∧ ∀ y ∈ x.2.1, pageD y) (fun x => [(6, .int .i64 (x.1 : Int)), (5, .slice x.2.2.1 x.2.1.length x.2.2.2.1), (0, .pointer (some ⟨g, 0, none⟩)), (1, .int .i64 8), (4, .slice none 0 0)]) (fun x => [ow (rLst 28 (rLst 3 rInt)) x.2.2.2.2.2.1 x.2.2.2.2.2.2 x.2.1 [.slice x.2.2.1 x.2.1.length x.2.2.2.1] x.2.2.2.2.1, Sx.cu A n c g, Sx.frm w0 w g]) (fun x => 8 + 1 - x.1) (0, [], (some ⟨b1, 0, none⟩), 0, [b1], b1, hi1) ⟨Nat.zero_le _, rfl, fun y hy => by cases hy⟩ (fun a hA => (Sx.Ag.and hA (Sx.Ag.and hA (Sx.Ag.and hA (Sx.Ag.and hA (Sx.Ag.and hA (Sx.Ag.none hA) _ _ (by kernel_rfl)) _ _ (by kernel_rfl)) _ _ (by kernel_rfl)) _ _ (by kernel_rfl)) _ _ (by kernel_rfl))) (fun w S => St.pick S [0, 1, 2] _ rfl (by decide)) (fun x hx => ?_)
 obtain ⟨xim, xsm, xAm, xcm, xFm, xlom, xhim⟩ := x
 dsimp only at hx
 obtain ⟨hbm, hlm, hpm⟩ := hx
 refine Sx.C.seq (Sx.C.seq (Sx.C.region ?_))
 refine Sx.G.p (.int .i64 (xim : Int)) ?_
 refine Sx.G.p (.int .i64 8) ?_
 refine Sx.G.p (.bool (decide ((xim : Int) < 8))) ?_
 refine Sx.G.nil (Sx.E.next ?_)
 cases hc2 : (decide ((xim : Int) < 8))
 ·
  have hb2 := hc2
  replace hc2 := of_decide_eq_false hc2
  refine Sx.C.no (by kernel_rfl) (by kernel_rfl) ?_
  refine Sx.C.exit (Sx.E.then_exit (Sx.E.then_exit (Sx.E.block_hit (Sx.E.next (Sx.C.seq (Sx.C.region ?_))))))
  refine Sx.G.p (.slice xAm xsm.length xcm) ?_
  refine Sx.G.p (.slice xAm xsm.length xcm) ?_
  refine Sx.G.nil (Sx.E.next (Sx.C.ret ?_))
  refine Sx.E.ret1 (.slice xAm xsm.length xcm) rfl (by kernel_rfl) (fun w S => ?_)
  have hl4 : xsm.length = 8 := by omega
  exact ⟨xsm, _, _, _, _, _, ⟨hl4, hpm⟩, Sx.Drawn.made hb0 (St.pick S [1, 2, 0] _ rfl (by decide))⟩
 ·
  have hb2 := hc2
  replace hc2 := of_decide_eq_true hc2
  refine Sx.C.yes (by kernel_rfl) (by kernel_rfl) ?_
  refine Sx.C.skip (Sx.E.next (Sx.C.seq (Sx.C.block (Sx.C.region ?_))))
  refine Sx.G.p (.slice xAm xsm.length xcm) ?_
  refine Sx.G.p (.pointer (some ⟨g, 0, none⟩)) ?_
  refine Sx.G.c 116 #[.pointer (some ⟨g, 0, none⟩)] (fun w3 S => (kd_page w0 A n c g _ hn hcode (Sx.St.cur S 1 rfl)).mono fun e w3' hp => ?_)
  obtain ⟨l3, a3, b3, lo3, hi3, F3, hg3, rfl, hcur, hgr, hfr⟩ := hp
  refine ⟨_, _, rfl, Sx.St.joinD S (Sx.St.moved S 1 rfl hcur hgr) hfr, ?_⟩
  clear S hcur hgr hfr
  refine Sx.G.made 28 [.slice a3 l3.length b3] 1 (by kernel_rfl) (fun w => by kernel_rfl) (fun b4 => ?_)
  refine Sx.G.pk (.c .m2 (.c .m1 (.c .m0 (.c .m3 (.c .m4 .n))))) ?_
  refine Sx.G.appr (.tmp 13) (.tmp 16) 26 1 24 1 rfl (by kernel_rfl) (by kernel_rfl) rfl (by kernel_rfl) (by kernel_rfl) (by kernel_rfl) (by simp only [maxLen]; omega) (by omega) (xsm ++ [l3]) rfl (xsm ++ [l3]).length (by simp) (fun A5 c5 F5 hi5 hm5 => ?_)
  refine Sx.G.p (.slice A5 (xsm ++ [l3]).length c5) ?_
  refine Sx.G.nil (Sx.E.block_normal (Sx.E.next (Sx.C.region ?_)))
  refine Sx.G.p (.int .i64 (xim : Int)) ?_
  refine Sx.G.q (.int .i64 (IntKind.i64.wrap ((xim : Int) + 1))) (.int .i64 ((xim + 1 : Nat) : Int)) (congrArg (Value.int .i64) (Sx.wrap_up xim (by omega))) ?_
  refine Sx.G.p (.int .i64 ((xim + 1 : Nat) : Int)) ?_
  refine Sx.G.nil ?_
  have HN : xim + 1 ≤ 8 ∧ (xsm ++ [l3]).length = xim + 1 ∧ ∀ y ∈ xsm ++ [l3], pageD y := ⟨by omega, by simp [hlm], fun y hy => by rcases List.mem_append.1 hy with h | h; exact hpm y h; rw [List.mem_singleton.1 h]; exact hg3⟩
  exact Sx.E.again (xim + 1, (xsm ++ [l3]), A5, c5, F5, w0.heap.size, hi5) HN (by show 8 + 1 - (xim + 1) < 8 + 1 - xim; omega) (fun a hA => (Sx.Ag.and hA (Sx.Ag.and hA (Sx.Ag.and hA (Sx.Ag.and hA (Sx.Ag.and hA (Sx.Ag.none hA) _ _ (by kernel_rfl)) _ _ (by kernel_rfl)) _ _ (by kernel_rfl)) _ _ (by kernel_rfl)) _ _ (by kernel_rfl))) (fun w S => St.pick S [0, 1, 2] _ rfl (by decide))
theorem kd_mem3 (w0 : World) (A : Option Addr) (n c g : Nat) (w : World) (hn : n ≤ 1048576) (hcode : CodeAt w0 A n) (hcur : Cur w0 A n c w g) : Calls Tryz.prog 99 #[.pointer (some ⟨g, 0, none⟩), .int .i64 3] w (fun e w' => ∃ l a b lo hi F, (l.length = 3 ∧ ∀ p ∈ l, pageD p) ∧ Sx.Drawn w0 A n c w g (.slice a l.length b) [ow (rLst 28 (rLst 3 rInt)) lo hi l [.slice a l.length b] F] e w') := by
 have hs0 := Sx.st_cur hcur
 have hb0 := hcur.1
 clear hcur
 refine Sx.enterS (args := [.pointer (some ⟨g, 0, none⟩), .int .i64 3]) hs0 Tryz.func99 rfl Tryz.ntmps99 rfl ?_
 refine Sx.C.seq (Sx.C.region ?_)
 refine Sx.G.p (.slice none 0 0) ?_
 refine Sx.G.nil (Sx.E.next (Sx.C.seq (Sx.C.region ?_)))
 refine Sx.G.fresh 28 (rLsw rInt) (by kernel_rfl) (fun w => by kernel_rfl) (fun b1 hi1 => ?_)
 refine Sx.G.p (.slice (some ⟨b1, 0, none⟩) 0 0) ?_
 refine Sx.G.nil (Sx.E.next (Sx.C.seq (Sx.C.seq (Sx.C.region ?_))))
 refine Sx.G.p (.int .i64 0) ?_
 refine Sx.G.nil (Sx.E.next (Sx.C.block ?_))
 refine Sx.C.loop (α := Nat × (List (List Int)) × Option Addr × Nat × List Nat × Nat × Nat) (fun x => x.1 ≤ 3 ∧ x.2.1.length = x.1 ∧ ∀ y ∈ x.2.1, pageD y) (fun x => [(6, .int .i64 (x.1 : Int)), (5, .slice x.2.2.1 x.2.1.length x.2.2.2.1), (0, .pointer (some ⟨g, 0, none⟩)), (1, .int .i64 3), (4, .slice none 0 0)]) (fun x => [ow (rLst 28 (rLst 3 rInt)) x.2.2.2.2.2.1 x.2.2.2.2.2.2 x.2.1 [.slice x.2.2.1 x.2.1.length x.2.2.2.1] x.2.2.2.2.1, Sx.cu A n c g, Sx.frm w0 w g]) (fun x => 3 + 1 - x.1) (0, [], (some ⟨b1, 0, none⟩), 0, [b1], b1, hi1) ⟨Nat.zero_le _, rfl, fun y hy => by cases hy⟩ (fun a hA => (Sx.Ag.and hA (Sx.Ag.and hA (Sx.Ag.and hA (Sx.Ag.and hA (Sx.Ag.and hA (Sx.Ag.none hA) _ _ (by kernel_rfl)) _ _ (by kernel_rfl)) _ _ (by kernel_rfl)) _ _ (by kernel_rfl)) _ _ (by kernel_rfl))) (fun w S => St.pick S [0, 1, 2] _ rfl (by decide)) (fun x hx => ?_)
 obtain ⟨xim, xsm, xAm, xcm, xFm, xlom, xhim⟩ := x
 dsimp only at hx
 obtain ⟨hbm, hlm, hpm⟩ := hx
 refine Sx.C.seq (Sx.C.seq (Sx.C.region ?_))
 refine Sx.G.p (.int .i64 (xim : Int)) ?_
 refine Sx.G.p (.int .i64 3) ?_
 refine Sx.G.p (.bool (decide ((xim : Int) < 3))) ?_
 refine Sx.G.nil (Sx.E.next ?_)
 cases hc2 : (decide ((xim : Int) < 3))
 ·
  have hb2 := hc2
  replace hc2 := of_decide_eq_false hc2
  refine Sx.C.no (by kernel_rfl) (by kernel_rfl) ?_
  refine Sx.C.exit (Sx.E.then_exit (Sx.E.then_exit (Sx.E.block_hit (Sx.E.next (Sx.C.seq (Sx.C.region ?_))))))
  refine Sx.G.p (.slice xAm xsm.length xcm) ?_
  refine Sx.G.p (.slice xAm xsm.length xcm) ?_
  refine Sx.G.nil (Sx.E.next (Sx.C.ret ?_))
  refine Sx.E.ret1 (.slice xAm xsm.length xcm) rfl (by kernel_rfl) (fun w S => ?_)
  have hl4 : xsm.length = 3 := by omega
  exact ⟨xsm, _, _, _, _, _, ⟨hl4, hpm⟩, Sx.Drawn.made hb0 (St.pick S [1, 2, 0] _ rfl (by decide))⟩
 ·
  have hb2 := hc2
  replace hc2 := of_decide_eq_true hc2
  refine Sx.C.yes (by kernel_rfl) (by kernel_rfl) ?_
  refine Sx.C.skip (Sx.E.next (Sx.C.seq (Sx.C.block (Sx.C.region ?_))))
  refine Sx.G.p (.slice xAm xsm.length xcm) ?_
  refine Sx.G.p (.pointer (some ⟨g, 0, none⟩)) ?_
  refine Sx.G.c 116 #[.pointer (some ⟨g, 0, none⟩)] (fun w3 S => (kd_page w0 A n c g _ hn hcode (Sx.St.cur S 1 rfl)).mono fun e w3' hp => ?_)
  obtain ⟨l3, a3, b3, lo3, hi3, F3, hg3, rfl, hcur, hgr, hfr⟩ := hp
  refine ⟨_, _, rfl, Sx.St.joinD S (Sx.St.moved S 1 rfl hcur hgr) hfr, ?_⟩
  clear S hcur hgr hfr
  refine Sx.G.made 28 [.slice a3 l3.length b3] 1 (by kernel_rfl) (fun w => by kernel_rfl) (fun b4 => ?_)
  refine Sx.G.pk (.c .m2 (.c .m1 (.c .m0 (.c .m3 (.c .m4 .n))))) ?_
  refine Sx.G.appr (.tmp 13) (.tmp 16) 26 1 24 1 rfl (by kernel_rfl) (by kernel_rfl) rfl (by kernel_rfl) (by kernel_rfl) (by kernel_rfl) (by simp only [maxLen]; omega) (by omega) (xsm ++ [l3]) rfl (xsm ++ [l3]).length (by simp) (fun A5 c5 F5 hi5 hm5 => ?_)
  refine Sx.G.p (.slice A5 (xsm ++ [l3]).length c5) ?_
  refine Sx.G.nil (Sx.E.block_normal (Sx.E.next (Sx.C.region ?_)))
  refine Sx.G.p (.int .i64 (xim : Int)) ?_
  refine Sx.G.q (.int .i64 (IntKind.i64.wrap ((xim : Int) + 1))) (.int .i64 ((xim + 1 : Nat) : Int)) (congrArg (Value.int .i64) (Sx.wrap_up xim (by omega))) ?_
  refine Sx.G.p (.int .i64 ((xim + 1 : Nat) : Int)) ?_
  refine Sx.G.nil ?_
  have HN : xim + 1 ≤ 3 ∧ (xsm ++ [l3]).length = xim + 1 ∧ ∀ y ∈ xsm ++ [l3], pageD y := ⟨by omega, by simp [hlm], fun y hy => by rcases List.mem_append.1 hy with h | h; exact hpm y h; rw [List.mem_singleton.1 h]; exact hg3⟩
  exact Sx.E.again (xim + 1, (xsm ++ [l3]), A5, c5, F5, w0.heap.size, hi5) HN (by show 3 + 1 - (xim + 1) < 3 + 1 - xim; omega) (fun a hA => (Sx.Ag.and hA (Sx.Ag.and hA (Sx.Ag.and hA (Sx.Ag.and hA (Sx.Ag.and hA (Sx.Ag.none hA) _ _ (by kernel_rfl)) _ _ (by kernel_rfl)) _ _ (by kernel_rfl)) _ _ (by kernel_rfl)) _ _ (by kernel_rfl))) (fun w S => St.pick S [0, 1, 2] _ rfl (by decide))
theorem kd_anymem (w0 : World) (A : Option Addr) (n c g : Nat) (w : World) (hn : n ≤ 1048576) (hcode : CodeAt w0 A n) (hcur : Cur w0 A n c w g) : Calls Tryz.prog 68 #[.pointer (some ⟨g, 0, none⟩)] w (fun e w' => ∃ l a b lo hi F, memD l ∧ Sx.Drawn w0 A n c w g (.slice a l.length b) [ow (Sx.rRo (rLsw (rLsw rInt))) lo hi l [.slice a l.length b] F] e w') := by
 have hs0 := Sx.st_cur hcur
 have hb0 := hcur.1
 clear hcur
 refine Sx.enterS (args := [.pointer (some ⟨g, 0, none⟩)]) hs0 Tryz.func68 rfl Tryz.ntmps68 rfl ?_
 refine Sx.C.seq (Sx.C.region ?_)
 refine Sx.G.p (.slice none 0 0) ?_
 refine Sx.G.nil (Sx.E.next (Sx.C.seq (Sx.C.region ?_)))
 refine Sx.G.p (.pointer (some ⟨g, 0, none⟩)) ?_
 refine Sx.G.c 99 #[.pointer (some ⟨g, 0, none⟩), .int .i64 3] (fun w1 S => (kd_mem3 w0 A n c g _ hn hcode (Sx.St.cur S 0 rfl)).mono fun e w1' hp => ?_)
 obtain ⟨l, a, b, lo, hi, F, hg, rfl, hcur, hgr, hfr⟩ := hp
 obtain ⟨B, b0, c0, b1, c1, b2, c2, x0, x1, x2, x3, y0, y1, y2, y3, z0, z1, z2, z3, rfl, rfl, hb, hc0, hc1, hc2, S2⟩ := Sx.St.rows3 (Sx.St.joinD S (Sx.St.moved S 0 rfl hcur hgr) hfr) hg.1 (fun p hp => (hg.2 p hp).1)
 refine ⟨_, _, rfl, S2, ?_⟩
 clear S hcur hgr hfr S2
 refine Sx.G.p (.slice (some ⟨B, 0, none⟩) 3 b) ?_
 refine Sx.G.nil (Sx.E.next (Sx.C.seq (Sx.C.seq (Sx.C.region ?_))))
 refine Sx.G.p (.pointer (some ⟨g, 0, none⟩)) ?_
 refine Sx.G.c 39 #[.pointer (some ⟨g, 0, none⟩), .int .i64 8] (fun w2 S => (below_any w0 A n c g _ 8 (by decide) (by decide) hn hcode (Sx.St.cur S 4 rfl)).mono fun e w2' hp => ?_)
 obtain ⟨x2, rfl, hx2, hy2, hcur, hgr⟩ := hp
 obtain ⟨j2, rfl⟩ : ∃ j : Nat, x2 = (j : Int) := ⟨x2.toNat, by omega⟩
 have hj2 : j2 < 8 := by omega
 clear hx2 hy2
 refine ⟨_, _, rfl, Sx.St.moved S 4 rfl hcur hgr, ?_⟩
 clear S hcur hgr
 refine Sx.G.nil (Sx.E.next (Sx.C.block (Sx.C.seq (Sx.C.region ?_))))
 refine Sx.G.p (.bool ((j2 : Int) == 0)) ?_
 refine Sx.G.p (.bool ((j2 : Int) == 0)) ?_
 refine Sx.G.nil (Sx.E.next ?_)
 cases hc3 : ((j2 : Int) == 0)
 ·
  have hb3 := hc3
  refine Sx.C.no (by kernel_rfl) (by kernel_rfl) ?_
  refine Sx.C.seq (Sx.C.region ?_)
  refine Sx.G.p (.bool ((j2 : Int) == 1)) ?_
  refine Sx.G.p (.bool ((j2 : Int) == 1)) ?_
  refine Sx.G.nil (Sx.E.next ?_)
  cases hc4 : ((j2 : Int) == 1)
  ·
   have hb4 := hc4
   refine Sx.C.no (by kernel_rfl) (by kernel_rfl) ?_
   refine Sx.C.seq (Sx.C.region ?_)
   refine Sx.G.p (.bool ((j2 : Int) == 2)) ?_
   refine Sx.G.p (.bool ((j2 : Int) == 2)) ?_
   refine Sx.G.nil (Sx.E.next ?_)
   cases hc5 : ((j2 : Int) == 2)
   ·
    have hb5 := hc5
    refine Sx.C.no (by kernel_rfl) (by kernel_rfl) ?_
    refine Sx.C.skip (Sx.E.block_normal (Sx.E.next (Sx.C.seq (Sx.C.region ?_))))
    refine Sx.G.p (.slice (some ⟨B, 0, none⟩) 3 b) ?_
    refine Sx.G.p (.slice (some ⟨B, 0, none⟩) 3 b) ?_
    refine Sx.G.nil (Sx.E.next (Sx.C.ret ?_))
    refine Sx.E.ret1 (.slice (some ⟨B, 0, none⟩) 3 b) rfl (by kernel_rfl) (fun w S => ?_)
    have S1 := St.pick S [0, 1, 2, 3, 4, 5] ([vr B [.slice (some ⟨b0, 0, none⟩) 4 c0, .slice (some ⟨b1, 0, none⟩) 4 c1, .slice (some ⟨b2, 0, none⟩) 4 c2], vr b0 [.int .i64 x0, .int .i64 x1, .int .i64 x2, .int .i64 x3], vr b1 [.int .i64 y0, .int .i64 y1, .int .i64 y2, .int .i64 y3], vr b2 [.int .i64 z0, .int .i64 z1, .int .i64 z2, .int .i64 z3]] ++ [_, _]) rfl (by decide)
    have hB : w0.heap.size ≤ B ∧ B < _ := ⟨S1.lo 0 _ rfl, S1.hi 0 _ rfl⟩
    have hB0 : w0.heap.size ≤ b0 ∧ b0 < _ := ⟨S1.lo 1 _ rfl, S1.hi 1 _ rfl⟩
    have hB1 : w0.heap.size ≤ b1 ∧ b1 < _ := ⟨S1.lo 2 _ rfl, S1.hi 2 _ rfl⟩
    have hB2 : w0.heap.size ≤ b2 ∧ b2 < _ := ⟨S1.lo 3 _ rfl, S1.hi 3 _ rfl⟩
    obtain ⟨F2, S3⟩ := Sx.St.ro (r := (rLsw (rLsw rInt))) (x := [[x0, x1, x2, x3], [y0, y1, y2, y3], [z0, z1, z2, z3]]) (cs := [.slice (some ⟨B, 0, none⟩) 3 b]) S1 (fun v hv => by
     have vB := hv _ (List.mem_cons_self)
     have v0 := hv _ (List.mem_cons_of_mem _ List.mem_cons_self)
     have v1 := hv _ (List.mem_cons_of_mem _ (List.mem_cons_of_mem _ List.mem_cons_self))
     have v2 := hv _ (List.mem_cons_of_mem _ (List.mem_cons_of_mem _ (List.mem_cons_of_mem _ List.mem_cons_self)))
     exact (Sx.mem3_rd (vB : Var v B [.slice (some ⟨b0, 0, none⟩) 4 c0, .slice (some ⟨b1, 0, none⟩) 4 c1, .slice (some ⟨b2, 0, none⟩) 4 c2]) (Sx.page_pre (k := 4) (l := [x0, x1, x2, x3]) v0 (by first | decide | (show _ ≤ 4; omega)) hB0 (by omega)) (Sx.page_pre (k := 4) (l := [y0, y1, y2, y3]) v1 (by first | decide | (show _ ≤ 4; omega)) hB1 (by omega)) (Sx.page_pre (k := 4) (l := [z0, z1, z2, z3]) v2 (by first | decide | (show _ ≤ 4; omega)) hB2 (by omega)) hB hb))
    exact ⟨[[x0, x1, x2, x3], [y0, y1, y2, y3], [z0, z1, z2, z3]], some ⟨B, 0, none⟩, b, _, _, F2, ⟨by simp, fun p hp => by
  simp only [List.mem_cons, List.not_mem_nil, or_false] at hp
  rcases hp with rfl | rfl | rfl
  ·
   exact (hg.2 [x0, x1, x2, x3] (by simp)).any
  ·
   exact (hg.2 [y0, y1, y2, y3] (by simp)).any
  ·
   exact (hg.2 [z0, z1, z2, z3] (by simp)).any
  ⟩, Sx.Drawn.made hb0 (St.pick S3 [1, 2, 0] _ rfl (by decide))⟩
   ·
    have hb5 := hc5
    refine Sx.C.yes (by kernel_rfl) (by kernel_rfl) ?_
    refine Sx.C.region ?_
    refine Sx.G.p (.slice (some ⟨B, 0, none⟩) 3 b) ?_
    refine Sx.G.p (.pointer (some ⟨g, 0, none⟩)) ?_
    refine Sx.G.c 39 #[.pointer (some ⟨g, 0, none⟩), .int .i64 3] (fun w6 S => (below_any w0 A n c g _ 3 (by decide) (by decide) hn hcode (Sx.St.cur S 4 rfl)).mono fun e w6' hp => ?_)
    obtain ⟨x6, rfl, hx6, hy6, hcur, hgr⟩ := hp
    obtain ⟨j6, rfl⟩ : ∃ j : Nat, x6 = (j : Int) := ⟨x6.toNat, by omega⟩
    have hj6 : j6 < 3 := by omega
    clear hx6 hy6
    refine ⟨_, _, rfl, Sx.St.moved S 4 rfl hcur hgr, ?_⟩
    clear S hcur hgr
    refine Sx.G.pure (.slice (some ⟨B, 0, none⟩) j6 b) (by kernel_rfl) (fun w => Sx.run_cut (e := 28) 1 24 B 0 3 b j6 rfl (by kernel_rfl) (by kernel_rfl) (by kernel_rfl) (by have := hj6; omega) w) ?_
    refine Sx.G.p (.slice (some ⟨B, 0, none⟩) j6 b) ?_
    refine Sx.G.nil (Sx.E.block_normal (Sx.E.next (Sx.C.seq (Sx.C.region ?_))))
    refine Sx.G.p (.slice (some ⟨B, 0, none⟩) j6 b) ?_
    refine Sx.G.p (.slice (some ⟨B, 0, none⟩) j6 b) ?_
    refine Sx.G.nil (Sx.E.next (Sx.C.ret ?_))
    refine Sx.E.ret1 (.slice (some ⟨B, 0, none⟩) j6 b) rfl (by kernel_rfl) (fun w S => ?_)
    have hj : j6 = 0 ∨ j6 = 1 ∨ j6 = 2 := by have := hj6; omega
    rcases hj with rfl | rfl | rfl
    ·
     have S1 := St.pick S [0, 1, 2, 3, 4, 5] ([vr B [.slice (some ⟨b0, 0, none⟩) 4 c0, .slice (some ⟨b1, 0, none⟩) 4 c1, .slice (some ⟨b2, 0, none⟩) 4 c2], vr b0 [.int .i64 x0, .int .i64 x1, .int .i64 x2, .int .i64 x3], vr b1 [.int .i64 y0, .int .i64 y1, .int .i64 y2, .int .i64 y3], vr b2 [.int .i64 z0, .int .i64 z1, .int .i64 z2, .int .i64 z3]] ++ [_, _]) rfl (by decide)
     have hB : w0.heap.size ≤ B ∧ B < _ := ⟨S1.lo 0 _ rfl, S1.hi 0 _ rfl⟩
     have hB0 : w0.heap.size ≤ b0 ∧ b0 < _ := ⟨S1.lo 1 _ rfl, S1.hi 1 _ rfl⟩
     have hB1 : w0.heap.size ≤ b1 ∧ b1 < _ := ⟨S1.lo 2 _ rfl, S1.hi 2 _ rfl⟩
     have hB2 : w0.heap.size ≤ b2 ∧ b2 < _ := ⟨S1.lo 3 _ rfl, S1.hi 3 _ rfl⟩
     obtain ⟨F2, S3⟩ := Sx.St.ro (r := (rLsw (rLsw rInt))) (x := []) (cs := [.slice (some ⟨B, 0, none⟩) 0 b]) S1 (fun v hv => by
      have vB := hv _ (List.mem_cons_self)
      have v0 := hv _ (List.mem_cons_of_mem _ List.mem_cons_self)
      have v1 := hv _ (List.mem_cons_of_mem _ (List.mem_cons_of_mem _ List.mem_cons_self))
      have v2 := hv _ (List.mem_cons_of_mem _ (List.mem_cons_of_mem _ (List.mem_cons_of_mem _ List.mem_cons_self)))
      exact (Sx.mem_take 0 (Sx.mem3_rd (vB : Var v B [.slice (some ⟨b0, 0, none⟩) 4 c0, .slice (some ⟨b1, 0, none⟩) 4 c1, .slice (some ⟨b2, 0, none⟩) 4 c2]) (Sx.page_pre (k := 4) (l := [x0, x1, x2, x3]) v0 (by first | decide | (show _ ≤ 4; omega)) hB0 (by omega)) (Sx.page_pre (k := 4) (l := [y0, y1, y2, y3]) v1 (by first | decide | (show _ ≤ 4; omega)) hB1 (by omega)) (Sx.page_pre (k := 4) (l := [z0, z1, z2, z3]) v2 (by first | decide | (show _ ≤ 4; omega)) hB2 (by omega)) hB hb) (by simp)))
     exact ⟨[], some ⟨B, 0, none⟩, b, _, _, F2, ⟨by simp, fun p hp => (hg.2 p (by first | (cases hp; done) | (simp only [List.mem_cons, List.not_mem_nil, or_false] at hp ⊢; first | (rcases hp with rfl | rfl <;> simp) | (subst hp; simp)))).any⟩, Sx.Drawn.made hb0 (St.pick S3 [1, 2, 0] _ rfl (by decide))⟩
    ·
     have S1 := St.pick S [0, 1, 2, 3, 4, 5] ([vr B [.slice (some ⟨b0, 0, none⟩) 4 c0, .slice (some ⟨b1, 0, none⟩) 4 c1, .slice (some ⟨b2, 0, none⟩) 4 c2], vr b0 [.int .i64 x0, .int .i64 x1, .int .i64 x2, .int .i64 x3], vr b1 [.int .i64 y0, .int .i64 y1, .int .i64 y2, .int .i64 y3], vr b2 [.int .i64 z0, .int .i64 z1, .int .i64 z2, .int .i64 z3]] ++ [_, _]) rfl (by decide)
     have hB : w0.heap.size ≤ B ∧ B < _ := ⟨S1.lo 0 _ rfl, S1.hi 0 _ rfl⟩
     have hB0 : w0.heap.size ≤ b0 ∧ b0 < _ := ⟨S1.lo 1 _ rfl, S1.hi 1 _ rfl⟩
     have hB1 : w0.heap.size ≤ b1 ∧ b1 < _ := ⟨S1.lo 2 _ rfl, S1.hi 2 _ rfl⟩
     have hB2 : w0.heap.size ≤ b2 ∧ b2 < _ := ⟨S1.lo 3 _ rfl, S1.hi 3 _ rfl⟩
     obtain ⟨F2, S3⟩ := Sx.St.ro (r := (rLsw (rLsw rInt))) (x := [[x0, x1, x2, x3]]) (cs := [.slice (some ⟨B, 0, none⟩) 1 b]) S1 (fun v hv => by
      have vB := hv _ (List.mem_cons_self)
      have v0 := hv _ (List.mem_cons_of_mem _ List.mem_cons_self)
      have v1 := hv _ (List.mem_cons_of_mem _ (List.mem_cons_of_mem _ List.mem_cons_self))
      have v2 := hv _ (List.mem_cons_of_mem _ (List.mem_cons_of_mem _ (List.mem_cons_of_mem _ List.mem_cons_self)))
      exact (Sx.mem_take 1 (Sx.mem3_rd (vB : Var v B [.slice (some ⟨b0, 0, none⟩) 4 c0, .slice (some ⟨b1, 0, none⟩) 4 c1, .slice (some ⟨b2, 0, none⟩) 4 c2]) (Sx.page_pre (k := 4) (l := [x0, x1, x2, x3]) v0 (by first | decide | (show _ ≤ 4; omega)) hB0 (by omega)) (Sx.page_pre (k := 4) (l := [y0, y1, y2, y3]) v1 (by first | decide | (show _ ≤ 4; omega)) hB1 (by omega)) (Sx.page_pre (k := 4) (l := [z0, z1, z2, z3]) v2 (by first | decide | (show _ ≤ 4; omega)) hB2 (by omega)) hB hb) (by simp)))
     exact ⟨[[x0, x1, x2, x3]], some ⟨B, 0, none⟩, b, _, _, F2, ⟨by simp, fun p hp => (hg.2 p (by first | (cases hp; done) | (simp only [List.mem_cons, List.not_mem_nil, or_false] at hp ⊢; first | (rcases hp with rfl | rfl <;> simp) | (subst hp; simp)))).any⟩, Sx.Drawn.made hb0 (St.pick S3 [1, 2, 0] _ rfl (by decide))⟩
    ·
     have S1 := St.pick S [0, 1, 2, 3, 4, 5] ([vr B [.slice (some ⟨b0, 0, none⟩) 4 c0, .slice (some ⟨b1, 0, none⟩) 4 c1, .slice (some ⟨b2, 0, none⟩) 4 c2], vr b0 [.int .i64 x0, .int .i64 x1, .int .i64 x2, .int .i64 x3], vr b1 [.int .i64 y0, .int .i64 y1, .int .i64 y2, .int .i64 y3], vr b2 [.int .i64 z0, .int .i64 z1, .int .i64 z2, .int .i64 z3]] ++ [_, _]) rfl (by decide)
     have hB : w0.heap.size ≤ B ∧ B < _ := ⟨S1.lo 0 _ rfl, S1.hi 0 _ rfl⟩
     have hB0 : w0.heap.size ≤ b0 ∧ b0 < _ := ⟨S1.lo 1 _ rfl, S1.hi 1 _ rfl⟩
     have hB1 : w0.heap.size ≤ b1 ∧ b1 < _ := ⟨S1.lo 2 _ rfl, S1.hi 2 _ rfl⟩
     have hB2 : w0.heap.size ≤ b2 ∧ b2 < _ := ⟨S1.lo 3 _ rfl, S1.hi 3 _ rfl⟩
     obtain ⟨F2, S3⟩ := Sx.St.ro (r := (rLsw (rLsw rInt))) (x := [[x0, x1, x2, x3], [y0, y1, y2, y3]]) (cs := [.slice (some ⟨B, 0, none⟩) 2 b]) S1 (fun v hv => by
      have vB := hv _ (List.mem_cons_self)
      have v0 := hv _ (List.mem_cons_of_mem _ List.mem_cons_self)
      have v1 := hv _ (List.mem_cons_of_mem _ (List.mem_cons_of_mem _ List.mem_cons_self))
      have v2 := hv _ (List.mem_cons_of_mem _ (List.mem_cons_of_mem _ (List.mem_cons_of_mem _ List.mem_cons_self)))
      exact (Sx.mem_take 2 (Sx.mem3_rd (vB : Var v B [.slice (some ⟨b0, 0, none⟩) 4 c0, .slice (some ⟨b1, 0, none⟩) 4 c1, .slice (some ⟨b2, 0, none⟩) 4 c2]) (Sx.page_pre (k := 4) (l := [x0, x1, x2, x3]) v0 (by first | decide | (show _ ≤ 4; omega)) hB0 (by omega)) (Sx.page_pre (k := 4) (l := [y0, y1, y2, y3]) v1 (by first | decide | (show _ ≤ 4; omega)) hB1 (by omega)) (Sx.page_pre (k := 4) (l := [z0, z1, z2, z3]) v2 (by first | decide | (show _ ≤ 4; omega)) hB2 (by omega)) hB hb) (by simp)))
     exact ⟨[[x0, x1, x2, x3], [y0, y1, y2, y3]], some ⟨B, 0, none⟩, b, _, _, F2, ⟨by simp, fun p hp => (hg.2 p (by first | (cases hp; done) | (simp only [List.mem_cons, List.not_mem_nil, or_false] at hp ⊢; first | (rcases hp with rfl | rfl <;> simp) | (subst hp; simp)))).any⟩, Sx.Drawn.made hb0 (St.pick S3 [1, 2, 0] _ rfl (by decide))⟩
  ·
   have hb4 := hc4
   refine Sx.C.yes (by kernel_rfl) (by kernel_rfl) ?_
   refine Sx.C.draw (.take 0 (.take 1 (.take 2 (.take 3 (.alone 4 (.alone 5 (.take 6 (.alone 7 .nil)))))))) [vr B [.slice (some ⟨b0, 0, none⟩) 4 c0, .slice (some ⟨b1, 0, none⟩) 4 c1, .slice (some ⟨b2, 0, none⟩) 4 c2]] (fun w S => St.pick S [0] _ rfl (by decide)) (by kernel_rfl) (by kernel_rfl) (by kernel_rfl) ?_
   refine Sx.GT.p (.slice (some ⟨B, 0, none⟩) 3 b) ?_
   refine Sx.GT.pure (.pointer (some ⟨B, 1, none⟩)) 1 (by rfl) (by kernel_rfl) (fun w => Sx.run_elemO 28 1 24 B 0 3 b 1 rfl (by kernel_rfl) (by kernel_rfl) (by kernel_rfl) (by decide) w) ?_
   refine Sx.GT.g (.slice (some ⟨b1, 0, none⟩) 4 c1) .m0 .m1 ?_
   refine Sx.GT.p (.pointer (some ⟨g, 0, none⟩)) ?_
   refine Sx.GT.alone (Sx.Alone.block 3 [.int .i64 (-1), .int .i64 100] 2 (by rfl) (by kernel_rfl) (fun w => by kernel_rfl) (fun w S => St.pick S [0] _ rfl (by decide)) (fun b7 => ?_))
   refine Sx.GT.alone (Sx.Alone.c 71 #[.pointer (some ⟨g, 0, none⟩), .slice (some ⟨b7, 0, none⟩) 2 2] (fun w8 S => (pick_any w0 A n c g _ b7 2 [(-1), 100] (by decide) (by decide) hn hcode (Sx.St.cur S 5 rfl) (Sx.St.bk_ne S 0 5 rfl rfl (by decide)) rfl (St.at_ S 0 rfl)).mono fun e w8' hp => ?_))
   obtain ⟨x8, rfl, hx8, hcur, hgr⟩ := hp
   have hw8 : (Lit.int .i64 x8).wf = true := (show ∀ y ∈ ([(-1), 100] : List Int), (Lit.int .i64 y).wf = true by decide) _ hx8
   refine ⟨_, _, rfl, Sx.St.moved S 5 rfl hcur hgr, (fun w S => St.pick S [1] _ rfl (by decide)), ?_⟩
   clear S hcur hgr
   refine Sx.GT.pure (.pointer (some ⟨b1, 2, none⟩)) 6 (by rfl) (by kernel_rfl) (fun w => Sx.run_elemO 3 1 8 b1 0 4 c1 2 rfl (by kernel_rfl) (by kernel_rfl) (by kernel_rfl) (by decide) w) ?_
   refine Sx.GT.alone (Sx.Alone.s (.int .i64 x8) .a3 .a2 (fun w S => St.pick S [1] _ rfl (by decide)) ?_)
   refine Sx.GT.nil (Sx.E.block_normal (Sx.E.next (Sx.C.seq (Sx.C.region ?_))))
   refine Sx.G.p (.slice (some ⟨B, 0, none⟩) 3 b) ?_
   refine Sx.G.p (.slice (some ⟨B, 0, none⟩) 3 b) ?_
   refine Sx.G.nil (Sx.E.next (Sx.C.ret ?_))
   refine Sx.E.ret1 (.slice (some ⟨B, 0, none⟩) 3 b) rfl (by kernel_rfl) (fun w S => ?_)
   have S1 := St.pick S [1, 2, 3, 4, 5, 6] ([vr B [.slice (some ⟨b0, 0, none⟩) 4 c0, .slice (some ⟨b1, 0, none⟩) 4 c1, .slice (some ⟨b2, 0, none⟩) 4 c2], vr b0 [.int .i64 x0, .int .i64 x1, .int .i64 x2, .int .i64 x3], vr b1 [.int .i64 y0, .int .i64 y1, .int .i64 x8, .int .i64 y3], vr b2 [.int .i64 z0, .int .i64 z1, .int .i64 z2, .int .i64 z3]] ++ [_, _]) rfl (by decide)
   have hB : w0.heap.size ≤ B ∧ B < _ := ⟨S1.lo 0 _ rfl, S1.hi 0 _ rfl⟩
   have hB0 : w0.heap.size ≤ b0 ∧ b0 < _ := ⟨S1.lo 1 _ rfl, S1.hi 1 _ rfl⟩
   have hB1 : w0.heap.size ≤ b1 ∧ b1 < _ := ⟨S1.lo 2 _ rfl, S1.hi 2 _ rfl⟩
   have hB2 : w0.heap.size ≤ b2 ∧ b2 < _ := ⟨S1.lo 3 _ rfl, S1.hi 3 _ rfl⟩
   obtain ⟨F2, S3⟩ := Sx.St.ro (r := (rLsw (rLsw rInt))) (x := [[x0, x1, x2, x3], [y0, y1, x8, y3], [z0, z1, z2, z3]]) (cs := [.slice (some ⟨B, 0, none⟩) 3 b]) S1 (fun v hv => by
    have vB := hv _ (List.mem_cons_self)
    have v0 := hv _ (List.mem_cons_of_mem _ List.mem_cons_self)
    have v1 := hv _ (List.mem_cons_of_mem _ (List.mem_cons_of_mem _ List.mem_cons_self))
    have v2 := hv _ (List.mem_cons_of_mem _ (List.mem_cons_of_mem _ (List.mem_cons_of_mem _ List.mem_cons_self)))
    exact (Sx.mem3_rd (vB : Var v B [.slice (some ⟨b0, 0, none⟩) 4 c0, .slice (some ⟨b1, 0, none⟩) 4 c1, .slice (some ⟨b2, 0, none⟩) 4 c2]) (Sx.page_pre (k := 4) (l := [x0, x1, x2, x3]) v0 (by first | decide | (show _ ≤ 4; omega)) hB0 (by omega)) (Sx.page_pre (k := 4) (l := [y0, y1, x8, y3]) v1 (by first | decide | (show _ ≤ 4; omega)) hB1 (by omega)) (Sx.page_pre (k := 4) (l := [z0, z1, z2, z3]) v2 (by first | decide | (show _ ≤ 4; omega)) hB2 (by omega)) hB hb))
   exact ⟨[[x0, x1, x2, x3], [y0, y1, x8, y3], [z0, z1, z2, z3]], some ⟨B, 0, none⟩, b, _, _, F2, ⟨by simp, fun p hp => by
  simp only [List.mem_cons, List.not_mem_nil, or_false] at hp
  rcases hp with rfl | rfl | rfl
  ·
   exact (hg.2 [x0, x1, x2, x3] (by simp)).any
  ·
   exact ⟨by simp, fun z hz => by
   simp only [List.mem_cons, List.not_mem_nil, or_false] at hz
   rcases hz with h | h | h | h
   ·
    rw [h]; exact (hg.2 [y0, y1, y2, y3] (by simp)).2 _ (by simp)
   ·
    rw [h]; exact (hg.2 [y0, y1, y2, y3] (by simp)).2 _ (by simp)
   ·
    rw [h]; exact hw8
   ·
    rw [h]; exact (hg.2 [y0, y1, y2, y3] (by simp)).2 _ (by simp)
   ⟩
  ·
   exact (hg.2 [z0, z1, z2, z3] (by simp)).any
  ⟩, Sx.Drawn.made hb0 (St.pick S3 [1, 2, 0] _ rfl (by decide))⟩
 ·
  have hb3 := hc3
  refine Sx.C.yes (by kernel_rfl) (by kernel_rfl) ?_
  refine Sx.C.cut (fun e a w' => e = .normal ∧ ∃ (Y0 : Nat) (Y1 : Nat), Sx.Ag 36 [(2, .slice none 0 0), (3, .slice (some ⟨B, 0, none⟩) 3 b)] a ∧ St w0 w' [vr B (([.slice (some ⟨b0, 0, none⟩) 4 c0, .slice (some ⟨b1, 0, none⟩) 4 c1, .slice (some ⟨b2, 0, none⟩) 4 c2].set (0 + Y0 * 1) (.slice (some ⟨b0, 0, none⟩) Y1 c0))), vr b0 [.int .i64 x0, .int .i64 x1, .int .i64 x2, .int .i64 x3], vr b1 [.int .i64 y0, .int .i64 y1, .int .i64 y2, .int .i64 y3], vr b2 [.int .i64 z0, .int .i64 z1, .int .i64 z2, .int .i64 z3], Sx.cu A n c g, Sx.frm w0 w g] ∧ 0 ≤ Y0 ∧ Y0 < 3 ∧ 0 ≤ Y1 ∧ Y1 < 4) ?_ ?_
  ·
   refine Sx.C.draw (.take 0 (.take 1 (.take 3 (.take 4 (.take 6 (.two 2 (.two 5 (.alone 7 (.take 8 (.take 9 (.alone 10 .nil)))) 7 (.alone 5 (.take 8 (.take 9 (.alone 10 .nil))))) 5 (.alone 2 (.alone 7 (.take 8 (.take 9 (.alone 10 .nil))))))))))) [] (fun w S => St.pick S [] _ rfl (by decide)) (by kernel_rfl) (by kernel_rfl) (by kernel_rfl) ?_
   refine Sx.GT.p (.slice (some ⟨B, 0, none⟩) 3 b) ?_
   refine Sx.GT.p (.pointer (some ⟨g, 0, none⟩)) ?_
   refine Sx.GT.p (.slice (some ⟨B, 0, none⟩) 3 b) ?_
   refine Sx.GT.pure (.pointer (some ⟨B, 0, none⟩)) 4 (by rfl) (by kernel_rfl) (fun w => Sx.run_elemO 28 1 24 B 0 3 b 0 rfl (by kernel_rfl) (by kernel_rfl) (by kernel_rfl) (by decide) w) ?_
   refine Sx.GT.p (.pointer (some ⟨g, 0, none⟩)) ?_
   refine Sx.GT.two ?_ ?_
   ·
    refine Sx.Alone.c 39 #[.pointer (some ⟨g, 0, none⟩), .int .i64 3] (fun w9 S => (below_any w0 A n c g _ 3 (by decide) (by decide) hn hcode (Sx.St.cur S 4 rfl)).mono fun e w9' hp => ?_)
    obtain ⟨x9, rfl, hx9, hy9, hcur, hgr⟩ := hp
    obtain ⟨j9, rfl⟩ : ∃ j : Nat, x9 = (j : Int) := ⟨x9.toNat, by omega⟩
    have hj9 : j9 < 3 := by omega
    clear hx9 hy9
    refine ⟨_, _, rfl, Sx.St.moved S 4 rfl hcur hgr, (fun w S => St.pick S [] _ rfl (by decide)), ?_⟩
    clear S hcur hgr
    refine Sx.GT.two ?_ ?_
    ·
     refine Sx.Alone.g (.slice (some ⟨b0, 0, none⟩) 4 c0) .m0 .m0 (fun w S => St.pick S [] _ rfl (by decide)) ?_
     refine Sx.GT.alone (Sx.Alone.c 39 #[.pointer (some ⟨g, 0, none⟩), .int .i64 4] (fun w10 S => (below_any w0 A n c g _ 4 (by decide) (by decide) hn hcode (Sx.St.cur S 4 rfl)).mono fun e w10' hp => ?_))
     obtain ⟨x10, rfl, hx10, hy10, hcur, hgr⟩ := hp
     obtain ⟨j10, rfl⟩ : ∃ j : Nat, x10 = (j : Int) := ⟨x10.toNat, by omega⟩
     have hj10 : j10 < 4 := by omega
     clear hx10 hy10
     refine ⟨_, _, rfl, Sx.St.moved S 4 rfl hcur hgr, (fun w S => St.pick S [] _ rfl (by decide)), ?_⟩
     clear S hcur hgr
     refine Sx.GT.pure (.slice (some ⟨b0, 0, none⟩) j10 c0) 8 rfl (by kernel_rfl) (fun w => Sx.run_cut (e := 3) 1 8 b0 0 4 c0 j10 rfl (by kernel_rfl) (by kernel_rfl) (by kernel_rfl) (by have := hj10; omega) w) ?_
     refine Sx.GT.pure (.pointer (some ⟨B, 0 + j9 * 1, none⟩)) 9 (by rfl) (by kernel_rfl) (fun w => Sx.run_elemO 28 1 24 B 0 3 b j9 rfl (by kernel_rfl) (by kernel_rfl) (by kernel_rfl) hj9 w) ?_
     refine Sx.GT.alone (Sx.Alone.sto 28 (.tmp 19) (.tmp 18) B (0 + j9 * 1) 0 [.slice (some ⟨b0, 0, none⟩) 4 c0, .slice (some ⟨b1, 0, none⟩) 4 c1, .slice (some ⟨b2, 0, none⟩) 4 c2] [.slice (some ⟨b0, 0, none⟩) j10 c0] ([.slice (some ⟨b0, 0, none⟩) 4 c0, .slice (some ⟨b1, 0, none⟩) 4 c1, .slice (some ⟨b2, 0, none⟩) 4 c2].set (0 + j9 * 1) (.slice (some ⟨b0, 0, none⟩) j10 c0)) [vr B (([.slice (some ⟨b0, 0, none⟩) 4 c0, .slice (some ⟨b1, 0, none⟩) 4 c1, .slice (some ⟨b2, 0, none⟩) 4 c2].set (0 + j9 * 1) (.slice (some ⟨b0, 0, none⟩) j10 c0))), vr b0 [.int .i64 x0, .int .i64 x1, .int .i64 x2, .int .i64 x3], vr b1 [.int .i64 y0, .int .i64 y1, .int .i64 y2, .int .i64 y3], vr b2 [.int .i64 z0, .int .i64 z1, .int .i64 z2, .int .i64 z3], Sx.cu A n c g, Sx.frm w0 w g] (by rfl) (by rfl) (by kernel_rfl) (by kernel_rfl) (by kernel_rfl) (by rfl) (by rfl) (by rfl) (by rw [Nat.ble_eq]; have := hj9; simp only [List.length_cons, List.length_nil]; omega) (by kernel_rfl) (by kernel_rfl) (fun w S => St.pick S [] _ rfl (by decide)) ?_)
     exact Sx.GT.nil (fun a w' hA S => ⟨rfl, j9, j10, (Sx.Ag.and hA (Sx.Ag.and hA (Sx.Ag.none hA) _ _ (by kernel_rfl)) _ _ (by kernel_rfl)), St.pick S [0, 1, 2, 3, 4, 5] _ rfl (by decide), (Nat.zero_le j9), hj9, (Nat.zero_le j10), hj10⟩)
    ·
     refine Sx.Alone.c 39 #[.pointer (some ⟨g, 0, none⟩), .int .i64 4] (fun w11 S => (below_any w0 A n c g _ 4 (by decide) (by decide) hn hcode (Sx.St.cur S 4 rfl)).mono fun e w11' hp => ?_)
     obtain ⟨x11, rfl, hx11, hy11, hcur, hgr⟩ := hp
     obtain ⟨j11, rfl⟩ : ∃ j : Nat, x11 = (j : Int) := ⟨x11.toNat, by omega⟩
     have hj11 : j11 < 4 := by omega
     clear hx11 hy11
     refine ⟨_, _, rfl, Sx.St.moved S 4 rfl hcur hgr, (fun w S => St.pick S [] _ rfl (by decide)), ?_⟩
     clear S hcur hgr
     refine Sx.GT.alone (Sx.Alone.g (.slice (some ⟨b0, 0, none⟩) 4 c0) .m0 .m0 (fun w S => St.pick S [] _ rfl (by decide)) ?_)
     refine Sx.GT.pure (.slice (some ⟨b0, 0, none⟩) j11 c0) 8 rfl (by kernel_rfl) (fun w => Sx.run_cut (e := 3) 1 8 b0 0 4 c0 j11 rfl (by kernel_rfl) (by kernel_rfl) (by kernel_rfl) (by have := hj11; omega) w) ?_
     refine Sx.GT.pure (.pointer (some ⟨B, 0 + j9 * 1, none⟩)) 9 (by rfl) (by kernel_rfl) (fun w => Sx.run_elemO 28 1 24 B 0 3 b j9 rfl (by kernel_rfl) (by kernel_rfl) (by kernel_rfl) hj9 w) ?_
     refine Sx.GT.alone (Sx.Alone.sto 28 (.tmp 19) (.tmp 18) B (0 + j9 * 1) 0 [.slice (some ⟨b0, 0, none⟩) 4 c0, .slice (some ⟨b1, 0, none⟩) 4 c1, .slice (some ⟨b2, 0, none⟩) 4 c2] [.slice (some ⟨b0, 0, none⟩) j11 c0] ([.slice (some ⟨b0, 0, none⟩) 4 c0, .slice (some ⟨b1, 0, none⟩) 4 c1, .slice (some ⟨b2, 0, none⟩) 4 c2].set (0 + j9 * 1) (.slice (some ⟨b0, 0, none⟩) j11 c0)) [vr B (([.slice (some ⟨b0, 0, none⟩) 4 c0, .slice (some ⟨b1, 0, none⟩) 4 c1, .slice (some ⟨b2, 0, none⟩) 4 c2].set (0 + j9 * 1) (.slice (some ⟨b0, 0, none⟩) j11 c0))), vr b0 [.int .i64 x0, .int .i64 x1, .int .i64 x2, .int .i64 x3], vr b1 [.int .i64 y0, .int .i64 y1, .int .i64 y2, .int .i64 y3], vr b2 [.int .i64 z0, .int .i64 z1, .int .i64 z2, .int .i64 z3], Sx.cu A n c g, Sx.frm w0 w g] (by rfl) (by rfl) (by kernel_rfl) (by kernel_rfl) (by kernel_rfl) (by rfl) (by rfl) (by rfl) (by rw [Nat.ble_eq]; have := hj9; simp only [List.length_cons, List.length_nil]; omega) (by kernel_rfl) (by kernel_rfl) (fun w S => St.pick S [] _ rfl (by decide)) ?_)
     exact Sx.GT.nil (fun a w' hA S => ⟨rfl, j9, j11, (Sx.Ag.and hA (Sx.Ag.and hA (Sx.Ag.none hA) _ _ (by kernel_rfl)) _ _ (by kernel_rfl)), St.pick S [0, 1, 2, 3, 4, 5] _ rfl (by decide), (Nat.zero_le j9), hj9, (Nat.zero_le j11), hj11⟩)
   ·
    refine Sx.Alone.g (.slice (some ⟨b0, 0, none⟩) 4 c0) .m0 .m0 (fun w S => St.pick S [] _ rfl (by decide)) ?_
    refine Sx.GT.alone (Sx.Alone.c 39 #[.pointer (some ⟨g, 0, none⟩), .int .i64 3] (fun w12 S => (below_any w0 A n c g _ 3 (by decide) (by decide) hn hcode (Sx.St.cur S 4 rfl)).mono fun e w12' hp => ?_))
    obtain ⟨x12, rfl, hx12, hy12, hcur, hgr⟩ := hp
    obtain ⟨j12, rfl⟩ : ∃ j : Nat, x12 = (j : Int) := ⟨x12.toNat, by omega⟩
    have hj12 : j12 < 3 := by omega
    clear hx12 hy12
    refine ⟨_, _, rfl, Sx.St.moved S 4 rfl hcur hgr, (fun w S => St.pick S [] _ rfl (by decide)), ?_⟩
    clear S hcur hgr
    refine Sx.GT.alone (Sx.Alone.c 39 #[.pointer (some ⟨g, 0, none⟩), .int .i64 4] (fun w13 S => (below_any w0 A n c g _ 4 (by decide) (by decide) hn hcode (Sx.St.cur S 4 rfl)).mono fun e w13' hp => ?_))
    obtain ⟨x13, rfl, hx13, hy13, hcur, hgr⟩ := hp
    obtain ⟨j13, rfl⟩ : ∃ j : Nat, x13 = (j : Int) := ⟨x13.toNat, by omega⟩
    have hj13 : j13 < 4 := by omega
    clear hx13 hy13
    refine ⟨_, _, rfl, Sx.St.moved S 4 rfl hcur hgr, (fun w S => St.pick S [] _ rfl (by decide)), ?_⟩
    clear S hcur hgr
    refine Sx.GT.pure (.slice (some ⟨b0, 0, none⟩) j13 c0) 8 rfl (by kernel_rfl) (fun w => Sx.run_cut (e := 3) 1 8 b0 0 4 c0 j13 rfl (by kernel_rfl) (by kernel_rfl) (by kernel_rfl) (by have := hj13; omega) w) ?_
    refine Sx.GT.pure (.pointer (some ⟨B, 0 + j12 * 1, none⟩)) 9 (by rfl) (by kernel_rfl) (fun w => Sx.run_elemO 28 1 24 B 0 3 b j12 rfl (by kernel_rfl) (by kernel_rfl) (by kernel_rfl) hj12 w) ?_
    refine Sx.GT.alone (Sx.Alone.sto 28 (.tmp 19) (.tmp 18) B (0 + j12 * 1) 0 [.slice (some ⟨b0, 0, none⟩) 4 c0, .slice (some ⟨b1, 0, none⟩) 4 c1, .slice (some ⟨b2, 0, none⟩) 4 c2] [.slice (some ⟨b0, 0, none⟩) j13 c0] ([.slice (some ⟨b0, 0, none⟩) 4 c0, .slice (some ⟨b1, 0, none⟩) 4 c1, .slice (some ⟨b2, 0, none⟩) 4 c2].set (0 + j12 * 1) (.slice (some ⟨b0, 0, none⟩) j13 c0)) [vr B (([.slice (some ⟨b0, 0, none⟩) 4 c0, .slice (some ⟨b1, 0, none⟩) 4 c1, .slice (some ⟨b2, 0, none⟩) 4 c2].set (0 + j12 * 1) (.slice (some ⟨b0, 0, none⟩) j13 c0))), vr b0 [.int .i64 x0, .int .i64 x1, .int .i64 x2, .int .i64 x3], vr b1 [.int .i64 y0, .int .i64 y1, .int .i64 y2, .int .i64 y3], vr b2 [.int .i64 z0, .int .i64 z1, .int .i64 z2, .int .i64 z3], Sx.cu A n c g, Sx.frm w0 w g] (by rfl) (by rfl) (by kernel_rfl) (by kernel_rfl) (by kernel_rfl) (by rfl) (by rfl) (by rfl) (by rw [Nat.ble_eq]; have := hj12; simp only [List.length_cons, List.length_nil]; omega) (by kernel_rfl) (by kernel_rfl) (fun w S => St.pick S [] _ rfl (by decide)) ?_)
    exact Sx.GT.nil (fun a w' hA S => ⟨rfl, j12, j13, (Sx.Ag.and hA (Sx.Ag.and hA (Sx.Ag.none hA) _ _ (by kernel_rfl)) _ _ (by kernel_rfl)), St.pick S [0, 1, 2, 3, 4, 5] _ rfl (by decide), (Nat.zero_le j12), hj12, (Nat.zero_le j13), hj13⟩)
  rintro e a w' ⟨rfl, y14_0, y14_1, hA, S, hxy14_0, hyy14_0, hxy14_1, hyy14_1⟩
  refine Sx.E.out ?_ hA S
  clear hA S a w'
  refine Sx.E.block_normal (Sx.E.next (Sx.C.seq (Sx.C.region ?_)))
  refine Sx.G.p (.slice (some ⟨B, 0, none⟩) 3 b) ?_
  refine Sx.G.p (.slice (some ⟨B, 0, none⟩) 3 b) ?_
  refine Sx.G.nil (Sx.E.next (Sx.C.ret ?_))
  refine Sx.E.ret1 (.slice (some ⟨B, 0, none⟩) 3 b) rfl (by kernel_rfl) (fun w S => ?_)
  have hk := hyy14_1
  have hj : y14_0 = 0 ∨ y14_0 = 1 ∨ y14_0 = 2 := by have := hyy14_0; omega
  rcases hj with rfl | rfl | rfl
  ·
   have S1 := St.pick S [0, 1, 2, 3, 4, 5] ([vr B [.slice (some ⟨b0, 0, none⟩) y14_1 c0, .slice (some ⟨b1, 0, none⟩) 4 c1, .slice (some ⟨b2, 0, none⟩) 4 c2], vr b0 [.int .i64 x0, .int .i64 x1, .int .i64 x2, .int .i64 x3], vr b1 [.int .i64 y0, .int .i64 y1, .int .i64 y2, .int .i64 y3], vr b2 [.int .i64 z0, .int .i64 z1, .int .i64 z2, .int .i64 z3]] ++ [_, _]) rfl (by decide)
   have hB : w0.heap.size ≤ B ∧ B < _ := ⟨S1.lo 0 _ rfl, S1.hi 0 _ rfl⟩
   have hB0 : w0.heap.size ≤ b0 ∧ b0 < _ := ⟨S1.lo 1 _ rfl, S1.hi 1 _ rfl⟩
   have hB1 : w0.heap.size ≤ b1 ∧ b1 < _ := ⟨S1.lo 2 _ rfl, S1.hi 2 _ rfl⟩
   have hB2 : w0.heap.size ≤ b2 ∧ b2 < _ := ⟨S1.lo 3 _ rfl, S1.hi 3 _ rfl⟩
   obtain ⟨F2, S3⟩ := Sx.St.ro (r := (rLsw (rLsw rInt))) (x := [[x0, x1, x2, x3].take y14_1, [y0, y1, y2, y3], [z0, z1, z2, z3]]) (cs := [.slice (some ⟨B, 0, none⟩) 3 b]) S1 (fun v hv => by
    have vB := hv _ (List.mem_cons_self)
    have v0 := hv _ (List.mem_cons_of_mem _ List.mem_cons_self)
    have v1 := hv _ (List.mem_cons_of_mem _ (List.mem_cons_of_mem _ List.mem_cons_self))
    have v2 := hv _ (List.mem_cons_of_mem _ (List.mem_cons_of_mem _ (List.mem_cons_of_mem _ List.mem_cons_self)))
    exact (Sx.mem3_rd (vB : Var v B [.slice (some ⟨b0, 0, none⟩) y14_1 c0, .slice (some ⟨b1, 0, none⟩) 4 c1, .slice (some ⟨b2, 0, none⟩) 4 c2]) (Sx.page_pre (k := y14_1) (l := [x0, x1, x2, x3]) v0 (by show _ ≤ 4; omega) hB0 (by omega)) (Sx.page_pre (k := 4) (l := [y0, y1, y2, y3]) v1 (by first | decide | (show _ ≤ 4; omega)) hB1 (by omega)) (Sx.page_pre (k := 4) (l := [z0, z1, z2, z3]) v2 (by first | decide | (show _ ≤ 4; omega)) hB2 (by omega)) hB hb))
   exact ⟨[[x0, x1, x2, x3].take y14_1, [y0, y1, y2, y3], [z0, z1, z2, z3]], some ⟨B, 0, none⟩, b, _, _, F2, ⟨by simp, fun p hp => by
  simp only [List.mem_cons, List.not_mem_nil, or_false] at hp
  rcases hp with rfl | rfl | rfl
  ·
   exact ((hg.2 [x0, x1, x2, x3] (by simp)).any).take _
  ·
   exact (hg.2 [y0, y1, y2, y3] (by simp)).any
  ·
   exact (hg.2 [z0, z1, z2, z3] (by simp)).any
  ⟩, Sx.Drawn.made hb0 (St.pick S3 [1, 2, 0] _ rfl (by decide))⟩
  ·
   have S1 := St.pick S [0, 1, 2, 3, 4, 5] ([vr B [.slice (some ⟨b0, 0, none⟩) 4 c0, .slice (some ⟨b0, 0, none⟩) y14_1 c0, .slice (some ⟨b2, 0, none⟩) 4 c2], vr b0 [.int .i64 x0, .int .i64 x1, .int .i64 x2, .int .i64 x3], vr b1 [.int .i64 y0, .int .i64 y1, .int .i64 y2, .int .i64 y3], vr b2 [.int .i64 z0, .int .i64 z1, .int .i64 z2, .int .i64 z3]] ++ [_, _]) rfl (by decide)
   have hB : w0.heap.size ≤ B ∧ B < _ := ⟨S1.lo 0 _ rfl, S1.hi 0 _ rfl⟩
   have hB0 : w0.heap.size ≤ b0 ∧ b0 < _ := ⟨S1.lo 1 _ rfl, S1.hi 1 _ rfl⟩
   have hB1 : w0.heap.size ≤ b1 ∧ b1 < _ := ⟨S1.lo 2 _ rfl, S1.hi 2 _ rfl⟩
   have hB2 : w0.heap.size ≤ b2 ∧ b2 < _ := ⟨S1.lo 3 _ rfl, S1.hi 3 _ rfl⟩
   obtain ⟨F2, S3⟩ := Sx.St.ro (r := (rLsw (rLsw rInt))) (x := [[x0, x1, x2, x3], [x0, x1, x2, x3].take y14_1, [z0, z1, z2, z3]]) (cs := [.slice (some ⟨B, 0, none⟩) 3 b]) S1 (fun v hv => by
    have vB := hv _ (List.mem_cons_self)
    have v0 := hv _ (List.mem_cons_of_mem _ List.mem_cons_self)
    have v1 := hv _ (List.mem_cons_of_mem _ (List.mem_cons_of_mem _ List.mem_cons_self))
    have v2 := hv _ (List.mem_cons_of_mem _ (List.mem_cons_of_mem _ (List.mem_cons_of_mem _ List.mem_cons_self)))
    exact (Sx.mem3_rd (vB : Var v B [.slice (some ⟨b0, 0, none⟩) 4 c0, .slice (some ⟨b0, 0, none⟩) y14_1 c0, .slice (some ⟨b2, 0, none⟩) 4 c2]) (Sx.page_pre (k := 4) (l := [x0, x1, x2, x3]) v0 (by first | decide | (show _ ≤ 4; omega)) hB0 (by omega)) (Sx.page_pre (k := y14_1) (l := [x0, x1, x2, x3]) v0 (by show _ ≤ 4; omega) hB0 (by omega)) (Sx.page_pre (k := 4) (l := [z0, z1, z2, z3]) v2 (by first | decide | (show _ ≤ 4; omega)) hB2 (by omega)) hB hb))
   exact ⟨[[x0, x1, x2, x3], [x0, x1, x2, x3].take y14_1, [z0, z1, z2, z3]], some ⟨B, 0, none⟩, b, _, _, F2, ⟨by simp, fun p hp => by
  simp only [List.mem_cons, List.not_mem_nil, or_false] at hp
  rcases hp with rfl | rfl | rfl
  ·
   exact (hg.2 [x0, x1, x2, x3] (by simp)).any
  ·
   exact ((hg.2 [x0, x1, x2, x3] (by simp)).any).take _
  ·
   exact (hg.2 [z0, z1, z2, z3] (by simp)).any
  ⟩, Sx.Drawn.made hb0 (St.pick S3 [1, 2, 0] _ rfl (by decide))⟩
  ·
   have S1 := St.pick S [0, 1, 2, 3, 4, 5] ([vr B [.slice (some ⟨b0, 0, none⟩) 4 c0, .slice (some ⟨b1, 0, none⟩) 4 c1, .slice (some ⟨b0, 0, none⟩) y14_1 c0], vr b0 [.int .i64 x0, .int .i64 x1, .int .i64 x2, .int .i64 x3], vr b1 [.int .i64 y0, .int .i64 y1, .int .i64 y2, .int .i64 y3], vr b2 [.int .i64 z0, .int .i64 z1, .int .i64 z2, .int .i64 z3]] ++ [_, _]) rfl (by decide)
   have hB : w0.heap.size ≤ B ∧ B < _ := ⟨S1.lo 0 _ rfl, S1.hi 0 _ rfl⟩
   have hB0 : w0.heap.size ≤ b0 ∧ b0 < _ := ⟨S1.lo 1 _ rfl, S1.hi 1 _ rfl⟩
   have hB1 : w0.heap.size ≤ b1 ∧ b1 < _ := ⟨S1.lo 2 _ rfl, S1.hi 2 _ rfl⟩
   have hB2 : w0.heap.size ≤ b2 ∧ b2 < _ := ⟨S1.lo 3 _ rfl, S1.hi 3 _ rfl⟩
   obtain ⟨F2, S3⟩ := Sx.St.ro (r := (rLsw (rLsw rInt))) (x := [[x0, x1, x2, x3], [y0, y1, y2, y3], [x0, x1, x2, x3].take y14_1]) (cs := [.slice (some ⟨B, 0, none⟩) 3 b]) S1 (fun v hv => by
    have vB := hv _ (List.mem_cons_self)
    have v0 := hv _ (List.mem_cons_of_mem _ List.mem_cons_self)
    have v1 := hv _ (List.mem_cons_of_mem _ (List.mem_cons_of_mem _ List.mem_cons_self))
    have v2 := hv _ (List.mem_cons_of_mem _ (List.mem_cons_of_mem _ (List.mem_cons_of_mem _ List.mem_cons_self)))
    exact (Sx.mem3_rd (vB : Var v B [.slice (some ⟨b0, 0, none⟩) 4 c0, .slice (some ⟨b1, 0, none⟩) 4 c1, .slice (some ⟨b0, 0, none⟩) y14_1 c0]) (Sx.page_pre (k := 4) (l := [x0, x1, x2, x3]) v0 (by first | decide | (show _ ≤ 4; omega)) hB0 (by omega)) (Sx.page_pre (k := 4) (l := [y0, y1, y2, y3]) v1 (by first | decide | (show _ ≤ 4; omega)) hB1 (by omega)) (Sx.page_pre (k := y14_1) (l := [x0, x1, x2, x3]) v0 (by show _ ≤ 4; omega) hB0 (by omega)) hB hb))
   exact ⟨[[x0, x1, x2, x3], [y0, y1, y2, y3], [x0, x1, x2, x3].take y14_1], some ⟨B, 0, none⟩, b, _, _, F2, ⟨by simp, fun p hp => by
  simp only [List.mem_cons, List.not_mem_nil, or_false] at hp
  rcases hp with rfl | rfl | rfl
  ·
   exact (hg.2 [x0, x1, x2, x3] (by simp)).any
  ·
   exact (hg.2 [y0, y1, y2, y3] (by simp)).any
  ·
   exact ((hg.2 [x0, x1, x2, x3] (by simp)).any).take _
  ⟩, Sx.Drawn.made hb0 (St.pick S3 [1, 2, 0] _ rfl (by decide))⟩
theorem kd_guest (w0 : World) (A : Option Addr) (n c g : Nat) (w : World) (hn : n ≤ 1048576) (hcode : CodeAt w0 A n) (hcur : Cur w0 A n c w g) : Calls Tryz.prog 69 #[.pointer (some ⟨g, 0, none⟩)] w (fun e w' => ∃ x cs lo hi F, gD x ∧ Sx.Drawn w0 A n c w g (.agg (cs : List Value).toArray) [ow (Sx.rRo wG) lo hi x cs F] e w') :=
 (guest_any w0 A n c g w hn hcode hcur).mono fun e w' h => by
  obtain ⟨x, P0, P1, P2, P3, rfl, hwf, hsm, hcur, hgr, F0, F1, F2, F3, l0, k0, l1, k1, l2, k2, l3, k3, hfr⟩ := h
  obtain ⟨F, H⟩ := Sx.Fresh.ro (r := wG) (x := x) (cs := gV x P0 P1 P2 P3) hfr (fun v hv => wG_rd_mk (g := x) (hfr.rdIn 0 rfl hv) (hfr.rdIn 1 rfl hv) (hfr.rdIn 2 rfl hv) (hfr.rdIn 3 rfl hv))
  exact ⟨x, _, _, _, F, ⟨hwf, hsm.1, hsm.2.1, hsm.2.2.1, by have := hsm.2.2.2; omega⟩, rfl, hcur, hgr, H⟩
theorem kd_gany (w0 : World) (A : Option Addr) (n c g : Nat) (w : World) (hn : n ≤ 1048576) (hcode : CodeAt w0 A n) (hcur : Cur w0 A n c w g) : Calls Tryz.prog 33 #[.pointer (some ⟨g, 0, none⟩)] w (fun e w' => ∃ x cs lo hi F, gD x ∧ Sx.Drawn w0 A n c w g (.agg (cs : List Value).toArray) [ow (Sx.rRo wG) lo hi x cs F] e w') :=
 (gany_any w0 A n c g w hn hcode hcur).mono fun e w' h => by
  obtain ⟨x, A0, c0, A1, c1, A2, c2, A3, c3, rfl, hwf, hsm, hcur, hgr, F3, l0, k0, l1, k1, l2, k2, l3, k3, hfr⟩ := h
  obtain ⟨F, H⟩ := Sx.Fresh.ro (r := wG) (x := x) (cs := gV x (.slice A0 x.prog.length c0) (.slice A1 x.wr.length c1) (.slice A2 x.lv.length c2) (.slice A3 x.seen.length c3)) hfr (fun v hv => wG_rd_mk (g := x) (hfr.rpIn 0 rfl hv) (hfr.rpIn 1 rfl hv) (hfr.rpIn 2 rfl hv) (hfr.rdIn 3 rfl hv))
  exact ⟨x, _, _, _, F, ⟨hwf, hsm.1, hsm.2.1, hsm.2.2.1, by have := hsm.2.2.2; omega⟩, rfl, hcur, hgr, H⟩
theorem kd_bare (w0 : World) (A : Option Addr) (n c g : Nat) (w : World) (hn : n ≤ 1048576) (hcode : CodeAt w0 A n) (hcur : Cur w0 A n c w g) : Calls Tryz.prog 67 #[.pointer (some ⟨g, 0, none⟩)] w (fun e w' => ∃ m gs os pd a0 d0 a1 d1 a2 d2 lo0 hi0 F0 lo1 hi1 F1 lo2 hi2 F2, bD { mem := m, gs := gs, outs := os, pd := pd } ∧ 1 ≤ gs.length ∧ gs.length ≤ 2 ∧ os.length ≤ 4 ∧ Sx.Drawn w0 A n c w g (.agg #[.slice a0 m.length d0, .slice a1 gs.length d1, .slice a2 os.length d2, .int .i64 pd]) [ow (Sx.rRo (rLsw (rLsw rInt))) lo0 hi0 m [.slice a0 m.length d0] F0, ow (rLst 39 (Sx.rRo wG)) lo1 hi1 gs [.slice a1 gs.length d1] F1, ow (rLst 3 rInt) lo2 hi2 os [.slice a2 os.length d2] F2] e w') := by
 have hs0 := Sx.st_cur hcur
 have hb0 := hcur.1
 clear hcur
 refine Sx.enterS (args := [.pointer (some ⟨g, 0, none⟩)]) hs0 Tryz.func67 rfl Tryz.ntmps67 rfl ?_
 refine Sx.C.seq (Sx.C.region ?_)
 refine Sx.G.ar [.slice none 0 0, .slice none 0 0, .slice none 0 0, .int .i64 0] (fun b1 => ?_)
 refine Sx.G.nil (Sx.E.next (Sx.C.seq (Sx.C.region ?_)))
 refine Sx.G.p (.pointer (some ⟨g, 0, none⟩)) ?_
 refine Sx.G.c 99 #[.pointer (some ⟨g, 0, none⟩), .int .i64 8] (fun w2 S => (kd_mem8 w0 A n c g _ hn hcode (Sx.St.cur S 1 rfl)).mono fun e w2' hp => ?_)
 obtain ⟨l2, a2, b2, lo2, hi2, F2, hg2, rfl, hcur, hgr, hfr⟩ := hp
 refine ⟨_, _, rfl, Sx.St.joinD S (Sx.St.moved S 1 rfl hcur hgr) hfr, ?_⟩
 clear S hcur hgr hfr
 refine Sx.G.p (.agg #[.slice a2 l2.length b2, .slice none 0 0, .slice none 0 0, .int .i64 0]) ?_
 refine Sx.G.ar [.slice none 0 0, .slice none 0 0, .slice none 0 0, .int .i64 0] (fun b3 => ?_)
 refine Sx.G.sw [.slice a2 l2.length b2, .slice none 0 0, .slice none 0 0, .int .i64 0] .a0 ?_
 refine Sx.G.nil (Sx.E.next (Sx.C.seq (Sx.C.seq (Sx.C.region ?_))))
 refine Sx.G.p (.int .i64 0) ?_
 refine Sx.G.nil (Sx.E.next (Sx.C.block ?_))
 refine Sx.C.claims (L' := ow (rLst 39 (Sx.rRo wG)) w0.heap.size w0.heap.size [] [.slice none 0 0] [] :: [vr b3 [.slice a2 l2.length b2, .slice none 0 0, .slice none 0 0, .int .i64 0], ow (rLst 28 (rLst 3 rInt)) lo2 hi2 l2 [.slice a2 l2.length b2] F2, vr b1 [.slice none 0 0, .slice none 0 0, .slice none 0 0, .int .i64 0], Sx.cu A n c g, Sx.frm w0 w g]) (fun w S => Sx.St.nil0 S 39 (Sx.rRo wG)) ?_
 refine Sx.C.loop (α := Nat × (List gT) × Option Addr × Nat × List Nat × Nat × Nat) (fun x => x.1 ≤ 2 ∧ x.2.1.length = x.1 ∧ ∀ y ∈ x.2.1, gD y) (fun x => [(4, .int .i64 (x.1 : Int)), (0, .pointer (some ⟨g, 0, none⟩)), (2, .pointer (some ⟨b1, 0, none⟩)), (3, .pointer (some ⟨b3, 0, none⟩))]) (fun x => [ow (rLst 39 (Sx.rRo wG)) x.2.2.2.2.2.1 x.2.2.2.2.2.2 x.2.1 [.slice x.2.2.1 x.2.1.length x.2.2.2.1] x.2.2.2.2.1, vr b3 [.slice a2 l2.length b2, .slice x.2.2.1 x.2.1.length x.2.2.2.1, .slice none 0 0, .int .i64 0], ow (rLst 28 (rLst 3 rInt)) lo2 hi2 l2 [.slice a2 l2.length b2] F2, vr b1 [.slice none 0 0, .slice none 0 0, .slice none 0 0, .int .i64 0], Sx.cu A n c g, Sx.frm w0 w g]) (fun x => 2 + 1 - x.1) (0, [], none, 0, [], w0.heap.size, w0.heap.size) ⟨Nat.zero_le _, rfl, fun y hy => by cases hy⟩ (fun a hA => (Sx.Ag.and hA (Sx.Ag.and hA (Sx.Ag.and hA (Sx.Ag.and hA (Sx.Ag.none hA) _ _ (by kernel_rfl)) _ _ (by kernel_rfl)) _ _ (by kernel_rfl)) _ _ (by kernel_rfl))) (fun w S => St.pick S [0, 1, 2, 3, 4, 5] _ rfl (by decide)) (fun x hx => ?_)
 obtain ⟨xig, xsg, xAg, xcg, xFg, xlog, xhig⟩ := x
 dsimp only at hx
 obtain ⟨hbg, hlg, hpg⟩ := hx
 refine Sx.C.seq (Sx.C.seq (Sx.C.region ?_))
 refine Sx.G.p (.int .i64 (xig : Int)) ?_
 refine Sx.G.p (.pointer (some ⟨g, 0, none⟩)) ?_
 refine Sx.G.c 39 #[.pointer (some ⟨g, 0, none⟩), .int .i64 2] (fun w4 S => (below_any w0 A n c g _ 2 (by decide) (by decide) hn hcode (Sx.St.cur S 4 rfl)).mono fun e w4' hp => ?_)
 obtain ⟨x4, rfl, hx4, hy4, hcur, hgr⟩ := hp
 refine ⟨_, _, rfl, Sx.St.moved S 4 rfl hcur hgr, ?_⟩
 clear S hcur hgr
 refine Sx.G.q (.int .i64 (IntKind.i64.wrap (1 + x4))) (.int .i64 (1 + x4)) (congrArg (Value.int .i64) (by rw [IntKind.wrap_i64]; omega)) ?_
 refine Sx.G.p (.bool (decide ((xig : Int) < (1 + x4)))) ?_
 refine Sx.G.nil (Sx.E.next ?_)
 cases hc5 : (decide ((xig : Int) < (1 + x4)))
 ·
  have hb5 := hc5
  replace hc5 := of_decide_eq_false hc5
  refine Sx.C.no (by kernel_rfl) (by kernel_rfl) ?_
  refine Sx.C.exit (Sx.E.then_exit (Sx.E.then_exit (Sx.E.block_hit (Sx.E.next (Sx.C.seq (Sx.C.seq (Sx.C.region ?_)))))))
  refine Sx.G.p (.int .i64 0) ?_
  refine Sx.G.nil (Sx.E.next ?_)
  have hg1 : 1 ≤ xsg.length := by omega
  refine Sx.C.block ?_
  refine Sx.C.claims (L' := ow (rLst 3 rInt) w0.heap.size w0.heap.size [] [.slice none 0 0] [] :: [ow (rLst 39 (Sx.rRo wG)) xlog xhig xsg [.slice xAg xsg.length xcg] xFg, vr b3 [.slice a2 l2.length b2, .slice xAg xsg.length xcg, .slice none 0 0, .int .i64 0], ow (rLst 28 (rLst 3 rInt)) lo2 hi2 l2 [.slice a2 l2.length b2] F2, vr b1 [.slice none 0 0, .slice none 0 0, .slice none 0 0, .int .i64 0], Sx.cu A n c g, Sx.frm w0 w g]) (fun w S => Sx.St.nil0 S 3 rInt) ?_
  refine Sx.C.loop (α := Nat × (List Int) × Option Addr × Nat × List Nat × Nat × Nat) (fun x => x.1 ≤ 4 ∧ x.2.1.length = x.1 ∧ ∀ y ∈ x.2.1, numD y) (fun x => [(5, .int .i64 (x.1 : Int)), (0, .pointer (some ⟨g, 0, none⟩)), (2, .pointer (some ⟨b1, 0, none⟩)), (3, .pointer (some ⟨b3, 0, none⟩))]) (fun x => [ow (rLst 3 rInt) x.2.2.2.2.2.1 x.2.2.2.2.2.2 x.2.1 [.slice x.2.2.1 x.2.1.length x.2.2.2.1] x.2.2.2.2.1, ow (rLst 39 (Sx.rRo wG)) xlog xhig xsg [.slice xAg xsg.length xcg] xFg, vr b3 [.slice a2 l2.length b2, .slice xAg xsg.length xcg, .slice x.2.2.1 x.2.1.length x.2.2.2.1, .int .i64 0], ow (rLst 28 (rLst 3 rInt)) lo2 hi2 l2 [.slice a2 l2.length b2] F2, vr b1 [.slice none 0 0, .slice none 0 0, .slice none 0 0, .int .i64 0], Sx.cu A n c g, Sx.frm w0 w g]) (fun x => 4 + 1 - x.1) (0, [], none, 0, [], w0.heap.size, w0.heap.size) ⟨Nat.zero_le _, rfl, fun y hy => by cases hy⟩ (fun a hA => (Sx.Ag.and hA (Sx.Ag.and hA (Sx.Ag.and hA (Sx.Ag.and hA (Sx.Ag.none hA) _ _ (by kernel_rfl)) _ _ (by kernel_rfl)) _ _ (by kernel_rfl)) _ _ (by kernel_rfl))) (fun w S => St.pick S [0, 1, 2, 3, 4, 5, 6] _ rfl (by decide)) (fun x hx => ?_)
  obtain ⟨xio, xso, xAo, xco, xFo, xloo, xhio⟩ := x
  dsimp only at hx
  obtain ⟨hbo, hlo, hpo⟩ := hx
  refine Sx.C.seq (Sx.C.seq (Sx.C.region ?_))
  refine Sx.G.p (.int .i64 (xio : Int)) ?_
  refine Sx.G.p (.pointer (some ⟨g, 0, none⟩)) ?_
  refine Sx.G.c 39 #[.pointer (some ⟨g, 0, none⟩), .int .i64 4] (fun w6 S => (below_any w0 A n c g _ 4 (by decide) (by decide) hn hcode (Sx.St.cur S 5 rfl)).mono fun e w6' hp => ?_)
  obtain ⟨x6, rfl, hx6, hy6, hcur, hgr⟩ := hp
  refine ⟨_, _, rfl, Sx.St.moved S 5 rfl hcur hgr, ?_⟩
  clear S hcur hgr
  refine Sx.G.p (.bool (decide ((xio : Int) < x6))) ?_
  refine Sx.G.nil (Sx.E.next ?_)
  cases hc7 : (decide ((xio : Int) < x6))
  ·
   have hb7 := hc7
   replace hc7 := of_decide_eq_false hc7
   refine Sx.C.no (by kernel_rfl) (by kernel_rfl) ?_
   refine Sx.C.exit (Sx.E.then_exit (Sx.E.then_exit (Sx.E.block_hit (Sx.E.next (Sx.C.seq (Sx.C.seq (Sx.C.region ?_)))))))
   refine Sx.G.p (.pointer (some ⟨g, 0, none⟩)) ?_
   refine Sx.G.c 26 #[.pointer (some ⟨g, 0, none⟩), .int .i64 3] (fun w8 S => (once_any w0 A n c g _ 3 (by decide) (by decide) hn hcode (Sx.St.cur S 5 rfl)).mono fun e w8' hp => ?_)
   obtain ⟨x8, rfl, hcur, hgr⟩ := hp
   refine ⟨_, _, rfl, Sx.St.moved S 5 rfl hcur hgr, ?_⟩
   clear S hcur hgr
   refine Sx.G.nil (Sx.E.next ?_)
   cases hc9 : (x8)
   ·
    have hb9 := hc9
    refine Sx.C.no (by kernel_rfl) (by kernel_rfl) ?_
    refine Sx.C.skip (Sx.E.next (Sx.C.seq (Sx.C.region ?_)))
    refine Sx.G.lw .m2 ?_
    refine Sx.G.sw [.slice a2 l2.length b2, .slice xAg xsg.length xcg, .slice xAo xso.length xco, .int .i64 0] .a4 ?_
    refine Sx.G.nil (Sx.E.next (Sx.C.ret ?_))
    refine Sx.E.retc b1 4 [.slice a2 l2.length b2, .slice xAg xsg.length xcg, .slice xAo xso.length xco, .int .i64 0] rfl (by kernel_rfl) rfl (by kernel_rfl) (by kernel_rfl) (fun w S => ?_)
    replace S := Sx.St.toRoQ (r := rLst 28 (rLst 3 rInt)) (q := (rLsw (rLsw rInt))) (fun v a b y ds h => Sx.rdLst_of (r := rLst 3 rInt) (q := rLsw rInt) (fun _ _ _ _ _ h => h) rfl (show rdLst (rLst 3 rInt) v a b y ds from h)) S 3 rfl
    exact ⟨l2, xsg, xso, 0, _, _, _, _, _, _, _, _, _, _, _, _, _, _, _, ⟨⟨by rw [hg2.1]; decide, fun p hp => (hg2.2 p hp).any⟩, ⟨by show xsg.length ≤ 4; omega, hpg⟩, ⟨by show xso.length ≤ 50; omega, hpo⟩, (show (Lit.int .i64 0).wf = true by decide)⟩, by omega, by omega, by omega, Sx.Drawn.made hb0 (St.pick S [5, 6, 3, 1, 0] _ rfl (by decide))⟩
   ·
    have hb9 := hc9
    refine Sx.C.yes (by kernel_rfl) (by kernel_rfl) ?_
    refine Sx.C.region ?_
    refine Sx.G.p (.pointer (some ⟨g, 0, none⟩)) ?_
    refine Sx.G.c 39 #[.pointer (some ⟨g, 0, none⟩), .int .i64 256] (fun w10 S => (below_any w0 A n c g _ 256 (by decide) (by decide) hn hcode (Sx.St.cur S 5 rfl)).mono fun e w10' hp => ?_)
    obtain ⟨x10, rfl, hx10, hy10, hcur, hgr⟩ := hp
    refine ⟨_, _, rfl, Sx.St.moved S 5 rfl hcur hgr, ?_⟩
    clear S hcur hgr
    refine Sx.G.p (.pointer (some ⟨b3, 3, none⟩)) ?_
    refine Sx.G.s (.int .i64 x10) .a2 .a3 ?_
    refine Sx.G.nil (Sx.E.next (Sx.C.seq (Sx.C.region ?_)))
    refine Sx.G.lw .m2 ?_
    refine Sx.G.sw [.slice a2 l2.length b2, .slice xAg xsg.length xcg, .slice xAo xso.length xco, .int .i64 x10] .a4 ?_
    refine Sx.G.nil (Sx.E.next (Sx.C.ret ?_))
    refine Sx.E.retc b1 4 [.slice a2 l2.length b2, .slice xAg xsg.length xcg, .slice xAo xso.length xco, .int .i64 x10] rfl (by kernel_rfl) rfl (by kernel_rfl) (by kernel_rfl) (fun w S => ?_)
    replace S := Sx.St.toRoQ (r := rLst 28 (rLst 3 rInt)) (q := (rLsw (rLsw rInt))) (fun v a b y ds h => Sx.rdLst_of (r := rLst 3 rInt) (q := rLsw rInt) (fun _ _ _ _ _ h => h) rfl (show rdLst (rLst 3 rInt) v a b y ds from h)) S 3 rfl
    exact ⟨l2, xsg, xso, x10, _, _, _, _, _, _, _, _, _, _, _, _, _, _, _, ⟨⟨by rw [hg2.1]; decide, fun p hp => (hg2.2 p hp).any⟩, ⟨by show xsg.length ≤ 4; omega, hpg⟩, ⟨by show xso.length ≤ 50; omega, hpo⟩, (Sx.wf_small hx10 (Int.lt_trans hy10 (by decide)))⟩, by omega, by omega, by omega, Sx.Drawn.made hb0 (St.pick S [5, 6, 3, 1, 0] _ rfl (by decide))⟩
  ·
   have hb7 := hc7
   replace hc7 := of_decide_eq_true hc7
   refine Sx.C.yes (by kernel_rfl) (by kernel_rfl) ?_
   refine Sx.C.skip (Sx.E.next (Sx.C.seq (Sx.C.block ?_)))
   refine Sx.C.cut (fun e a w' => e = .normal ∧ ∃ (Y0 : Int) (Y1 : Nat) (Y2 : Option Addr) (Y3 : Nat) (Y4 : List Nat) (Y5 : Nat), Sx.Ag 42 [(0, .pointer (some ⟨g, 0, none⟩)), (2, .pointer (some ⟨b1, 0, none⟩)), (3, .pointer (some ⟨b3, 0, none⟩)), (5, .int .i64 (xio : Int))] a ∧ St w0 w' [vr Y1 [.int .i64 Y0], ow (rLst 3 rInt) w0.heap.size Y5 (xso ++ [Y0]) [.slice Y2 ((xso ++ [Y0]).length) Y3] Y4, ow (rLst 39 (Sx.rRo wG)) xlog xhig xsg [.slice xAg xsg.length xcg] xFg, vr b3 [.slice a2 l2.length b2, .slice xAg xsg.length xcg, .slice Y2 ((xso ++ [Y0]).length) Y3, .int .i64 0], ow (rLst 28 (rLst 3 rInt)) lo2 hi2 l2 [.slice a2 l2.length b2] F2, vr b1 [.slice none 0 0, .slice none 0 0, .slice none 0 0, .int .i64 0], Sx.cu A n c g, Sx.frm w0 w g] ∧ 0 ≤ Y0 ∧ Y0 < 100) ?_ ?_
   ·
    refine Sx.C.draw (.take 0 (.take 2 (.two 1 (.alone 3 (.alone 4 (.alone 5 (.take 6 (.alone 7 .nil))))) 3 (.two 1 (.alone 4 (.alone 5 (.take 6 (.alone 7 .nil)))) 4 (.alone 1 (.alone 5 (.take 6 (.alone 7 .nil)))))))) [] (fun w S => St.pick S [] _ rfl (by decide)) (by kernel_rfl) (by kernel_rfl) (by kernel_rfl) ?_
    refine Sx.GT.p (.pointer (some ⟨b3, 2, none⟩)) ?_
    refine Sx.GT.p (.pointer (some ⟨g, 0, none⟩)) ?_
    refine Sx.GT.two ?_ ?_
    ·
     refine Sx.Alone.g (.slice xAo xso.length xco) .m2 .m2 (fun w S => St.pick S [] _ rfl (by decide)) ?_
     refine Sx.GT.alone (Sx.Alone.c 39 #[.pointer (some ⟨g, 0, none⟩), .int .i64 100] (fun w11 S => (below_any w0 A n c g _ 100 (by decide) (by decide) hn hcode (Sx.St.cur S 5 rfl)).mono fun e w11' hp => ?_))
     obtain ⟨x11, rfl, hx11, hy11, hcur, hgr⟩ := hp
     refine ⟨_, _, rfl, Sx.St.moved S 5 rfl hcur hgr, (fun w S => St.pick S [] _ rfl (by decide)), ?_⟩
     clear S hcur hgr
     refine Sx.GT.alone (Sx.Alone.made 3 [.int .i64 x11] 1 (by rfl) (by kernel_rfl) (fun w => by kernel_rfl) (fun w S => St.pick S [] _ rfl (by decide)) (fun b12 => ?_))
     refine Sx.GT.alone (Sx.Alone.apps 1 (by rfl) (xso ++ [x11]) (fun w S => S.box 0 rfl rfl 1 (Nat.le_refl _)) (by rfl) ((xso ++ [x11]).length) (by simp) flat_int (.tmp 30) (.tmp 33) 28 1 8 (by rfl) (by rfl) (by kernel_rfl) (by kernel_rfl) (by rfl) (by kernel_rfl) (by kernel_rfl) (by simp only [maxLen, List.length_nil, List.length_cons]; omega) (by simp only [List.length_nil, List.length_cons]; omega) (fun _ _ _ _ w S => St.pick S [] _ rfl (by decide)) (fun A13 c13 F13 hi13 hm13 => ?_))
     refine Sx.GT.p (.pointer (some ⟨b3, 2, none⟩)) ?_
     refine Sx.GT.alone (Sx.Alone.s (.slice A13 ((xso ++ [x11]).length) c13) .a3 .a2 (fun w S => St.pick S [] _ rfl (by decide)) ?_)
     exact Sx.GT.nil (fun a w' hA S => ⟨rfl, x11, b12, A13, c13, F13, hi13, (Sx.Ag.and hA (Sx.Ag.and hA (Sx.Ag.and hA (Sx.Ag.and hA (Sx.Ag.none hA) _ _ (by kernel_rfl)) _ _ (by kernel_rfl)) _ _ (by kernel_rfl)) _ _ (by kernel_rfl)), St.pick S [0, 1, 2, 3, 4, 5, 6, 7] _ rfl (by decide), hx11, hy11⟩)
    ·
     refine Sx.Alone.c 39 #[.pointer (some ⟨g, 0, none⟩), .int .i64 100] (fun w14 S => (below_any w0 A n c g _ 100 (by decide) (by decide) hn hcode (Sx.St.cur S 5 rfl)).mono fun e w14' hp => ?_)
     obtain ⟨x14, rfl, hx14, hy14, hcur, hgr⟩ := hp
     refine ⟨_, _, rfl, Sx.St.moved S 5 rfl hcur hgr, (fun w S => St.pick S [] _ rfl (by decide)), ?_⟩
     clear S hcur hgr
     refine Sx.GT.two ?_ ?_
     ·
      refine Sx.Alone.g (.slice xAo xso.length xco) .m2 .m2 (fun w S => St.pick S [] _ rfl (by decide)) ?_
      refine Sx.GT.alone (Sx.Alone.made 3 [.int .i64 x14] 1 (by rfl) (by kernel_rfl) (fun w => by kernel_rfl) (fun w S => St.pick S [] _ rfl (by decide)) (fun b15 => ?_))
      refine Sx.GT.alone (Sx.Alone.apps 1 (by rfl) (xso ++ [x14]) (fun w S => S.box 0 rfl rfl 1 (Nat.le_refl _)) (by rfl) ((xso ++ [x14]).length) (by simp) flat_int (.tmp 30) (.tmp 33) 28 1 8 (by rfl) (by rfl) (by kernel_rfl) (by kernel_rfl) (by rfl) (by kernel_rfl) (by kernel_rfl) (by simp only [maxLen, List.length_nil, List.length_cons]; omega) (by simp only [List.length_nil, List.length_cons]; omega) (fun _ _ _ _ w S => St.pick S [] _ rfl (by decide)) (fun A16 c16 F16 hi16 hm16 => ?_))
      refine Sx.GT.p (.pointer (some ⟨b3, 2, none⟩)) ?_
      refine Sx.GT.alone (Sx.Alone.s (.slice A16 ((xso ++ [x14]).length) c16) .a3 .a2 (fun w S => St.pick S [] _ rfl (by decide)) ?_)
      exact Sx.GT.nil (fun a w' hA S => ⟨rfl, x14, b15, A16, c16, F16, hi16, (Sx.Ag.and hA (Sx.Ag.and hA (Sx.Ag.and hA (Sx.Ag.and hA (Sx.Ag.none hA) _ _ (by kernel_rfl)) _ _ (by kernel_rfl)) _ _ (by kernel_rfl)) _ _ (by kernel_rfl)), St.pick S [0, 1, 2, 3, 4, 5, 6, 7] _ rfl (by decide), hx14, hy14⟩)
     ·
      refine Sx.Alone.made 3 [.int .i64 x14] 1 (by rfl) (by kernel_rfl) (fun w => by kernel_rfl) (fun w S => St.pick S [] _ rfl (by decide)) (fun b17 => ?_)
      refine Sx.GT.alone (Sx.Alone.g (.slice xAo xso.length xco) .m3 .m2 (fun w S => St.pick S [] _ rfl (by decide)) ?_)
      refine Sx.GT.alone (Sx.Alone.apps 1 (by rfl) (xso ++ [x14]) (fun w S => S.box 0 rfl rfl 1 (Nat.le_refl _)) (by rfl) ((xso ++ [x14]).length) (by simp) flat_int (.tmp 30) (.tmp 33) 28 1 8 (by rfl) (by rfl) (by kernel_rfl) (by kernel_rfl) (by rfl) (by kernel_rfl) (by kernel_rfl) (by simp only [maxLen, List.length_nil, List.length_cons]; omega) (by simp only [List.length_nil, List.length_cons]; omega) (fun _ _ _ _ w S => St.pick S [] _ rfl (by decide)) (fun A18 c18 F18 hi18 hm18 => ?_))
      refine Sx.GT.p (.pointer (some ⟨b3, 2, none⟩)) ?_
      refine Sx.GT.alone (Sx.Alone.s (.slice A18 ((xso ++ [x14]).length) c18) .a3 .a2 (fun w S => St.pick S [] _ rfl (by decide)) ?_)
      exact Sx.GT.nil (fun a w' hA S => ⟨rfl, x14, b17, A18, c18, F18, hi18, (Sx.Ag.and hA (Sx.Ag.and hA (Sx.Ag.and hA (Sx.Ag.and hA (Sx.Ag.none hA) _ _ (by kernel_rfl)) _ _ (by kernel_rfl)) _ _ (by kernel_rfl)) _ _ (by kernel_rfl)), St.pick S [0, 1, 2, 3, 4, 5, 6, 7] _ rfl (by decide), hx14, hy14⟩)
   rintro e a w' ⟨rfl, y19_0, y19_1, y19_2, y19_3, y19_4, y19_5, hA, S, hxy19_0, hyy19_0⟩
   refine Sx.E.out ?_ hA S
   clear hA S a w'
   refine Sx.E.block_normal (Sx.E.next (Sx.C.region ?_))
   refine Sx.G.p (.int .i64 (xio : Int)) ?_
   refine Sx.G.q (.int .i64 (IntKind.i64.wrap ((xio : Int) + 1))) (.int .i64 ((xio + 1 : Nat) : Int)) (congrArg (Value.int .i64) (Sx.wrap_up xio (by omega))) ?_
   refine Sx.G.p (.int .i64 ((xio + 1 : Nat) : Int)) ?_
   refine Sx.G.nil ?_
   have HN : xio + 1 ≤ 4 ∧ (xso ++ [y19_0]).length = xio + 1 ∧ ∀ y ∈ xso ++ [y19_0], numD y := ⟨by omega, by simp [hlo], fun y hy => by rcases List.mem_append.1 hy with h | h; exact hpo y h; rw [List.mem_singleton.1 h]; exact (Sx.wf_small hxy19_0 (Int.lt_trans hyy19_0 (by decide)))⟩
   exact Sx.E.again (xio + 1, xso ++ [y19_0], y19_2, y19_3, y19_4, w0.heap.size, y19_5) HN (by show 4 + 1 - (xio + 1) < 4 + 1 - xio; omega) (fun a hA => (Sx.Ag.and hA (Sx.Ag.and hA (Sx.Ag.and hA (Sx.Ag.and hA (Sx.Ag.none hA) _ _ (by kernel_rfl)) _ _ (by kernel_rfl)) _ _ (by kernel_rfl)) _ _ (by kernel_rfl))) (fun w S => St.pick S [1, 2, 3, 4, 5, 6, 7] _ rfl (by decide))
 ·
  have hb5 := hc5
  replace hc5 := of_decide_eq_true hc5
  refine Sx.C.yes (by kernel_rfl) (by kernel_rfl) ?_
  refine Sx.C.skip (Sx.E.next (Sx.C.seq (Sx.C.block ?_)))
  refine Sx.C.cut (fun e a w' => e = .normal ∧ ∃ (Y0 : Option Addr) (Y1 : Nat) (Y2 : Option Addr) (Y3 : Nat) (Y4 : Option Addr) (Y5 : Nat) (Y6 : Option Addr) (Y7 : Nat) (Y8 : gT) (Y9 : Nat) (Y10 : Nat) (Y11 : List Nat) (Y12 : Nat) (Y13 : Option Addr) (Y14 : Nat) (Y15 : List Nat) (Y16 : Nat), Sx.Ag 42 [(0, .pointer (some ⟨g, 0, none⟩)), (2, .pointer (some ⟨b1, 0, none⟩)), (3, .pointer (some ⟨b3, 0, none⟩)), (4, .int .i64 (xig : Int))] a ∧ St w0 w' [ow (rLst 39 (Sx.rRo wG)) w0.heap.size Y16 ((xsg ++ [Y8])) [.slice Y13 (xsg ++ [Y8]).length Y14] Y15, vr b3 [.slice a2 l2.length b2, .slice Y13 (xsg ++ [Y8]).length Y14, .slice none 0 0, .int .i64 0], ow (rLst 28 (rLst 3 rInt)) lo2 hi2 l2 [.slice a2 l2.length b2] F2, vr b1 [.slice none 0 0, .slice none 0 0, .slice none 0 0, .int .i64 0], Sx.cu A n c g, Sx.frm w0 w g] ∧ gD Y8) ?_ ?_
  ·
   refine Sx.C.draw (.take 0 (.take 2 (.two 1 (.alone 3 (.alone 4 (.alone 5 (.take 6 (.alone 7 .nil))))) 3 (.two 1 (.alone 4 (.alone 5 (.take 6 (.alone 7 .nil)))) 4 (.alone 1 (.alone 5 (.take 6 (.alone 7 .nil)))))))) [] (fun w S => St.pick S [] _ rfl (by decide)) (by kernel_rfl) (by kernel_rfl) (by kernel_rfl) ?_
   refine Sx.GT.p (.pointer (some ⟨b3, 1, none⟩)) ?_
   refine Sx.GT.p (.pointer (some ⟨g, 0, none⟩)) ?_
   refine Sx.GT.two ?_ ?_
   ·
    refine Sx.Alone.g (.slice xAg xsg.length xcg) .m1 .m1 (fun w S => St.pick S [] _ rfl (by decide)) ?_
    refine Sx.GT.alone (Sx.Alone.c 69 #[.pointer (some ⟨g, 0, none⟩)] (fun w20 S => (kd_guest w0 A n c g _ hn hcode (Sx.St.cur S 4 rfl)).mono fun e w20' hp => ?_))
    obtain ⟨z20, cs20, lo20, hi20, F20, hg20, rfl, hcur, hgr, hfr⟩ := hp
    obtain ⟨P20_0, P20_1, P20_2, P20_3, e20, f20_0, f20_1, f20_2, f20_3⟩ := wG_rd ((Sx.rRo wG).reads (hfr.says 0 _ rfl).1)
    subst e20
    obtain ⟨A20_0, c20_0, e20_0, -⟩ := lst_val f20_0
    subst e20_0
    obtain ⟨A20_1, c20_1, e20_1, -⟩ := lst_val f20_1
    subst e20_1
    obtain ⟨A20_2, c20_2, e20_2, -⟩ := lst_val f20_2
    subst e20_2
    obtain ⟨A20_3, c20_3, e20_3, -⟩ := lst_val f20_3
    subst e20_3
    refine ⟨_, _, rfl, Sx.St.joinD S (Sx.St.moved S 4 rfl hcur hgr) hfr, (fun w S => St.pick S [] _ rfl (by decide)), ?_⟩
    clear S hcur hgr hfr f20_0 f20_1 f20_2 f20_3
    refine Sx.GT.alone (Sx.Alone.made 39 [.slice A20_0 z20.prog.length c20_0, .int .i64 z20.a, .int .i64 z20.pc, .slice A20_1 z20.wr.length c20_1, .slice A20_2 z20.lv.length c20_2, .int .i64 z20.t.1, .int .i64 z20.t.2.1, .bool z20.t.2.2, .int .i64 z20.pd, .int .i64 z20.x.1, .int .i64 z20.x.2.1, .bool z20.x.2.2.1, .int .i64 z20.x.2.2.2, .bool z20.hl, .slice A20_3 z20.seen.length c20_3] 1 (by rfl) (by kernel_rfl) (fun w => by kernel_rfl) (fun w S => St.pick S [] _ rfl (by decide)) (fun b21 => ?_))
    refine Sx.GT.pk (.c .m2 (.c .m1 (.c .m0 (.c .m3 (.c .m4 (.c .m5 (.c .m6 (.c .m7 .n)))))))) ?_
    refine Sx.GT.alone (Sx.Alone.appr (.tmp 17) (.tmp 20) 27 15 184 1 (by rfl) (by rfl) (by kernel_rfl) (by kernel_rfl) (by rfl) (by kernel_rfl) (by kernel_rfl) (by kernel_rfl) (by simp only [maxLen]; omega) (by omega) (xsg ++ [z20]) (by rfl) (xsg ++ [z20]).length (by simp) (fun A22 c22 F22 hi22 w S => St.pick S [] _ rfl (by decide)) (fun A22 c22 F22 hi22 hm22 => ?_))
    refine Sx.GT.p (.pointer (some ⟨b3, 1, none⟩)) ?_
    refine Sx.GT.alone (Sx.Alone.s (.slice A22 (xsg ++ [z20]).length c22) .a1 .a1 (fun w S => St.pick S [] _ rfl (by decide)) ?_)
    exact Sx.GT.nil (fun a w' hA S => ⟨rfl, none, 0, none, 0, none, 0, none, 0, z20, 0, 0, [], 0, A22, c22, F22, hi22, (Sx.Ag.and hA (Sx.Ag.and hA (Sx.Ag.and hA (Sx.Ag.and hA (Sx.Ag.none hA) _ _ (by kernel_rfl)) _ _ (by kernel_rfl)) _ _ (by kernel_rfl)) _ _ (by kernel_rfl)), St.pick S [0, 1, 2, 3, 4, 5] _ rfl (by decide), hg20⟩)
   ·
    refine Sx.Alone.c 69 #[.pointer (some ⟨g, 0, none⟩)] (fun w23 S => (kd_guest w0 A n c g _ hn hcode (Sx.St.cur S 4 rfl)).mono fun e w23' hp => ?_)
    obtain ⟨z23, cs23, lo23, hi23, F23, hg23, rfl, hcur, hgr, hfr⟩ := hp
    obtain ⟨P23_0, P23_1, P23_2, P23_3, e23, f23_0, f23_1, f23_2, f23_3⟩ := wG_rd ((Sx.rRo wG).reads (hfr.says 0 _ rfl).1)
    subst e23
    obtain ⟨A23_0, c23_0, e23_0, -⟩ := lst_val f23_0
    subst e23_0
    obtain ⟨A23_1, c23_1, e23_1, -⟩ := lst_val f23_1
    subst e23_1
    obtain ⟨A23_2, c23_2, e23_2, -⟩ := lst_val f23_2
    subst e23_2
    obtain ⟨A23_3, c23_3, e23_3, -⟩ := lst_val f23_3
    subst e23_3
    refine ⟨_, _, rfl, Sx.St.joinD S (Sx.St.moved S 4 rfl hcur hgr) hfr, (fun w S => St.pick S [] _ rfl (by decide)), ?_⟩
    clear S hcur hgr hfr f23_0 f23_1 f23_2 f23_3
    refine Sx.GT.two ?_ ?_
    ·
     refine Sx.Alone.g (.slice xAg xsg.length xcg) .m2 .m1 (fun w S => St.pick S [] _ rfl (by decide)) ?_
     refine Sx.GT.alone (Sx.Alone.made 39 [.slice A23_0 z23.prog.length c23_0, .int .i64 z23.a, .int .i64 z23.pc, .slice A23_1 z23.wr.length c23_1, .slice A23_2 z23.lv.length c23_2, .int .i64 z23.t.1, .int .i64 z23.t.2.1, .bool z23.t.2.2, .int .i64 z23.pd, .int .i64 z23.x.1, .int .i64 z23.x.2.1, .bool z23.x.2.2.1, .int .i64 z23.x.2.2.2, .bool z23.hl, .slice A23_3 z23.seen.length c23_3] 1 (by rfl) (by kernel_rfl) (fun w => by kernel_rfl) (fun w S => St.pick S [] _ rfl (by decide)) (fun b24 => ?_))
     refine Sx.GT.pk (.c .m2 (.c .m1 (.c .m0 (.c .m3 (.c .m4 (.c .m5 (.c .m6 (.c .m7 .n)))))))) ?_
     refine Sx.GT.alone (Sx.Alone.appr (.tmp 17) (.tmp 20) 27 15 184 1 (by rfl) (by rfl) (by kernel_rfl) (by kernel_rfl) (by rfl) (by kernel_rfl) (by kernel_rfl) (by kernel_rfl) (by simp only [maxLen]; omega) (by omega) (xsg ++ [z23]) (by rfl) (xsg ++ [z23]).length (by simp) (fun A25 c25 F25 hi25 w S => St.pick S [] _ rfl (by decide)) (fun A25 c25 F25 hi25 hm25 => ?_))
     refine Sx.GT.p (.pointer (some ⟨b3, 1, none⟩)) ?_
     refine Sx.GT.alone (Sx.Alone.s (.slice A25 (xsg ++ [z23]).length c25) .a1 .a1 (fun w S => St.pick S [] _ rfl (by decide)) ?_)
     exact Sx.GT.nil (fun a w' hA S => ⟨rfl, none, 0, none, 0, none, 0, none, 0, z23, 0, 0, [], 0, A25, c25, F25, hi25, (Sx.Ag.and hA (Sx.Ag.and hA (Sx.Ag.and hA (Sx.Ag.and hA (Sx.Ag.none hA) _ _ (by kernel_rfl)) _ _ (by kernel_rfl)) _ _ (by kernel_rfl)) _ _ (by kernel_rfl)), St.pick S [0, 1, 2, 3, 4, 5] _ rfl (by decide), hg23⟩)
    ·
     refine Sx.Alone.made 39 [.slice A23_0 z23.prog.length c23_0, .int .i64 z23.a, .int .i64 z23.pc, .slice A23_1 z23.wr.length c23_1, .slice A23_2 z23.lv.length c23_2, .int .i64 z23.t.1, .int .i64 z23.t.2.1, .bool z23.t.2.2, .int .i64 z23.pd, .int .i64 z23.x.1, .int .i64 z23.x.2.1, .bool z23.x.2.2.1, .int .i64 z23.x.2.2.2, .bool z23.hl, .slice A23_3 z23.seen.length c23_3] 1 (by rfl) (by kernel_rfl) (fun w => by kernel_rfl) (fun w S => St.pick S [] _ rfl (by decide)) (fun b26 => ?_)
     refine Sx.GT.alone (Sx.Alone.g (.slice xAg xsg.length xcg) .m3 .m1 (fun w S => St.pick S [] _ rfl (by decide)) ?_)
     refine Sx.GT.pk (.c .m2 (.c .m1 (.c .m0 (.c .m3 (.c .m4 (.c .m5 (.c .m6 (.c .m7 .n)))))))) ?_
     refine Sx.GT.alone (Sx.Alone.appr (.tmp 17) (.tmp 20) 27 15 184 1 (by rfl) (by rfl) (by kernel_rfl) (by kernel_rfl) (by rfl) (by kernel_rfl) (by kernel_rfl) (by kernel_rfl) (by simp only [maxLen]; omega) (by omega) (xsg ++ [z23]) (by rfl) (xsg ++ [z23]).length (by simp) (fun A27 c27 F27 hi27 w S => St.pick S [] _ rfl (by decide)) (fun A27 c27 F27 hi27 hm27 => ?_))
     refine Sx.GT.p (.pointer (some ⟨b3, 1, none⟩)) ?_
     refine Sx.GT.alone (Sx.Alone.s (.slice A27 (xsg ++ [z23]).length c27) .a1 .a1 (fun w S => St.pick S [] _ rfl (by decide)) ?_)
     exact Sx.GT.nil (fun a w' hA S => ⟨rfl, none, 0, none, 0, none, 0, none, 0, z23, 0, 0, [], 0, A27, c27, F27, hi27, (Sx.Ag.and hA (Sx.Ag.and hA (Sx.Ag.and hA (Sx.Ag.and hA (Sx.Ag.none hA) _ _ (by kernel_rfl)) _ _ (by kernel_rfl)) _ _ (by kernel_rfl)) _ _ (by kernel_rfl)), St.pick S [0, 1, 2, 3, 4, 5] _ rfl (by decide), hg23⟩)
  rintro e a w' ⟨rfl, y28_0, y28_1, y28_2, y28_3, y28_4, y28_5, y28_6, y28_7, y28_8, y28_9, y28_10, y28_11, y28_12, y28_13, y28_14, y28_15, y28_16, hA, S, hky28_8⟩
  refine Sx.E.out ?_ hA S
  clear hA S a w'
  refine Sx.E.block_normal (Sx.E.next (Sx.C.region ?_))
  refine Sx.G.p (.int .i64 (xig : Int)) ?_
  refine Sx.G.q (.int .i64 (IntKind.i64.wrap ((xig : Int) + 1))) (.int .i64 ((xig + 1 : Nat) : Int)) (congrArg (Value.int .i64) (Sx.wrap_up xig (by omega))) ?_
  refine Sx.G.p (.int .i64 ((xig + 1 : Nat) : Int)) ?_
  refine Sx.G.nil ?_
  have HN : xig + 1 ≤ 2 ∧ (xsg ++ [y28_8]).length = xig + 1 ∧ ∀ y ∈ xsg ++ [y28_8], gD y := ⟨by omega, by simp [hlg], fun y hy => by rcases List.mem_append.1 hy with h | h; exact hpg y h; rw [List.mem_singleton.1 h]; exact hky28_8⟩
  exact Sx.E.again (xig + 1, (xsg ++ [y28_8]), y28_13, y28_14, y28_15, w0.heap.size, y28_16) HN (by show 2 + 1 - (xig + 1) < 2 + 1 - xig; omega) (fun a hA => (Sx.Ag.and hA (Sx.Ag.and hA (Sx.Ag.and hA (Sx.Ag.and hA (Sx.Ag.none hA) _ _ (by kernel_rfl)) _ _ (by kernel_rfl)) _ _ (by kernel_rfl)) _ _ (by kernel_rfl))) (fun w S => St.pick S [0, 1, 2, 3, 4, 5] _ rfl (by decide))
theorem kd_any (w0 : World) (A : Option Addr) (n c g : Nat) (w : World) (hn : n ≤ 1048576) (hcode : CodeAt w0 A n) (hcur : Cur w0 A n c w g) : Calls Tryz.prog 31 #[.pointer (some ⟨g, 0, none⟩)] w (fun e w' => ∃ x cs lo hi F, bA x ∧ Sx.Drawn w0 A n c w g (.agg (cs : List Value).toArray) [ow (Sx.rRo wB) lo hi x cs F] e w') := by
 have hs0 := Sx.st_cur hcur
 have hb0 := hcur.1
 clear hcur
 refine Sx.enterS (args := [.pointer (some ⟨g, 0, none⟩)]) hs0 Tryz.func31 rfl Tryz.ntmps31 rfl ?_
 refine Sx.C.seq (Sx.C.region ?_)
 refine Sx.G.ar [.slice none 0 0, .slice none 0 0, .slice none 0 0, .int .i64 0] (fun b1 => ?_)
 refine Sx.G.nil (Sx.E.next (Sx.C.seq (Sx.C.region ?_)))
 refine Sx.G.p (.pointer (some ⟨g, 0, none⟩)) ?_
 refine Sx.G.c 67 #[.pointer (some ⟨g, 0, none⟩)] (fun w2 S => (kd_bare w0 A n c g _ hn hcode (Sx.St.cur S 1 rfl)).mono fun e w2' hp => ?_)
 obtain ⟨m, gs, os, pd, a0, d0, a1, d1, a2, d2, lo0, hi0, F0, lo1, hi1, F1, lo2, hi2, F2, hD, hg1, hg2, ho4, rfl, hcur, hgr, hfr⟩ := hp
 obtain ⟨g0, gt, rfl⟩ : ∃ x y, gs = x :: y := by
  cases gs with
  | nil => exact absurd hg1 (by decide)
  | cons x y => exact ⟨x, y, rfl⟩
 refine ⟨_, _, rfl, Sx.St.joinD S (Sx.St.moved S 1 rfl hcur hgr) hfr, ?_⟩
 clear S hcur hgr hfr
 refine Sx.G.ar [.slice none 0 0, .slice none 0 0, .slice none 0 0, .int .i64 0] (fun b3 => ?_)
 refine Sx.G.sw [.slice a0 m.length d0, .slice a1 (g0 :: gt).length d1, .slice a2 os.length d2, .int .i64 pd] .a0 ?_
 refine Sx.G.nil (Sx.E.next (Sx.C.seq (Sx.C.seq (Sx.C.region ?_))))
 refine Sx.G.p (.pointer (some ⟨g, 0, none⟩)) ?_
 refine Sx.G.c 39 #[.pointer (some ⟨g, 0, none⟩), .int .i64 14] (fun w4 S => (below_any w0 A n c g _ 14 (by decide) (by decide) hn hcode (Sx.St.cur S 5 rfl)).mono fun e w4' hp => ?_)
 obtain ⟨x4, rfl, hx4, hy4, hcur, hgr⟩ := hp
 refine ⟨_, _, rfl, Sx.St.moved S 5 rfl hcur hgr, ?_⟩
 clear S hcur hgr
 refine Sx.G.nil (Sx.E.next (Sx.C.block (Sx.C.seq (Sx.C.region ?_))))
 refine Sx.G.p (.bool (x4 == 0)) ?_
 refine Sx.G.p (.bool (x4 == 0)) ?_
 refine Sx.G.nil (Sx.E.next ?_)
 cases hc5 : (x4 == 0)
 ·
  have hb5 := hc5
  refine Sx.C.no (by kernel_rfl) (by kernel_rfl) ?_
  refine Sx.C.seq (Sx.C.region ?_)
  refine Sx.G.p (.bool (x4 == 1)) ?_
  refine Sx.G.p (.bool (x4 == 1)) ?_
  refine Sx.G.nil (Sx.E.next ?_)
  cases hc6 : (x4 == 1)
  ·
   have hb6 := hc6
   refine Sx.C.no (by kernel_rfl) (by kernel_rfl) ?_
   refine Sx.C.seq (Sx.C.region ?_)
   refine Sx.G.p (.bool (x4 == 2)) ?_
   refine Sx.G.p (.bool (x4 == 2)) ?_
   refine Sx.G.nil (Sx.E.next ?_)
   cases hc7 : (x4 == 2)
   ·
    have hb7 := hc7
    refine Sx.C.no (by kernel_rfl) (by kernel_rfl) ?_
    refine Sx.C.seq (Sx.C.region ?_)
    refine Sx.G.p (.bool (x4 == 3)) ?_
    refine Sx.G.p (.bool (x4 == 3)) ?_
    refine Sx.G.nil (Sx.E.next ?_)
    cases hc8 : (x4 == 3)
    ·
     have hb8 := hc8
     refine Sx.C.no (by kernel_rfl) (by kernel_rfl) ?_
     refine Sx.C.seq (Sx.C.region ?_)
     refine Sx.G.p (.bool (x4 == 4)) ?_
     refine Sx.G.p (.bool (x4 == 4)) ?_
     refine Sx.G.nil (Sx.E.next ?_)
     cases hc9 : (x4 == 4)
     ·
      have hb9 := hc9
      refine Sx.C.no (by kernel_rfl) (by kernel_rfl) ?_
      refine Sx.C.seq (Sx.C.region ?_)
      refine Sx.G.p (.bool (x4 == 5)) ?_
      refine Sx.G.p (.bool (x4 == 5)) ?_
      refine Sx.G.nil (Sx.E.next ?_)
      cases hc10 : (x4 == 5)
      ·
       have hb10 := hc10
       refine Sx.C.no (by kernel_rfl) (by kernel_rfl) ?_
       refine Sx.C.skip (Sx.E.block_normal (Sx.E.next (Sx.C.seq (Sx.C.region ?_))))
       refine Sx.G.lw .m0 ?_
       refine Sx.G.sw [.slice a0 m.length d0, .slice a1 (g0 :: gt).length d1, .slice a2 os.length d2, .int .i64 pd] .a4 ?_
       refine Sx.G.nil (Sx.E.next (Sx.C.ret ?_))
       refine Sx.E.retc b1 4 [.slice a0 m.length d0, .slice a1 (g0 :: gt).length d1, .slice a2 os.length d2, .int .i64 pd] rfl (by kernel_rfl) rfl (by kernel_rfl) (by kernel_rfl) (fun w S => ?_)
       have S4 := St.pick S [1, 2, 3, 5, 6] ([_, _, _] ++ [_, _]) rfl (by decide)
       obtain ⟨FF, S5⟩ := Sx.St.ro (r := wB) (x := ({ mem := m, gs := (g0 :: gt), outs := os, pd := pd } : bT)) (cs := [.slice a0 m.length d0, .slice a1 (g0 :: gt).length d1, .slice a2 os.length d2, .int .i64 pd]) S4 (fun v hv => wB_rd_mk (g := ({ mem := m, gs := (g0 :: gt), outs := os, pd := pd } : bT)) (Sx.St.rdIn S4 0 rfl hv) (Sx.rdLst_of (r := (Sx.rRo wG)) (q := wG) (fun _ _ _ _ _ h => h) rfl (show rdLst (Sx.rRo wG) v _ _ _ _ from Sx.St.rdIn S4 1 rfl hv)) (Sx.St.rdIn S4 2 rfl hv))
       exact ⟨({ mem := m, gs := (g0 :: gt), outs := os, pd := pd } : bT), _, _, _, FF, ⟨⟨hD.1, hD.2.1, hD.2.2.1, hD.2.2.2⟩, by show os.length ≤ 45; omega⟩, Sx.Drawn.made hb0 (St.pick S5 [1, 2, 0] _ rfl (by decide))⟩
      ·
       have hb10 := hc10
       refine Sx.C.yes (by kernel_rfl) (by kernel_rfl) ?_
       refine Sx.C.region ?_
       refine Sx.G.p (.pointer (some ⟨g, 0, none⟩)) ?_
       refine Sx.G.c 70 #[.pointer (some ⟨g, 0, none⟩)] (fun w11 S => (Irqs.pend_any w0 A n c g _ hn hcode (Sx.St.cur S 5 rfl)).mono fun e w11' hp => ?_)
       obtain ⟨x11, rfl, hw11, hcur, hgr⟩ := hp
       refine ⟨_, _, rfl, Sx.St.moved S 5 rfl hcur hgr, ?_⟩
       clear S hcur hgr
       refine Sx.G.p (.pointer (some ⟨b3, 3, none⟩)) ?_
       refine Sx.G.s (.int .i64 x11) .a0 .a3 ?_
       refine Sx.G.nil (Sx.E.block_normal (Sx.E.next (Sx.C.seq (Sx.C.region ?_))))
       refine Sx.G.lw .m0 ?_
       refine Sx.G.sw [.slice a0 m.length d0, .slice a1 (g0 :: gt).length d1, .slice a2 os.length d2, .int .i64 x11] .a4 ?_
       refine Sx.G.nil (Sx.E.next (Sx.C.ret ?_))
       refine Sx.E.retc b1 4 [.slice a0 m.length d0, .slice a1 (g0 :: gt).length d1, .slice a2 os.length d2, .int .i64 x11] rfl (by kernel_rfl) rfl (by kernel_rfl) (by kernel_rfl) (fun w S => ?_)
       have S4 := St.pick S [1, 2, 3, 5, 6] ([_, _, _] ++ [_, _]) rfl (by decide)
       obtain ⟨FF, S5⟩ := Sx.St.ro (r := wB) (x := ({ mem := m, gs := (g0 :: gt), outs := os, pd := x11 } : bT)) (cs := [.slice a0 m.length d0, .slice a1 (g0 :: gt).length d1, .slice a2 os.length d2, .int .i64 x11]) S4 (fun v hv => wB_rd_mk (g := ({ mem := m, gs := (g0 :: gt), outs := os, pd := x11 } : bT)) (Sx.St.rdIn S4 0 rfl hv) (Sx.rdLst_of (r := (Sx.rRo wG)) (q := wG) (fun _ _ _ _ _ h => h) rfl (show rdLst (Sx.rRo wG) v _ _ _ _ from Sx.St.rdIn S4 1 rfl hv)) (Sx.St.rdIn S4 2 rfl hv))
       exact ⟨({ mem := m, gs := (g0 :: gt), outs := os, pd := x11 } : bT), _, _, _, FF, ⟨⟨hD.1, hD.2.1, hD.2.2.1, hw11⟩, by show os.length ≤ 45; omega⟩, Sx.Drawn.made hb0 (St.pick S5 [1, 2, 0] _ rfl (by decide))⟩
     ·
      have hb9 := hc9
      refine Sx.C.yes (by kernel_rfl) (by kernel_rfl) ?_
      refine Sx.C.block ?_
      refine Sx.C.loop (α := Nat × (List Int) × Option Addr × Nat × List Nat × Nat × Nat) (fun x => x.1 ≤ 41 ∧ x.2.1.length = x.1 ∧ ∀ y ∈ x.2.1, numD y) (fun x => [(0, .pointer (some ⟨g, 0, none⟩)), (2, .pointer (some ⟨b1, 0, none⟩)), (3, .pointer (some ⟨b3, 0, none⟩))]) (fun x => [vr b3 [.slice a0 m.length d0, .slice a1 (g0 :: gt).length d1, .slice x.2.2.1 x.2.1.length x.2.2.2.1, .int .i64 pd], ow (Sx.rRo (rLsw (rLsw rInt))) lo0 hi0 m [.slice a0 m.length d0] F0, ow (rLst 39 (Sx.rRo wG)) lo1 hi1 ((g0 :: gt)) [.slice a1 (g0 :: gt).length d1] F1, ow (rLst 3 rInt) x.2.2.2.2.2.1 x.2.2.2.2.2.2 x.2.1 [.slice x.2.2.1 x.2.1.length x.2.2.2.1] x.2.2.2.2.1, vr b1 [.slice none 0 0, .slice none 0 0, .slice none 0 0, .int .i64 0], Sx.cu A n c g, Sx.frm w0 w g]) (fun x => 41 + 1 - x.1) (os.length, os, a2, d2, F2, lo2, hi2) ⟨by omega, rfl, hD.2.2.1.2⟩ (fun a hA => (Sx.Ag.and hA (Sx.Ag.and hA (Sx.Ag.and hA (Sx.Ag.none hA) _ _ (by kernel_rfl)) _ _ (by kernel_rfl)) _ _ (by kernel_rfl))) (fun w S => St.pick S [0, 1, 2, 3, 4, 5, 6] _ rfl (by decide)) (fun x hx => ?_)
      obtain ⟨xio, xso, xAo, xco, xFo, xloo, xhio⟩ := x
      dsimp only at hx
      obtain ⟨hbo, hlo, hpo⟩ := hx
      refine Sx.C.seq (Sx.C.seq ?_)
      refine Sx.C.draw (.take 0 (.take 1 (.take 2 (.take 3 (.alone 4 (.take 5 (.take 6 .nil))))))) [vr b3 [.slice a0 m.length d0, .slice a1 (g0 :: gt).length d1, .slice xAo xso.length xco, .int .i64 pd]] (fun w S => St.pick S [0] _ rfl (by decide)) (by kernel_rfl) (by kernel_rfl) (by kernel_rfl) ?_
      refine Sx.GT.p (.pointer (some ⟨b3, 2, none⟩)) ?_
      refine Sx.GT.g (.slice xAo xso.length xco) .m0 .m2 ?_
      refine Sx.GT.p (.int .i64 ((xso.length : Nat) : Int)) ?_
      refine Sx.GT.p (.pointer (some ⟨g, 0, none⟩)) ?_
      refine Sx.GT.alone (Sx.Alone.c 39 #[.pointer (some ⟨g, 0, none⟩), .int .i64 3] (fun w12 S => (below_any w0 A n c g _ 3 (by decide) (by decide) hn hcode (Sx.St.cur S 5 rfl)).mono fun e w12' hp => ?_))
      obtain ⟨x12, rfl, hx12, hy12, hcur, hgr⟩ := hp
      refine ⟨_, _, rfl, Sx.St.moved S 5 rfl hcur hgr, (fun w S => St.pick S [0] _ rfl (by decide)), ?_⟩
      clear S hcur hgr
      refine Sx.GT.q (.int .i64 (IntKind.i64.wrap (39 + x12))) (.int .i64 (39 + x12)) (congrArg (Value.int .i64) (by rw [IntKind.wrap_i64]; omega)) ?_
      refine Sx.GT.p (.bool (decide (((xso.length : Nat) : Int) < (39 + x12)))) ?_
      refine Sx.GT.nil (Sx.E.next ?_)
      cases hc13 : (decide (((xso.length : Nat) : Int) < (39 + x12)))
      ·
       have hb13 := hc13
       replace hc13 := of_decide_eq_false hc13
       refine Sx.C.no (by kernel_rfl) (by kernel_rfl) ?_
       refine Sx.C.exit (Sx.E.then_exit (Sx.E.then_exit (Sx.E.block_hit (Sx.E.block_normal (Sx.E.next (Sx.C.seq (Sx.C.region ?_)))))))
       refine Sx.G.lw .m0 ?_
       refine Sx.G.sw [.slice a0 m.length d0, .slice a1 (g0 :: gt).length d1, .slice xAo xso.length xco, .int .i64 pd] .a4 ?_
       refine Sx.G.nil (Sx.E.next (Sx.C.ret ?_))
       refine Sx.E.retc b1 4 [.slice a0 m.length d0, .slice a1 (g0 :: gt).length d1, .slice xAo xso.length xco, .int .i64 pd] rfl (by kernel_rfl) rfl (by kernel_rfl) (by kernel_rfl) (fun w S => ?_)
       have S4 := St.pick S [1, 2, 3, 5, 6] ([_, _, _] ++ [_, _]) rfl (by decide)
       obtain ⟨FF, S5⟩ := Sx.St.ro (r := wB) (x := ({ mem := m, gs := (g0 :: gt), outs := xso, pd := pd } : bT)) (cs := [.slice a0 m.length d0, .slice a1 (g0 :: gt).length d1, .slice xAo xso.length xco, .int .i64 pd]) S4 (fun v hv => wB_rd_mk (g := ({ mem := m, gs := (g0 :: gt), outs := xso, pd := pd } : bT)) (Sx.St.rdIn S4 0 rfl hv) (Sx.rdLst_of (r := (Sx.rRo wG)) (q := wG) (fun _ _ _ _ _ h => h) rfl (show rdLst (Sx.rRo wG) v _ _ _ _ from Sx.St.rdIn S4 1 rfl hv)) (Sx.St.rdIn S4 2 rfl hv))
       exact ⟨({ mem := m, gs := (g0 :: gt), outs := xso, pd := pd } : bT), _, _, _, FF, ⟨⟨hD.1, hD.2.1, ⟨by show xso.length ≤ 50; omega, hpo⟩, hD.2.2.2⟩, by show xso.length ≤ 45; omega⟩, Sx.Drawn.made hb0 (St.pick S5 [1, 2, 0] _ rfl (by decide))⟩
      ·
       have hb13 := hc13
       replace hc13 := of_decide_eq_true hc13
       refine Sx.C.yes (by kernel_rfl) (by kernel_rfl) ?_
       refine Sx.C.skip (Sx.E.next (Sx.C.block (Sx.C.region ?_)))
       refine Sx.G.p (.pointer (some ⟨b3, 2, none⟩)) ?_
       refine Sx.G.g (.slice xAo xso.length xco) .m0 .m2 ?_
       refine Sx.G.made 3 [.int .i64 1] 1 (by kernel_rfl) (fun w => by kernel_rfl) (fun b14 => ?_)
       refine Sx.G.apps 4 rfl (xso ++ [1]) (fun w S => S.box 0 rfl rfl 1 (Nat.le_refl _)) rfl ((xso ++ [1]).length) (by simp) flat_int (.tmp 44) (.tmp 45) 28 1 8 rfl rfl (by kernel_rfl) (by kernel_rfl) rfl (by kernel_rfl) (by kernel_rfl) (by simp only [maxLen, List.length_nil, List.length_cons]; omega) (by simp only [List.length_nil, List.length_cons]; omega) (fun A15 c15 F15 hi15 hm15 => ?_)
       refine Sx.G.p (.pointer (some ⟨b3, 2, none⟩)) ?_
       refine Sx.G.s (.slice A15 ((xso ++ [1]).length) c15) .a1 .a2 ?_
       refine Sx.G.nil (Sx.E.block_normal ?_)
       have HN : xio + 1 ≤ 41 ∧ (xso ++ [1]).length = xio + 1 ∧ ∀ y ∈ xso ++ [1], numD y := ⟨by omega, by simp [hlo], fun y hy => by rcases List.mem_append.1 hy with h | h; exact hpo y h; rw [List.mem_singleton.1 h]; exact (show (Lit.int .i64 1).wf = true by decide)⟩
       exact Sx.E.again (xio + 1, xso ++ [1], A15, c15, F15, w0.heap.size, hi15) HN (by show 41 + 1 - (xio + 1) < 41 + 1 - xio; omega) (fun a hA => (Sx.Ag.and hA (Sx.Ag.and hA (Sx.Ag.and hA (Sx.Ag.none hA) _ _ (by kernel_rfl)) _ _ (by kernel_rfl)) _ _ (by kernel_rfl))) (fun w S => St.pick S [1, 2, 3, 4, 5, 6, 7] _ rfl (by decide))
    ·
     have hb8 := hc8
     refine Sx.C.yes (by kernel_rfl) (by kernel_rfl) ?_
     refine Sx.C.region ?_
     refine Sx.G.p (.pointer (some ⟨b3, 1, none⟩)) ?_
     refine Sx.G.s (.slice none 0 0) .a0 .a1 ?_
     refine Sx.G.nil (Sx.E.block_normal (Sx.E.next (Sx.C.seq (Sx.C.region ?_))))
     refine Sx.G.lw .m0 ?_
     refine Sx.G.sw [.slice a0 m.length d0, .slice none 0 0, .slice a2 os.length d2, .int .i64 pd] .a4 ?_
     refine Sx.G.nil (Sx.E.next (Sx.C.ret ?_))
     refine Sx.E.retc b1 4 [.slice a0 m.length d0, .slice none 0 0, .slice a2 os.length d2, .int .i64 pd] rfl (by kernel_rfl) rfl (by kernel_rfl) (by kernel_rfl) (fun w S => ?_)
     have S4 := St.pick S [1, 3, 5, 6] ([_, _] ++ [_, _]) rfl (by decide)
     obtain ⟨FF, S5⟩ := Sx.St.ro (r := wB) (x := ({ mem := m, gs := [], outs := os, pd := pd } : bT)) (cs := [.slice a0 m.length d0, .slice none 0 0, .slice a2 os.length d2, .int .i64 pd]) S4 (fun v hv => wB_rd_mk (g := ({ mem := m, gs := [], outs := os, pd := pd } : bT)) (Sx.St.rdIn S4 0 rfl hv) (Sx.rd_nil _ _ _ _) (Sx.St.rdIn S4 1 rfl hv))
     exact ⟨({ mem := m, gs := [], outs := os, pd := pd } : bT), _, _, _, FF, ⟨⟨hD.1, ⟨Nat.zero_le _, fun q hq => by cases hq⟩, hD.2.2.1, hD.2.2.2⟩, by show os.length ≤ 45; omega⟩, Sx.Drawn.made hb0 (St.pick S5 [1, 2, 0] _ rfl (by decide))⟩
   ·
    have hb7 := hc7
    refine Sx.C.yes (by kernel_rfl) (by kernel_rfl) ?_
    refine Sx.C.cut (fun e a w' => e = .normal ∧ ∃ (Y0 : Option Addr) (Y1 : Nat) (Y2 : Option Addr) (Y3 : Nat) (Y4 : Option Addr) (Y5 : Nat) (Y6 : Option Addr) (Y7 : Nat) (Y8 : gT) (Y9 : Nat) (Y10 : Nat) (Y11 : List Nat) (Y12 : Option Addr) (Y13 : Nat) (Y14 : Option Addr) (Y15 : Nat) (Y16 : Option Addr) (Y17 : Nat) (Y18 : Option Addr) (Y19 : Nat) (Y20 : gT) (Y21 : Nat) (Y22 : Nat) (Y23 : List Nat) (Y24 : Nat) (Y25 : Option Addr) (Y26 : Nat) (Y27 : List Nat) (Y28 : Nat), Sx.Ag 54 [(2, .pointer (some ⟨b1, 0, none⟩)), (3, .pointer (some ⟨b3, 0, none⟩))] a ∧ St w0 w' [ow (rLst 39 (Sx.rRo wG)) w0.heap.size Y28 (((g0 :: gt) ++ [Y8, Y20])) [.slice Y25 ((g0 :: gt) ++ [Y8, Y20]).length Y26] Y27, vr b3 [.slice a0 m.length d0, .slice Y25 ((g0 :: gt) ++ [Y8, Y20]).length Y26, .slice a2 os.length d2, .int .i64 pd], ow (Sx.rRo (rLsw (rLsw rInt))) lo0 hi0 m [.slice a0 m.length d0] F0, ow (rLst 3 rInt) lo2 hi2 os [.slice a2 os.length d2] F2, vr b1 [.slice none 0 0, .slice none 0 0, .slice none 0 0, .int .i64 0], Sx.cu A n c g, Sx.frm w0 w g] ∧ gD Y8 ∧ gD Y20) ?_ ?_
    ·
     refine Sx.C.draw (.take 0 (.take 2 (.take 4 (.two 1 (.alone 3 (.alone 5 (.alone 6 (.alone 7 (.take 8 (.alone 9 .nil)))))) 3 (.two 1 (.alone 5 (.alone 6 (.alone 7 (.take 8 (.alone 9 .nil))))) 5 (.two 1 (.alone 6 (.alone 7 (.take 8 (.alone 9 .nil)))) 6 (.alone 1 (.alone 7 (.take 8 (.alone 9 .nil)))))))))) [] (fun w S => St.pick S [] _ rfl (by decide)) (by kernel_rfl) (by kernel_rfl) (by kernel_rfl) ?_
     refine Sx.GT.p (.pointer (some ⟨b3, 1, none⟩)) ?_
     refine Sx.GT.p (.pointer (some ⟨g, 0, none⟩)) ?_
     refine Sx.GT.p (.pointer (some ⟨g, 0, none⟩)) ?_
     refine Sx.GT.two ?_ ?_
     ·
      refine Sx.Alone.g (.slice a1 (g0 :: gt).length d1) .m0 .m1 (fun w S => St.pick S [] _ rfl (by decide)) ?_
      refine Sx.GT.alone (Sx.Alone.c 69 #[.pointer (some ⟨g, 0, none⟩)] (fun w16 S => (kd_guest w0 A n c g _ hn hcode (Sx.St.cur S 5 rfl)).mono fun e w16' hp => ?_))
      obtain ⟨z16, cs16, lo16, hi16, F16, hg16, rfl, hcur, hgr, hfr⟩ := hp
      obtain ⟨P16_0, P16_1, P16_2, P16_3, e16, f16_0, f16_1, f16_2, f16_3⟩ := wG_rd ((Sx.rRo wG).reads (hfr.says 0 _ rfl).1)
      subst e16
      obtain ⟨A16_0, c16_0, e16_0, -⟩ := lst_val f16_0
      subst e16_0
      obtain ⟨A16_1, c16_1, e16_1, -⟩ := lst_val f16_1
      subst e16_1
      obtain ⟨A16_2, c16_2, e16_2, -⟩ := lst_val f16_2
      subst e16_2
      obtain ⟨A16_3, c16_3, e16_3, -⟩ := lst_val f16_3
      subst e16_3
      refine ⟨_, _, rfl, Sx.St.joinD S (Sx.St.moved S 5 rfl hcur hgr) hfr, (fun w S => St.pick S [] _ rfl (by decide)), ?_⟩
      clear S hcur hgr hfr f16_0 f16_1 f16_2 f16_3
      refine Sx.GT.alone (Sx.Alone.c 69 #[.pointer (some ⟨g, 0, none⟩)] (fun w17 S => (kd_guest w0 A n c g _ hn hcode (Sx.St.cur S 6 rfl)).mono fun e w17' hp => ?_))
      obtain ⟨z17, cs17, lo17, hi17, F17, hg17, rfl, hcur, hgr, hfr⟩ := hp
      obtain ⟨P17_0, P17_1, P17_2, P17_3, e17, f17_0, f17_1, f17_2, f17_3⟩ := wG_rd ((Sx.rRo wG).reads (hfr.says 0 _ rfl).1)
      subst e17
      obtain ⟨A17_0, c17_0, e17_0, -⟩ := lst_val f17_0
      subst e17_0
      obtain ⟨A17_1, c17_1, e17_1, -⟩ := lst_val f17_1
      subst e17_1
      obtain ⟨A17_2, c17_2, e17_2, -⟩ := lst_val f17_2
      subst e17_2
      obtain ⟨A17_3, c17_3, e17_3, -⟩ := lst_val f17_3
      subst e17_3
      refine ⟨_, _, rfl, Sx.St.joinD S (Sx.St.moved S 6 rfl hcur hgr) hfr, (fun w S => St.pick S [] _ rfl (by decide)), ?_⟩
      clear S hcur hgr hfr f17_0 f17_1 f17_2 f17_3
      refine Sx.GT.alone (Sx.Alone.made 39 [.slice A16_0 z16.prog.length c16_0, .int .i64 z16.a, .int .i64 z16.pc, .slice A16_1 z16.wr.length c16_1, .slice A16_2 z16.lv.length c16_2, .int .i64 z16.t.1, .int .i64 z16.t.2.1, .bool z16.t.2.2, .int .i64 z16.pd, .int .i64 z16.x.1, .int .i64 z16.x.2.1, .bool z16.x.2.2.1, .int .i64 z16.x.2.2.2, .bool z16.hl, .slice A16_3 z16.seen.length c16_3, .slice A17_0 z17.prog.length c17_0, .int .i64 z17.a, .int .i64 z17.pc, .slice A17_1 z17.wr.length c17_1, .slice A17_2 z17.lv.length c17_2, .int .i64 z17.t.1, .int .i64 z17.t.2.1, .bool z17.t.2.2, .int .i64 z17.pd, .int .i64 z17.x.1, .int .i64 z17.x.2.1, .bool z17.x.2.2.1, .int .i64 z17.x.2.2.2, .bool z17.hl, .slice A17_3 z17.seen.length c17_3] 2 (by rfl) (by kernel_rfl) (fun w => by kernel_rfl) (fun w S => St.pick S [] _ rfl (by decide)) (fun b18 => ?_))
      refine Sx.GT.pk (.c .m2 (.c .m1 (.c .m0 (.c .m3 (.c .m4 (.c .m5 (.c .m6 (.c .m7 (.c .m8 (.c .m9 .n)))))))))) ?_
      refine Sx.GT.turn (ι := Nat) (p := fun _ => True) (fun H19 => [ow (rPair (Sx.rRo wG) (Sx.rRo wG)) w0.heap.size H19 (z16, z17) [.slice A16_0 z16.prog.length c16_0, .int .i64 z16.a, .int .i64 z16.pc, .slice A16_1 z16.wr.length c16_1, .slice A16_2 z16.lv.length c16_2, .int .i64 z16.t.1, .int .i64 z16.t.2.1, .bool z16.t.2.2, .int .i64 z16.pd, .int .i64 z16.x.1, .int .i64 z16.x.2.1, .bool z16.x.2.2.1, .int .i64 z16.x.2.2.2, .bool z16.hl, .slice A16_3 z16.seen.length c16_3, .slice A17_0 z17.prog.length c17_0, .int .i64 z17.a, .int .i64 z17.pc, .slice A17_1 z17.wr.length c17_1, .slice A17_2 z17.lv.length c17_2, .int .i64 z17.t.1, .int .i64 z17.t.2.1, .bool z17.t.2.2, .int .i64 z17.pd, .int .i64 z17.x.1, .int .i64 z17.x.2.1, .bool z17.x.2.2.1, .int .i64 z17.x.2.2.2, .bool z17.hl, .slice A17_3 z17.seen.length c17_3] (F16 ++ F17), vr b18 [.slice A16_0 z16.prog.length c16_0, .int .i64 z16.a, .int .i64 z16.pc, .slice A16_1 z16.wr.length c16_1, .slice A16_2 z16.lv.length c16_2, .int .i64 z16.t.1, .int .i64 z16.t.2.1, .bool z16.t.2.2, .int .i64 z16.pd, .int .i64 z16.x.1, .int .i64 z16.x.2.1, .bool z16.x.2.2.1, .int .i64 z16.x.2.2.2, .bool z16.hl, .slice A16_3 z16.seen.length c16_3, .slice A17_0 z17.prog.length c17_0, .int .i64 z17.a, .int .i64 z17.pc, .slice A17_1 z17.wr.length c17_1, .slice A17_2 z17.lv.length c17_2, .int .i64 z17.t.1, .int .i64 z17.t.2.1, .bool z17.t.2.2, .int .i64 z17.pd, .int .i64 z17.x.1, .int .i64 z17.x.2.1, .bool z17.x.2.2.1, .int .i64 z17.x.2.2.2, .bool z17.hl, .slice A17_3 z17.seen.length c17_3], vr b3 [.slice a0 m.length d0, .slice a1 (g0 :: gt).length d1, .slice a2 os.length d2, .int .i64 pd], ow (Sx.rRo (rLsw (rLsw rInt))) lo0 hi0 m [.slice a0 m.length d0] F0, ow (rLst 39 (Sx.rRo wG)) lo1 hi1 ((g0 :: gt)) [.slice a1 (g0 :: gt).length d1] F1, ow (rLst 3 rInt) lo2 hi2 os [.slice a2 os.length d2] F2, vr b1 [.slice none 0 0, .slice none 0 0, .slice none 0 0, .int .i64 0], Sx.cu A n c g, Sx.frm w0 w g]) (fun w S => ⟨w.heap.size, trivial, Sx.St.pair S⟩) (fun H19 _ => ?_)
      refine Sx.GT.pk (.c .m4 (.c .m0 (.c .m1 (.c .m2 (.c .m3 (.c .m5 (.c .m6 (.c .m7 (.c .m8 .n))))))))) ?_
      refine Sx.GT.alone (Sx.Alone.appr2 (.tmp 23) (.tmp 28) 27 15 184 2 (by rfl) (by rfl) (by kernel_rfl) (by kernel_rfl) (by rfl) (by kernel_rfl) (by kernel_rfl) (by kernel_rfl) (by simp only [maxLen]; omega) (by omega) ((g0 :: gt) ++ [z16, z17]) (by rfl) ((g0 :: gt) ++ [z16, z17]).length (by simp) (fun A20 c20 F20 hi20 w S => St.pick S [] _ rfl (by decide)) (fun A20 c20 F20 hi20 hm20 => ?_))
      refine Sx.GT.p (.pointer (some ⟨b3, 1, none⟩)) ?_
      refine Sx.GT.alone (Sx.Alone.s (.slice A20 ((g0 :: gt) ++ [z16, z17]).length c20) .a1 .a1 (fun w S => St.pick S [] _ rfl (by decide)) ?_)
      exact Sx.GT.nil (fun a w' hA S => ⟨rfl, none, 0, none, 0, none, 0, none, 0, z16, 0, 0, [], none, 0, none, 0, none, 0, none, 0, z17, 0, 0, [], 0, A20, c20, F20, hi20, (Sx.Ag.and hA (Sx.Ag.and hA (Sx.Ag.none hA) _ _ (by kernel_rfl)) _ _ (by kernel_rfl)), St.pick S [0, 1, 2, 3, 4, 5, 6] _ rfl (by decide), hg16, hg17⟩)
     ·
      refine Sx.Alone.c 69 #[.pointer (some ⟨g, 0, none⟩)] (fun w21 S => (kd_guest w0 A n c g _ hn hcode (Sx.St.cur S 5 rfl)).mono fun e w21' hp => ?_)
      obtain ⟨z21, cs21, lo21, hi21, F21, hg21, rfl, hcur, hgr, hfr⟩ := hp
      obtain ⟨P21_0, P21_1, P21_2, P21_3, e21, f21_0, f21_1, f21_2, f21_3⟩ := wG_rd ((Sx.rRo wG).reads (hfr.says 0 _ rfl).1)
      subst e21
      obtain ⟨A21_0, c21_0, e21_0, -⟩ := lst_val f21_0
      subst e21_0
      obtain ⟨A21_1, c21_1, e21_1, -⟩ := lst_val f21_1
      subst e21_1
      obtain ⟨A21_2, c21_2, e21_2, -⟩ := lst_val f21_2
      subst e21_2
      obtain ⟨A21_3, c21_3, e21_3, -⟩ := lst_val f21_3
      subst e21_3
      refine ⟨_, _, rfl, Sx.St.joinD S (Sx.St.moved S 5 rfl hcur hgr) hfr, (fun w S => St.pick S [] _ rfl (by decide)), ?_⟩
      clear S hcur hgr hfr f21_0 f21_1 f21_2 f21_3
      refine Sx.GT.two ?_ ?_
      ·
       refine Sx.Alone.g (.slice a1 (g0 :: gt).length d1) .m1 .m1 (fun w S => St.pick S [] _ rfl (by decide)) ?_
       refine Sx.GT.alone (Sx.Alone.c 69 #[.pointer (some ⟨g, 0, none⟩)] (fun w22 S => (kd_guest w0 A n c g _ hn hcode (Sx.St.cur S 6 rfl)).mono fun e w22' hp => ?_))
       obtain ⟨z22, cs22, lo22, hi22, F22, hg22, rfl, hcur, hgr, hfr⟩ := hp
       obtain ⟨P22_0, P22_1, P22_2, P22_3, e22, f22_0, f22_1, f22_2, f22_3⟩ := wG_rd ((Sx.rRo wG).reads (hfr.says 0 _ rfl).1)
       subst e22
       obtain ⟨A22_0, c22_0, e22_0, -⟩ := lst_val f22_0
       subst e22_0
       obtain ⟨A22_1, c22_1, e22_1, -⟩ := lst_val f22_1
       subst e22_1
       obtain ⟨A22_2, c22_2, e22_2, -⟩ := lst_val f22_2
       subst e22_2
       obtain ⟨A22_3, c22_3, e22_3, -⟩ := lst_val f22_3
       subst e22_3
       refine ⟨_, _, rfl, Sx.St.joinD S (Sx.St.moved S 6 rfl hcur hgr) hfr, (fun w S => St.pick S [] _ rfl (by decide)), ?_⟩
       clear S hcur hgr hfr f22_0 f22_1 f22_2 f22_3
       refine Sx.GT.alone (Sx.Alone.made 39 [.slice A21_0 z21.prog.length c21_0, .int .i64 z21.a, .int .i64 z21.pc, .slice A21_1 z21.wr.length c21_1, .slice A21_2 z21.lv.length c21_2, .int .i64 z21.t.1, .int .i64 z21.t.2.1, .bool z21.t.2.2, .int .i64 z21.pd, .int .i64 z21.x.1, .int .i64 z21.x.2.1, .bool z21.x.2.2.1, .int .i64 z21.x.2.2.2, .bool z21.hl, .slice A21_3 z21.seen.length c21_3, .slice A22_0 z22.prog.length c22_0, .int .i64 z22.a, .int .i64 z22.pc, .slice A22_1 z22.wr.length c22_1, .slice A22_2 z22.lv.length c22_2, .int .i64 z22.t.1, .int .i64 z22.t.2.1, .bool z22.t.2.2, .int .i64 z22.pd, .int .i64 z22.x.1, .int .i64 z22.x.2.1, .bool z22.x.2.2.1, .int .i64 z22.x.2.2.2, .bool z22.hl, .slice A22_3 z22.seen.length c22_3] 2 (by rfl) (by kernel_rfl) (fun w => by kernel_rfl) (fun w S => St.pick S [] _ rfl (by decide)) (fun b23 => ?_))
       refine Sx.GT.pk (.c .m2 (.c .m1 (.c .m0 (.c .m3 (.c .m4 (.c .m5 (.c .m6 (.c .m7 (.c .m8 (.c .m9 .n)))))))))) ?_
       refine Sx.GT.turn (ι := Nat) (p := fun _ => True) (fun H24 => [ow (rPair (Sx.rRo wG) (Sx.rRo wG)) w0.heap.size H24 (z21, z22) [.slice A21_0 z21.prog.length c21_0, .int .i64 z21.a, .int .i64 z21.pc, .slice A21_1 z21.wr.length c21_1, .slice A21_2 z21.lv.length c21_2, .int .i64 z21.t.1, .int .i64 z21.t.2.1, .bool z21.t.2.2, .int .i64 z21.pd, .int .i64 z21.x.1, .int .i64 z21.x.2.1, .bool z21.x.2.2.1, .int .i64 z21.x.2.2.2, .bool z21.hl, .slice A21_3 z21.seen.length c21_3, .slice A22_0 z22.prog.length c22_0, .int .i64 z22.a, .int .i64 z22.pc, .slice A22_1 z22.wr.length c22_1, .slice A22_2 z22.lv.length c22_2, .int .i64 z22.t.1, .int .i64 z22.t.2.1, .bool z22.t.2.2, .int .i64 z22.pd, .int .i64 z22.x.1, .int .i64 z22.x.2.1, .bool z22.x.2.2.1, .int .i64 z22.x.2.2.2, .bool z22.hl, .slice A22_3 z22.seen.length c22_3] (F21 ++ F22), vr b23 [.slice A21_0 z21.prog.length c21_0, .int .i64 z21.a, .int .i64 z21.pc, .slice A21_1 z21.wr.length c21_1, .slice A21_2 z21.lv.length c21_2, .int .i64 z21.t.1, .int .i64 z21.t.2.1, .bool z21.t.2.2, .int .i64 z21.pd, .int .i64 z21.x.1, .int .i64 z21.x.2.1, .bool z21.x.2.2.1, .int .i64 z21.x.2.2.2, .bool z21.hl, .slice A21_3 z21.seen.length c21_3, .slice A22_0 z22.prog.length c22_0, .int .i64 z22.a, .int .i64 z22.pc, .slice A22_1 z22.wr.length c22_1, .slice A22_2 z22.lv.length c22_2, .int .i64 z22.t.1, .int .i64 z22.t.2.1, .bool z22.t.2.2, .int .i64 z22.pd, .int .i64 z22.x.1, .int .i64 z22.x.2.1, .bool z22.x.2.2.1, .int .i64 z22.x.2.2.2, .bool z22.hl, .slice A22_3 z22.seen.length c22_3], vr b3 [.slice a0 m.length d0, .slice a1 (g0 :: gt).length d1, .slice a2 os.length d2, .int .i64 pd], ow (Sx.rRo (rLsw (rLsw rInt))) lo0 hi0 m [.slice a0 m.length d0] F0, ow (rLst 39 (Sx.rRo wG)) lo1 hi1 ((g0 :: gt)) [.slice a1 (g0 :: gt).length d1] F1, ow (rLst 3 rInt) lo2 hi2 os [.slice a2 os.length d2] F2, vr b1 [.slice none 0 0, .slice none 0 0, .slice none 0 0, .int .i64 0], Sx.cu A n c g, Sx.frm w0 w g]) (fun w S => ⟨w.heap.size, trivial, Sx.St.pair S⟩) (fun H24 _ => ?_)
       refine Sx.GT.pk (.c .m4 (.c .m0 (.c .m1 (.c .m2 (.c .m3 (.c .m5 (.c .m6 (.c .m7 (.c .m8 .n))))))))) ?_
       refine Sx.GT.alone (Sx.Alone.appr2 (.tmp 23) (.tmp 28) 27 15 184 2 (by rfl) (by rfl) (by kernel_rfl) (by kernel_rfl) (by rfl) (by kernel_rfl) (by kernel_rfl) (by kernel_rfl) (by simp only [maxLen]; omega) (by omega) ((g0 :: gt) ++ [z21, z22]) (by rfl) ((g0 :: gt) ++ [z21, z22]).length (by simp) (fun A25 c25 F25 hi25 w S => St.pick S [] _ rfl (by decide)) (fun A25 c25 F25 hi25 hm25 => ?_))
       refine Sx.GT.p (.pointer (some ⟨b3, 1, none⟩)) ?_
       refine Sx.GT.alone (Sx.Alone.s (.slice A25 ((g0 :: gt) ++ [z21, z22]).length c25) .a1 .a1 (fun w S => St.pick S [] _ rfl (by decide)) ?_)
       exact Sx.GT.nil (fun a w' hA S => ⟨rfl, none, 0, none, 0, none, 0, none, 0, z21, 0, 0, [], none, 0, none, 0, none, 0, none, 0, z22, 0, 0, [], 0, A25, c25, F25, hi25, (Sx.Ag.and hA (Sx.Ag.and hA (Sx.Ag.none hA) _ _ (by kernel_rfl)) _ _ (by kernel_rfl)), St.pick S [0, 1, 2, 3, 4, 5, 6] _ rfl (by decide), hg21, hg22⟩)
      ·
       refine Sx.Alone.c 69 #[.pointer (some ⟨g, 0, none⟩)] (fun w26 S => (kd_guest w0 A n c g _ hn hcode (Sx.St.cur S 6 rfl)).mono fun e w26' hp => ?_)
       obtain ⟨z26, cs26, lo26, hi26, F26, hg26, rfl, hcur, hgr, hfr⟩ := hp
       obtain ⟨P26_0, P26_1, P26_2, P26_3, e26, f26_0, f26_1, f26_2, f26_3⟩ := wG_rd ((Sx.rRo wG).reads (hfr.says 0 _ rfl).1)
       subst e26
       obtain ⟨A26_0, c26_0, e26_0, -⟩ := lst_val f26_0
       subst e26_0
       obtain ⟨A26_1, c26_1, e26_1, -⟩ := lst_val f26_1
       subst e26_1
       obtain ⟨A26_2, c26_2, e26_2, -⟩ := lst_val f26_2
       subst e26_2
       obtain ⟨A26_3, c26_3, e26_3, -⟩ := lst_val f26_3
       subst e26_3
       refine ⟨_, _, rfl, Sx.St.joinD S (Sx.St.moved S 6 rfl hcur hgr) hfr, (fun w S => St.pick S [] _ rfl (by decide)), ?_⟩
       clear S hcur hgr hfr f26_0 f26_1 f26_2 f26_3
       refine Sx.GT.two ?_ ?_
       ·
        refine Sx.Alone.g (.slice a1 (g0 :: gt).length d1) .m2 .m1 (fun w S => St.pick S [] _ rfl (by decide)) ?_
        refine Sx.GT.alone (Sx.Alone.made 39 [.slice A21_0 z21.prog.length c21_0, .int .i64 z21.a, .int .i64 z21.pc, .slice A21_1 z21.wr.length c21_1, .slice A21_2 z21.lv.length c21_2, .int .i64 z21.t.1, .int .i64 z21.t.2.1, .bool z21.t.2.2, .int .i64 z21.pd, .int .i64 z21.x.1, .int .i64 z21.x.2.1, .bool z21.x.2.2.1, .int .i64 z21.x.2.2.2, .bool z21.hl, .slice A21_3 z21.seen.length c21_3, .slice A26_0 z26.prog.length c26_0, .int .i64 z26.a, .int .i64 z26.pc, .slice A26_1 z26.wr.length c26_1, .slice A26_2 z26.lv.length c26_2, .int .i64 z26.t.1, .int .i64 z26.t.2.1, .bool z26.t.2.2, .int .i64 z26.pd, .int .i64 z26.x.1, .int .i64 z26.x.2.1, .bool z26.x.2.2.1, .int .i64 z26.x.2.2.2, .bool z26.hl, .slice A26_3 z26.seen.length c26_3] 2 (by rfl) (by kernel_rfl) (fun w => by kernel_rfl) (fun w S => St.pick S [] _ rfl (by decide)) (fun b27 => ?_))
        refine Sx.GT.pk (.c .m2 (.c .m1 (.c .m0 (.c .m3 (.c .m4 (.c .m5 (.c .m6 (.c .m7 (.c .m8 (.c .m9 .n)))))))))) ?_
        refine Sx.GT.turn (ι := Nat) (p := fun _ => True) (fun H28 => [ow (rPair (Sx.rRo wG) (Sx.rRo wG)) w0.heap.size H28 (z21, z26) [.slice A21_0 z21.prog.length c21_0, .int .i64 z21.a, .int .i64 z21.pc, .slice A21_1 z21.wr.length c21_1, .slice A21_2 z21.lv.length c21_2, .int .i64 z21.t.1, .int .i64 z21.t.2.1, .bool z21.t.2.2, .int .i64 z21.pd, .int .i64 z21.x.1, .int .i64 z21.x.2.1, .bool z21.x.2.2.1, .int .i64 z21.x.2.2.2, .bool z21.hl, .slice A21_3 z21.seen.length c21_3, .slice A26_0 z26.prog.length c26_0, .int .i64 z26.a, .int .i64 z26.pc, .slice A26_1 z26.wr.length c26_1, .slice A26_2 z26.lv.length c26_2, .int .i64 z26.t.1, .int .i64 z26.t.2.1, .bool z26.t.2.2, .int .i64 z26.pd, .int .i64 z26.x.1, .int .i64 z26.x.2.1, .bool z26.x.2.2.1, .int .i64 z26.x.2.2.2, .bool z26.hl, .slice A26_3 z26.seen.length c26_3] (F21 ++ F26), vr b27 [.slice A21_0 z21.prog.length c21_0, .int .i64 z21.a, .int .i64 z21.pc, .slice A21_1 z21.wr.length c21_1, .slice A21_2 z21.lv.length c21_2, .int .i64 z21.t.1, .int .i64 z21.t.2.1, .bool z21.t.2.2, .int .i64 z21.pd, .int .i64 z21.x.1, .int .i64 z21.x.2.1, .bool z21.x.2.2.1, .int .i64 z21.x.2.2.2, .bool z21.hl, .slice A21_3 z21.seen.length c21_3, .slice A26_0 z26.prog.length c26_0, .int .i64 z26.a, .int .i64 z26.pc, .slice A26_1 z26.wr.length c26_1, .slice A26_2 z26.lv.length c26_2, .int .i64 z26.t.1, .int .i64 z26.t.2.1, .bool z26.t.2.2, .int .i64 z26.pd, .int .i64 z26.x.1, .int .i64 z26.x.2.1, .bool z26.x.2.2.1, .int .i64 z26.x.2.2.2, .bool z26.hl, .slice A26_3 z26.seen.length c26_3], vr b3 [.slice a0 m.length d0, .slice a1 (g0 :: gt).length d1, .slice a2 os.length d2, .int .i64 pd], ow (Sx.rRo (rLsw (rLsw rInt))) lo0 hi0 m [.slice a0 m.length d0] F0, ow (rLst 39 (Sx.rRo wG)) lo1 hi1 ((g0 :: gt)) [.slice a1 (g0 :: gt).length d1] F1, ow (rLst 3 rInt) lo2 hi2 os [.slice a2 os.length d2] F2, vr b1 [.slice none 0 0, .slice none 0 0, .slice none 0 0, .int .i64 0], Sx.cu A n c g, Sx.frm w0 w g]) (fun w S => ⟨w.heap.size, trivial, Sx.St.pair S⟩) (fun H28 _ => ?_)
        refine Sx.GT.pk (.c .m4 (.c .m0 (.c .m1 (.c .m2 (.c .m3 (.c .m5 (.c .m6 (.c .m7 (.c .m8 .n))))))))) ?_
        refine Sx.GT.alone (Sx.Alone.appr2 (.tmp 23) (.tmp 28) 27 15 184 2 (by rfl) (by rfl) (by kernel_rfl) (by kernel_rfl) (by rfl) (by kernel_rfl) (by kernel_rfl) (by kernel_rfl) (by simp only [maxLen]; omega) (by omega) ((g0 :: gt) ++ [z21, z26]) (by rfl) ((g0 :: gt) ++ [z21, z26]).length (by simp) (fun A29 c29 F29 hi29 w S => St.pick S [] _ rfl (by decide)) (fun A29 c29 F29 hi29 hm29 => ?_))
        refine Sx.GT.p (.pointer (some ⟨b3, 1, none⟩)) ?_
        refine Sx.GT.alone (Sx.Alone.s (.slice A29 ((g0 :: gt) ++ [z21, z26]).length c29) .a1 .a1 (fun w S => St.pick S [] _ rfl (by decide)) ?_)
        exact Sx.GT.nil (fun a w' hA S => ⟨rfl, none, 0, none, 0, none, 0, none, 0, z21, 0, 0, [], none, 0, none, 0, none, 0, none, 0, z26, 0, 0, [], 0, A29, c29, F29, hi29, (Sx.Ag.and hA (Sx.Ag.and hA (Sx.Ag.none hA) _ _ (by kernel_rfl)) _ _ (by kernel_rfl)), St.pick S [0, 1, 2, 3, 4, 5, 6] _ rfl (by decide), hg21, hg26⟩)
       ·
        refine Sx.Alone.made 39 [.slice A21_0 z21.prog.length c21_0, .int .i64 z21.a, .int .i64 z21.pc, .slice A21_1 z21.wr.length c21_1, .slice A21_2 z21.lv.length c21_2, .int .i64 z21.t.1, .int .i64 z21.t.2.1, .bool z21.t.2.2, .int .i64 z21.pd, .int .i64 z21.x.1, .int .i64 z21.x.2.1, .bool z21.x.2.2.1, .int .i64 z21.x.2.2.2, .bool z21.hl, .slice A21_3 z21.seen.length c21_3, .slice A26_0 z26.prog.length c26_0, .int .i64 z26.a, .int .i64 z26.pc, .slice A26_1 z26.wr.length c26_1, .slice A26_2 z26.lv.length c26_2, .int .i64 z26.t.1, .int .i64 z26.t.2.1, .bool z26.t.2.2, .int .i64 z26.pd, .int .i64 z26.x.1, .int .i64 z26.x.2.1, .bool z26.x.2.2.1, .int .i64 z26.x.2.2.2, .bool z26.hl, .slice A26_3 z26.seen.length c26_3] 2 (by rfl) (by kernel_rfl) (fun w => by kernel_rfl) (fun w S => St.pick S [] _ rfl (by decide)) (fun b30 => ?_)
        refine Sx.GT.alone (Sx.Alone.g (.slice a1 (g0 :: gt).length d1) .m3 .m1 (fun w S => St.pick S [] _ rfl (by decide)) ?_)
        refine Sx.GT.pk (.c .m2 (.c .m1 (.c .m0 (.c .m3 (.c .m4 (.c .m5 (.c .m6 (.c .m7 (.c .m8 (.c .m9 .n)))))))))) ?_
        refine Sx.GT.turn (ι := Nat) (p := fun _ => True) (fun H31 => [ow (rPair (Sx.rRo wG) (Sx.rRo wG)) w0.heap.size H31 (z21, z26) [.slice A21_0 z21.prog.length c21_0, .int .i64 z21.a, .int .i64 z21.pc, .slice A21_1 z21.wr.length c21_1, .slice A21_2 z21.lv.length c21_2, .int .i64 z21.t.1, .int .i64 z21.t.2.1, .bool z21.t.2.2, .int .i64 z21.pd, .int .i64 z21.x.1, .int .i64 z21.x.2.1, .bool z21.x.2.2.1, .int .i64 z21.x.2.2.2, .bool z21.hl, .slice A21_3 z21.seen.length c21_3, .slice A26_0 z26.prog.length c26_0, .int .i64 z26.a, .int .i64 z26.pc, .slice A26_1 z26.wr.length c26_1, .slice A26_2 z26.lv.length c26_2, .int .i64 z26.t.1, .int .i64 z26.t.2.1, .bool z26.t.2.2, .int .i64 z26.pd, .int .i64 z26.x.1, .int .i64 z26.x.2.1, .bool z26.x.2.2.1, .int .i64 z26.x.2.2.2, .bool z26.hl, .slice A26_3 z26.seen.length c26_3] (F21 ++ F26), vr b30 [.slice A21_0 z21.prog.length c21_0, .int .i64 z21.a, .int .i64 z21.pc, .slice A21_1 z21.wr.length c21_1, .slice A21_2 z21.lv.length c21_2, .int .i64 z21.t.1, .int .i64 z21.t.2.1, .bool z21.t.2.2, .int .i64 z21.pd, .int .i64 z21.x.1, .int .i64 z21.x.2.1, .bool z21.x.2.2.1, .int .i64 z21.x.2.2.2, .bool z21.hl, .slice A21_3 z21.seen.length c21_3, .slice A26_0 z26.prog.length c26_0, .int .i64 z26.a, .int .i64 z26.pc, .slice A26_1 z26.wr.length c26_1, .slice A26_2 z26.lv.length c26_2, .int .i64 z26.t.1, .int .i64 z26.t.2.1, .bool z26.t.2.2, .int .i64 z26.pd, .int .i64 z26.x.1, .int .i64 z26.x.2.1, .bool z26.x.2.2.1, .int .i64 z26.x.2.2.2, .bool z26.hl, .slice A26_3 z26.seen.length c26_3], vr b3 [.slice a0 m.length d0, .slice a1 (g0 :: gt).length d1, .slice a2 os.length d2, .int .i64 pd], ow (Sx.rRo (rLsw (rLsw rInt))) lo0 hi0 m [.slice a0 m.length d0] F0, ow (rLst 39 (Sx.rRo wG)) lo1 hi1 ((g0 :: gt)) [.slice a1 (g0 :: gt).length d1] F1, ow (rLst 3 rInt) lo2 hi2 os [.slice a2 os.length d2] F2, vr b1 [.slice none 0 0, .slice none 0 0, .slice none 0 0, .int .i64 0], Sx.cu A n c g, Sx.frm w0 w g]) (fun w S => ⟨w.heap.size, trivial, Sx.St.pair S⟩) (fun H31 _ => ?_)
        refine Sx.GT.pk (.c .m4 (.c .m0 (.c .m1 (.c .m2 (.c .m3 (.c .m5 (.c .m6 (.c .m7 (.c .m8 .n))))))))) ?_
        refine Sx.GT.alone (Sx.Alone.appr2 (.tmp 23) (.tmp 28) 27 15 184 2 (by rfl) (by rfl) (by kernel_rfl) (by kernel_rfl) (by rfl) (by kernel_rfl) (by kernel_rfl) (by kernel_rfl) (by simp only [maxLen]; omega) (by omega) ((g0 :: gt) ++ [z21, z26]) (by rfl) ((g0 :: gt) ++ [z21, z26]).length (by simp) (fun A32 c32 F32 hi32 w S => St.pick S [] _ rfl (by decide)) (fun A32 c32 F32 hi32 hm32 => ?_))
        refine Sx.GT.p (.pointer (some ⟨b3, 1, none⟩)) ?_
        refine Sx.GT.alone (Sx.Alone.s (.slice A32 ((g0 :: gt) ++ [z21, z26]).length c32) .a1 .a1 (fun w S => St.pick S [] _ rfl (by decide)) ?_)
        exact Sx.GT.nil (fun a w' hA S => ⟨rfl, none, 0, none, 0, none, 0, none, 0, z21, 0, 0, [], none, 0, none, 0, none, 0, none, 0, z26, 0, 0, [], 0, A32, c32, F32, hi32, (Sx.Ag.and hA (Sx.Ag.and hA (Sx.Ag.none hA) _ _ (by kernel_rfl)) _ _ (by kernel_rfl)), St.pick S [0, 1, 2, 3, 4, 5, 6] _ rfl (by decide), hg21, hg26⟩)
    rintro e a w' ⟨rfl, y33_0, y33_1, y33_2, y33_3, y33_4, y33_5, y33_6, y33_7, y33_8, y33_9, y33_10, y33_11, y33_12, y33_13, y33_14, y33_15, y33_16, y33_17, y33_18, y33_19, y33_20, y33_21, y33_22, y33_23, y33_24, y33_25, y33_26, y33_27, y33_28, hA, S, hky33_8, hky33_20⟩
    refine Sx.E.out ?_ hA S
    clear hA S a w'
    refine Sx.E.block_normal (Sx.E.next (Sx.C.seq (Sx.C.region ?_)))
    refine Sx.G.lw .m1 ?_
    refine Sx.G.sw [.slice a0 m.length d0, .slice y33_25 ((g0 :: gt) ++ [y33_8, y33_20]).length y33_26, .slice a2 os.length d2, .int .i64 pd] .a4 ?_
    refine Sx.G.nil (Sx.E.next (Sx.C.ret ?_))
    refine Sx.E.retc b1 4 [.slice a0 m.length d0, .slice y33_25 ((g0 :: gt) ++ [y33_8, y33_20]).length y33_26, .slice a2 os.length d2, .int .i64 pd] rfl (by kernel_rfl) rfl (by kernel_rfl) (by kernel_rfl) (fun w S => ?_)
    have S4 := St.pick S [2, 0, 3, 5, 6] ([_, _, _] ++ [_, _]) rfl (by decide)
    obtain ⟨FF, S5⟩ := Sx.St.ro (r := wB) (x := ({ mem := m, gs := ((g0 :: gt) ++ [y33_8, y33_20]), outs := os, pd := pd } : bT)) (cs := [.slice a0 m.length d0, .slice y33_25 ((g0 :: gt) ++ [y33_8, y33_20]).length y33_26, .slice a2 os.length d2, .int .i64 pd]) S4 (fun v hv => wB_rd_mk (g := ({ mem := m, gs := ((g0 :: gt) ++ [y33_8, y33_20]), outs := os, pd := pd } : bT)) (Sx.St.rdIn S4 0 rfl hv) (Sx.rdLst_of (r := (Sx.rRo wG)) (q := wG) (fun _ _ _ _ _ h => h) rfl (show rdLst (Sx.rRo wG) v _ _ _ _ from Sx.St.rdIn S4 1 rfl hv)) (Sx.St.rdIn S4 2 rfl hv))
    exact ⟨({ mem := m, gs := ((g0 :: gt) ++ [y33_8, y33_20]), outs := os, pd := pd } : bT), _, _, _, FF, ⟨⟨hD.1, ⟨by have : (g0 :: gt).length ≤ 2 := hg2; simp only [List.length_append, List.length_cons, List.length_nil] at this ⊢; omega, fun q hq => by rcases List.mem_append.1 hq with h | h; exact hD.2.1.2 q h; simp only [List.mem_cons, List.not_mem_nil, or_false] at h; rcases h with h | h; rw [h]; exact hky33_8; rw [h]; exact hky33_20⟩, hD.2.2.1, hD.2.2.2⟩, by show os.length ≤ 45; omega⟩, Sx.Drawn.made hb0 (St.pick S5 [1, 2, 0] _ rfl (by decide))⟩
  ·
   have hb6 := hc6
   refine Sx.C.yes (by kernel_rfl) (by kernel_rfl) ?_
   refine Sx.C.turn (ι := List Nat) (p := fun _ => True) (fun FW => [vr b3 [.slice a0 m.length d0, .slice a1 (g0 :: gt).length d1, .slice a2 os.length d2, .int .i64 pd], ow (Sx.rRo (rLsw (rLsw rInt))) lo0 hi0 m [.slice a0 m.length d0] F0, ow (rLsw (Sx.rRo wG)) lo1 hi1 (g0 :: gt) [.slice a1 (g0 :: gt).length d1] FW, ow (rLst 3 rInt) lo2 hi2 os [.slice a2 os.length d2] F2, vr b1 [.slice none 0 0, .slice none 0 0, .slice none 0 0, .int .i64 0], Sx.cu A n c g, Sx.frm w0 w g]) (fun w S => by obtain ⟨F', S⟩ := St.weak S 2 rfl; exact ⟨F', trivial, S⟩) (fun FW _ => ?_)
   refine Sx.C.pk (.c .m2 (.c .m0 (.c .m1 (.c .m3 (.c .m4 (.c .m5 (.c .m6 .n))))))) ?_
   refine Sx.C.open (r := (Sx.rRo wG)) (pre := []) (x := g0) (post := gt) rfl (by decide) (fun b off es G1 Gi G2 eA eF hes hm hmc => ?_)
   subst eA eF
   refine Sx.C.know (p := ∃ P0 P1 P2 P3, es = [P0, .int .i64 g0.a, .int .i64 g0.pc, P1, P2, .int .i64 g0.t.1, .int .i64 g0.t.2.1, .bool g0.t.2.2, .int .i64 g0.pd, .int .i64 g0.x.1, .int .i64 g0.x.2.1, .bool g0.x.2.2.1, .int .i64 g0.x.2.2.2, .bool g0.hl, P3]) (fun w S => by obtain ⟨P0, P1, P2, P3, e, -⟩ := wG_rd (((Sx.rRo wG)).reads (St.at_ S 1 rfl).1); exact ⟨P0, P1, P2, P3, e⟩) ?_
   rintro ⟨P0, P1, P2, P3, rfl⟩
   refine Sx.C.draw (.take 0 (.take 1 (.take 2 (.alone 3 (.take 4 (.alone 5 .nil)))))) [vr b3 [.slice a0 m.length d0, .slice (some ⟨b, off, none⟩) (g0 :: gt).length d1, .slice a2 os.length d2, .int .i64 pd]] (fun w S => St.pick S [2] _ rfl (by decide)) (by kernel_rfl) (by kernel_rfl) (by kernel_rfl) ?_
   refine Sx.GT.p (.pointer (some ⟨b3, 1, none⟩)) ?_
   refine Sx.GT.g (.slice (some ⟨b, off, none⟩) (g0 :: gt).length d1) .m0 .m1 ?_
   refine Sx.GT.p (.pointer (some ⟨g, 0, none⟩)) ?_
   refine Sx.GT.alone (Sx.Alone.c 33 #[.pointer (some ⟨g, 0, none⟩)] (fun w34 S => (kd_gany w0 A n c g _ hn hcode (Sx.St.cur S 6 rfl)).mono fun e w34' hp => ?_))
   obtain ⟨z34, cs34, lo34, hi34, F34, hg34, rfl, hcur, hgr, hfr⟩ := hp
   obtain ⟨P34_0, P34_1, P34_2, P34_3, e34, f34_0, f34_1, f34_2, f34_3⟩ := wG_rd ((Sx.rRo wG).reads (hfr.says 0 _ rfl).1)
   subst e34
   obtain ⟨A34_0, c34_0, e34_0, -⟩ := lst_val f34_0
   subst e34_0
   obtain ⟨A34_1, c34_1, e34_1, -⟩ := lst_val f34_1
   subst e34_1
   obtain ⟨A34_2, c34_2, e34_2, -⟩ := lst_val f34_2
   subst e34_2
   obtain ⟨A34_3, c34_3, e34_3, -⟩ := lst_val f34_3
   subst e34_3
   refine ⟨_, _, rfl, Sx.St.joinD S (Sx.St.moved S 6 rfl hcur hgr) hfr, (fun w S => St.pick S [3] _ rfl (by decide)), ?_⟩
   clear S hcur hgr hfr f34_0 f34_1 f34_2 f34_3
   refine Sx.GT.elem 27 39 (.tmp 16) (.const (.int .i64 0)) 15 184 b off (g0 :: gt).length d1 0 4 (by rfl) (by rfl) (by kernel_rfl) (by kernel_rfl) (by kernel_rfl) (by kernel_rfl) (by omega) ?_
   refine Sx.GT.alone (Sx.Alone.hsto (k := 0) (size := 15) 39 (.tmp 19) (.tmp 18) b ((off + 0 * 15) + 0) 0 1 [.slice A34_0 z34.prog.length c34_0, .int .i64 z34.a, .int .i64 z34.pc, .slice A34_1 z34.wr.length c34_1, .slice A34_2 z34.lv.length c34_2, .int .i64 z34.t.1, .int .i64 z34.t.2.1, .bool z34.t.2.2, .int .i64 z34.pd, .int .i64 z34.x.1, .int .i64 z34.x.2.1, .bool z34.x.2.2.1, .int .i64 z34.x.2.2.2, .bool z34.hl, .slice A34_3 z34.seen.length c34_3] [.slice A34_0 z34.prog.length c34_0, .int .i64 z34.a, .int .i64 z34.pc, .slice A34_1 z34.wr.length c34_1, .slice A34_2 z34.lv.length c34_2, .int .i64 z34.t.1, .int .i64 z34.t.2.1, .bool z34.t.2.2, .int .i64 z34.pd, .int .i64 z34.x.1, .int .i64 z34.x.2.1, .bool z34.x.2.2.1, .int .i64 z34.x.2.2.2, .bool z34.hl, .slice A34_3 z34.seen.length c34_3] [ow (Sx.rRo wG) lo34 hi34 z34 [.slice A34_0 z34.prog.length c34_0, .int .i64 z34.a, .int .i64 z34.pc, .slice A34_1 z34.wr.length c34_1, .slice A34_2 z34.lv.length c34_2, .int .i64 z34.t.1, .int .i64 z34.t.2.1, .bool z34.t.2.2, .int .i64 z34.pd, .int .i64 z34.x.1, .int .i64 z34.x.2.1, .bool z34.x.2.2.1, .int .i64 z34.x.2.2.2, .bool z34.hl, .slice A34_3 z34.seen.length c34_3] F34, Sx.hole (Sx.rRo wG) b off lo1 hi1 [] gt [.slice A34_0 z34.prog.length c34_0, .int .i64 z34.a, .int .i64 z34.pc, .slice A34_1 z34.wr.length c34_1, .slice A34_2 z34.lv.length c34_2, .int .i64 z34.t.1, .int .i64 z34.t.2.1, .bool z34.t.2.2, .int .i64 z34.pd, .int .i64 z34.x.1, .int .i64 z34.x.2.1, .bool z34.x.2.2.1, .int .i64 z34.x.2.2.2, .bool z34.hl, .slice A34_3 z34.seen.length c34_3] G1 G2, ow (Sx.rRo wG) lo1 hi1 g0 [P0, .int .i64 g0.a, .int .i64 g0.pc, P1, P2, .int .i64 g0.t.1, .int .i64 g0.t.2.1, .bool g0.t.2.2, .int .i64 g0.pd, .int .i64 g0.x.1, .int .i64 g0.x.2.1, .bool g0.x.2.2.1, .int .i64 g0.x.2.2.2, .bool g0.hl, P3] Gi, vr b3 [.slice a0 m.length d0, .slice (some ⟨b, off, none⟩) (g0 :: gt).length d1, .slice a2 os.length d2, .int .i64 pd], ow (Sx.rRo (rLsw (rLsw rInt))) lo0 hi0 m [.slice a0 m.length d0] F0, ow (rLst 3 rInt) lo2 hi2 os [.slice a2 os.length d2] F2, vr b1 [.slice none 0 0, .slice none 0 0, .slice none 0 0, .int .i64 0], Sx.cu A n c g, Sx.frm w0 w g] (by rfl) (by rfl) (by kernel_rfl) (by kernel_rfl) (by kernel_rfl) (by rfl) (by rfl) (by rfl) (by rfl) (by rfl) (by rfl) (by kernel_rfl) (by kernel_rfl) (by kernel_rfl) (fun w S => St.pick S [3] _ rfl (by decide)) ?_)
   refine Sx.GT.nil (Sx.E.block_normal (Sx.E.next (Sx.C.seq (Sx.C.region ?_))))
   refine Sx.G.lw .m3 ?_
   refine Sx.G.sw [.slice a0 m.length d0, .slice (some ⟨b, off, none⟩) (g0 :: gt).length d1, .slice a2 os.length d2, .int .i64 pd] .a6 ?_
   refine Sx.G.nil (Sx.E.next (Sx.C.ret ?_))
   refine Sx.E.retc b1 6 [.slice a0 m.length d0, .slice (some ⟨b, off, none⟩) (g0 :: gt).length d1, .slice a2 os.length d2, .int .i64 pd] rfl (by kernel_rfl) rfl (by kernel_rfl) (by kernel_rfl) (fun w S => ?_)
   have S2 := St.pick S [1, 0, 4, 5, 7, 8] [_, _, _, _, _, _] rfl (by decide)
   replace S := Sx.St.closeW S2 (by decide) ((g0 :: gt).length) _ rfl hmc
   have S4 := St.pick S [1, 0, 2, 3, 4] ([_, _, _] ++ [_, _]) rfl (by decide)
   obtain ⟨FF, S5⟩ := Sx.St.ro (r := wB) (x := ({ mem := m, gs := (z34 :: gt), outs := os, pd := pd } : bT)) (cs := [.slice a0 m.length d0, .slice (some ⟨b, off, none⟩) (g0 :: gt).length d1, .slice a2 os.length d2, .int .i64 pd]) S4 (fun v hv => wB_rd_mk (g := ({ mem := m, gs := (z34 :: gt), outs := os, pd := pd } : bT)) (Sx.St.rdIn S4 0 rfl hv) (Sx.rdLst_of (r := (Sx.rRo wG)) (q := wG) (fun _ _ _ _ _ h => h) rfl (show rdLst (Sx.rRo wG) v _ _ _ _ from Sx.St.rdIn S4 1 rfl hv)) (Sx.St.rdIn S4 2 rfl hv))
   exact ⟨({ mem := m, gs := (z34 :: gt), outs := os, pd := pd } : bT), _, _, _, FF, ⟨⟨hD.1, ⟨hD.2.1.1, fun q hq => by rcases List.mem_cons.1 hq with h | h; rw [h]; exact hg34; exact hD.2.1.2 q (List.mem_cons_of_mem _ h)⟩, hD.2.2.1, hD.2.2.2⟩, by show os.length ≤ 45; omega⟩, Sx.Drawn.made hb0 (St.pick S5 [1, 2, 0] _ rfl (by decide))⟩
 ·
  have hb5 := hc5
  refine Sx.C.yes (by kernel_rfl) (by kernel_rfl) ?_
  refine Sx.C.region ?_
  refine Sx.G.p (.pointer (some ⟨g, 0, none⟩)) ?_
  refine Sx.G.c 68 #[.pointer (some ⟨g, 0, none⟩)] (fun w35 S => (kd_anymem w0 A n c g _ hn hcode (Sx.St.cur S 5 rfl)).mono fun e w35' hp => ?_)
  obtain ⟨l35, a35, b35, lo35, hi35, F35, hg35, rfl, hcur, hgr, hfr⟩ := hp
  refine ⟨_, _, rfl, Sx.St.joinD S (Sx.St.moved S 5 rfl hcur hgr) hfr, ?_⟩
  clear S hcur hgr hfr
  refine Sx.G.p (.pointer (some ⟨b3, 0, none⟩)) ?_
  refine Sx.G.s (.slice a35 l35.length b35) .a1 .a0 ?_
  refine Sx.G.nil (Sx.E.block_normal (Sx.E.next (Sx.C.seq (Sx.C.region ?_))))
  refine Sx.G.lw .m1 ?_
  refine Sx.G.sw [.slice a35 l35.length b35, .slice a1 (g0 :: gt).length d1, .slice a2 os.length d2, .int .i64 pd] .a5 ?_
  refine Sx.G.nil (Sx.E.next (Sx.C.ret ?_))
  refine Sx.E.retc b1 5 [.slice a35 l35.length b35, .slice a1 (g0 :: gt).length d1, .slice a2 os.length d2, .int .i64 pd] rfl (by kernel_rfl) rfl (by kernel_rfl) (by kernel_rfl) (fun w S => ?_)
  have S4 := St.pick S [0, 3, 4, 6, 7] ([_, _, _] ++ [_, _]) rfl (by decide)
  obtain ⟨FF, S5⟩ := Sx.St.ro (r := wB) (x := ({ mem := l35, gs := (g0 :: gt), outs := os, pd := pd } : bT)) (cs := [.slice a35 l35.length b35, .slice a1 (g0 :: gt).length d1, .slice a2 os.length d2, .int .i64 pd]) S4 (fun v hv => wB_rd_mk (g := ({ mem := l35, gs := (g0 :: gt), outs := os, pd := pd } : bT)) (Sx.St.rdIn S4 0 rfl hv) (Sx.rdLst_of (r := (Sx.rRo wG)) (q := wG) (fun _ _ _ _ _ h => h) rfl (show rdLst (Sx.rRo wG) v _ _ _ _ from Sx.St.rdIn S4 1 rfl hv)) (Sx.St.rdIn S4 2 rfl hv))
  exact ⟨({ mem := l35, gs := (g0 :: gt), outs := os, pd := pd } : bT), _, _, _, FF, ⟨⟨hg35, hD.2.1, hD.2.2.1, hD.2.2.2⟩, by show os.length ≤ 45; omega⟩, Sx.Drawn.made hb0 (St.pick S5 [1, 2, 0] _ rfl (by decide))⟩
end Go.Proofs.YtldgadmpclgfhaaGreat.Kit
