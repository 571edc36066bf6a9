/-
  For every slice of bytes the law FnTrapped returns true: what is put out goes out or to the hypervisor, as the control block says, and never both. No condition.
-/
import Derived.Test.YtmiokacihcpepaaGreatFnTrappedB4
namespace Go.Proofs.YtmiokacihcpepaaGreat.fnTrapped
set_option maxHeartbeats 8000000
set_option maxRecDepth 100000
set_option maxRecDepth 100000
open Go.ChangeShapes Go.WideShapes Go.ChangeAt Go.RowKit
open Go.Proofs.YtmiokacihcpepaaGreat.Base Go.Proofs.YtmiokacihcpepaaGreat.Mem Go.Proofs.YtmiokacihcpepaaGreat.Data Go.Proofs.YtmiokacihcpepaaGreat.Slots Go.Proofs.YtmiokacihcpepaaGreat.Ints Go.Proofs.YtmiokacihcpepaaGreat.Ctls Go.Proofs.YtmiokacihcpepaaGreat.Exits Go.Proofs.YtmiokacihcpepaaGreat.Stt Go.Proofs.YtmiokacihcpepaaGreat.Irqs Go.Proofs.YtmiokacihcpepaaGreat.Inss Go.Proofs.YtmiokacihcpepaaGreat.Draw Go.Proofs.YtmiokacihcpepaaGreat.Guests Go.Proofs.YtmiokacihcpepaaGreat.Kit
set_option linter.unusedVariables false
set_option linter.unusedSimpArgs false
theorem n_1 : (Lit.int .i64 1).wf = true := by decide
theorem n_3 : (Lit.int .i64 3).wf = true := by decide
theorem n_4 : (Lit.int .i64 4).wf = true := by decide
theorem n_5 : (Lit.int .i64 5).wf = true := by decide
theorem n_6 : (Lit.int .i64 6).wf = true := by decide
theorem n_7 : (Lit.int .i64 7).wf = true := by decide
theorem wf_small {l : List Int} (hl : l.length ≤ 100) (h : l.all (fun x => decide (-100 ≤ x) && decide (x ≤ 100)) = true) : (rLsw rInt).wf l := ⟨Nat.le_trans hl (by decide), fun x hx => by
 have := List.all_eq_true.1 h x hx
 simp only [Bool.and_eq_true, decide_eq_true_eq] at this
 exact wfI.2 (by omega)⟩
def trG (q : Int) : gT := newG [(5, q), (7, 0)]
def trM (q tr : Int) : bT := { newB [[(5, q), (7, 0)]] with gs := [{ trG q with t := (tr, (trG q).t.2) }] }
def trX : Nat → Int → QT
 | 0, _ => (0, 0, false, 0)
 | 2, _ => (0, 0, false, 0)
 | _, q => (3, 0, false, q)
def trN : Nat → Nat
 | 0 => 1
 | 2 => 1
 | _ => 0
def trC (q : Int) (k : Nat) : Bool := noB (trM q (k : Int)) 0 && (stepB (trM q (k : Int)) 0).2 && decide ((stepB (trM q (k : Int)) 0).1.outs.length = trN k) && decide ((guestAt (stepB (trM q (k : Int)) 0).1 0).1.x = trX k q)
theorem tr_all : ∀ q : Fin 100, ∀ k : Fin 4, trC (q.val : Int) k.val = true := by decide +kernel
theorem wf_two {a b : Int × Int} (ha : (Lit.int .i64 a.1).wf = true ∧ (Lit.int .i64 a.2).wf = true) (hb : (Lit.int .i64 b.1).wf = true ∧ (Lit.int .i64 b.2).wf = true) : Inss.wfJL [a, b] ∧ [a, b].length ≤ 20 :=
 ⟨fun s hs => by simp only [List.mem_cons, List.not_mem_nil, or_false] at hs; rcases hs with rfl | rfl; exact ha; exact hb, by simp⟩
theorem one_gs {m : bT} {g x : gT} (h : m.gs = [g]) (hm : wB.wf m) (hc : wB.cap m) (hx : wfGuest x) (hcx : wG.cap x) : wB.wf { m with gs := [x] } ∧ wB.cap { m with gs := [x] } :=
 ⟨⟨hm.1, ⟨by simp [maxLen], fun y hy => by rw [List.mem_singleton.1 hy]; exact hx⟩, hm.2.2⟩, ⟨hc.1, ⟨by simp, fun y hy => by rw [List.mem_singleton.1 hy]; exact hcx⟩, hc.2.2⟩⟩
theorem set_t {g : gT} (tr : Int) (h : wfGuest g) (hc : wG.cap g) (ht : (Lit.int .i64 tr).wf = true) : wfGuest { g with t := (tr, g.t.2) } ∧ wG.cap { g with t := (tr, g.t.2) } :=
 ⟨⟨h.1, h.2.1, h.2.2.1, h.2.2.2.1, h.2.2.2.2.1, ⟨ht, h.2.2.2.2.2.1.2⟩, h.2.2.2.2.2.2⟩, hc⟩
theorem trM_ok (q k : Nat) (hq : q < 100) (hk : k < 4) : wB.wf (trM (q : Int) (k : Int)) ∧ wB.cap (trM (q : Int) (k : Int)) := by
 have hw : ∀ p ∈ [[(5, (q : Int)), (7, 0)]], Inss.wfJL p ∧ p.length ≤ 20 := fun p hp => by
  rw [List.mem_singleton.1 hp]
  exact wf_two ⟨n_5, wfN q (by omega)⟩ ⟨n_7, z0⟩
 have h1 := wf_newB hw
 have h2 := cap_newB (cap_prgs hw (by simp))
 have h3 : wfGuest (trG (q : Int)) := h1.2.1.2 (trG (q : Int)) (by simp [newB, trG])
 have h4 : wG.cap (trG (q : Int)) := h2.2.1.2 (trG (q : Int)) (by simp [newB, trG])
 have h5 := set_t (k : Int) h3 h4 (wfN k (by omega))
 exact one_gs (m := newB [[(5, (q : Int)), (7, 0)]]) (g := trG (q : Int)) rfl h1 h2 h5.1 h5.2
theorem walk (A : Option Addr) (n c : Nat) (hn : n ≤ maxLen) {w : World} (hcode : CodeAt w A n) :
  Calls Tryz.prog 6 #[.slice A n c] w fun e w' => e = .returned (.bool true) ∧ Below w.heap.size w w' := by
 replace hn : n ≤ 9223372036854775807 := hn
 by_cases h1 : 1048576 < n
 ·
  refine Sx.enter (args := [.slice A n c]) Tryz.func6 rfl Tryz.ntmps6 rfl ?_
  refine Sx.C.seq (Sx.C.region ?_)
  refine Sx.G.p (.bool false) ?_
  refine Sx.G.nil (Sx.E.next (Sx.C.seq (Sx.C.seq (Sx.C.region ?_))))
  refine Sx.G.p (.slice A n c) ?_
  refine Sx.G.cp 9 #[.slice A n c] (.bool true) (fun w S => by exact ((big_yes A n c _ hn h1).mono fun e w' h => And.intro h.1 (below_eq h.2))) ?_
  refine Sx.G.nil (Sx.E.next (Sx.C.yy (Sx.C.seq (Sx.C.region ?_))))
  refine Sx.G.p (.bool true) ?_
  refine Sx.G.nil (Sx.E.next (Sx.C.ret (Sx.E.then_ret ?_)))
  refine Sx.E.ret1 (.bool true) rfl (by kernel_rfl) (fun w S => ?_)
  exact ⟨rfl, S.below⟩
 ·
  have hn2 : n ≤ 1048576 := by omega
  refine Sx.enter (args := [.slice A n c]) Tryz.func6 rfl Tryz.ntmps6 rfl ?_
  refine Sx.C.seq (Sx.C.region ?_)
  refine Sx.G.p (.bool false) ?_
  refine Sx.G.nil (Sx.E.next (Sx.C.seq (Sx.C.seq (Sx.C.region ?_))))
  refine Sx.G.p (.slice A n c) ?_
  refine Sx.G.cp 9 #[.slice A n c] (.bool false) (fun w S => by exact ((big_no A n c _ hn2).mono fun e w' h => And.intro h.1 (below_eq h.2))) ?_
  refine Sx.G.nil (Sx.E.next (Sx.C.nn (Sx.C.skip (Sx.E.next (Sx.C.seq (Sx.C.region ?_))))))
  refine Sx.G.p (.slice A n c) ?_
  refine Sx.G.c 29 #[.slice A n c] (fun w1 S => (places_any A n c _ hn2 (hcode.below S.below)).mono fun e w1' hp => ?_)
  obtain ⟨gp, cp, l, rfl, hl, hall, hown, hb⟩ := hp
  have hl0 : ∀ x ∈ l, 0 ≤ x := fun x hx => (hall x hx).1
  obtain ⟨hv1, hv2, hv3⟩ := Sx.row_vr hown
  obtain ⟨p0, hp0, hq0⟩ := rem_nat hl0 0 100 (by decide)
  obtain ⟨p1, hp1, hq1⟩ := rem_nat hl0 1 4 (by decide)
  refine ⟨_, _, rfl, (S.add hb (vr gp (Stt.icells l)) hv1 hv2 hv3), ?_⟩
  clear S hb hv1 hv2 hv3 hown hall
  refine Sx.G.p (.slice (some ⟨gp, 0, none⟩) 12 cp) ?_
  refine Sx.G.nil (Sx.E.next (Sx.C.seq ?_))
  rcases (show p1 = 0 ∨ p1 = 1 ∨ p1 = 2 ∨ p1 = 3 by omega) with rfl | rfl | rfl | rfl
  ·
   have hprg : ∀ p ∈ [[(5, (p0 : Int)), (7, 0)]], Inss.wfJL p ∧ p.length ≤ 20 := fun p hp => by rw [List.mem_singleton.1 hp]; exact wf_two ⟨n_5, wfN p0 (by omega)⟩ ⟨n_7, z0⟩
   obtain ⟨M0, hM⟩ : ∃ M, M = (newB [[(5, (p0 : Int)), (7, 0)]]).mem := ⟨_, rfl⟩
   have hM0 : (newB [[(5, (p0 : Int)), (7, 0)]]).mem = M0 := hM.symm
   obtain ⟨g0, hg0⟩ : ∃ g, g = trG (p0 : Int) := ⟨_, rfl⟩
   have hgs : (newB [[(5, (p0 : Int)), (7, 0)]]).gs = [g0] := by rw [hg0]; rfl
   have hos : (newB [[(5, (p0 : Int)), (7, 0)]]).outs = [] := rfl
   obtain ⟨m1, hm1⟩ : ∃ m, m = trM (p0 : Int) ((0 : Nat) : Int) := ⟨_, rfl⟩
   have hpt : m1 = ({ mem := M0, gs := [{ g0 with t := (0, g0.t.2) }], outs := [], pd := 0 } : bT) := by rw [hm1, hM, hg0]; rfl
   have hok := trM_ok p0 0 hp0 (by decide)
   rw [← hm1] at hok
   have hmc := hok.2
   have hmn := hok.1
   have hall := tr_all ⟨p0, hp0⟩ ⟨0, by decide⟩
   unfold trC at hall
   rw [← hm1] at hall
   obtain ⟨z, hz⟩ : ∃ z, z = (stepB m1 0).1 := ⟨_, rfl⟩
   rw [← hz] at hall
   simp only [Bool.and_eq_true, decide_eq_true_eq] at hall
   obtain ⟨⟨⟨hno, ht⟩, hln0⟩, hx00⟩ := hall
   have hln : z.outs.length = 1 := hln0
   have hx0 : (guestAt z 0).1.x = (0, 0, false, 0) := hx00
   have hz2 : stepB m1 0 = (z, true) := by rw [hz, ← ht]
   have hzc : wB.cap z := hz ▸ cap_stepB _ hmc
   have hzn : wB.wf z := hz ▸ wf_stepB _ hmn
   clear hln0 hx00 ht hok
   refine Sx.C.region ?_
   refine Sx.G.p (.slice (some ⟨gp, 0, none⟩) 12 cp) ?_
   refine Sx.G.pure (.pointer (some ⟨gp, 0 + 0 * 1, none⟩)) (by kernel_rfl) (fun w => Sx.run_elemO 3 1 8 gp 0 12 cp 0 rfl (by kernel_rfl) (by kernel_rfl) (by kernel_rfl) (by omega) w) ?_
   refine Sx.G.reads (.int .i64 (l.getD 0 0)) (by kernel_rfl) (fun w S => Sx.run_ldr1 rfl (by kernel_rfl) (by kernel_rfl) (show w.cell? ⟨gp, 0 + 0 * 1, none⟩ = some (.int .i64 (l.getD 0 0)) by rw [Nat.zero_add, Nat.mul_one]; exact St.cell S 0 rfl 0 (pl_cell l 0 (by omega)))) ?_
   refine Sx.G.q (.int .i64 ((l.getD 0 0).tmod 100)) (.int .i64 (p0 : Int)) (congrArg (Value.int .i64) hq0) ?_
   refine Sx.G.p (.agg #[.int .i64 5, .int .i64 (p0 : Int)]) ?_
   refine Sx.G.p (.agg #[.int .i64 7, .int .i64 0]) ?_
   refine Sx.G.made 48 [.int .i64 5, .int .i64 (p0 : Int), .int .i64 7, .int .i64 0] 2 (by kernel_rfl) (fun w => by kernel_rfl) (fun b2 => ?_)
   refine Sx.G.block 49 [.slice (some ⟨b2, 0, none⟩) 2 2] 1 (by kernel_rfl) (fun w => by kernel_rfl) (fun b3 => ?_)
   refine Sx.G.c 25 #[.slice (some ⟨b3, 0, none⟩) 1 1] (fun w4 S => (specx_bnew [[(5, (p0 : Int)), (7, 0)]] (some ⟨b3, 0, none⟩) 1 _ (cap_prgs hprg (by simp)) (bk_lst (r := rLsw (rPair rInt rInt)) (xs := [[(5, (p0 : Int)), (7, 0)]]) S 0 rfl ⟨[_], _, rfl, (vr_prog (p := [(5, (p0 : Int)), (7, 0)]) S 1 rfl), rfl⟩)).mono fun e w4' hp => ?_)
   obtain ⟨cs, F, rfl, ho, hF, hb⟩ := hp
   obtain ⟨P4_0, P4_1, P4_2, G4_0, G4_1, G4_2, rfl, S'⟩ := rB_open (St.got S hb ho hF)
   rw [hM0, hgs, hos] at S'
   obtain ⟨A4_0, c4_0, e4_0, -⟩ := lst_val (S'.reads 0 rfl)
   subst e4_0
   obtain ⟨A4_1, c4_1, e4_1, -⟩ := lst_val (S'.reads 1 rfl)
   subst e4_1
   obtain ⟨A4_2, c4_2, e4_2, -⟩ := lst_val (S'.reads 2 rfl)
   subst e4_2
   refine ⟨_, _, rfl, S', ?_⟩
   clear S S' ho hF hb
   refine Sx.G.ar [.slice none 0 0, .slice none 0 0, .slice none 0 0, .int .i64 0] (fun b5 => ?_)
   refine Sx.G.sw [.slice A4_0 M0.length c4_0, .slice A4_1 1 c4_1, .slice A4_2 0 c4_2, .int .i64 0] .a0 ?_
   refine Sx.G.nil (Sx.E.next (Sx.C.seq ?_))
   refine Sx.C.pk (.c .m2 (.c .m0 (.c .m1 (.c .m3 (.c .m4 (.c .m5 (.c .m6 .n))))))) ?_
   refine Sx.C.open (r := wG) (pre := []) (x := g0) (post := []) rfl (by decide) (fun b6 o6 es G16 Gi6 G26 eA eF hes hm hmc6 => ?_)
   subst eA eF
   refine Kit.copen_Guest (fun P6_0 P6_1 P6_2 P6_3 H6_0 H6_1 H6_2 H6_3 e1 e2 => ?_)
   subst e1 e2
   refine Sx.C.draw (.take 0 (.take 1 (.take 2 (.take 3 (.take 4 (.take 5 (.take 6 (.take 7 (.take 8 (.alone 9 .nil)))))))))) [vr b5 [.slice A4_0 M0.length c4_0, .slice (some ⟨b6, o6, none⟩) 1 c4_1, .slice A4_2 0 c4_2, .int .i64 0], vr gp (Stt.icells l)] (fun w S => St.pick S [5, 10] _ rfl (by decide)) (by kernel_rfl) (by kernel_rfl) (by kernel_rfl) ?_
   refine Sx.GT.p (.pointer (some ⟨b5, 1, none⟩)) ?_
   refine Sx.GT.g (.slice (some ⟨b6, o6, none⟩) 1 c4_1) .m0 .m1 ?_
   refine Sx.GT.p (.slice (some ⟨gp, 0, none⟩) 12 cp) ?_
   refine Sx.GT.pure (.pointer (some ⟨gp, 0 + 1 * 1, none⟩)) 3 (by rfl) (by kernel_rfl) (fun w => Sx.run_elemO 3 1 8 gp 0 12 cp 1 rfl (by kernel_rfl) (by kernel_rfl) (by kernel_rfl) (by omega) w) ?_
   refine Sx.GT.reads (.int .i64 (l.getD 1 0)) 4 (by rfl) (by kernel_rfl) (fun w S => Sx.run_ldr1 rfl (by kernel_rfl) (by kernel_rfl) (show w.cell? ⟨gp, 0 + 1 * 1, none⟩ = some (.int .i64 (l.getD 1 0)) by rw [Nat.zero_add, Nat.mul_one]; exact St.cell S 1 rfl 1 (pl_cell l 1 (by omega)))) ?_
   refine Sx.GT.q (.int .i64 ((l.getD 1 0).tmod 4)) (.int .i64 0) (congrArg (Value.int .i64) hq1) ?_
   refine Sx.GT.elem 25 56 (.tmp 23) (.const (.int .i64 0)) 15 184 b6 o6 1 c4_1 0 6 (by rfl) (by rfl) (by kernel_rfl) (by kernel_rfl) (by kernel_rfl) (by kernel_rfl) (by omega) ?_
   refine Sx.GT.p (.pointer (some ⟨b6, (o6 + 0 * 15) + 5, none⟩)) ?_
   refine Sx.GT.p (.pointer (some ⟨b6, (o6 + 0 * 15) + 5, none⟩)) ?_
   refine Sx.GT.alone (Sx.Alone.hsto (k := 0) (size := 15) 3 (.tmp 30) (.tmp 27) b6 ((o6 + 0 * 15) + 5) 5 0 [.int .i64 0] [P6_0, .int .i64 g0.a, .int .i64 g0.pc, P6_1, P6_2, .int .i64 0, .int .i64 g0.t.2.1, .bool g0.t.2.2, .int .i64 g0.pd, .int .i64 g0.x.1, .int .i64 g0.x.2.1, .bool g0.x.2.2.1, .int .i64 g0.x.2.2.2, .bool g0.hl, P6_3] [Sx.hole wG b6 o6 w4.heap.size w4'.heap.size [] [] [P6_0, .int .i64 g0.a, .int .i64 g0.pc, P6_1, P6_2, .int .i64 0, .int .i64 g0.t.2.1, .bool g0.t.2.2, .int .i64 g0.pd, .int .i64 g0.x.1, .int .i64 g0.x.2.1, .bool g0.x.2.2.1, .int .i64 g0.x.2.2.2, .bool g0.hl, P6_3] G16 G26, ow (rLsw (rPair rInt rInt)) w4.heap.size w4'.heap.size g0.prog [P6_0] H6_0, ow (rLsw (rPair rInt rInt)) w4.heap.size w4'.heap.size g0.wr [P6_1] H6_1, ow (rLsw (rPair rInt rInt)) w4.heap.size w4'.heap.size g0.lv [P6_2] H6_2, ow (rLsw rInt) w4.heap.size w4'.heap.size g0.seen [P6_3] H6_3, vr b5 [.slice A4_0 M0.length c4_0, .slice (some ⟨b6, o6, none⟩) 1 c4_1, .slice A4_2 0 c4_2, .int .i64 0], ow (rLsw (rLsw rInt)) w4.heap.size w4'.heap.size M0 [.slice A4_0 M0.length c4_0] G4_0, ow (rLst 3 rInt) w4.heap.size (w4'.heap.size) (([] : List Int)) [.slice A4_2 0 c4_2] G4_2, Sx.bk b3 [.slice (some ⟨b2, 0, none⟩) 2 2] 49, vr b2 [.int .i64 5, .int .i64 (p0 : Int), .int .i64 7, .int .i64 0], vr gp (Stt.icells l)] (by rfl) (by rfl) (by kernel_rfl) (by kernel_rfl) (by kernel_rfl) (by rfl) (by rfl) (by rfl) (by rfl) (by rfl) (by rfl) (by kernel_rfl) (by kernel_rfl) (by kernel_rfl) (fun w S => St.pick S [5, 10] _ rfl (by decide)) ?_)
   refine Sx.GT.nil (Sx.E.next (Sx.C.seq ?_))
   refine Sx.C.turn (ι := List Nat) (p := fun _ => True) (fun Z6 => [ow (rLsw wG) w.heap.size (max w4'.heap.size w4'.heap.size) [({ g0 with t := (0, g0.t.2) } : gT)] [.slice (some ⟨b6, o6, none⟩) 1 c4_1] Z6, vr b5 [.slice A4_0 M0.length c4_0, .slice (some ⟨b6, o6, none⟩) 1 c4_1, .slice A4_2 0 c4_2, .int .i64 0], ow (rLsw (rLsw rInt)) w4.heap.size w4'.heap.size M0 [.slice A4_0 M0.length c4_0] G4_0, ow (rLst 3 rInt) w4.heap.size (w4'.heap.size) (([] : List Int)) [.slice A4_2 0 c4_2] G4_2, Sx.bk b3 [.slice (some ⟨b2, 0, none⟩) 2 2] 49, vr b2 [.int .i64 5, .int .i64 (p0 : Int), .int .i64 7, .int .i64 0], vr gp (Stt.icells l)]) (fun w' S => by
    have S2 := St.pick S [0, 1, 2, 3, 4, 5, 6, 7, 8, 9, 10] (_ :: _ :: _ :: _ :: _ :: [vr b5 [.slice A4_0 M0.length c4_0, .slice (some ⟨b6, o6, none⟩) 1 c4_1, .slice A4_2 0 c4_2, .int .i64 0], ow (rLsw (rLsw rInt)) w4.heap.size w4'.heap.size M0 [.slice A4_0 M0.length c4_0] G4_0, ow (rLst 3 rInt) w4.heap.size (w4'.heap.size) (([] : List Int)) [.slice A4_2 0 c4_2] G4_2, Sx.bk b3 [.slice (some ⟨b2, 0, none⟩) 2 2] 49, vr b2 [.int .i64 5, .int .i64 (p0 : Int), .int .i64 7, .int .i64 0], vr gp (Stt.icells l)]) rfl (by decide)
    have S4 := Kit.cshut_Guest (g := ({ g0 with t := (0, g0.t.2) } : gT)) S2
    have S5 := Sx.St.closeW S4 (by decide) 1 _ rfl hmc6
    exact ⟨_, trivial, S5⟩) (fun Z6 _ => ?_)
   refine Sx.C.region ?_
   refine Sx.G.lw .m1 ?_
   refine Sx.G.c 11 #[.agg #[.slice A4_0 M0.length c4_0, .slice (some ⟨b6, o6, none⟩) 1 c4_1, .slice A4_2 0 c4_2, .int .i64 0], .int .i64 0] (fun w7 S => (((implx_step m1 _ 0 _ hmc (by rw [hpt]; exact wB_rd_mk (g := ({ mem := M0, gs := [{ g0 with t := (0, g0.t.2) }], outs := [], pd := 0 } : bT)) (St.reads S 2 rfl) (St.reads S 0 rfl) (show rdLst rInt _ _ _ _ _ from St.reads (r := rLst 3 rInt) S 3 rfl)) hmn (by decide) (noB_walks hno)).mono fun e w' h => hz2 ▸ h)).mono fun e w7' hp => ?_)
   obtain ⟨cs, F, rfl, ho, hF, hb⟩ := hp
   obtain ⟨P7_0, P7_1, P7_2, rfl, f7_0, f7_1, f7_2⟩ := wB_rd (wB.reads ho)
   obtain ⟨A7_0, c7_0, e7_0, -⟩ := lst_val f7_0
   subst e7_0
   obtain ⟨A7_1, c7_1, e7_1, -⟩ := lst_val f7_1
   subst e7_1
   obtain ⟨A7_2, c7_2, e7_2, -⟩ := lst_val f7_2
   subst e7_2
   generalize F = F7 at ho hF
   refine ⟨_, _, rfl, (St.got S hb ho hF), ?_⟩
   clear S hb ho hF f7_0 f7_1 f7_2
   refine Sx.G.p (.tuple #[.agg #[.slice A7_0 z.mem.length c7_0, .slice A7_1 z.gs.length c7_1, .slice A7_2 z.outs.length c7_2, .int .i64 z.pd], .bool true]) ?_
   refine Sx.G.p (.agg #[.slice A7_0 z.mem.length c7_0, .slice A7_1 z.gs.length c7_1, .slice A7_2 z.outs.length c7_2, .int .i64 z.pd]) ?_
   refine Sx.G.p (.bool true) ?_
   refine Sx.G.ar [.slice none 0 0, .slice none 0 0, .slice none 0 0, .int .i64 0] (fun b8 => ?_)
   refine Sx.G.sw [.slice A7_0 z.mem.length c7_0, .slice A7_1 z.gs.length c7_1, .slice A7_2 z.outs.length c7_2, .int .i64 z.pd] .a0 ?_
   refine Sx.G.p (.bool true) ?_
   refine Sx.G.nil (Sx.E.next (Sx.C.seq (Sx.C.region ?_)))
   refine Sx.G.lw .m0 ?_
   refine Sx.G.cp 23 #[.agg #[.slice A7_0 z.mem.length c7_0, .slice A7_1 z.gs.length c7_1, .slice A7_2 z.outs.length c7_2, .int .i64 z.pd], .int .i64 0] (.agg #[.int .i64 0, .int .i64 0, .bool false, .int .i64 0]) (fun w S => by exact ((implx_exit z _ 0 _ hzc (St.reads (r := wB) S 1 rfl) hzn (by decide)).mono fun e w' h => And.intro (h.1.trans (by rw [hx0])) h.2)) ?_
   refine Sx.G.ar [.int .i64 0, .int .i64 0, .bool false, .int .i64 0] (fun b9 => ?_)
   refine Sx.G.sw [.int .i64 0, .int .i64 0, .bool false, .int .i64 0] .a0 ?_
   refine Sx.G.nil (Sx.E.next (Sx.C.seq (Sx.C.region ?_)))
   refine Sx.G.p (.slice (some ⟨gp, 0, none⟩) 12 cp) ?_
   refine Sx.G.pure (.pointer (some ⟨gp, 0 + 1 * 1, none⟩)) (by kernel_rfl) (fun w => Sx.run_elemO 3 1 8 gp 0 12 cp 1 rfl (by kernel_rfl) (by kernel_rfl) (by kernel_rfl) (by omega) w) ?_
   refine Sx.G.reads (.int .i64 (l.getD 1 0)) (by kernel_rfl) (fun w S => Sx.run_ldr1 rfl (by kernel_rfl) (by kernel_rfl) (show w.cell? ⟨gp, 0 + 1 * 1, none⟩ = some (.int .i64 (l.getD 1 0)) by rw [Nat.zero_add, Nat.mul_one]; exact St.cell S 9 rfl 1 (pl_cell l 1 (by omega)))) ?_
   refine Sx.G.q (.int .i64 ((l.getD 1 0).tmod 4)) (.int .i64 0) (congrArg (Value.int .i64) hq1) ?_
   refine Sx.G.p (.bool true) ?_
   refine Sx.G.p (.bool true) ?_
   refine Sx.G.k ?_
   refine Sx.G.k ?_
   refine Sx.G.k ?_
   refine Sx.G.k ?_
   refine Sx.G.k ?_
   refine Sx.G.p (.bool true) ?_
   refine Sx.G.p (.bool true) ?_
   refine Sx.G.nil (Sx.E.next (Sx.C.seq ?_))
   refine Sx.C.draw (.take 0 (.take 1 (.take 2 (.take 3 (.take 4 (.take 5 (.take 6 (.take 7 (.take 8 (.take 9 (.take 10 (.take 11 (.take 12 (.take 13 (.take 14 (.take 15 (.take 16 (.take 17 (.take 18 (.take 19 (.take 20 (.take 21 (.take 22 (.take 23 (.take 24 (.take 25 .nil)))))))))))))))))))))))))) [vr b9 [.int .i64 0, .int .i64 0, .bool false, .int .i64 0], vr b8 [.slice A7_0 z.mem.length c7_0, .slice A7_1 z.gs.length c7_1, .slice A7_2 z.outs.length c7_2, .int .i64 z.pd], vr gp (Stt.icells l)] (fun w S => St.pick S [0, 1, 9] _ rfl (by decide)) (by kernel_rfl) (by kernel_rfl) (by kernel_rfl) ?_
   refine Sx.GT.p (.pointer (some ⟨b8, 2, none⟩)) ?_
   refine Sx.GT.g (.slice A7_2 z.outs.length c7_2) .m1 .m2 ?_
   refine Sx.GT.p (.int .i64 ((z.outs.length : Nat) : Int)) ?_
   refine Sx.GT.q (.bool (((z.outs.length : Nat) : Int) == 1)) (.bool true) (congrArg Value.bool (by rw [hln]; rfl)) ?_
   refine Sx.GT.p (.bool true) ?_
   refine Sx.GT.p (.bool true) ?_
   refine Sx.GT.p (.bool true) ?_
   refine Sx.GT.lw .m0 ?_
   refine Sx.GT.p (.slice (some ⟨gp, 0, none⟩) 12 cp) ?_
   refine Sx.GT.pure (.pointer (some ⟨gp, 0 + 0 * 1, none⟩)) 9 (by rfl) (by kernel_rfl) (fun w => Sx.run_elemO 3 1 8 gp 0 12 cp 0 rfl (by kernel_rfl) (by kernel_rfl) (by kernel_rfl) (by omega) w) ?_
   refine Sx.GT.reads (.int .i64 (l.getD 0 0)) 10 (by rfl) (by kernel_rfl) (fun w S => Sx.run_ldr1 rfl (by kernel_rfl) (by kernel_rfl) (show w.cell? ⟨gp, 0 + 0 * 1, none⟩ = some (.int .i64 (l.getD 0 0)) by rw [Nat.zero_add, Nat.mul_one]; exact St.cell S 2 rfl 0 (pl_cell l 0 (by omega)))) ?_
   refine Sx.GT.q (.int .i64 ((l.getD 0 0).tmod 100)) (.int .i64 (p0 : Int)) (congrArg (Value.int .i64) hq0) ?_
   refine Sx.GT.p (.agg #[.int .i64 3, .int .i64 0, .bool false, .int .i64 (p0 : Int)]) ?_
   refine Sx.GT.pureq (.bool (0 == 3 && 0 == 0 && false == false && 0 == (p0 : Int))) (.bool false) 13 (by rfl) (by kernel_rfl) (fun w => Sx.run_eqs rfl rfl rfl (by kernel_rfl) (fun w => eqv_Exit_eql 0 0 false 0 3 0 false ((p0 : Int)) w) w) (congrArg Value.bool (rfl)) ?_
   refine Sx.GT.p (.bool true) ?_
   refine Sx.GT.p (.bool false) ?_
   refine Sx.GT.p (.bool true) ?_
   refine Sx.GT.p (.bool true) ?_
   refine Sx.GT.p (.bool true) ?_
   refine Sx.GT.lw .m0 ?_
   refine Sx.GT.p (.agg #[.int .i64 0, .int .i64 0, .bool false, .int .i64 0]) ?_
   refine Sx.GT.pureq (.bool (0 == 0 && 0 == 0 && false == false && 0 == 0)) (.bool true) 21 (by rfl) (by kernel_rfl) (fun w => Sx.run_eqs rfl rfl rfl (by kernel_rfl) (fun w => eqv_Exit_eql 0 0 false 0 0 0 false 0 w) w) (congrArg Value.bool (by simp)) ?_
   refine Sx.GT.p (.bool true) ?_
   refine Sx.GT.p (.bool true) ?_
   refine Sx.GT.p (.bool true) ?_
   refine Sx.GT.p (.bool true) ?_
   refine Sx.GT.nil (Sx.E.next (Sx.C.ret ?_))
   refine Sx.E.ret1 (.bool true) rfl (by kernel_rfl) (fun w S => ?_)
   exact ⟨rfl, S.below⟩
  ·
   have hprg : ∀ p ∈ [[(5, (p0 : Int)), (7, 0)]], Inss.wfJL p ∧ p.length ≤ 20 := fun p hp => by rw [List.mem_singleton.1 hp]; exact wf_two ⟨n_5, wfN p0 (by omega)⟩ ⟨n_7, z0⟩
   obtain ⟨M0, hM⟩ : ∃ M, M = (newB [[(5, (p0 : Int)), (7, 0)]]).mem := ⟨_, rfl⟩
   have hM0 : (newB [[(5, (p0 : Int)), (7, 0)]]).mem = M0 := hM.symm
   obtain ⟨g0, hg0⟩ : ∃ g, g = trG (p0 : Int) := ⟨_, rfl⟩
   have hgs : (newB [[(5, (p0 : Int)), (7, 0)]]).gs = [g0] := by rw [hg0]; rfl
   have hos : (newB [[(5, (p0 : Int)), (7, 0)]]).outs = [] := rfl
   obtain ⟨m1, hm1⟩ : ∃ m, m = trM (p0 : Int) ((1 : Nat) : Int) := ⟨_, rfl⟩
   have hpt : m1 = ({ mem := M0, gs := [{ g0 with t := (1, g0.t.2) }], outs := [], pd := 0 } : bT) := by rw [hm1, hM, hg0]; rfl
   have hok := trM_ok p0 1 hp0 (by decide)
   rw [← hm1] at hok
   have hmc := hok.2
   have hmn := hok.1
   have hall := tr_all ⟨p0, hp0⟩ ⟨1, by decide⟩
   unfold trC at hall
   rw [← hm1] at hall
   obtain ⟨z, hz⟩ : ∃ z, z = (stepB m1 0).1 := ⟨_, rfl⟩
   rw [← hz] at hall
   simp only [Bool.and_eq_true, decide_eq_true_eq] at hall
   obtain ⟨⟨⟨hno, ht⟩, hln0⟩, hx00⟩ := hall
   have hln : z.outs.length = 0 := hln0
   have hx0 : (guestAt z 0).1.x = (3, 0, false, (p0 : Int)) := hx00
   have hz2 : stepB m1 0 = (z, true) := by rw [hz, ← ht]
   have hzc : wB.cap z := hz ▸ cap_stepB _ hmc
   have hzn : wB.wf z := hz ▸ wf_stepB _ hmn
   clear hln0 hx00 ht hok
   refine Sx.C.region ?_
   refine Sx.G.p (.slice (some ⟨gp, 0, none⟩) 12 cp) ?_
   refine Sx.G.pure (.pointer (some ⟨gp, 0 + 0 * 1, none⟩)) (by kernel_rfl) (fun w => Sx.run_elemO 3 1 8 gp 0 12 cp 0 rfl (by kernel_rfl) (by kernel_rfl) (by kernel_rfl) (by omega) w) ?_
   refine Sx.G.reads (.int .i64 (l.getD 0 0)) (by kernel_rfl) (fun w S => Sx.run_ldr1 rfl (by kernel_rfl) (by kernel_rfl) (show w.cell? ⟨gp, 0 + 0 * 1, none⟩ = some (.int .i64 (l.getD 0 0)) by rw [Nat.zero_add, Nat.mul_one]; exact St.cell S 0 rfl 0 (pl_cell l 0 (by omega)))) ?_
   refine Sx.G.q (.int .i64 ((l.getD 0 0).tmod 100)) (.int .i64 (p0 : Int)) (congrArg (Value.int .i64) hq0) ?_
   refine Sx.G.p (.agg #[.int .i64 5, .int .i64 (p0 : Int)]) ?_
   refine Sx.G.p (.agg #[.int .i64 7, .int .i64 0]) ?_
   refine Sx.G.made 48 [.int .i64 5, .int .i64 (p0 : Int), .int .i64 7, .int .i64 0] 2 (by kernel_rfl) (fun w => by kernel_rfl) (fun b10 => ?_)
   refine Sx.G.block 49 [.slice (some ⟨b10, 0, none⟩) 2 2] 1 (by kernel_rfl) (fun w => by kernel_rfl) (fun b11 => ?_)
   refine Sx.G.c 25 #[.slice (some ⟨b11, 0, none⟩) 1 1] (fun w12 S => (specx_bnew [[(5, (p0 : Int)), (7, 0)]] (some ⟨b11, 0, none⟩) 1 _ (cap_prgs hprg (by simp)) (bk_lst (r := rLsw (rPair rInt rInt)) (xs := [[(5, (p0 : Int)), (7, 0)]]) S 0 rfl ⟨[_], _, rfl, (vr_prog (p := [(5, (p0 : Int)), (7, 0)]) S 1 rfl), rfl⟩)).mono fun e w12' hp => ?_)
   obtain ⟨cs, F, rfl, ho, hF, hb⟩ := hp
   obtain ⟨P12_0, P12_1, P12_2, G12_0, G12_1, G12_2, rfl, S'⟩ := rB_open (St.got S hb ho hF)
   rw [hM0, hgs, hos] at S'
   obtain ⟨A12_0, c12_0, e12_0, -⟩ := lst_val (S'.reads 0 rfl)
   subst e12_0
   obtain ⟨A12_1, c12_1, e12_1, -⟩ := lst_val (S'.reads 1 rfl)
   subst e12_1
   obtain ⟨A12_2, c12_2, e12_2, -⟩ := lst_val (S'.reads 2 rfl)
   subst e12_2
   refine ⟨_, _, rfl, S', ?_⟩
   clear S S' ho hF hb
   refine Sx.G.ar [.slice none 0 0, .slice none 0 0, .slice none 0 0, .int .i64 0] (fun b13 => ?_)
   refine Sx.G.sw [.slice A12_0 M0.length c12_0, .slice A12_1 1 c12_1, .slice A12_2 0 c12_2, .int .i64 0] .a0 ?_
   refine Sx.G.nil (Sx.E.next (Sx.C.seq ?_))
   refine Sx.C.pk (.c .m2 (.c .m0 (.c .m1 (.c .m3 (.c .m4 (.c .m5 (.c .m6 .n))))))) ?_
   refine Sx.C.open (r := wG) (pre := []) (x := g0) (post := []) rfl (by decide) (fun b14 o14 es G114 Gi14 G214 eA eF hes hm hmc14 => ?_)
   subst eA eF
   refine Kit.copen_Guest (fun P14_0 P14_1 P14_2 P14_3 H14_0 H14_1 H14_2 H14_3 e1 e2 => ?_)
   subst e1 e2
   refine Sx.C.draw (.take 0 (.take 1 (.take 2 (.take 3 (.take 4 (.take 5 (.take 6 (.take 7 (.take 8 (.alone 9 .nil)))))))))) [vr b13 [.slice A12_0 M0.length c12_0, .slice (some ⟨b14, o14, none⟩) 1 c12_1, .slice A12_2 0 c12_2, .int .i64 0], vr gp (Stt.icells l)] (fun w S => St.pick S [5, 10] _ rfl (by decide)) (by kernel_rfl) (by kernel_rfl) (by kernel_rfl) ?_
   refine Sx.GT.p (.pointer (some ⟨b13, 1, none⟩)) ?_
   refine Sx.GT.g (.slice (some ⟨b14, o14, none⟩) 1 c12_1) .m0 .m1 ?_
   refine Sx.GT.p (.slice (some ⟨gp, 0, none⟩) 12 cp) ?_
   refine Sx.GT.pure (.pointer (some ⟨gp, 0 + 1 * 1, none⟩)) 3 (by rfl) (by kernel_rfl) (fun w => Sx.run_elemO 3 1 8 gp 0 12 cp 1 rfl (by kernel_rfl) (by kernel_rfl) (by kernel_rfl) (by omega) w) ?_
   refine Sx.GT.reads (.int .i64 (l.getD 1 0)) 4 (by rfl) (by kernel_rfl) (fun w S => Sx.run_ldr1 rfl (by kernel_rfl) (by kernel_rfl) (show w.cell? ⟨gp, 0 + 1 * 1, none⟩ = some (.int .i64 (l.getD 1 0)) by rw [Nat.zero_add, Nat.mul_one]; exact St.cell S 1 rfl 1 (pl_cell l 1 (by omega)))) ?_
   refine Sx.GT.q (.int .i64 ((l.getD 1 0).tmod 4)) (.int .i64 1) (congrArg (Value.int .i64) hq1) ?_
   refine Sx.GT.elem 25 56 (.tmp 23) (.const (.int .i64 0)) 15 184 b14 o14 1 c12_1 0 6 (by rfl) (by rfl) (by kernel_rfl) (by kernel_rfl) (by kernel_rfl) (by kernel_rfl) (by omega) ?_
   refine Sx.GT.p (.pointer (some ⟨b14, (o14 + 0 * 15) + 5, none⟩)) ?_
   refine Sx.GT.p (.pointer (some ⟨b14, (o14 + 0 * 15) + 5, none⟩)) ?_
   refine Sx.GT.alone (Sx.Alone.hsto (k := 0) (size := 15) 3 (.tmp 30) (.tmp 27) b14 ((o14 + 0 * 15) + 5) 5 0 [.int .i64 1] [P14_0, .int .i64 g0.a, .int .i64 g0.pc, P14_1, P14_2, .int .i64 1, .int .i64 g0.t.2.1, .bool g0.t.2.2, .int .i64 g0.pd, .int .i64 g0.x.1, .int .i64 g0.x.2.1, .bool g0.x.2.2.1, .int .i64 g0.x.2.2.2, .bool g0.hl, P14_3] [Sx.hole wG b14 o14 w12.heap.size w12'.heap.size [] [] [P14_0, .int .i64 g0.a, .int .i64 g0.pc, P14_1, P14_2, .int .i64 1, .int .i64 g0.t.2.1, .bool g0.t.2.2, .int .i64 g0.pd, .int .i64 g0.x.1, .int .i64 g0.x.2.1, .bool g0.x.2.2.1, .int .i64 g0.x.2.2.2, .bool g0.hl, P14_3] G114 G214, ow (rLsw (rPair rInt rInt)) w12.heap.size w12'.heap.size g0.prog [P14_0] H14_0, ow (rLsw (rPair rInt rInt)) w12.heap.size w12'.heap.size g0.wr [P14_1] H14_1, ow (rLsw (rPair rInt rInt)) w12.heap.size w12'.heap.size g0.lv [P14_2] H14_2, ow (rLsw rInt) w12.heap.size w12'.heap.size g0.seen [P14_3] H14_3, vr b13 [.slice A12_0 M0.length c12_0, .slice (some ⟨b14, o14, none⟩) 1 c12_1, .slice A12_2 0 c12_2, .int .i64 0], ow (rLsw (rLsw rInt)) w12.heap.size w12'.heap.size M0 [.slice A12_0 M0.length c12_0] G12_0, ow (rLst 3 rInt) w12.heap.size (w12'.heap.size) (([] : List Int)) [.slice A12_2 0 c12_2] G12_2, Sx.bk b11 [.slice (some ⟨b10, 0, none⟩) 2 2] 49, vr b10 [.int .i64 5, .int .i64 (p0 : Int), .int .i64 7, .int .i64 0], vr gp (Stt.icells l)] (by rfl) (by rfl) (by kernel_rfl) (by kernel_rfl) (by kernel_rfl) (by rfl) (by rfl) (by rfl) (by rfl) (by rfl) (by rfl) (by kernel_rfl) (by kernel_rfl) (by kernel_rfl) (fun w S => St.pick S [5, 10] _ rfl (by decide)) ?_)
   refine Sx.GT.nil (Sx.E.next (Sx.C.seq ?_))
   refine Sx.C.turn (ι := List Nat) (p := fun _ => True) (fun Z14 => [ow (rLsw wG) w.heap.size (max w12'.heap.size w12'.heap.size) [({ g0 with t := (1, g0.t.2) } : gT)] [.slice (some ⟨b14, o14, none⟩) 1 c12_1] Z14, vr b13 [.slice A12_0 M0.length c12_0, .slice (some ⟨b14, o14, none⟩) 1 c12_1, .slice A12_2 0 c12_2, .int .i64 0], ow (rLsw (rLsw rInt)) w12.heap.size w12'.heap.size M0 [.slice A12_0 M0.length c12_0] G12_0, ow (rLst 3 rInt) w12.heap.size (w12'.heap.size) (([] : List Int)) [.slice A12_2 0 c12_2] G12_2, Sx.bk b11 [.slice (some ⟨b10, 0, none⟩) 2 2] 49, vr b10 [.int .i64 5, .int .i64 (p0 : Int), .int .i64 7, .int .i64 0], vr gp (Stt.icells l)]) (fun w' S => by
    have S2 := St.pick S [0, 1, 2, 3, 4, 5, 6, 7, 8, 9, 10] (_ :: _ :: _ :: _ :: _ :: [vr b13 [.slice A12_0 M0.length c12_0, .slice (some ⟨b14, o14, none⟩) 1 c12_1, .slice A12_2 0 c12_2, .int .i64 0], ow (rLsw (rLsw rInt)) w12.heap.size w12'.heap.size M0 [.slice A12_0 M0.length c12_0] G12_0, ow (rLst 3 rInt) w12.heap.size (w12'.heap.size) (([] : List Int)) [.slice A12_2 0 c12_2] G12_2, Sx.bk b11 [.slice (some ⟨b10, 0, none⟩) 2 2] 49, vr b10 [.int .i64 5, .int .i64 (p0 : Int), .int .i64 7, .int .i64 0], vr gp (Stt.icells l)]) rfl (by decide)
    have S4 := Kit.cshut_Guest (g := ({ g0 with t := (1, g0.t.2) } : gT)) S2
    have S5 := Sx.St.closeW S4 (by decide) 1 _ rfl hmc14
    exact ⟨_, trivial, S5⟩) (fun Z14 _ => ?_)
   refine Sx.C.region ?_
   refine Sx.G.lw .m1 ?_
   refine Sx.G.c 11 #[.agg #[.slice A12_0 M0.length c12_0, .slice (some ⟨b14, o14, none⟩) 1 c12_1, .slice A12_2 0 c12_2, .int .i64 0], .int .i64 0] (fun w15 S => (((implx_step m1 _ 0 _ hmc (by rw [hpt]; exact wB_rd_mk (g := ({ mem := M0, gs := [{ g0 with t := (1, g0.t.2) }], outs := [], pd := 0 } : bT)) (St.reads S 2 rfl) (St.reads S 0 rfl) (show rdLst rInt _ _ _ _ _ from St.reads (r := rLst 3 rInt) S 3 rfl)) hmn (by decide) (noB_walks hno)).mono fun e w' h => hz2 ▸ h)).mono fun e w15' hp => ?_)
   obtain ⟨cs, F, rfl, ho, hF, hb⟩ := hp
   obtain ⟨P15_0, P15_1, P15_2, rfl, f15_0, f15_1, f15_2⟩ := wB_rd (wB.reads ho)
   obtain ⟨A15_0, c15_0, e15_0, -⟩ := lst_val f15_0
   subst e15_0
   obtain ⟨A15_1, c15_1, e15_1, -⟩ := lst_val f15_1
   subst e15_1
   obtain ⟨A15_2, c15_2, e15_2, -⟩ := lst_val f15_2
   subst e15_2
   generalize F = F15 at ho hF
   refine ⟨_, _, rfl, (St.got S hb ho hF), ?_⟩
   clear S hb ho hF f15_0 f15_1 f15_2
   refine Sx.G.p (.tuple #[.agg #[.slice A15_0 z.mem.length c15_0, .slice A15_1 z.gs.length c15_1, .slice A15_2 z.outs.length c15_2, .int .i64 z.pd], .bool true]) ?_
   refine Sx.G.p (.agg #[.slice A15_0 z.mem.length c15_0, .slice A15_1 z.gs.length c15_1, .slice A15_2 z.outs.length c15_2, .int .i64 z.pd]) ?_
   refine Sx.G.p (.bool true) ?_
   refine Sx.G.ar [.slice none 0 0, .slice none 0 0, .slice none 0 0, .int .i64 0] (fun b16 => ?_)
   refine Sx.G.sw [.slice A15_0 z.mem.length c15_0, .slice A15_1 z.gs.length c15_1, .slice A15_2 z.outs.length c15_2, .int .i64 z.pd] .a0 ?_
   refine Sx.G.p (.bool true) ?_
   refine Sx.G.nil (Sx.E.next (Sx.C.seq (Sx.C.region ?_)))
   refine Sx.G.lw .m0 ?_
   refine Sx.G.cp 23 #[.agg #[.slice A15_0 z.mem.length c15_0, .slice A15_1 z.gs.length c15_1, .slice A15_2 z.outs.length c15_2, .int .i64 z.pd], .int .i64 0] (.agg #[.int .i64 3, .int .i64 0, .bool false, .int .i64 (p0 : Int)]) (fun w S => by exact ((implx_exit z _ 0 _ hzc (St.reads (r := wB) S 1 rfl) hzn (by decide)).mono fun e w' h => And.intro (h.1.trans (by rw [hx0])) h.2)) ?_
   refine Sx.G.ar [.int .i64 0, .int .i64 0, .bool false, .int .i64 0] (fun b17 => ?_)
   refine Sx.G.sw [.int .i64 3, .int .i64 0, .bool false, .int .i64 (p0 : Int)] .a0 ?_
   refine Sx.G.nil (Sx.E.next (Sx.C.seq (Sx.C.region ?_)))
   refine Sx.G.p (.slice (some ⟨gp, 0, none⟩) 12 cp) ?_
   refine Sx.G.pure (.pointer (some ⟨gp, 0 + 1 * 1, none⟩)) (by kernel_rfl) (fun w => Sx.run_elemO 3 1 8 gp 0 12 cp 1 rfl (by kernel_rfl) (by kernel_rfl) (by kernel_rfl) (by omega) w) ?_
   refine Sx.G.reads (.int .i64 (l.getD 1 0)) (by kernel_rfl) (fun w S => Sx.run_ldr1 rfl (by kernel_rfl) (by kernel_rfl) (show w.cell? ⟨gp, 0 + 1 * 1, none⟩ = some (.int .i64 (l.getD 1 0)) by rw [Nat.zero_add, Nat.mul_one]; exact St.cell S 9 rfl 1 (pl_cell l 1 (by omega)))) ?_
   refine Sx.G.q (.int .i64 ((l.getD 1 0).tmod 4)) (.int .i64 1) (congrArg (Value.int .i64) hq1) ?_
   refine Sx.G.p (.bool false) ?_
   refine Sx.G.p (.bool false) ?_
   refine Sx.G.p (.slice (some ⟨gp, 0, none⟩) 12 cp) ?_
   refine Sx.G.pure (.pointer (some ⟨gp, 0 + 1 * 1, none⟩)) (by kernel_rfl) (fun w => Sx.run_elemO 3 1 8 gp 0 12 cp 1 rfl (by kernel_rfl) (by kernel_rfl) (by kernel_rfl) (by omega) w) ?_
   refine Sx.G.reads (.int .i64 (l.getD 1 0)) (by kernel_rfl) (fun w S => Sx.run_ldr1 rfl (by kernel_rfl) (by kernel_rfl) (show w.cell? ⟨gp, 0 + 1 * 1, none⟩ = some (.int .i64 (l.getD 1 0)) by rw [Nat.zero_add, Nat.mul_one]; exact St.cell S 9 rfl 1 (pl_cell l 1 (by omega)))) ?_
   refine Sx.G.q (.int .i64 ((l.getD 1 0).tmod 4)) (.int .i64 1) (congrArg (Value.int .i64) hq1) ?_
   refine Sx.G.p (.bool false) ?_
   refine Sx.G.p (.bool false) ?_
   refine Sx.G.p (.bool false) ?_
   refine Sx.G.nil (Sx.E.next (Sx.C.seq ?_))
   refine Sx.C.draw (.take 0 (.take 1 (.take 2 (.take 3 (.take 4 (.take 5 (.take 6 (.take 7 (.take 8 (.take 9 (.take 10 (.take 11 (.take 12 (.take 13 (.take 14 (.take 15 (.take 16 (.take 17 (.take 18 (.take 19 (.take 20 (.take 21 (.take 22 (.take 23 (.take 24 (.take 25 .nil)))))))))))))))))))))))))) [vr b17 [.int .i64 3, .int .i64 0, .bool false, .int .i64 (p0 : Int)], vr b16 [.slice A15_0 z.mem.length c15_0, .slice A15_1 z.gs.length c15_1, .slice A15_2 z.outs.length c15_2, .int .i64 z.pd], vr gp (Stt.icells l)] (fun w S => St.pick S [0, 1, 9] _ rfl (by decide)) (by kernel_rfl) (by kernel_rfl) (by kernel_rfl) ?_
   refine Sx.GT.p (.pointer (some ⟨b16, 2, none⟩)) ?_
   refine Sx.GT.g (.slice A15_2 z.outs.length c15_2) .m1 .m2 ?_
   refine Sx.GT.p (.int .i64 ((z.outs.length : Nat) : Int)) ?_
   refine Sx.GT.q (.bool (((z.outs.length : Nat) : Int) == 1)) (.bool false) (congrArg Value.bool (by rw [hln]; rfl)) ?_
   refine Sx.GT.p (.bool false) ?_
   refine Sx.GT.p (.bool true) ?_
   refine Sx.GT.p (.bool true) ?_
   refine Sx.GT.lw .m0 ?_
   refine Sx.GT.p (.slice (some ⟨gp, 0, none⟩) 12 cp) ?_
   refine Sx.GT.pure (.pointer (some ⟨gp, 0 + 0 * 1, none⟩)) 9 (by rfl) (by kernel_rfl) (fun w => Sx.run_elemO 3 1 8 gp 0 12 cp 0 rfl (by kernel_rfl) (by kernel_rfl) (by kernel_rfl) (by omega) w) ?_
   refine Sx.GT.reads (.int .i64 (l.getD 0 0)) 10 (by rfl) (by kernel_rfl) (fun w S => Sx.run_ldr1 rfl (by kernel_rfl) (by kernel_rfl) (show w.cell? ⟨gp, 0 + 0 * 1, none⟩ = some (.int .i64 (l.getD 0 0)) by rw [Nat.zero_add, Nat.mul_one]; exact St.cell S 2 rfl 0 (pl_cell l 0 (by omega)))) ?_
   refine Sx.GT.q (.int .i64 ((l.getD 0 0).tmod 100)) (.int .i64 (p0 : Int)) (congrArg (Value.int .i64) hq0) ?_
   refine Sx.GT.p (.agg #[.int .i64 3, .int .i64 0, .bool false, .int .i64 (p0 : Int)]) ?_
   refine Sx.GT.pureq (.bool (3 == 3 && 0 == 0 && false == false && (p0 : Int) == (p0 : Int))) (.bool true) 13 (by rfl) (by kernel_rfl) (fun w => Sx.run_eqs rfl rfl rfl (by kernel_rfl) (fun w => eqv_Exit_eql 3 0 false ((p0 : Int)) 3 0 false ((p0 : Int)) w) w) (congrArg Value.bool (by simp)) ?_
   refine Sx.GT.p (.bool false) ?_
   refine Sx.GT.p (.bool true) ?_
   refine Sx.GT.p (.bool true) ?_
   refine Sx.GT.p (.bool true) ?_
   refine Sx.GT.p (.bool true) ?_
   refine Sx.GT.lw .m0 ?_
   refine Sx.GT.p (.agg #[.int .i64 0, .int .i64 0, .bool false, .int .i64 0]) ?_
   refine Sx.GT.pureq (.bool (3 == 0 && 0 == 0 && false == false && (p0 : Int) == 0)) (.bool false) 21 (by rfl) (by kernel_rfl) (fun w => Sx.run_eqs rfl rfl rfl (by kernel_rfl) (fun w => eqv_Exit_eql 3 0 false ((p0 : Int)) 0 0 false 0 w) w) (congrArg Value.bool (rfl)) ?_
   refine Sx.GT.p (.bool false) ?_
   refine Sx.GT.p (.bool true) ?_
   refine Sx.GT.p (.bool true) ?_
   refine Sx.GT.p (.bool true) ?_
   refine Sx.GT.nil (Sx.E.next (Sx.C.ret ?_))
   refine Sx.E.ret1 (.bool true) rfl (by kernel_rfl) (fun w S => ?_)
   exact ⟨rfl, S.below⟩
  ·
   have hprg : ∀ p ∈ [[(5, (p0 : Int)), (7, 0)]], Inss.wfJL p ∧ p.length ≤ 20 := fun p hp => by rw [List.mem_singleton.1 hp]; exact wf_two ⟨n_5, wfN p0 (by omega)⟩ ⟨n_7, z0⟩
   obtain ⟨M0, hM⟩ : ∃ M, M = (newB [[(5, (p0 : Int)), (7, 0)]]).mem := ⟨_, rfl⟩
   have hM0 : (newB [[(5, (p0 : Int)), (7, 0)]]).mem = M0 := hM.symm
   obtain ⟨g0, hg0⟩ : ∃ g, g = trG (p0 : Int) := ⟨_, rfl⟩
   have hgs : (newB [[(5, (p0 : Int)), (7, 0)]]).gs = [g0] := by rw [hg0]; rfl
   have hos : (newB [[(5, (p0 : Int)), (7, 0)]]).outs = [] := rfl
   obtain ⟨m1, hm1⟩ : ∃ m, m = trM (p0 : Int) ((2 : Nat) : Int) := ⟨_, rfl⟩
   have hpt : m1 = ({ mem := M0, gs := [{ g0 with t := (2, g0.t.2) }], outs := [], pd := 0 } : bT) := by rw [hm1, hM, hg0]; rfl
   have hok := trM_ok p0 2 hp0 (by decide)
   rw [← hm1] at hok
   have hmc := hok.2
   have hmn := hok.1
   have hall := tr_all ⟨p0, hp0⟩ ⟨2, by decide⟩
   unfold trC at hall
   rw [← hm1] at hall
   obtain ⟨z, hz⟩ : ∃ z, z = (stepB m1 0).1 := ⟨_, rfl⟩
   rw [← hz] at hall
   simp only [Bool.and_eq_true, decide_eq_true_eq] at hall
   obtain ⟨⟨⟨hno, ht⟩, hln0⟩, hx00⟩ := hall
   have hln : z.outs.length = 1 := hln0
   have hx0 : (guestAt z 0).1.x = (0, 0, false, 0) := hx00
   have hz2 : stepB m1 0 = (z, true) := by rw [hz, ← ht]
   have hzc : wB.cap z := hz ▸ cap_stepB _ hmc
   have hzn : wB.wf z := hz ▸ wf_stepB _ hmn
   clear hln0 hx00 ht hok
   refine Sx.C.region ?_
   refine Sx.G.p (.slice (some ⟨gp, 0, none⟩) 12 cp) ?_
   refine Sx.G.pure (.pointer (some ⟨gp, 0 + 0 * 1, none⟩)) (by kernel_rfl) (fun w => Sx.run_elemO 3 1 8 gp 0 12 cp 0 rfl (by kernel_rfl) (by kernel_rfl) (by kernel_rfl) (by omega) w) ?_
   refine Sx.G.reads (.int .i64 (l.getD 0 0)) (by kernel_rfl) (fun w S => Sx.run_ldr1 rfl (by kernel_rfl) (by kernel_rfl) (show w.cell? ⟨gp, 0 + 0 * 1, none⟩ = some (.int .i64 (l.getD 0 0)) by rw [Nat.zero_add, Nat.mul_one]; exact St.cell S 0 rfl 0 (pl_cell l 0 (by omega)))) ?_
   refine Sx.G.q (.int .i64 ((l.getD 0 0).tmod 100)) (.int .i64 (p0 : Int)) (congrArg (Value.int .i64) hq0) ?_
   refine Sx.G.p (.agg #[.int .i64 5, .int .i64 (p0 : Int)]) ?_
   refine Sx.G.p (.agg #[.int .i64 7, .int .i64 0]) ?_
   refine Sx.G.made 48 [.int .i64 5, .int .i64 (p0 : Int), .int .i64 7, .int .i64 0] 2 (by kernel_rfl) (fun w => by kernel_rfl) (fun b18 => ?_)
   refine Sx.G.block 49 [.slice (some ⟨b18, 0, none⟩) 2 2] 1 (by kernel_rfl) (fun w => by kernel_rfl) (fun b19 => ?_)
   refine Sx.G.c 25 #[.slice (some ⟨b19, 0, none⟩) 1 1] (fun w20 S => (specx_bnew [[(5, (p0 : Int)), (7, 0)]] (some ⟨b19, 0, none⟩) 1 _ (cap_prgs hprg (by simp)) (bk_lst (r := rLsw (rPair rInt rInt)) (xs := [[(5, (p0 : Int)), (7, 0)]]) S 0 rfl ⟨[_], _, rfl, (vr_prog (p := [(5, (p0 : Int)), (7, 0)]) S 1 rfl), rfl⟩)).mono fun e w20' hp => ?_)
   obtain ⟨cs, F, rfl, ho, hF, hb⟩ := hp
   obtain ⟨P20_0, P20_1, P20_2, G20_0, G20_1, G20_2, rfl, S'⟩ := rB_open (St.got S hb ho hF)
   rw [hM0, hgs, hos] at S'
   obtain ⟨A20_0, c20_0, e20_0, -⟩ := lst_val (S'.reads 0 rfl)
   subst e20_0
   obtain ⟨A20_1, c20_1, e20_1, -⟩ := lst_val (S'.reads 1 rfl)
   subst e20_1
   obtain ⟨A20_2, c20_2, e20_2, -⟩ := lst_val (S'.reads 2 rfl)
   subst e20_2
   refine ⟨_, _, rfl, S', ?_⟩
   clear S S' ho hF hb
   refine Sx.G.ar [.slice none 0 0, .slice none 0 0, .slice none 0 0, .int .i64 0] (fun b21 => ?_)
   refine Sx.G.sw [.slice A20_0 M0.length c20_0, .slice A20_1 1 c20_1, .slice A20_2 0 c20_2, .int .i64 0] .a0 ?_
   refine Sx.G.nil (Sx.E.next (Sx.C.seq ?_))
   refine Sx.C.pk (.c .m2 (.c .m0 (.c .m1 (.c .m3 (.c .m4 (.c .m5 (.c .m6 .n))))))) ?_
   refine Sx.C.open (r := wG) (pre := []) (x := g0) (post := []) rfl (by decide) (fun b22 o22 es G122 Gi22 G222 eA eF hes hm hmc22 => ?_)
   subst eA eF
   refine Kit.copen_Guest (fun P22_0 P22_1 P22_2 P22_3 H22_0 H22_1 H22_2 H22_3 e1 e2 => ?_)
   subst e1 e2
   refine Sx.C.draw (.take 0 (.take 1 (.take 2 (.take 3 (.take 4 (.take 5 (.take 6 (.take 7 (.take 8 (.alone 9 .nil)))))))))) [vr b21 [.slice A20_0 M0.length c20_0, .slice (some ⟨b22, o22, none⟩) 1 c20_1, .slice A20_2 0 c20_2, .int .i64 0], vr gp (Stt.icells l)] (fun w S => St.pick S [5, 10] _ rfl (by decide)) (by kernel_rfl) (by kernel_rfl) (by kernel_rfl) ?_
   refine Sx.GT.p (.pointer (some ⟨b21, 1, none⟩)) ?_
   refine Sx.GT.g (.slice (some ⟨b22, o22, none⟩) 1 c20_1) .m0 .m1 ?_
   refine Sx.GT.p (.slice (some ⟨gp, 0, none⟩) 12 cp) ?_
   refine Sx.GT.pure (.pointer (some ⟨gp, 0 + 1 * 1, none⟩)) 3 (by rfl) (by kernel_rfl) (fun w => Sx.run_elemO 3 1 8 gp 0 12 cp 1 rfl (by kernel_rfl) (by kernel_rfl) (by kernel_rfl) (by omega) w) ?_
   refine Sx.GT.reads (.int .i64 (l.getD 1 0)) 4 (by rfl) (by kernel_rfl) (fun w S => Sx.run_ldr1 rfl (by kernel_rfl) (by kernel_rfl) (show w.cell? ⟨gp, 0 + 1 * 1, none⟩ = some (.int .i64 (l.getD 1 0)) by rw [Nat.zero_add, Nat.mul_one]; exact St.cell S 1 rfl 1 (pl_cell l 1 (by omega)))) ?_
   refine Sx.GT.q (.int .i64 ((l.getD 1 0).tmod 4)) (.int .i64 2) (congrArg (Value.int .i64) hq1) ?_
   refine Sx.GT.elem 25 56 (.tmp 23) (.const (.int .i64 0)) 15 184 b22 o22 1 c20_1 0 6 (by rfl) (by rfl) (by kernel_rfl) (by kernel_rfl) (by kernel_rfl) (by kernel_rfl) (by omega) ?_
   refine Sx.GT.p (.pointer (some ⟨b22, (o22 + 0 * 15) + 5, none⟩)) ?_
   refine Sx.GT.p (.pointer (some ⟨b22, (o22 + 0 * 15) + 5, none⟩)) ?_
   refine Sx.GT.alone (Sx.Alone.hsto (k := 0) (size := 15) 3 (.tmp 30) (.tmp 27) b22 ((o22 + 0 * 15) + 5) 5 0 [.int .i64 2] [P22_0, .int .i64 g0.a, .int .i64 g0.pc, P22_1, P22_2, .int .i64 2, .int .i64 g0.t.2.1, .bool g0.t.2.2, .int .i64 g0.pd, .int .i64 g0.x.1, .int .i64 g0.x.2.1, .bool g0.x.2.2.1, .int .i64 g0.x.2.2.2, .bool g0.hl, P22_3] [Sx.hole wG b22 o22 w20.heap.size w20'.heap.size [] [] [P22_0, .int .i64 g0.a, .int .i64 g0.pc, P22_1, P22_2, .int .i64 2, .int .i64 g0.t.2.1, .bool g0.t.2.2, .int .i64 g0.pd, .int .i64 g0.x.1, .int .i64 g0.x.2.1, .bool g0.x.2.2.1, .int .i64 g0.x.2.2.2, .bool g0.hl, P22_3] G122 G222, ow (rLsw (rPair rInt rInt)) w20.heap.size w20'.heap.size g0.prog [P22_0] H22_0, ow (rLsw (rPair rInt rInt)) w20.heap.size w20'.heap.size g0.wr [P22_1] H22_1, ow (rLsw (rPair rInt rInt)) w20.heap.size w20'.heap.size g0.lv [P22_2] H22_2, ow (rLsw rInt) w20.heap.size w20'.heap.size g0.seen [P22_3] H22_3, vr b21 [.slice A20_0 M0.length c20_0, .slice (some ⟨b22, o22, none⟩) 1 c20_1, .slice A20_2 0 c20_2, .int .i64 0], ow (rLsw (rLsw rInt)) w20.heap.size w20'.heap.size M0 [.slice A20_0 M0.length c20_0] G20_0, ow (rLst 3 rInt) w20.heap.size (w20'.heap.size) (([] : List Int)) [.slice A20_2 0 c20_2] G20_2, Sx.bk b19 [.slice (some ⟨b18, 0, none⟩) 2 2] 49, vr b18 [.int .i64 5, .int .i64 (p0 : Int), .int .i64 7, .int .i64 0], vr gp (Stt.icells l)] (by rfl) (by rfl) (by kernel_rfl) (by kernel_rfl) (by kernel_rfl) (by rfl) (by rfl) (by rfl) (by rfl) (by rfl) (by rfl) (by kernel_rfl) (by kernel_rfl) (by kernel_rfl) (fun w S => St.pick S [5, 10] _ rfl (by decide)) ?_)
   refine Sx.GT.nil (Sx.E.next (Sx.C.seq ?_))
   refine Sx.C.turn (ι := List Nat) (p := fun _ => True) (fun Z22 => [ow (rLsw wG) w.heap.size (max w20'.heap.size w20'.heap.size) [({ g0 with t := (2, g0.t.2) } : gT)] [.slice (some ⟨b22, o22, none⟩) 1 c20_1] Z22, vr b21 [.slice A20_0 M0.length c20_0, .slice (some ⟨b22, o22, none⟩) 1 c20_1, .slice A20_2 0 c20_2, .int .i64 0], ow (rLsw (rLsw rInt)) w20.heap.size w20'.heap.size M0 [.slice A20_0 M0.length c20_0] G20_0, ow (rLst 3 rInt) w20.heap.size (w20'.heap.size) (([] : List Int)) [.slice A20_2 0 c20_2] G20_2, Sx.bk b19 [.slice (some ⟨b18, 0, none⟩) 2 2] 49, vr b18 [.int .i64 5, .int .i64 (p0 : Int), .int .i64 7, .int .i64 0], vr gp (Stt.icells l)]) (fun w' S => by
    have S2 := St.pick S [0, 1, 2, 3, 4, 5, 6, 7, 8, 9, 10] (_ :: _ :: _ :: _ :: _ :: [vr b21 [.slice A20_0 M0.length c20_0, .slice (some ⟨b22, o22, none⟩) 1 c20_1, .slice A20_2 0 c20_2, .int .i64 0], ow (rLsw (rLsw rInt)) w20.heap.size w20'.heap.size M0 [.slice A20_0 M0.length c20_0] G20_0, ow (rLst 3 rInt) w20.heap.size (w20'.heap.size) (([] : List Int)) [.slice A20_2 0 c20_2] G20_2, Sx.bk b19 [.slice (some ⟨b18, 0, none⟩) 2 2] 49, vr b18 [.int .i64 5, .int .i64 (p0 : Int), .int .i64 7, .int .i64 0], vr gp (Stt.icells l)]) rfl (by decide)
    have S4 := Kit.cshut_Guest (g := ({ g0 with t := (2, g0.t.2) } : gT)) S2
    have S5 := Sx.St.closeW S4 (by decide) 1 _ rfl hmc22
    exact ⟨_, trivial, S5⟩) (fun Z22 _ => ?_)
   refine Sx.C.region ?_
   refine Sx.G.lw .m1 ?_
   refine Sx.G.c 11 #[.agg #[.slice A20_0 M0.length c20_0, .slice (some ⟨b22, o22, none⟩) 1 c20_1, .slice A20_2 0 c20_2, .int .i64 0], .int .i64 0] (fun w23 S => (((implx_step m1 _ 0 _ hmc (by rw [hpt]; exact wB_rd_mk (g := ({ mem := M0, gs := [{ g0 with t := (2, g0.t.2) }], outs := [], pd := 0 } : bT)) (St.reads S 2 rfl) (St.reads S 0 rfl) (show rdLst rInt _ _ _ _ _ from St.reads (r := rLst 3 rInt) S 3 rfl)) hmn (by decide) (noB_walks hno)).mono fun e w' h => hz2 ▸ h)).mono fun e w23' hp => ?_)
   obtain ⟨cs, F, rfl, ho, hF, hb⟩ := hp
   obtain ⟨P23_0, P23_1, P23_2, rfl, f23_0, f23_1, f23_2⟩ := wB_rd (wB.reads ho)
   obtain ⟨A23_0, c23_0, e23_0, -⟩ := lst_val f23_0
   subst e23_0
   obtain ⟨A23_1, c23_1, e23_1, -⟩ := lst_val f23_1
   subst e23_1
   obtain ⟨A23_2, c23_2, e23_2, -⟩ := lst_val f23_2
   subst e23_2
   generalize F = F23 at ho hF
   refine ⟨_, _, rfl, (St.got S hb ho hF), ?_⟩
   clear S hb ho hF f23_0 f23_1 f23_2
   refine Sx.G.p (.tuple #[.agg #[.slice A23_0 z.mem.length c23_0, .slice A23_1 z.gs.length c23_1, .slice A23_2 z.outs.length c23_2, .int .i64 z.pd], .bool true]) ?_
   refine Sx.G.p (.agg #[.slice A23_0 z.mem.length c23_0, .slice A23_1 z.gs.length c23_1, .slice A23_2 z.outs.length c23_2, .int .i64 z.pd]) ?_
   refine Sx.G.p (.bool true) ?_
   refine Sx.G.ar [.slice none 0 0, .slice none 0 0, .slice none 0 0, .int .i64 0] (fun b24 => ?_)
   refine Sx.G.sw [.slice A23_0 z.mem.length c23_0, .slice A23_1 z.gs.length c23_1, .slice A23_2 z.outs.length c23_2, .int .i64 z.pd] .a0 ?_
   refine Sx.G.p (.bool true) ?_
   refine Sx.G.nil (Sx.E.next (Sx.C.seq (Sx.C.region ?_)))
   refine Sx.G.lw .m0 ?_
   refine Sx.G.cp 23 #[.agg #[.slice A23_0 z.mem.length c23_0, .slice A23_1 z.gs.length c23_1, .slice A23_2 z.outs.length c23_2, .int .i64 z.pd], .int .i64 0] (.agg #[.int .i64 0, .int .i64 0, .bool false, .int .i64 0]) (fun w S => by exact ((implx_exit z _ 0 _ hzc (St.reads (r := wB) S 1 rfl) hzn (by decide)).mono fun e w' h => And.intro (h.1.trans (by rw [hx0])) h.2)) ?_
   refine Sx.G.ar [.int .i64 0, .int .i64 0, .bool false, .int .i64 0] (fun b25 => ?_)
   refine Sx.G.sw [.int .i64 0, .int .i64 0, .bool false, .int .i64 0] .a0 ?_
   refine Sx.G.nil (Sx.E.next (Sx.C.seq (Sx.C.region ?_)))
   refine Sx.G.p (.slice (some ⟨gp, 0, none⟩) 12 cp) ?_
   refine Sx.G.pure (.pointer (some ⟨gp, 0 + 1 * 1, none⟩)) (by kernel_rfl) (fun w => Sx.run_elemO 3 1 8 gp 0 12 cp 1 rfl (by kernel_rfl) (by kernel_rfl) (by kernel_rfl) (by omega) w) ?_
   refine Sx.G.reads (.int .i64 (l.getD 1 0)) (by kernel_rfl) (fun w S => Sx.run_ldr1 rfl (by kernel_rfl) (by kernel_rfl) (show w.cell? ⟨gp, 0 + 1 * 1, none⟩ = some (.int .i64 (l.getD 1 0)) by rw [Nat.zero_add, Nat.mul_one]; exact St.cell S 9 rfl 1 (pl_cell l 1 (by omega)))) ?_
   refine Sx.G.q (.int .i64 ((l.getD 1 0).tmod 4)) (.int .i64 2) (congrArg (Value.int .i64) hq1) ?_
   refine Sx.G.p (.bool false) ?_
   refine Sx.G.p (.bool false) ?_
   refine Sx.G.p (.slice (some ⟨gp, 0, none⟩) 12 cp) ?_
   refine Sx.G.pure (.pointer (some ⟨gp, 0 + 1 * 1, none⟩)) (by kernel_rfl) (fun w => Sx.run_elemO 3 1 8 gp 0 12 cp 1 rfl (by kernel_rfl) (by kernel_rfl) (by kernel_rfl) (by omega) w) ?_
   refine Sx.G.reads (.int .i64 (l.getD 1 0)) (by kernel_rfl) (fun w S => Sx.run_ldr1 rfl (by kernel_rfl) (by kernel_rfl) (show w.cell? ⟨gp, 0 + 1 * 1, none⟩ = some (.int .i64 (l.getD 1 0)) by rw [Nat.zero_add, Nat.mul_one]; exact St.cell S 9 rfl 1 (pl_cell l 1 (by omega)))) ?_
   refine Sx.G.q (.int .i64 ((l.getD 1 0).tmod 4)) (.int .i64 2) (congrArg (Value.int .i64) hq1) ?_
   refine Sx.G.p (.bool true) ?_
   refine Sx.G.p (.bool true) ?_
   refine Sx.G.p (.bool true) ?_
   refine Sx.G.nil (Sx.E.next (Sx.C.seq ?_))
   refine Sx.C.draw (.take 0 (.take 1 (.take 2 (.take 3 (.take 4 (.take 5 (.take 6 (.take 7 (.take 8 (.take 9 (.take 10 (.take 11 (.take 12 (.take 13 (.take 14 (.take 15 (.take 16 (.take 17 (.take 18 (.take 19 (.take 20 (.take 21 (.take 22 (.take 23 (.take 24 (.take 25 .nil)))))))))))))))))))))))))) [vr b25 [.int .i64 0, .int .i64 0, .bool false, .int .i64 0], vr b24 [.slice A23_0 z.mem.length c23_0, .slice A23_1 z.gs.length c23_1, .slice A23_2 z.outs.length c23_2, .int .i64 z.pd], vr gp (Stt.icells l)] (fun w S => St.pick S [0, 1, 9] _ rfl (by decide)) (by kernel_rfl) (by kernel_rfl) (by kernel_rfl) ?_
   refine Sx.GT.p (.pointer (some ⟨b24, 2, none⟩)) ?_
   refine Sx.GT.g (.slice A23_2 z.outs.length c23_2) .m1 .m2 ?_
   refine Sx.GT.p (.int .i64 ((z.outs.length : Nat) : Int)) ?_
   refine Sx.GT.q (.bool (((z.outs.length : Nat) : Int) == 1)) (.bool true) (congrArg Value.bool (by rw [hln]; rfl)) ?_
   refine Sx.GT.p (.bool true) ?_
   refine Sx.GT.p (.bool true) ?_
   refine Sx.GT.p (.bool true) ?_
   refine Sx.GT.lw .m0 ?_
   refine Sx.GT.p (.slice (some ⟨gp, 0, none⟩) 12 cp) ?_
   refine Sx.GT.pure (.pointer (some ⟨gp, 0 + 0 * 1, none⟩)) 9 (by rfl) (by kernel_rfl) (fun w => Sx.run_elemO 3 1 8 gp 0 12 cp 0 rfl (by kernel_rfl) (by kernel_rfl) (by kernel_rfl) (by omega) w) ?_
   refine Sx.GT.reads (.int .i64 (l.getD 0 0)) 10 (by rfl) (by kernel_rfl) (fun w S => Sx.run_ldr1 rfl (by kernel_rfl) (by kernel_rfl) (show w.cell? ⟨gp, 0 + 0 * 1, none⟩ = some (.int .i64 (l.getD 0 0)) by rw [Nat.zero_add, Nat.mul_one]; exact St.cell S 2 rfl 0 (pl_cell l 0 (by omega)))) ?_
   refine Sx.GT.q (.int .i64 ((l.getD 0 0).tmod 100)) (.int .i64 (p0 : Int)) (congrArg (Value.int .i64) hq0) ?_
   refine Sx.GT.p (.agg #[.int .i64 3, .int .i64 0, .bool false, .int .i64 (p0 : Int)]) ?_
   refine Sx.GT.pureq (.bool (0 == 3 && 0 == 0 && false == false && 0 == (p0 : Int))) (.bool false) 13 (by rfl) (by kernel_rfl) (fun w => Sx.run_eqs rfl rfl rfl (by kernel_rfl) (fun w => eqv_Exit_eql 0 0 false 0 3 0 false ((p0 : Int)) w) w) (congrArg Value.bool (rfl)) ?_
   refine Sx.GT.p (.bool true) ?_
   refine Sx.GT.p (.bool false) ?_
   refine Sx.GT.p (.bool true) ?_
   refine Sx.GT.p (.bool true) ?_
   refine Sx.GT.p (.bool true) ?_
   refine Sx.GT.lw .m0 ?_
   refine Sx.GT.p (.agg #[.int .i64 0, .int .i64 0, .bool false, .int .i64 0]) ?_
   refine Sx.GT.pureq (.bool (0 == 0 && 0 == 0 && false == false && 0 == 0)) (.bool true) 21 (by rfl) (by kernel_rfl) (fun w => Sx.run_eqs rfl rfl rfl (by kernel_rfl) (fun w => eqv_Exit_eql 0 0 false 0 0 0 false 0 w) w) (congrArg Value.bool (by simp)) ?_
   refine Sx.GT.p (.bool true) ?_
   refine Sx.GT.p (.bool true) ?_
   refine Sx.GT.p (.bool true) ?_
   refine Sx.GT.p (.bool true) ?_
   refine Sx.GT.nil (Sx.E.next (Sx.C.ret ?_))
   refine Sx.E.ret1 (.bool true) rfl (by kernel_rfl) (fun w S => ?_)
   exact ⟨rfl, S.below⟩
  ·
   have hprg : ∀ p ∈ [[(5, (p0 : Int)), (7, 0)]], Inss.wfJL p ∧ p.length ≤ 20 := fun p hp => by rw [List.mem_singleton.1 hp]; exact wf_two ⟨n_5, wfN p0 (by omega)⟩ ⟨n_7, z0⟩
   obtain ⟨M0, hM⟩ : ∃ M, M = (newB [[(5, (p0 : Int)), (7, 0)]]).mem := ⟨_, rfl⟩
   have hM0 : (newB [[(5, (p0 : Int)), (7, 0)]]).mem = M0 := hM.symm
   obtain ⟨g0, hg0⟩ : ∃ g, g = trG (p0 : Int) := ⟨_, rfl⟩
   have hgs : (newB [[(5, (p0 : Int)), (7, 0)]]).gs = [g0] := by rw [hg0]; rfl
   have hos : (newB [[(5, (p0 : Int)), (7, 0)]]).outs = [] := rfl
   obtain ⟨m1, hm1⟩ : ∃ m, m = trM (p0 : Int) ((3 : Nat) : Int) := ⟨_, rfl⟩
   have hpt : m1 = ({ mem := M0, gs := [{ g0 with t := (3, g0.t.2) }], outs := [], pd := 0 } : bT) := by rw [hm1, hM, hg0]; rfl
   have hok := trM_ok p0 3 hp0 (by decide)
   rw [← hm1] at hok
   have hmc := hok.2
   have hmn := hok.1
   have hall := tr_all ⟨p0, hp0⟩ ⟨3, by decide⟩
   unfold trC at hall
   rw [← hm1] at hall
   obtain ⟨z, hz⟩ : ∃ z, z = (stepB m1 0).1 := ⟨_, rfl⟩
   rw [← hz] at hall
   simp only [Bool.and_eq_true, decide_eq_true_eq] at hall
   obtain ⟨⟨⟨hno, ht⟩, hln0⟩, hx00⟩ := hall
   have hln : z.outs.length = 0 := hln0
   have hx0 : (guestAt z 0).1.x = (3, 0, false, (p0 : Int)) := hx00
   have hz2 : stepB m1 0 = (z, true) := by rw [hz, ← ht]
   have hzc : wB.cap z := hz ▸ cap_stepB _ hmc
   have hzn : wB.wf z := hz ▸ wf_stepB _ hmn
   clear hln0 hx00 ht hok
   refine Sx.C.region ?_
   refine Sx.G.p (.slice (some ⟨gp, 0, none⟩) 12 cp) ?_
   refine Sx.G.pure (.pointer (some ⟨gp, 0 + 0 * 1, none⟩)) (by kernel_rfl) (fun w => Sx.run_elemO 3 1 8 gp 0 12 cp 0 rfl (by kernel_rfl) (by kernel_rfl) (by kernel_rfl) (by omega) w) ?_
   refine Sx.G.reads (.int .i64 (l.getD 0 0)) (by kernel_rfl) (fun w S => Sx.run_ldr1 rfl (by kernel_rfl) (by kernel_rfl) (show w.cell? ⟨gp, 0 + 0 * 1, none⟩ = some (.int .i64 (l.getD 0 0)) by rw [Nat.zero_add, Nat.mul_one]; exact St.cell S 0 rfl 0 (pl_cell l 0 (by omega)))) ?_
   refine Sx.G.q (.int .i64 ((l.getD 0 0).tmod 100)) (.int .i64 (p0 : Int)) (congrArg (Value.int .i64) hq0) ?_
   refine Sx.G.p (.agg #[.int .i64 5, .int .i64 (p0 : Int)]) ?_
   refine Sx.G.p (.agg #[.int .i64 7, .int .i64 0]) ?_
   refine Sx.G.made 48 [.int .i64 5, .int .i64 (p0 : Int), .int .i64 7, .int .i64 0] 2 (by kernel_rfl) (fun w => by kernel_rfl) (fun b26 => ?_)
   refine Sx.G.block 49 [.slice (some ⟨b26, 0, none⟩) 2 2] 1 (by kernel_rfl) (fun w => by kernel_rfl) (fun b27 => ?_)
   refine Sx.G.c 25 #[.slice (some ⟨b27, 0, none⟩) 1 1] (fun w28 S => (specx_bnew [[(5, (p0 : Int)), (7, 0)]] (some ⟨b27, 0, none⟩) 1 _ (cap_prgs hprg (by simp)) (bk_lst (r := rLsw (rPair rInt rInt)) (xs := [[(5, (p0 : Int)), (7, 0)]]) S 0 rfl ⟨[_], _, rfl, (vr_prog (p := [(5, (p0 : Int)), (7, 0)]) S 1 rfl), rfl⟩)).mono fun e w28' hp => ?_)
   obtain ⟨cs, F, rfl, ho, hF, hb⟩ := hp
   obtain ⟨P28_0, P28_1, P28_2, G28_0, G28_1, G28_2, rfl, S'⟩ := rB_open (St.got S hb ho hF)
   rw [hM0, hgs, hos] at S'
   obtain ⟨A28_0, c28_0, e28_0, -⟩ := lst_val (S'.reads 0 rfl)
   subst e28_0
   obtain ⟨A28_1, c28_1, e28_1, -⟩ := lst_val (S'.reads 1 rfl)
   subst e28_1
   obtain ⟨A28_2, c28_2, e28_2, -⟩ := lst_val (S'.reads 2 rfl)
   subst e28_2
   refine ⟨_, _, rfl, S', ?_⟩
   clear S S' ho hF hb
   refine Sx.G.ar [.slice none 0 0, .slice none 0 0, .slice none 0 0, .int .i64 0] (fun b29 => ?_)
   refine Sx.G.sw [.slice A28_0 M0.length c28_0, .slice A28_1 1 c28_1, .slice A28_2 0 c28_2, .int .i64 0] .a0 ?_
   refine Sx.G.nil (Sx.E.next (Sx.C.seq ?_))
   refine Sx.C.pk (.c .m2 (.c .m0 (.c .m1 (.c .m3 (.c .m4 (.c .m5 (.c .m6 .n))))))) ?_
   refine Sx.C.open (r := wG) (pre := []) (x := g0) (post := []) rfl (by decide) (fun b30 o30 es G130 Gi30 G230 eA eF hes hm hmc30 => ?_)
   subst eA eF
   refine Kit.copen_Guest (fun P30_0 P30_1 P30_2 P30_3 H30_0 H30_1 H30_2 H30_3 e1 e2 => ?_)
   subst e1 e2
   refine Sx.C.draw (.take 0 (.take 1 (.take 2 (.take 3 (.take 4 (.take 5 (.take 6 (.take 7 (.take 8 (.alone 9 .nil)))))))))) [vr b29 [.slice A28_0 M0.length c28_0, .slice (some ⟨b30, o30, none⟩) 1 c28_1, .slice A28_2 0 c28_2, .int .i64 0], vr gp (Stt.icells l)] (fun w S => St.pick S [5, 10] _ rfl (by decide)) (by kernel_rfl) (by kernel_rfl) (by kernel_rfl) ?_
   refine Sx.GT.p (.pointer (some ⟨b29, 1, none⟩)) ?_
   refine Sx.GT.g (.slice (some ⟨b30, o30, none⟩) 1 c28_1) .m0 .m1 ?_
   refine Sx.GT.p (.slice (some ⟨gp, 0, none⟩) 12 cp) ?_
   refine Sx.GT.pure (.pointer (some ⟨gp, 0 + 1 * 1, none⟩)) 3 (by rfl) (by kernel_rfl) (fun w => Sx.run_elemO 3 1 8 gp 0 12 cp 1 rfl (by kernel_rfl) (by kernel_rfl) (by kernel_rfl) (by omega) w) ?_
   refine Sx.GT.reads (.int .i64 (l.getD 1 0)) 4 (by rfl) (by kernel_rfl) (fun w S => Sx.run_ldr1 rfl (by kernel_rfl) (by kernel_rfl) (show w.cell? ⟨gp, 0 + 1 * 1, none⟩ = some (.int .i64 (l.getD 1 0)) by rw [Nat.zero_add, Nat.mul_one]; exact St.cell S 1 rfl 1 (pl_cell l 1 (by omega)))) ?_
   refine Sx.GT.q (.int .i64 ((l.getD 1 0).tmod 4)) (.int .i64 3) (congrArg (Value.int .i64) hq1) ?_
   refine Sx.GT.elem 25 56 (.tmp 23) (.const (.int .i64 0)) 15 184 b30 o30 1 c28_1 0 6 (by rfl) (by rfl) (by kernel_rfl) (by kernel_rfl) (by kernel_rfl) (by kernel_rfl) (by omega) ?_
   refine Sx.GT.p (.pointer (some ⟨b30, (o30 + 0 * 15) + 5, none⟩)) ?_
   refine Sx.GT.p (.pointer (some ⟨b30, (o30 + 0 * 15) + 5, none⟩)) ?_
   refine Sx.GT.alone (Sx.Alone.hsto (k := 0) (size := 15) 3 (.tmp 30) (.tmp 27) b30 ((o30 + 0 * 15) + 5) 5 0 [.int .i64 3] [P30_0, .int .i64 g0.a, .int .i64 g0.pc, P30_1, P30_2, .int .i64 3, .int .i64 g0.t.2.1, .bool g0.t.2.2, .int .i64 g0.pd, .int .i64 g0.x.1, .int .i64 g0.x.2.1, .bool g0.x.2.2.1, .int .i64 g0.x.2.2.2, .bool g0.hl, P30_3] [Sx.hole wG b30 o30 w28.heap.size w28'.heap.size [] [] [P30_0, .int .i64 g0.a, .int .i64 g0.pc, P30_1, P30_2, .int .i64 3, .int .i64 g0.t.2.1, .bool g0.t.2.2, .int .i64 g0.pd, .int .i64 g0.x.1, .int .i64 g0.x.2.1, .bool g0.x.2.2.1, .int .i64 g0.x.2.2.2, .bool g0.hl, P30_3] G130 G230, ow (rLsw (rPair rInt rInt)) w28.heap.size w28'.heap.size g0.prog [P30_0] H30_0, ow (rLsw (rPair rInt rInt)) w28.heap.size w28'.heap.size g0.wr [P30_1] H30_1, ow (rLsw (rPair rInt rInt)) w28.heap.size w28'.heap.size g0.lv [P30_2] H30_2, ow (rLsw rInt) w28.heap.size w28'.heap.size g0.seen [P30_3] H30_3, vr b29 [.slice A28_0 M0.length c28_0, .slice (some ⟨b30, o30, none⟩) 1 c28_1, .slice A28_2 0 c28_2, .int .i64 0], ow (rLsw (rLsw rInt)) w28.heap.size w28'.heap.size M0 [.slice A28_0 M0.length c28_0] G28_0, ow (rLst 3 rInt) w28.heap.size (w28'.heap.size) (([] : List Int)) [.slice A28_2 0 c28_2] G28_2, Sx.bk b27 [.slice (some ⟨b26, 0, none⟩) 2 2] 49, vr b26 [.int .i64 5, .int .i64 (p0 : Int), .int .i64 7, .int .i64 0], vr gp (Stt.icells l)] (by rfl) (by rfl) (by kernel_rfl) (by kernel_rfl) (by kernel_rfl) (by rfl) (by rfl) (by rfl) (by rfl) (by rfl) (by rfl) (by kernel_rfl) (by kernel_rfl) (by kernel_rfl) (fun w S => St.pick S [5, 10] _ rfl (by decide)) ?_)
   refine Sx.GT.nil (Sx.E.next (Sx.C.seq ?_))
   refine Sx.C.turn (ι := List Nat) (p := fun _ => True) (fun Z30 => [ow (rLsw wG) w.heap.size (max w28'.heap.size w28'.heap.size) [({ g0 with t := (3, g0.t.2) } : gT)] [.slice (some ⟨b30, o30, none⟩) 1 c28_1] Z30, vr b29 [.slice A28_0 M0.length c28_0, .slice (some ⟨b30, o30, none⟩) 1 c28_1, .slice A28_2 0 c28_2, .int .i64 0], ow (rLsw (rLsw rInt)) w28.heap.size w28'.heap.size M0 [.slice A28_0 M0.length c28_0] G28_0, ow (rLst 3 rInt) w28.heap.size (w28'.heap.size) (([] : List Int)) [.slice A28_2 0 c28_2] G28_2, Sx.bk b27 [.slice (some ⟨b26, 0, none⟩) 2 2] 49, vr b26 [.int .i64 5, .int .i64 (p0 : Int), .int .i64 7, .int .i64 0], vr gp (Stt.icells l)]) (fun w' S => by
    have S2 := St.pick S [0, 1, 2, 3, 4, 5, 6, 7, 8, 9, 10] (_ :: _ :: _ :: _ :: _ :: [vr b29 [.slice A28_0 M0.length c28_0, .slice (some ⟨b30, o30, none⟩) 1 c28_1, .slice A28_2 0 c28_2, .int .i64 0], ow (rLsw (rLsw rInt)) w28.heap.size w28'.heap.size M0 [.slice A28_0 M0.length c28_0] G28_0, ow (rLst 3 rInt) w28.heap.size (w28'.heap.size) (([] : List Int)) [.slice A28_2 0 c28_2] G28_2, Sx.bk b27 [.slice (some ⟨b26, 0, none⟩) 2 2] 49, vr b26 [.int .i64 5, .int .i64 (p0 : Int), .int .i64 7, .int .i64 0], vr gp (Stt.icells l)]) rfl (by decide)
    have S4 := Kit.cshut_Guest (g := ({ g0 with t := (3, g0.t.2) } : gT)) S2
    have S5 := Sx.St.closeW S4 (by decide) 1 _ rfl hmc30
    exact ⟨_, trivial, S5⟩) (fun Z30 _ => ?_)
   refine Sx.C.region ?_
   refine Sx.G.lw .m1 ?_
   refine Sx.G.c 11 #[.agg #[.slice A28_0 M0.length c28_0, .slice (some ⟨b30, o30, none⟩) 1 c28_1, .slice A28_2 0 c28_2, .int .i64 0], .int .i64 0] (fun w31 S => (((implx_step m1 _ 0 _ hmc (by rw [hpt]; exact wB_rd_mk (g := ({ mem := M0, gs := [{ g0 with t := (3, g0.t.2) }], outs := [], pd := 0 } : bT)) (St.reads S 2 rfl) (St.reads S 0 rfl) (show rdLst rInt _ _ _ _ _ from St.reads (r := rLst 3 rInt) S 3 rfl)) hmn (by decide) (noB_walks hno)).mono fun e w' h => hz2 ▸ h)).mono fun e w31' hp => ?_)
   obtain ⟨cs, F, rfl, ho, hF, hb⟩ := hp
   obtain ⟨P31_0, P31_1, P31_2, rfl, f31_0, f31_1, f31_2⟩ := wB_rd (wB.reads ho)
   obtain ⟨A31_0, c31_0, e31_0, -⟩ := lst_val f31_0
   subst e31_0
   obtain ⟨A31_1, c31_1, e31_1, -⟩ := lst_val f31_1
   subst e31_1
   obtain ⟨A31_2, c31_2, e31_2, -⟩ := lst_val f31_2
   subst e31_2
   generalize F = F31 at ho hF
   refine ⟨_, _, rfl, (St.got S hb ho hF), ?_⟩
   clear S hb ho hF f31_0 f31_1 f31_2
   refine Sx.G.p (.tuple #[.agg #[.slice A31_0 z.mem.length c31_0, .slice A31_1 z.gs.length c31_1, .slice A31_2 z.outs.length c31_2, .int .i64 z.pd], .bool true]) ?_
   refine Sx.G.p (.agg #[.slice A31_0 z.mem.length c31_0, .slice A31_1 z.gs.length c31_1, .slice A31_2 z.outs.length c31_2, .int .i64 z.pd]) ?_
   refine Sx.G.p (.bool true) ?_
   refine Sx.G.ar [.slice none 0 0, .slice none 0 0, .slice none 0 0, .int .i64 0] (fun b32 => ?_)
   refine Sx.G.sw [.slice A31_0 z.mem.length c31_0, .slice A31_1 z.gs.length c31_1, .slice A31_2 z.outs.length c31_2, .int .i64 z.pd] .a0 ?_
   refine Sx.G.p (.bool true) ?_
   refine Sx.G.nil (Sx.E.next (Sx.C.seq (Sx.C.region ?_)))
   refine Sx.G.lw .m0 ?_
   refine Sx.G.cp 23 #[.agg #[.slice A31_0 z.mem.length c31_0, .slice A31_1 z.gs.length c31_1, .slice A31_2 z.outs.length c31_2, .int .i64 z.pd], .int .i64 0] (.agg #[.int .i64 3, .int .i64 0, .bool false, .int .i64 (p0 : Int)]) (fun w S => by exact ((implx_exit z _ 0 _ hzc (St.reads (r := wB) S 1 rfl) hzn (by decide)).mono fun e w' h => And.intro (h.1.trans (by rw [hx0])) h.2)) ?_
   refine Sx.G.ar [.int .i64 0, .int .i64 0, .bool false, .int .i64 0] (fun b33 => ?_)
   refine Sx.G.sw [.int .i64 3, .int .i64 0, .bool false, .int .i64 (p0 : Int)] .a0 ?_
   refine Sx.G.nil (Sx.E.next (Sx.C.seq (Sx.C.region ?_)))
   refine Sx.G.p (.slice (some ⟨gp, 0, none⟩) 12 cp) ?_
   refine Sx.G.pure (.pointer (some ⟨gp, 0 + 1 * 1, none⟩)) (by kernel_rfl) (fun w => Sx.run_elemO 3 1 8 gp 0 12 cp 1 rfl (by kernel_rfl) (by kernel_rfl) (by kernel_rfl) (by omega) w) ?_
   refine Sx.G.reads (.int .i64 (l.getD 1 0)) (by kernel_rfl) (fun w S => Sx.run_ldr1 rfl (by kernel_rfl) (by kernel_rfl) (show w.cell? ⟨gp, 0 + 1 * 1, none⟩ = some (.int .i64 (l.getD 1 0)) by rw [Nat.zero_add, Nat.mul_one]; exact St.cell S 9 rfl 1 (pl_cell l 1 (by omega)))) ?_
   refine Sx.G.q (.int .i64 ((l.getD 1 0).tmod 4)) (.int .i64 3) (congrArg (Value.int .i64) hq1) ?_
   refine Sx.G.p (.bool false) ?_
   refine Sx.G.p (.bool false) ?_
   refine Sx.G.p (.slice (some ⟨gp, 0, none⟩) 12 cp) ?_
   refine Sx.G.pure (.pointer (some ⟨gp, 0 + 1 * 1, none⟩)) (by kernel_rfl) (fun w => Sx.run_elemO 3 1 8 gp 0 12 cp 1 rfl (by kernel_rfl) (by kernel_rfl) (by kernel_rfl) (by omega) w) ?_
   refine Sx.G.reads (.int .i64 (l.getD 1 0)) (by kernel_rfl) (fun w S => Sx.run_ldr1 rfl (by kernel_rfl) (by kernel_rfl) (show w.cell? ⟨gp, 0 + 1 * 1, none⟩ = some (.int .i64 (l.getD 1 0)) by rw [Nat.zero_add, Nat.mul_one]; exact St.cell S 9 rfl 1 (pl_cell l 1 (by omega)))) ?_
   refine Sx.G.q (.int .i64 ((l.getD 1 0).tmod 4)) (.int .i64 3) (congrArg (Value.int .i64) hq1) ?_
   refine Sx.G.p (.bool false) ?_
   refine Sx.G.p (.bool false) ?_
   refine Sx.G.p (.bool false) ?_
   refine Sx.G.nil (Sx.E.next (Sx.C.seq ?_))
   refine Sx.C.draw (.take 0 (.take 1 (.take 2 (.take 3 (.take 4 (.take 5 (.take 6 (.take 7 (.take 8 (.take 9 (.take 10 (.take 11 (.take 12 (.take 13 (.take 14 (.take 15 (.take 16 (.take 17 (.take 18 (.take 19 (.take 20 (.take 21 (.take 22 (.take 23 (.take 24 (.take 25 .nil)))))))))))))))))))))))))) [vr b33 [.int .i64 3, .int .i64 0, .bool false, .int .i64 (p0 : Int)], vr b32 [.slice A31_0 z.mem.length c31_0, .slice A31_1 z.gs.length c31_1, .slice A31_2 z.outs.length c31_2, .int .i64 z.pd], vr gp (Stt.icells l)] (fun w S => St.pick S [0, 1, 9] _ rfl (by decide)) (by kernel_rfl) (by kernel_rfl) (by kernel_rfl) ?_
   refine Sx.GT.p (.pointer (some ⟨b32, 2, none⟩)) ?_
   refine Sx.GT.g (.slice A31_2 z.outs.length c31_2) .m1 .m2 ?_
   refine Sx.GT.p (.int .i64 ((z.outs.length : Nat) : Int)) ?_
   refine Sx.GT.q (.bool (((z.outs.length : Nat) : Int) == 1)) (.bool false) (congrArg Value.bool (by rw [hln]; rfl)) ?_
   refine Sx.GT.p (.bool false) ?_
   refine Sx.GT.p (.bool true) ?_
   refine Sx.GT.p (.bool true) ?_
   refine Sx.GT.lw .m0 ?_
   refine Sx.GT.p (.slice (some ⟨gp, 0, none⟩) 12 cp) ?_
   refine Sx.GT.pure (.pointer (some ⟨gp, 0 + 0 * 1, none⟩)) 9 (by rfl) (by kernel_rfl) (fun w => Sx.run_elemO 3 1 8 gp 0 12 cp 0 rfl (by kernel_rfl) (by kernel_rfl) (by kernel_rfl) (by omega) w) ?_
   refine Sx.GT.reads (.int .i64 (l.getD 0 0)) 10 (by rfl) (by kernel_rfl) (fun w S => Sx.run_ldr1 rfl (by kernel_rfl) (by kernel_rfl) (show w.cell? ⟨gp, 0 + 0 * 1, none⟩ = some (.int .i64 (l.getD 0 0)) by rw [Nat.zero_add, Nat.mul_one]; exact St.cell S 2 rfl 0 (pl_cell l 0 (by omega)))) ?_
   refine Sx.GT.q (.int .i64 ((l.getD 0 0).tmod 100)) (.int .i64 (p0 : Int)) (congrArg (Value.int .i64) hq0) ?_
   refine Sx.GT.p (.agg #[.int .i64 3, .int .i64 0, .bool false, .int .i64 (p0 : Int)]) ?_
   refine Sx.GT.pureq (.bool (3 == 3 && 0 == 0 && false == false && (p0 : Int) == (p0 : Int))) (.bool true) 13 (by rfl) (by kernel_rfl) (fun w => Sx.run_eqs rfl rfl rfl (by kernel_rfl) (fun w => eqv_Exit_eql 3 0 false ((p0 : Int)) 3 0 false ((p0 : Int)) w) w) (congrArg Value.bool (by simp)) ?_
   refine Sx.GT.p (.bool false) ?_
   refine Sx.GT.p (.bool true) ?_
   refine Sx.GT.p (.bool true) ?_
   refine Sx.GT.p (.bool true) ?_
   refine Sx.GT.p (.bool true) ?_
   refine Sx.GT.lw .m0 ?_
   refine Sx.GT.p (.agg #[.int .i64 0, .int .i64 0, .bool false, .int .i64 0]) ?_
   refine Sx.GT.pureq (.bool (3 == 0 && 0 == 0 && false == false && (p0 : Int) == 0)) (.bool false) 21 (by rfl) (by kernel_rfl) (fun w => Sx.run_eqs rfl rfl rfl (by kernel_rfl) (fun w => eqv_Exit_eql 3 0 false ((p0 : Int)) 0 0 false 0 w) w) (congrArg Value.bool (rfl)) ?_
   refine Sx.GT.p (.bool false) ?_
   refine Sx.GT.p (.bool true) ?_
   refine Sx.GT.p (.bool true) ?_
   refine Sx.GT.p (.bool true) ?_
   refine Sx.GT.nil (Sx.E.next (Sx.C.ret ?_))
   refine Sx.E.ret1 (.bool true) rfl (by kernel_rfl) (fun w S => ?_)
   exact ⟨rfl, S.below⟩
theorem lifted (os : Os) (started : os.Started) (H : Type) (enc : TypeId × Value → H) :
  ReturnsInHanded {} Tryz.checked os 6 .any (Rows.fnTrappedSpec.pre6 enc Tryz.prog Tryz.f6 Rows.fnTrappedRow.domain false) (Rows.fnTrappedSpec.post enc Tryz.prog Tryz.f6 false true false false) := by
 refine returnsInHanded_of_change (C := Tryz.checked) Base.own started (by kernel_rfl) Tryz.func6
  (ChangeSpec.witness6 (enc := enc) (C := Tryz.checked) false ⟨#[], #[.slice none 0 0], []⟩ 8 (by kernel_rfl) (by kernel_rfl) (by kernel_rfl) (by kernel_rfl)) ?_
 intro W base args ds gs before hval0 hW hcnd _
 have hval : ∀ (j : Nat) t v, Tryz.f6.params[j]? = some t → args[j]? = some v → Value.okWide Tryz.prog W .any base t v := hval0
 have hW' := hW
 obtain ⟨p, q, hA0, hV, rfl, hfz, hnd⟩ := hW
 have hA : DataW.TrodAll enc Tryz.prog W 0 (fun _ => true) true Tryz.f6.params.toList args.toList ds p := hA0
 have hA1 := hA
 rw [Tryz.params6] at hA hval
 obtain ⟨v0, vs0, d0, ds0, p0, q0, hargs, rfl, rfl, h0, r0⟩ := trodAll_cons hA
 obtain ⟨rfl, rfl, rfl⟩ := trodAll_nil r0
 obtain rfl : args = #[v0] := by cases args; simp_all
 obtain ⟨rfl, rfl⟩ := trodVars_none hV
 obtain ⟨A0, n0, c0, rfl, hn0, hcode0, _⟩ := Draw.open_code (hval 0 22 v0 rfl rfl) h0
 clear hA0 hval0
 rw [List.append_nil] at hW'
 refine (walk A0 n0 c0 hn0 hcode0).mono fun e W' ⟨he, hg⟩ => ?_
 subst he
 exact ⟨_, rfl, Mem.post_args Slots.laid (by kernel_rfl) rfl rfl rfl hW' hA1 hg (fun _ _ _ => (trodAll_cons_mk (shut_bool Tryz.underlying4 _) trodAll_mk0)) (ok_one (by kernel_rfl) rfl (okWide_bool_mk Tryz.underlying4 _))⟩
theorem over : Rows.fnTrappedRow.holds Tryz.pinned (OpenSpec.ofChange Rows.fnTrappedSpec) :=
 OpenClaim.holds_of_wide 6 Tryz.f6 rfl rfl rfl rfl rfl rfl rfl ⟨rfl, rfl, rfl, rfl, rfl⟩ rfl rfl rfl rfl rfl (by kernel_rfl) Tryz.func6 (by kernel_rfl)
  (of_decide_eq_true (by kernel_rfl)) (by unfold Func.isWrapper; first | (rw [if_pos (by decide +kernel)]; kernel_rfl) | (rw [if_neg (by decide +kernel)]; exact ⟨rfl, rfl⟩))
  (fun os started H enc _ => lifted os started H enc)
theorem proved : Rows.FnTrappedSaid :=
 over
#print axioms proved
end Go.Proofs.YtmiokacihcpepaaGreat.fnTrapped
