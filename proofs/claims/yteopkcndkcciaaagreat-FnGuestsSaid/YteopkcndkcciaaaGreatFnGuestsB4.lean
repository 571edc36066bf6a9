/-
  The texts that FnGuests wants, part 4: GuestDraws IrqLaw GuestLaw SxM IrqImpl ExitImpl. No condition.
-/
import Derived.Test.YteopkcndkcciaaaGreatFnGuestsB3
import Derived.Laws.BitsLemmas
import Derived.RangeFuncFrom
import Derived.RangeFuncBound
import Derived.RangeFuncCalls
import Derived.RangeFuncLeaves
import Derived.Shelf.Abstract
import Derived.WalkKit
import Derived.OwnWalkIn
import Derived.TacticsInMore
import Derived.LoopNIn
import Derived.LoopIn
import Derived.Laws.Build
namespace Go.Proofs.YteopkcndkcciaaaGreat.Guests
set_option maxRecDepth 100000
open Go.ChangeShapes Go.WideShapes Go.ChangeAt Go.RowKit
open Go.Proofs.YteopkcndkcciaaaGreat.Base Go.Proofs.YteopkcndkcciaaaGreat.Mem Go.Proofs.YteopkcndkcciaaaGreat.Data Go.Proofs.YteopkcndkcciaaaGreat.Slots Go.Proofs.YteopkcndkcciaaaGreat.Ints Go.Proofs.YteopkcndkcciaaaGreat.Ctls Go.Proofs.YteopkcndkcciaaaGreat.Exits Go.Proofs.YteopkcndkcciaaaGreat.Stt Go.Proofs.YteopkcndkcciaaaGreat.Irqs Go.Proofs.YteopkcndkcciaaaGreat.Inss Go.Proofs.YteopkcndkcciaaaGreat.Draw Go.Proofs.YteopkcndkcciaaaGreat.SDraw
set_option linter.unusedVariables false
set_option linter.unusedSimpArgs false
theorem small_cap {x : gT} (h : x.prog.length ≤ 20 ∧ x.wr.length ≤ 4 ∧ x.lv.length ≤ 4 ∧ x.seen.length ≤ 46) : rG.cap x := gcap_rg ⟨by omega, by omega, by omega, by omega⟩
def GOne (w : World) (e : Ending) (w' : World) : Prop := ∃ x cs, e = .returned (.agg cs.toArray) ∧ wfGuest x ∧ (x.prog.length ≤ 20 ∧ x.wr.length ≤ 4 ∧ x.lv.length ≤ 4 ∧ x.seen.length ≤ 46) ∧ rG.rd w' w.heap.size w'.heap.size x cs ∧ Below w.heap.size w w'
def GProg (w : World) (e : Ending) (w' : World) : Prop := ∃ l P, e = .returned P ∧ Inss.wfJL l ∧ l.length ≤ 20 ∧ rdLst (rPair rInt rInt) w' w.heap.size w'.heap.size l [P] ∧ Below w.heap.size w w'
def GNum (w : World) (e : Ending) (w' : World) : Prop := ∃ x cs n, e = .returned (.tuple #[.agg cs.toArray, .int .i64 n]) ∧ wfGuest x ∧ (x.prog.length ≤ 20 ∧ x.wr.length ≤ 4 ∧ x.lv.length ≤ 4 ∧ x.seen.length ≤ 46) ∧ rG.rd w' w.heap.size w'.heap.size x cs ∧ (Lit.int .i64 n).wf = true ∧ Below w.heap.size w w'
def GExit (w : World) (e : Ending) (w' : World) : Prop := ∃ x cs, ∃ q : QT, e = .returned (.tuple #[.agg cs.toArray, .agg #[.int .i64 q.1, .int .i64 q.2.1, .bool q.2.2.1, .int .i64 q.2.2.2]]) ∧ wfGuest x ∧ (x.prog.length ≤ 20 ∧ x.wr.length ≤ 4 ∧ x.lv.length ≤ 4 ∧ x.seen.length ≤ 46) ∧ rG.rd w' w.heap.size w'.heap.size x cs ∧ wfQ q ∧ Below w.heap.size w w'
def GTwo (w : World) (e : Ending) (w' : World) : Prop := ∃ x cs y ds, e = .returned (.tuple #[.agg cs.toArray, .agg ds.toArray]) ∧ (wfGuest x ∧ (x.prog.length ≤ 20 ∧ x.wr.length ≤ 4 ∧ x.lv.length ≤ 4 ∧ x.seen.length ≤ 46) ∧ rG.rd w' w.heap.size w'.heap.size x cs) ∧ (wfGuest y ∧ (y.prog.length ≤ 20 ∧ y.wr.length ≤ 4 ∧ y.lv.length ≤ 4 ∧ y.seen.length ≤ 46) ∧ rG.rd w' w.heap.size w'.heap.size y ds) ∧ Below w.heap.size w w'
set_option maxRecDepth 100000 in
set_option maxHeartbeats 4000000 in
theorem drawGuestOk (A : Option Addr) (n c : Nat) (w0 : World) (hn : n ≤ 1048576) (hcode : CodeAt w0 A n) : Calls Tryz.prog 12 #[.slice A n c] w0 (GOne w0) := by
  refine Sx.enter (args := [.slice A n c]) Tryz.func12 rfl Tryz.ntmps12 rfl ?_
  refine Sx.C.seq ?_
  refine Sx.C.region ?_
  refine Sx.G.alloc 33 (.agg #[.slice none 0 0, .int .i64 0, .int .i64 0, .slice none 0 0, .slice none 0 0, .int .i64 0, .int .i64 0, .bool false, .int .i64 0, .int .i64 0, .int .i64 0, .bool false, .int .i64 0, .bool false, .slice none 0 0]) [.slice none 0 0, .int .i64 0, .int .i64 0, .slice none 0 0, .slice none 0 0, .int .i64 0, .int .i64 0, .bool false, .int .i64 0, .int .i64 0, .int .i64 0, .bool false, .int .i64 0, .bool false, .slice none 0 0] rfl (by kernel_rfl) (fun w => by kernel_rfl) (by kernel_rfl) (fun b1 => ?_)
  refine Sx.G.nil ?_
  refine Sx.E.next ?_
  refine Sx.C.seq ?_
  refine Sx.C.region ?_
  refine Sx.G.pure (.slice A n c) (by kernel_rfl) (fun w => by kernel_rfl) ?_
  refine Sx.G.call 30 #[.slice A n c] (by kernel_rfl) (fun w => by kernel_rfl) (fun w2 S => (Sx.new_g A n c _ hn (hcode.below S.below)).mono fun e w2' hp => ?_)
  obtain ⟨g, rfl, hcs, hlo, hhi, hb⟩ := hp
  refine ⟨_, _, rfl, (S.add hb (Sx.cu A n c g) hcs hlo hhi), ?_⟩
  clear S hcs hlo hhi hb
  refine Sx.G.call 33 #[.pointer (some ⟨g, 0, none⟩)] (by kernel_rfl) (fun w => by kernel_rfl) (fun w3 S => (gany_any w0 A n c g _ hn hcode (Sx.St.cur S 0 rfl)).mono fun e w3' hp => ?_)
  obtain ⟨gg3, A3_0, c3_0, A3_1, c3_1, A3_2, c3_2, A3_3, c3_3, rfl, hwf3, hsm3, hcur, hgr, F3, l3_0, k3_0, l3_1, k3_1, l3_2, k3_2, l3_3, k3_3, hfr⟩ := hp
  refine ⟨_, _, rfl, Sx.St.joinD S (Sx.St.moved S 0 rfl hcur hgr) hfr, ?_⟩
  clear S hcur hgr hfr
  refine Sx.G.sto 33 (.tmp 2) (.tmp 5) b1 0 5 [.slice none 0 0, .int .i64 0, .int .i64 0, .slice none 0 0, .slice none 0 0, .int .i64 0, .int .i64 0, .bool false, .int .i64 0, .int .i64 0, .int .i64 0, .bool false, .int .i64 0, .bool false, .slice none 0 0] [.slice A3_0 gg3.prog.length c3_0, .int .i64 gg3.a, .int .i64 gg3.pc, .slice A3_1 gg3.wr.length c3_1, .slice A3_2 gg3.lv.length c3_2, .int .i64 gg3.t.1, .int .i64 gg3.t.2.1, .bool gg3.t.2.2, .int .i64 gg3.pd, .int .i64 gg3.x.1, .int .i64 gg3.x.2.1, .bool gg3.x.2.2.1, .int .i64 gg3.x.2.2.2, .bool gg3.hl, .slice A3_3 gg3.seen.length c3_3] [.slice A3_0 gg3.prog.length c3_0, .int .i64 gg3.a, .int .i64 gg3.pc, .slice A3_1 gg3.wr.length c3_1, .slice A3_2 gg3.lv.length c3_2, .int .i64 gg3.t.1, .int .i64 gg3.t.2.1, .bool gg3.t.2.2, .int .i64 gg3.pd, .int .i64 gg3.x.1, .int .i64 gg3.x.2.1, .bool gg3.x.2.2.1, .int .i64 gg3.x.2.2.2, .bool gg3.hl, .slice A3_3 gg3.seen.length c3_3] [Sx.rp l3_0 k3_0 gg3.prog A3_0 c3_0, Sx.rp l3_1 k3_1 gg3.wr A3_1 c3_1, Sx.rp l3_2 k3_2 gg3.lv A3_2 c3_2, ow (rLst 3 rInt) l3_3 k3_3 gg3.seen [.slice A3_3 gg3.seen.length c3_3] F3, Sx.cu A n c g, vr b1 [.slice A3_0 gg3.prog.length c3_0, .int .i64 gg3.a, .int .i64 gg3.pc, .slice A3_1 gg3.wr.length c3_1, .slice A3_2 gg3.lv.length c3_2, .int .i64 gg3.t.1, .int .i64 gg3.t.2.1, .bool gg3.t.2.2, .int .i64 gg3.pd, .int .i64 gg3.x.1, .int .i64 gg3.x.2.1, .bool gg3.x.2.2.1, .int .i64 gg3.x.2.2.2, .bool gg3.hl, .slice A3_3 gg3.seen.length c3_3]] rfl (by kernel_rfl) (by kernel_rfl) (by kernel_rfl) rfl (by kernel_rfl) rfl (by kernel_rfl) (by kernel_rfl) (by kernel_rfl) ?_
  refine Sx.G.nil ?_
  refine Sx.E.next ?_
  refine Sx.C.ret ?_
  refine Sx.E.retc b1 5 [.slice A3_0 gg3.prog.length c3_0, .int .i64 gg3.a, .int .i64 gg3.pc, .slice A3_1 gg3.wr.length c3_1, .slice A3_2 gg3.lv.length c3_2, .int .i64 gg3.t.1, .int .i64 gg3.t.2.1, .bool gg3.t.2.2, .int .i64 gg3.pd, .int .i64 gg3.x.1, .int .i64 gg3.x.2.1, .bool gg3.x.2.2.1, .int .i64 gg3.x.2.2.2, .bool gg3.hl, .slice A3_3 gg3.seen.length c3_3] rfl (by kernel_rfl) rfl (by kernel_rfl) (by kernel_rfl) (fun w S => ?_)
  exact ⟨gg3, _, rfl, hwf3, ⟨hsm3.1, hsm3.2.1, hsm3.2.2.1, by have := hsm3.2.2.2; show gg3.seen.length ≤ 46; omega⟩, (rG_rd_mk (g := gg3) (Sx.St.rpIn S 0 rfl) (Sx.St.rpIn S 1 rfl) (Sx.St.rpIn S 2 rfl) (Sx.St.owIn (r := rLst 3 rInt) S 3 rfl)), S.below⟩
set_option maxRecDepth 100000 in
set_option maxHeartbeats 4000000 in
theorem drawInterrupted (A : Option Addr) (n c : Nat) (w0 : World) (hn : n ≤ 1048576) (hcode : CodeAt w0 A n) : Calls Tryz.prog 7 #[.slice A n c] w0 (GOne w0) := by
  refine Sx.enter (args := [.slice A n c]) Tryz.func7 rfl Tryz.ntmps7 rfl ?_
  refine Sx.C.seq ?_
  refine Sx.C.region ?_
  refine Sx.G.alloc 33 (.agg #[.slice none 0 0, .int .i64 0, .int .i64 0, .slice none 0 0, .slice none 0 0, .int .i64 0, .int .i64 0, .bool false, .int .i64 0, .int .i64 0, .int .i64 0, .bool false, .int .i64 0, .bool false, .slice none 0 0]) [.slice none 0 0, .int .i64 0, .int .i64 0, .slice none 0 0, .slice none 0 0, .int .i64 0, .int .i64 0, .bool false, .int .i64 0, .int .i64 0, .int .i64 0, .bool false, .int .i64 0, .bool false, .slice none 0 0] rfl (by kernel_rfl) (fun w => by kernel_rfl) (by kernel_rfl) (fun b1 => ?_)
  refine Sx.G.nil ?_
  refine Sx.E.next ?_
  refine Sx.C.seq ?_
  refine Sx.C.region ?_
  refine Sx.G.pure (.slice A n c) (by kernel_rfl) (fun w => by kernel_rfl) ?_
  refine Sx.G.call 30 #[.slice A n c] (by kernel_rfl) (fun w => by kernel_rfl) (fun w2 S => (Sx.new_g A n c _ hn (hcode.below S.below)).mono fun e w2' hp => ?_)
  obtain ⟨g, rfl, hcs, hlo, hhi, hb⟩ := hp
  refine ⟨_, _, rfl, (S.add hb (Sx.cu A n c g) hcs hlo hhi), ?_⟩
  clear S hcs hlo hhi hb
  refine Sx.G.call 33 #[.pointer (some ⟨g, 0, none⟩)] (by kernel_rfl) (fun w => by kernel_rfl) (fun w3 S => (gany_any w0 A n c g _ hn hcode (Sx.St.cur S 0 rfl)).mono fun e w3' hp => ?_)
  obtain ⟨gg3, A3_0, c3_0, A3_1, c3_1, A3_2, c3_2, A3_3, c3_3, rfl, hwf3, hsm3, hcur, hgr, F3, l3_0, k3_0, l3_1, k3_1, l3_2, k3_2, l3_3, k3_3, hfr⟩ := hp
  refine ⟨_, _, rfl, Sx.St.joinD S (Sx.St.moved S 0 rfl hcur hgr) hfr, ?_⟩
  clear S hcur hgr hfr
  refine Sx.G.sto 33 (.tmp 2) (.tmp 5) b1 0 5 [.slice none 0 0, .int .i64 0, .int .i64 0, .slice none 0 0, .slice none 0 0, .int .i64 0, .int .i64 0, .bool false, .int .i64 0, .int .i64 0, .int .i64 0, .bool false, .int .i64 0, .bool false, .slice none 0 0] [.slice A3_0 gg3.prog.length c3_0, .int .i64 gg3.a, .int .i64 gg3.pc, .slice A3_1 gg3.wr.length c3_1, .slice A3_2 gg3.lv.length c3_2, .int .i64 gg3.t.1, .int .i64 gg3.t.2.1, .bool gg3.t.2.2, .int .i64 gg3.pd, .int .i64 gg3.x.1, .int .i64 gg3.x.2.1, .bool gg3.x.2.2.1, .int .i64 gg3.x.2.2.2, .bool gg3.hl, .slice A3_3 gg3.seen.length c3_3] [.slice A3_0 gg3.prog.length c3_0, .int .i64 gg3.a, .int .i64 gg3.pc, .slice A3_1 gg3.wr.length c3_1, .slice A3_2 gg3.lv.length c3_2, .int .i64 gg3.t.1, .int .i64 gg3.t.2.1, .bool gg3.t.2.2, .int .i64 gg3.pd, .int .i64 gg3.x.1, .int .i64 gg3.x.2.1, .bool gg3.x.2.2.1, .int .i64 gg3.x.2.2.2, .bool gg3.hl, .slice A3_3 gg3.seen.length c3_3] [Sx.rp l3_0 k3_0 gg3.prog A3_0 c3_0, Sx.rp l3_1 k3_1 gg3.wr A3_1 c3_1, Sx.rp l3_2 k3_2 gg3.lv A3_2 c3_2, ow (rLst 3 rInt) l3_3 k3_3 gg3.seen [.slice A3_3 gg3.seen.length c3_3] F3, Sx.cu A n c g, vr b1 [.slice A3_0 gg3.prog.length c3_0, .int .i64 gg3.a, .int .i64 gg3.pc, .slice A3_1 gg3.wr.length c3_1, .slice A3_2 gg3.lv.length c3_2, .int .i64 gg3.t.1, .int .i64 gg3.t.2.1, .bool gg3.t.2.2, .int .i64 gg3.pd, .int .i64 gg3.x.1, .int .i64 gg3.x.2.1, .bool gg3.x.2.2.1, .int .i64 gg3.x.2.2.2, .bool gg3.hl, .slice A3_3 gg3.seen.length c3_3]] rfl (by kernel_rfl) (by kernel_rfl) (by kernel_rfl) rfl (by kernel_rfl) rfl (by kernel_rfl) (by kernel_rfl) (by kernel_rfl) ?_
  refine Sx.G.nil ?_
  refine Sx.E.next ?_
  refine Sx.C.ret ?_
  refine Sx.E.retc b1 5 [.slice A3_0 gg3.prog.length c3_0, .int .i64 gg3.a, .int .i64 gg3.pc, .slice A3_1 gg3.wr.length c3_1, .slice A3_2 gg3.lv.length c3_2, .int .i64 gg3.t.1, .int .i64 gg3.t.2.1, .bool gg3.t.2.2, .int .i64 gg3.pd, .int .i64 gg3.x.1, .int .i64 gg3.x.2.1, .bool gg3.x.2.2.1, .int .i64 gg3.x.2.2.2, .bool gg3.hl, .slice A3_3 gg3.seen.length c3_3] rfl (by kernel_rfl) rfl (by kernel_rfl) (by kernel_rfl) (fun w S => ?_)
  exact ⟨gg3, _, rfl, hwf3, ⟨hsm3.1, hsm3.2.1, hsm3.2.2.1, by have := hsm3.2.2.2; show gg3.seen.length ≤ 46; omega⟩, (rG_rd_mk (g := gg3) (Sx.St.rpIn S 0 rfl) (Sx.St.rpIn S 1 rfl) (Sx.St.rpIn S 2 rfl) (Sx.St.owIn (r := rLst 3 rInt) S 3 rfl)), S.below⟩
set_option maxRecDepth 100000 in
set_option maxHeartbeats 4000000 in
theorem drawGuestNew (A : Option Addr) (n c : Nat) (w0 : World) (hn : n ≤ 1048576) (hcode : CodeAt w0 A n) : Calls Tryz.prog 5 #[.slice A n c] w0 (GProg w0) := by
  refine Sx.enter (args := [.slice A n c]) Tryz.func5 rfl Tryz.ntmps5 rfl ?_
  refine Sx.C.seq ?_
  refine Sx.C.region ?_
  refine Sx.G.pure (.slice none 0 0) (by kernel_rfl) (fun w => by kernel_rfl) ?_
  refine Sx.G.nil ?_
  refine Sx.E.next ?_
  refine Sx.C.seq ?_
  refine Sx.C.region ?_
  refine Sx.G.pure (.slice A n c) (by kernel_rfl) (fun w => by kernel_rfl) ?_
  refine Sx.G.call 30 #[.slice A n c] (by kernel_rfl) (fun w => by kernel_rfl) (fun w1 S => (Sx.new_g A n c _ hn (hcode.below S.below)).mono fun e w1' hp => ?_)
  obtain ⟨g, rfl, hcs, hlo, hhi, hb⟩ := hp
  refine ⟨_, _, rfl, (S.add hb (Sx.cu A n c g) hcs hlo hhi), ?_⟩
  clear S hcs hlo hhi hb
  refine Sx.G.call 29 #[.pointer (some ⟨g, 0, none⟩)] (by kernel_rfl) (fun w => by kernel_rfl) (fun w2 S => (anyProg_cap w0 A n c g _ hn hcode (Sx.St.cur S 0 rfl)).mono fun e w2' hp => ?_)
  obtain ⟨pb2, pm2, pc2, pl2, rfl, hl2, ⟨hM2, hcp2⟩, hw2, hown, hcur, hgr⟩ := hp
  rw [← pcells_j] at hown
  subst hl2
  refine ⟨_, _, rfl, (Sx.St.plus S (Sx.St.moved S 0 rfl hcur hgr) _ (Sx.lies_rp rfl hcp2 hown) (Nat.le_refl _) (Nat.le_refl _)), ?_⟩
  clear S hcur hgr hown
  refine Sx.G.pure (.slice (some ⟨pb2, 0, none⟩) pl2.length pc2) (by kernel_rfl) (fun w => by kernel_rfl) ?_
  refine Sx.G.nil ?_
  refine Sx.E.next ?_
  refine Sx.C.ret ?_
  refine Sx.E.ret1 (.slice (some ⟨pb2, 0, none⟩) pl2.length pc2) rfl (by kernel_rfl) (fun w S => ?_)
  exact ⟨pl2, _, rfl, hw2, hM2, Sx.St.rpIn S 0 rfl, S.below⟩
set_option maxRecDepth 100000 in
set_option maxHeartbeats 4000000 in
theorem drawSaw (A : Option Addr) (n c : Nat) (w0 : World) (hn : n ≤ 1048576) (hcode : CodeAt w0 A n) : Calls Tryz.prog 9 #[.slice A n c] w0 (GNum w0) := by
  refine Sx.enter (args := [.slice A n c]) Tryz.func9 rfl Tryz.ntmps9 rfl ?_
  refine Sx.C.seq ?_
  refine Sx.C.region ?_
  refine Sx.G.alloc 33 (.agg #[.slice none 0 0, .int .i64 0, .int .i64 0, .slice none 0 0, .slice none 0 0, .int .i64 0, .int .i64 0, .bool false, .int .i64 0, .int .i64 0, .int .i64 0, .bool false, .int .i64 0, .bool false, .slice none 0 0]) [.slice none 0 0, .int .i64 0, .int .i64 0, .slice none 0 0, .slice none 0 0, .int .i64 0, .int .i64 0, .bool false, .int .i64 0, .int .i64 0, .int .i64 0, .bool false, .int .i64 0, .bool false, .slice none 0 0] rfl (by kernel_rfl) (fun w => by kernel_rfl) (by kernel_rfl) (fun b1 => ?_)
  refine Sx.G.pure (.int .i64 0) (by kernel_rfl) (fun w => by kernel_rfl) ?_
  refine Sx.G.nil ?_
  refine Sx.E.next ?_
  refine Sx.C.seq ?_
  refine Sx.C.region ?_
  refine Sx.G.pure (.slice A n c) (by kernel_rfl) (fun w => by kernel_rfl) ?_
  refine Sx.G.call 30 #[.slice A n c] (by kernel_rfl) (fun w => by kernel_rfl) (fun w2 S => (Sx.new_g A n c _ hn (hcode.below S.below)).mono fun e w2' hp => ?_)
  obtain ⟨g, rfl, hcs, hlo, hhi, hb⟩ := hp
  refine ⟨_, _, rfl, (S.add hb (Sx.cu A n c g) hcs hlo hhi), ?_⟩
  clear S hcs hlo hhi hb
  refine Sx.G.pure (.pointer (some ⟨g, 0, none⟩)) (by kernel_rfl) (fun w => by kernel_rfl) ?_
  refine Sx.G.nil ?_
  refine Sx.E.next ?_
  refine Sx.C.seq ?_
  refine Sx.C.region ?_
  refine Sx.G.pure (.pointer (some ⟨g, 0, none⟩)) (by kernel_rfl) (fun w => by kernel_rfl) ?_
  refine Sx.G.call 33 #[.pointer (some ⟨g, 0, none⟩)] (by kernel_rfl) (fun w => by kernel_rfl) (fun w3 S => (gany_any w0 A n c g _ hn hcode (Sx.St.cur S 0 rfl)).mono fun e w3' hp => ?_)
  obtain ⟨gg3, A3_0, c3_0, A3_1, c3_1, A3_2, c3_2, A3_3, c3_3, rfl, hwf3, hsm3, hcur, hgr, F3, l3_0, k3_0, l3_1, k3_1, l3_2, k3_2, l3_3, k3_3, hfr⟩ := hp
  refine ⟨_, _, rfl, Sx.St.joinD S (Sx.St.moved S 0 rfl hcur hgr) hfr, ?_⟩
  clear S hcur hgr hfr
  refine Sx.G.pure (.pointer (some ⟨g, 0, none⟩)) (by kernel_rfl) (fun w => by kernel_rfl) ?_
  refine Sx.G.call 37 #[.pointer (some ⟨g, 0, none⟩), .int .i64 200] (by kernel_rfl) (fun w => by kernel_rfl) (fun w4 S => (below_any w0 A n c g _ 200 (by decide) (by decide) hn hcode (Sx.St.cur S 4 rfl)).mono fun e w4' hp => ?_)
  obtain ⟨x4, rfl, hx4, hy4, hcur, hgr⟩ := hp
  refine ⟨_, _, rfl, Sx.St.moved S 4 rfl hcur hgr, ?_⟩
  clear S hcur hgr
  refine Sx.G.sto 33 (.tmp 2) (.tmp 8) b1 0 5 [.slice none 0 0, .int .i64 0, .int .i64 0, .slice none 0 0, .slice none 0 0, .int .i64 0, .int .i64 0, .bool false, .int .i64 0, .int .i64 0, .int .i64 0, .bool false, .int .i64 0, .bool false, .slice none 0 0] [.slice A3_0 gg3.prog.length c3_0, .int .i64 gg3.a, .int .i64 gg3.pc, .slice A3_1 gg3.wr.length c3_1, .slice A3_2 gg3.lv.length c3_2, .int .i64 gg3.t.1, .int .i64 gg3.t.2.1, .bool gg3.t.2.2, .int .i64 gg3.pd, .int .i64 gg3.x.1, .int .i64 gg3.x.2.1, .bool gg3.x.2.2.1, .int .i64 gg3.x.2.2.2, .bool gg3.hl, .slice A3_3 gg3.seen.length c3_3] [.slice A3_0 gg3.prog.length c3_0, .int .i64 gg3.a, .int .i64 gg3.pc, .slice A3_1 gg3.wr.length c3_1, .slice A3_2 gg3.lv.length c3_2, .int .i64 gg3.t.1, .int .i64 gg3.t.2.1, .bool gg3.t.2.2, .int .i64 gg3.pd, .int .i64 gg3.x.1, .int .i64 gg3.x.2.1, .bool gg3.x.2.2.1, .int .i64 gg3.x.2.2.2, .bool gg3.hl, .slice A3_3 gg3.seen.length c3_3] [Sx.rp l3_0 k3_0 gg3.prog A3_0 c3_0, Sx.rp l3_1 k3_1 gg3.wr A3_1 c3_1, Sx.rp l3_2 k3_2 gg3.lv A3_2 c3_2, ow (rLst 3 rInt) l3_3 k3_3 gg3.seen [.slice A3_3 gg3.seen.length c3_3] F3, Sx.cu A n c g, vr b1 [.slice A3_0 gg3.prog.length c3_0, .int .i64 gg3.a, .int .i64 gg3.pc, .slice A3_1 gg3.wr.length c3_1, .slice A3_2 gg3.lv.length c3_2, .int .i64 gg3.t.1, .int .i64 gg3.t.2.1, .bool gg3.t.2.2, .int .i64 gg3.pd, .int .i64 gg3.x.1, .int .i64 gg3.x.2.1, .bool gg3.x.2.2.1, .int .i64 gg3.x.2.2.2, .bool gg3.hl, .slice A3_3 gg3.seen.length c3_3]] rfl (by kernel_rfl) (by kernel_rfl) (by kernel_rfl) rfl (by kernel_rfl) rfl (by kernel_rfl) (by kernel_rfl) (by kernel_rfl) ?_
  refine Sx.G.pure (.int .i64 x4) (by kernel_rfl) (fun w => by kernel_rfl) ?_
  refine Sx.G.nil ?_
  refine Sx.E.next ?_
  refine Sx.C.ret ?_
  refine Sx.E.retg2 (.agg #[.slice A3_0 gg3.prog.length c3_0, .int .i64 gg3.a, .int .i64 gg3.pc, .slice A3_1 gg3.wr.length c3_1, .slice A3_2 gg3.lv.length c3_2, .int .i64 gg3.t.1, .int .i64 gg3.t.2.1, .bool gg3.t.2.2, .int .i64 gg3.pd, .int .i64 gg3.x.1, .int .i64 gg3.x.2.1, .bool gg3.x.2.2.1, .int .i64 gg3.x.2.2.2, .bool gg3.hl, .slice A3_3 gg3.seen.length c3_3]) (.int .i64 x4) rfl (Sx.IsRes.row b1 5 [.slice A3_0 gg3.prog.length c3_0, .int .i64 gg3.a, .int .i64 gg3.pc, .slice A3_1 gg3.wr.length c3_1, .slice A3_2 gg3.lv.length c3_2, .int .i64 gg3.t.1, .int .i64 gg3.t.2.1, .bool gg3.t.2.2, .int .i64 gg3.pd, .int .i64 gg3.x.1, .int .i64 gg3.x.2.1, .bool gg3.x.2.2.1, .int .i64 gg3.x.2.2.2, .bool gg3.hl, .slice A3_3 gg3.seen.length c3_3] (by kernel_rfl) rfl (by kernel_rfl) (by kernel_rfl)) (Sx.IsRes.slot (by kernel_rfl)) (fun w S => ?_)
  exact ⟨gg3, _, _, rfl, hwf3, ⟨hsm3.1, hsm3.2.1, hsm3.2.2.1, by have := hsm3.2.2.2; show gg3.seen.length ≤ 46; omega⟩, (rG_rd_mk (g := gg3) (Sx.St.rpIn S 0 rfl) (Sx.St.rpIn S 1 rfl) (Sx.St.rpIn S 2 rfl) (Sx.St.owIn (r := rLst 3 rInt) S 3 rfl)), (Sx.wf_small hx4 (Int.lt_trans hy4 (by decide))), S.below⟩
set_option maxRecDepth 100000 in
set_option maxHeartbeats 4000000 in
theorem drawStopped (A : Option Addr) (n c : Nat) (w0 : World) (hn : n ≤ 1048576) (hcode : CodeAt w0 A n) : Calls Tryz.prog 10 #[.slice A n c] w0 (GExit w0) := by
  refine Sx.enter (args := [.slice A n c]) Tryz.func10 rfl Tryz.ntmps10 rfl ?_
  refine Sx.C.seq ?_
  refine Sx.C.region ?_
  refine Sx.G.alloc 33 (.agg #[.slice none 0 0, .int .i64 0, .int .i64 0, .slice none 0 0, .slice none 0 0, .int .i64 0, .int .i64 0, .bool false, .int .i64 0, .int .i64 0, .int .i64 0, .bool false, .int .i64 0, .bool false, .slice none 0 0]) [.slice none 0 0, .int .i64 0, .int .i64 0, .slice none 0 0, .slice none 0 0, .int .i64 0, .int .i64 0, .bool false, .int .i64 0, .int .i64 0, .int .i64 0, .bool false, .int .i64 0, .bool false, .slice none 0 0] rfl (by kernel_rfl) (fun w => by kernel_rfl) (by kernel_rfl) (fun b1 => ?_)
  refine Sx.G.alloc 30 (.agg #[.int .i64 0, .int .i64 0, .bool false, .int .i64 0]) [.int .i64 0, .int .i64 0, .bool false, .int .i64 0] rfl (by kernel_rfl) (fun w => by kernel_rfl) (by kernel_rfl) (fun b2 => ?_)
  refine Sx.G.nil ?_
  refine Sx.E.next ?_
  refine Sx.C.seq ?_
  refine Sx.C.region ?_
  refine Sx.G.pure (.slice A n c) (by kernel_rfl) (fun w => by kernel_rfl) ?_
  refine Sx.G.call 30 #[.slice A n c] (by kernel_rfl) (fun w => by kernel_rfl) (fun w3 S => (Sx.new_g A n c _ hn (hcode.below S.below)).mono fun e w3' hp => ?_)
  obtain ⟨g, rfl, hcs, hlo, hhi, hb⟩ := hp
  refine ⟨_, _, rfl, (S.add hb (Sx.cu A n c g) hcs hlo hhi), ?_⟩
  clear S hcs hlo hhi hb
  refine Sx.G.pure (.pointer (some ⟨g, 0, none⟩)) (by kernel_rfl) (fun w => by kernel_rfl) ?_
  refine Sx.G.nil ?_
  refine Sx.E.next ?_
  refine Sx.C.seq ?_
  refine Sx.C.region ?_
  refine Sx.G.pure (.pointer (some ⟨g, 0, none⟩)) (by kernel_rfl) (fun w => by kernel_rfl) ?_
  refine Sx.G.call 33 #[.pointer (some ⟨g, 0, none⟩)] (by kernel_rfl) (fun w => by kernel_rfl) (fun w4 S => (gany_any w0 A n c g _ hn hcode (Sx.St.cur S 0 rfl)).mono fun e w4' hp => ?_)
  obtain ⟨gg4, A4_0, c4_0, A4_1, c4_1, A4_2, c4_2, A4_3, c4_3, rfl, hwf4, hsm4, hcur, hgr, F4, l4_0, k4_0, l4_1, k4_1, l4_2, k4_2, l4_3, k4_3, hfr⟩ := hp
  refine ⟨_, _, rfl, Sx.St.joinD S (Sx.St.moved S 0 rfl hcur hgr) hfr, ?_⟩
  clear S hcur hgr hfr
  refine Sx.G.pure (.pointer (some ⟨g, 0, none⟩)) (by kernel_rfl) (fun w => by kernel_rfl) ?_
  refine Sx.G.call 38 #[.pointer (some ⟨g, 0, none⟩)] (by kernel_rfl) (fun w => by kernel_rfl) (fun w5 S => (anyExit_any w0 A n c g _ hn hcode (Sx.St.cur S 4 rfl)).mono fun e w5' hp => ?_)
  obtain ⟨ek5, ep5, eq5, em5, rfl, hw5, hcur, hgr⟩ := hp
  refine ⟨_, _, rfl, Sx.St.moved S 4 rfl hcur hgr, ?_⟩
  clear S hcur hgr
  refine Sx.G.sto 33 (.tmp 2) (.tmp 8) b1 0 6 [.slice none 0 0, .int .i64 0, .int .i64 0, .slice none 0 0, .slice none 0 0, .int .i64 0, .int .i64 0, .bool false, .int .i64 0, .int .i64 0, .int .i64 0, .bool false, .int .i64 0, .bool false, .slice none 0 0] [.slice A4_0 gg4.prog.length c4_0, .int .i64 gg4.a, .int .i64 gg4.pc, .slice A4_1 gg4.wr.length c4_1, .slice A4_2 gg4.lv.length c4_2, .int .i64 gg4.t.1, .int .i64 gg4.t.2.1, .bool gg4.t.2.2, .int .i64 gg4.pd, .int .i64 gg4.x.1, .int .i64 gg4.x.2.1, .bool gg4.x.2.2.1, .int .i64 gg4.x.2.2.2, .bool gg4.hl, .slice A4_3 gg4.seen.length c4_3] [.slice A4_0 gg4.prog.length c4_0, .int .i64 gg4.a, .int .i64 gg4.pc, .slice A4_1 gg4.wr.length c4_1, .slice A4_2 gg4.lv.length c4_2, .int .i64 gg4.t.1, .int .i64 gg4.t.2.1, .bool gg4.t.2.2, .int .i64 gg4.pd, .int .i64 gg4.x.1, .int .i64 gg4.x.2.1, .bool gg4.x.2.2.1, .int .i64 gg4.x.2.2.2, .bool gg4.hl, .slice A4_3 gg4.seen.length c4_3] [Sx.rp l4_0 k4_0 gg4.prog A4_0 c4_0, Sx.rp l4_1 k4_1 gg4.wr A4_1 c4_1, Sx.rp l4_2 k4_2 gg4.lv A4_2 c4_2, ow (rLst 3 rInt) l4_3 k4_3 gg4.seen [.slice A4_3 gg4.seen.length c4_3] F4, Sx.cu A n c g, vr b2 [.int .i64 0, .int .i64 0, .bool false, .int .i64 0], vr b1 [.slice A4_0 gg4.prog.length c4_0, .int .i64 gg4.a, .int .i64 gg4.pc, .slice A4_1 gg4.wr.length c4_1, .slice A4_2 gg4.lv.length c4_2, .int .i64 gg4.t.1, .int .i64 gg4.t.2.1, .bool gg4.t.2.2, .int .i64 gg4.pd, .int .i64 gg4.x.1, .int .i64 gg4.x.2.1, .bool gg4.x.2.2.1, .int .i64 gg4.x.2.2.2, .bool gg4.hl, .slice A4_3 gg4.seen.length c4_3]] rfl (by kernel_rfl) (by kernel_rfl) (by kernel_rfl) rfl (by kernel_rfl) rfl (by kernel_rfl) (by kernel_rfl) (by kernel_rfl) ?_
  refine Sx.G.sto 30 (.tmp 3) (.tmp 10) b2 0 5 [.int .i64 0, .int .i64 0, .bool false, .int .i64 0] [.int .i64 ek5, .int .i64 ep5, .bool eq5, .int .i64 em5] [.int .i64 ek5, .int .i64 ep5, .bool eq5, .int .i64 em5] [Sx.rp l4_0 k4_0 gg4.prog A4_0 c4_0, Sx.rp l4_1 k4_1 gg4.wr A4_1 c4_1, Sx.rp l4_2 k4_2 gg4.lv A4_2 c4_2, ow (rLst 3 rInt) l4_3 k4_3 gg4.seen [.slice A4_3 gg4.seen.length c4_3] F4, Sx.cu A n c g, vr b2 [.int .i64 ek5, .int .i64 ep5, .bool eq5, .int .i64 em5], vr b1 [.slice A4_0 gg4.prog.length c4_0, .int .i64 gg4.a, .int .i64 gg4.pc, .slice A4_1 gg4.wr.length c4_1, .slice A4_2 gg4.lv.length c4_2, .int .i64 gg4.t.1, .int .i64 gg4.t.2.1, .bool gg4.t.2.2, .int .i64 gg4.pd, .int .i64 gg4.x.1, .int .i64 gg4.x.2.1, .bool gg4.x.2.2.1, .int .i64 gg4.x.2.2.2, .bool gg4.hl, .slice A4_3 gg4.seen.length c4_3]] rfl (by kernel_rfl) (by kernel_rfl) (by kernel_rfl) rfl (by kernel_rfl) rfl (by kernel_rfl) (by kernel_rfl) (by kernel_rfl) ?_
  refine Sx.G.nil ?_
  refine Sx.E.next ?_
  refine Sx.C.ret ?_
  refine Sx.E.retg2 (.agg #[.slice A4_0 gg4.prog.length c4_0, .int .i64 gg4.a, .int .i64 gg4.pc, .slice A4_1 gg4.wr.length c4_1, .slice A4_2 gg4.lv.length c4_2, .int .i64 gg4.t.1, .int .i64 gg4.t.2.1, .bool gg4.t.2.2, .int .i64 gg4.pd, .int .i64 gg4.x.1, .int .i64 gg4.x.2.1, .bool gg4.x.2.2.1, .int .i64 gg4.x.2.2.2, .bool gg4.hl, .slice A4_3 gg4.seen.length c4_3]) (.agg #[.int .i64 ek5, .int .i64 ep5, .bool eq5, .int .i64 em5]) rfl (Sx.IsRes.row b1 6 [.slice A4_0 gg4.prog.length c4_0, .int .i64 gg4.a, .int .i64 gg4.pc, .slice A4_1 gg4.wr.length c4_1, .slice A4_2 gg4.lv.length c4_2, .int .i64 gg4.t.1, .int .i64 gg4.t.2.1, .bool gg4.t.2.2, .int .i64 gg4.pd, .int .i64 gg4.x.1, .int .i64 gg4.x.2.1, .bool gg4.x.2.2.1, .int .i64 gg4.x.2.2.2, .bool gg4.hl, .slice A4_3 gg4.seen.length c4_3] (by kernel_rfl) rfl (by kernel_rfl) (by kernel_rfl)) (Sx.IsRes.row b2 5 [.int .i64 ek5, .int .i64 ep5, .bool eq5, .int .i64 em5] (by kernel_rfl) rfl (by kernel_rfl) (by kernel_rfl)) (fun w S => ?_)
  exact ⟨gg4, _, (ek5, ep5, eq5, em5), rfl, hwf4, ⟨hsm4.1, hsm4.2.1, hsm4.2.2.1, by have := hsm4.2.2.2; show gg4.seen.length ≤ 46; omega⟩, (rG_rd_mk (g := gg4) (Sx.St.rpIn S 0 rfl) (Sx.St.rpIn S 1 rfl) (Sx.St.rpIn S 2 rfl) (Sx.St.owIn (r := rLst 3 rInt) S 3 rfl)), hw5, S.below⟩
set_option maxRecDepth 100000 in
set_option maxHeartbeats 4000000 in
theorem drawSameG (A : Option Addr) (n c : Nat) (w0 : World) (hn : n ≤ 1048576) (hcode : CodeAt w0 A n) : Calls Tryz.prog 11 #[.slice A n c] w0 (GTwo w0) := by
  refine Sx.enter (args := [.slice A n c]) Tryz.func11 rfl Tryz.ntmps11 rfl ?_
  refine Sx.C.seq ?_
  refine Sx.C.region ?_
  refine Sx.G.alloc 33 (.agg #[.slice none 0 0, .int .i64 0, .int .i64 0, .slice none 0 0, .slice none 0 0, .int .i64 0, .int .i64 0, .bool false, .int .i64 0, .int .i64 0, .int .i64 0, .bool false, .int .i64 0, .bool false, .slice none 0 0]) [.slice none 0 0, .int .i64 0, .int .i64 0, .slice none 0 0, .slice none 0 0, .int .i64 0, .int .i64 0, .bool false, .int .i64 0, .int .i64 0, .int .i64 0, .bool false, .int .i64 0, .bool false, .slice none 0 0] rfl (by kernel_rfl) (fun w => by kernel_rfl) (by kernel_rfl) (fun b1 => ?_)
  refine Sx.G.alloc 33 (.agg #[.slice none 0 0, .int .i64 0, .int .i64 0, .slice none 0 0, .slice none 0 0, .int .i64 0, .int .i64 0, .bool false, .int .i64 0, .int .i64 0, .int .i64 0, .bool false, .int .i64 0, .bool false, .slice none 0 0]) [.slice none 0 0, .int .i64 0, .int .i64 0, .slice none 0 0, .slice none 0 0, .int .i64 0, .int .i64 0, .bool false, .int .i64 0, .int .i64 0, .int .i64 0, .bool false, .int .i64 0, .bool false, .slice none 0 0] rfl (by kernel_rfl) (fun w => by kernel_rfl) (by kernel_rfl) (fun b2 => ?_)
  refine Sx.G.nil ?_
  refine Sx.E.next ?_
  refine Sx.C.seq ?_
  refine Sx.C.region ?_
  refine Sx.G.pure (.slice A n c) (by kernel_rfl) (fun w => by kernel_rfl) ?_
  refine Sx.G.call 30 #[.slice A n c] (by kernel_rfl) (fun w => by kernel_rfl) (fun w3 S => (Sx.new_g A n c _ hn (hcode.below S.below)).mono fun e w3' hp => ?_)
  obtain ⟨g, rfl, hcs, hlo, hhi, hb⟩ := hp
  refine ⟨_, _, rfl, (S.add hb (Sx.cu A n c g) hcs hlo hhi), ?_⟩
  clear S hcs hlo hhi hb
  refine Sx.G.pure (.pointer (some ⟨g, 0, none⟩)) (by kernel_rfl) (fun w => by kernel_rfl) ?_
  refine Sx.G.nil ?_
  refine Sx.E.next ?_
  refine Sx.C.seq ?_
  refine Sx.C.region ?_
  refine Sx.G.pure (.pointer (some ⟨g, 0, none⟩)) (by kernel_rfl) (fun w => by kernel_rfl) ?_
  refine Sx.G.call 33 #[.pointer (some ⟨g, 0, none⟩)] (by kernel_rfl) (fun w => by kernel_rfl) (fun w4 S => (gany_any w0 A n c g _ hn hcode (Sx.St.cur S 0 rfl)).mono fun e w4' hp => ?_)
  obtain ⟨gg4, A4_0, c4_0, A4_1, c4_1, A4_2, c4_2, A4_3, c4_3, rfl, hwf4, hsm4, hcur, hgr, F4, l4_0, k4_0, l4_1, k4_1, l4_2, k4_2, l4_3, k4_3, hfr⟩ := hp
  refine ⟨_, _, rfl, Sx.St.joinD S (Sx.St.moved S 0 rfl hcur hgr) hfr, ?_⟩
  clear S hcur hgr hfr
  refine Sx.G.alloc 33 (.agg #[.slice none 0 0, .int .i64 0, .int .i64 0, .slice none 0 0, .slice none 0 0, .int .i64 0, .int .i64 0, .bool false, .int .i64 0, .int .i64 0, .int .i64 0, .bool false, .int .i64 0, .bool false, .slice none 0 0]) [.slice none 0 0, .int .i64 0, .int .i64 0, .slice none 0 0, .slice none 0 0, .int .i64 0, .int .i64 0, .bool false, .int .i64 0, .int .i64 0, .int .i64 0, .bool false, .int .i64 0, .bool false, .slice none 0 0] rfl (by kernel_rfl) (fun w => by kernel_rfl) (by kernel_rfl) (fun b5 => ?_)
  refine Sx.G.sto 33 (.tmp 5) (.tmp 10) b5 0 0 [.slice none 0 0, .int .i64 0, .int .i64 0, .slice none 0 0, .slice none 0 0, .int .i64 0, .int .i64 0, .bool false, .int .i64 0, .int .i64 0, .int .i64 0, .bool false, .int .i64 0, .bool false, .slice none 0 0] [.slice A4_0 gg4.prog.length c4_0, .int .i64 gg4.a, .int .i64 gg4.pc, .slice A4_1 gg4.wr.length c4_1, .slice A4_2 gg4.lv.length c4_2, .int .i64 gg4.t.1, .int .i64 gg4.t.2.1, .bool gg4.t.2.2, .int .i64 gg4.pd, .int .i64 gg4.x.1, .int .i64 gg4.x.2.1, .bool gg4.x.2.2.1, .int .i64 gg4.x.2.2.2, .bool gg4.hl, .slice A4_3 gg4.seen.length c4_3] [.slice A4_0 gg4.prog.length c4_0, .int .i64 gg4.a, .int .i64 gg4.pc, .slice A4_1 gg4.wr.length c4_1, .slice A4_2 gg4.lv.length c4_2, .int .i64 gg4.t.1, .int .i64 gg4.t.2.1, .bool gg4.t.2.2, .int .i64 gg4.pd, .int .i64 gg4.x.1, .int .i64 gg4.x.2.1, .bool gg4.x.2.2.1, .int .i64 gg4.x.2.2.2, .bool gg4.hl, .slice A4_3 gg4.seen.length c4_3] [vr b5 [.slice A4_0 gg4.prog.length c4_0, .int .i64 gg4.a, .int .i64 gg4.pc, .slice A4_1 gg4.wr.length c4_1, .slice A4_2 gg4.lv.length c4_2, .int .i64 gg4.t.1, .int .i64 gg4.t.2.1, .bool gg4.t.2.2, .int .i64 gg4.pd, .int .i64 gg4.x.1, .int .i64 gg4.x.2.1, .bool gg4.x.2.2.1, .int .i64 gg4.x.2.2.2, .bool gg4.hl, .slice A4_3 gg4.seen.length c4_3], Sx.rp l4_0 k4_0 gg4.prog A4_0 c4_0, Sx.rp l4_1 k4_1 gg4.wr A4_1 c4_1, Sx.rp l4_2 k4_2 gg4.lv A4_2 c4_2, ow (rLst 3 rInt) l4_3 k4_3 gg4.seen [.slice A4_3 gg4.seen.length c4_3] F4, Sx.cu A n c g, vr b2 [.slice none 0 0, .int .i64 0, .int .i64 0, .slice none 0 0, .slice none 0 0, .int .i64 0, .int .i64 0, .bool false, .int .i64 0, .int .i64 0, .int .i64 0, .bool false, .int .i64 0, .bool false, .slice none 0 0], vr b1 [.slice none 0 0, .int .i64 0, .int .i64 0, .slice none 0 0, .slice none 0 0, .int .i64 0, .int .i64 0, .bool false, .int .i64 0, .int .i64 0, .int .i64 0, .bool false, .int .i64 0, .bool false, .slice none 0 0]] rfl (by kernel_rfl) (by kernel_rfl) (by kernel_rfl) rfl (by kernel_rfl) rfl (by kernel_rfl) (by kernel_rfl) (by kernel_rfl) ?_
  refine Sx.G.nil ?_
  refine Sx.E.next ?_
  refine Sx.C.seq ?_
  refine Sx.C.region ?_
  refine Sx.G.ld 33 (.tmp 5) b5 0 0 [.slice A4_0 gg4.prog.length c4_0, .int .i64 gg4.a, .int .i64 gg4.pc, .slice A4_1 gg4.wr.length c4_1, .slice A4_2 gg4.lv.length c4_2, .int .i64 gg4.t.1, .int .i64 gg4.t.2.1, .bool gg4.t.2.2, .int .i64 gg4.pd, .int .i64 gg4.x.1, .int .i64 gg4.x.2.1, .bool gg4.x.2.2.1, .int .i64 gg4.x.2.2.2, .bool gg4.hl, .slice A4_3 gg4.seen.length c4_3] [.slice A4_0 gg4.prog.length c4_0, .int .i64 gg4.a, .int .i64 gg4.pc, .slice A4_1 gg4.wr.length c4_1, .slice A4_2 gg4.lv.length c4_2, .int .i64 gg4.t.1, .int .i64 gg4.t.2.1, .bool gg4.t.2.2, .int .i64 gg4.pd, .int .i64 gg4.x.1, .int .i64 gg4.x.2.1, .bool gg4.x.2.2.1, .int .i64 gg4.x.2.2.2, .bool gg4.hl, .slice A4_3 gg4.seen.length c4_3] rfl (by kernel_rfl) (by kernel_rfl) rfl (by kernel_rfl) (by kernel_rfl) (by kernel_rfl) ?_
  refine Sx.G.call 39 #[.agg #[.slice A4_0 gg4.prog.length c4_0, .int .i64 gg4.a, .int .i64 gg4.pc, .slice A4_1 gg4.wr.length c4_1, .slice A4_2 gg4.lv.length c4_2, .int .i64 gg4.t.1, .int .i64 gg4.t.2.1, .bool gg4.t.2.2, .int .i64 gg4.pd, .int .i64 gg4.x.1, .int .i64 gg4.x.2.1, .bool gg4.x.2.2.1, .int .i64 gg4.x.2.2.2, .bool gg4.hl, .slice A4_3 gg4.seen.length c4_3]] (by kernel_rfl) (fun w => by kernel_rfl) (fun w6 S => (specx_copy gg4 _ _ (small_cap ⟨hsm4.1, hsm4.2.1, hsm4.2.2.1, by have := hsm4.2.2.2; omega⟩) (rG_rd_mk (g := gg4) (Sx.St.rp_rd S 1 rfl) (Sx.St.rp_rd S 2 rfl) (Sx.St.rp_rd S 3 rfl) (St.reads S 4 rfl))).mono fun e w6' hp => ?_)
  obtain ⟨cs, F, rfl, ho, hF, hb⟩ := hp
  obtain ⟨q6_0, q6_1, q6_2, q6_3, G6_0, G6_1, G6_2, G6_3, rfl, S'⟩ := rG_open (S.got hb ho hF)
  obtain ⟨q6A0, q6c0, e0, -⟩ := lst_val (S'.reads 0 rfl)
  subst e0
  obtain ⟨q6A1, q6c1, e1, -⟩ := lst_val (S'.reads 1 rfl)
  subst e1
  obtain ⟨q6A2, q6c2, e2, -⟩ := lst_val (S'.reads 2 rfl)
  subst e2
  obtain ⟨q6A3, q6c3, e3, -⟩ := lst_val (S'.reads 3 rfl)
  subst e3
  refine ⟨_, _, rfl, S', ?_⟩
  clear S S' ho hF hb
  refine Sx.G.alloc 33 (.agg #[.slice none 0 0, .int .i64 0, .int .i64 0, .slice none 0 0, .slice none 0 0, .int .i64 0, .int .i64 0, .bool false, .int .i64 0, .int .i64 0, .int .i64 0, .bool false, .int .i64 0, .bool false, .slice none 0 0]) [.slice none 0 0, .int .i64 0, .int .i64 0, .slice none 0 0, .slice none 0 0, .int .i64 0, .int .i64 0, .bool false, .int .i64 0, .int .i64 0, .int .i64 0, .bool false, .int .i64 0, .bool false, .slice none 0 0] rfl (by kernel_rfl) (fun w => by kernel_rfl) (by kernel_rfl) (fun b7 => ?_)
  refine Sx.G.sto 33 (.tmp 6) (.tmp 12) b7 0 0 [.slice none 0 0, .int .i64 0, .int .i64 0, .slice none 0 0, .slice none 0 0, .int .i64 0, .int .i64 0, .bool false, .int .i64 0, .int .i64 0, .int .i64 0, .bool false, .int .i64 0, .bool false, .slice none 0 0] [.slice q6A0 gg4.prog.length q6c0, .int .i64 gg4.a, .int .i64 gg4.pc, .slice q6A1 gg4.wr.length q6c1, .slice q6A2 gg4.lv.length q6c2, .int .i64 gg4.t.1, .int .i64 gg4.t.2.1, .bool gg4.t.2.2, .int .i64 gg4.pd, .int .i64 gg4.x.1, .int .i64 gg4.x.2.1, .bool gg4.x.2.2.1, .int .i64 gg4.x.2.2.2, .bool gg4.hl, .slice q6A3 gg4.seen.length q6c3] [.slice q6A0 gg4.prog.length q6c0, .int .i64 gg4.a, .int .i64 gg4.pc, .slice q6A1 gg4.wr.length q6c1, .slice q6A2 gg4.lv.length q6c2, .int .i64 gg4.t.1, .int .i64 gg4.t.2.1, .bool gg4.t.2.2, .int .i64 gg4.pd, .int .i64 gg4.x.1, .int .i64 gg4.x.2.1, .bool gg4.x.2.2.1, .int .i64 gg4.x.2.2.2, .bool gg4.hl, .slice q6A3 gg4.seen.length q6c3] [vr b7 [.slice q6A0 gg4.prog.length q6c0, .int .i64 gg4.a, .int .i64 gg4.pc, .slice q6A1 gg4.wr.length q6c1, .slice q6A2 gg4.lv.length q6c2, .int .i64 gg4.t.1, .int .i64 gg4.t.2.1, .bool gg4.t.2.2, .int .i64 gg4.pd, .int .i64 gg4.x.1, .int .i64 gg4.x.2.1, .bool gg4.x.2.2.1, .int .i64 gg4.x.2.2.2, .bool gg4.hl, .slice q6A3 gg4.seen.length q6c3], ow (rLst 54 (rPair rInt rInt)) w6.heap.size (w6'.heap.size) gg4.prog [.slice q6A0 gg4.prog.length q6c0] G6_0, ow (rLsw (rPair rInt rInt)) w6.heap.size w6'.heap.size gg4.wr [.slice q6A1 gg4.wr.length q6c1] G6_1, ow (rLsw (rPair rInt rInt)) w6.heap.size w6'.heap.size gg4.lv [.slice q6A2 gg4.lv.length q6c2] G6_2, ow (rLst 3 rInt) w6.heap.size (w6'.heap.size) gg4.seen [.slice q6A3 gg4.seen.length q6c3] G6_3, vr b5 [.slice A4_0 gg4.prog.length c4_0, .int .i64 gg4.a, .int .i64 gg4.pc, .slice A4_1 gg4.wr.length c4_1, .slice A4_2 gg4.lv.length c4_2, .int .i64 gg4.t.1, .int .i64 gg4.t.2.1, .bool gg4.t.2.2, .int .i64 gg4.pd, .int .i64 gg4.x.1, .int .i64 gg4.x.2.1, .bool gg4.x.2.2.1, .int .i64 gg4.x.2.2.2, .bool gg4.hl, .slice A4_3 gg4.seen.length c4_3], Sx.rp l4_0 k4_0 gg4.prog A4_0 c4_0, Sx.rp l4_1 k4_1 gg4.wr A4_1 c4_1, Sx.rp l4_2 k4_2 gg4.lv A4_2 c4_2, ow (rLst 3 rInt) l4_3 k4_3 gg4.seen [.slice A4_3 gg4.seen.length c4_3] F4, Sx.cu A n c g, vr b2 [.slice none 0 0, .int .i64 0, .int .i64 0, .slice none 0 0, .slice none 0 0, .int .i64 0, .int .i64 0, .bool false, .int .i64 0, .int .i64 0, .int .i64 0, .bool false, .int .i64 0, .bool false, .slice none 0 0], vr b1 [.slice none 0 0, .int .i64 0, .int .i64 0, .slice none 0 0, .slice none 0 0, .int .i64 0, .int .i64 0, .bool false, .int .i64 0, .int .i64 0, .int .i64 0, .bool false, .int .i64 0, .bool false, .slice none 0 0]] rfl (by kernel_rfl) (by kernel_rfl) (by kernel_rfl) rfl (by kernel_rfl) rfl (by kernel_rfl) (by kernel_rfl) (by kernel_rfl) ?_
  refine Sx.G.nil ?_
  refine Sx.E.next ?_
  refine Sx.C.seq ?_
  refine Sx.C.seq ?_
  refine Sx.C.region ?_
  refine Sx.G.pure (.pointer (some ⟨g, 0, none⟩)) (by kernel_rfl) (fun w => by kernel_rfl) ?_
  refine Sx.G.call 37 #[.pointer (some ⟨g, 0, none⟩), .int .i64 5] (by kernel_rfl) (fun w => by kernel_rfl) (fun w8 S => (below_any w0 A n c g _ 5 (by decide) (by decide) hn hcode (Sx.St.cur S 10 rfl)).mono fun e w8' hp => ?_)
  obtain ⟨x8, rfl, hx8, hy8, hcur, hgr⟩ := hp
  refine ⟨_, _, rfl, Sx.St.moved S 10 rfl hcur hgr, ?_⟩
  clear S hcur hgr
  refine Sx.G.nil ?_
  refine Sx.E.next ?_
  refine Sx.C.block ?_
  refine Sx.C.seq ?_
  refine Sx.C.region ?_
  refine Sx.G.pure (.bool (x8 == 0)) (by kernel_rfl) (fun w => by kernel_rfl) ?_
  refine Sx.G.pure (.bool (x8 == 0)) (by kernel_rfl) (fun w => by kernel_rfl) ?_
  refine Sx.G.nil ?_
  refine Sx.E.next ?_
  cases hc9 : (x8 == 0)
  · have hb9 := hc9
    refine Sx.C.no (by kernel_rfl) (by kernel_rfl) ?_
    refine Sx.C.seq ?_
    refine Sx.C.region ?_
    refine Sx.G.pure (.bool (x8 == 1)) (by kernel_rfl) (fun w => by kernel_rfl) ?_
    refine Sx.G.pure (.bool (x8 == 1)) (by kernel_rfl) (fun w => by kernel_rfl) ?_
    refine Sx.G.nil ?_
    refine Sx.E.next ?_
    cases hc10 : (x8 == 1)
    · have hb10 := hc10
      refine Sx.C.no (by kernel_rfl) (by kernel_rfl) ?_
      refine Sx.C.seq ?_
      refine Sx.C.region ?_
      refine Sx.G.pure (.bool (x8 == 2)) (by kernel_rfl) (fun w => by kernel_rfl) ?_
      refine Sx.G.pure (.bool (x8 == 2)) (by kernel_rfl) (fun w => by kernel_rfl) ?_
      refine Sx.G.nil ?_
      refine Sx.E.next ?_
      cases hc11 : (x8 == 2)
      · have hb11 := hc11
        refine Sx.C.no (by kernel_rfl) (by kernel_rfl) ?_
        refine Sx.C.skip ?_
        refine Sx.E.block_normal ?_
        refine Sx.E.next ?_
        refine Sx.C.seq ?_
        refine Sx.C.draw (.take 0 (.take 1 (.alone 2 (.alone 3 .nil)))) [vr b7 [.slice q6A0 gg4.prog.length q6c0, .int .i64 gg4.a, .int .i64 gg4.pc, .slice q6A1 gg4.wr.length q6c1, .slice q6A2 gg4.lv.length q6c2, .int .i64 gg4.t.1, .int .i64 gg4.t.2.1, .bool gg4.t.2.2, .int .i64 gg4.pd, .int .i64 gg4.x.1, .int .i64 gg4.x.2.1, .bool gg4.x.2.2.1, .int .i64 gg4.x.2.2.2, .bool gg4.hl, .slice q6A3 gg4.seen.length q6c3], vr b5 [.slice A4_0 gg4.prog.length c4_0, .int .i64 gg4.a, .int .i64 gg4.pc, .slice A4_1 gg4.wr.length c4_1, .slice A4_2 gg4.lv.length c4_2, .int .i64 gg4.t.1, .int .i64 gg4.t.2.1, .bool gg4.t.2.2, .int .i64 gg4.pd, .int .i64 gg4.x.1, .int .i64 gg4.x.2.1, .bool gg4.x.2.2.1, .int .i64 gg4.x.2.2.2, .bool gg4.hl, .slice A4_3 gg4.seen.length c4_3]] (fun w S => St.pick S [0, 5] _ rfl (by decide)) (by kernel_rfl) (by kernel_rfl) (by kernel_rfl) ?_
        refine Sx.GT.ld 33 (.tmp 5) b5 0 1 [.slice A4_0 gg4.prog.length c4_0, .int .i64 gg4.a, .int .i64 gg4.pc, .slice A4_1 gg4.wr.length c4_1, .slice A4_2 gg4.lv.length c4_2, .int .i64 gg4.t.1, .int .i64 gg4.t.2.1, .bool gg4.t.2.2, .int .i64 gg4.pd, .int .i64 gg4.x.1, .int .i64 gg4.x.2.1, .bool gg4.x.2.2.1, .int .i64 gg4.x.2.2.2, .bool gg4.hl, .slice A4_3 gg4.seen.length c4_3] [.slice A4_0 gg4.prog.length c4_0, .int .i64 gg4.a, .int .i64 gg4.pc, .slice A4_1 gg4.wr.length c4_1, .slice A4_2 gg4.lv.length c4_2, .int .i64 gg4.t.1, .int .i64 gg4.t.2.1, .bool gg4.t.2.2, .int .i64 gg4.pd, .int .i64 gg4.x.1, .int .i64 gg4.x.2.1, .bool gg4.x.2.2.1, .int .i64 gg4.x.2.2.2, .bool gg4.hl, .slice A4_3 gg4.seen.length c4_3] 0 (by rfl) (by rfl) (by kernel_rfl) (by kernel_rfl) (by rfl) (by kernel_rfl) (by kernel_rfl) (by kernel_rfl) ?_
        refine Sx.GT.ld 33 (.tmp 6) b7 0 0 [.slice q6A0 gg4.prog.length q6c0, .int .i64 gg4.a, .int .i64 gg4.pc, .slice q6A1 gg4.wr.length q6c1, .slice q6A2 gg4.lv.length q6c2, .int .i64 gg4.t.1, .int .i64 gg4.t.2.1, .bool gg4.t.2.2, .int .i64 gg4.pd, .int .i64 gg4.x.1, .int .i64 gg4.x.2.1, .bool gg4.x.2.2.1, .int .i64 gg4.x.2.2.2, .bool gg4.hl, .slice q6A3 gg4.seen.length q6c3] [.slice q6A0 gg4.prog.length q6c0, .int .i64 gg4.a, .int .i64 gg4.pc, .slice q6A1 gg4.wr.length q6c1, .slice q6A2 gg4.lv.length q6c2, .int .i64 gg4.t.1, .int .i64 gg4.t.2.1, .bool gg4.t.2.2, .int .i64 gg4.pd, .int .i64 gg4.x.1, .int .i64 gg4.x.2.1, .bool gg4.x.2.2.1, .int .i64 gg4.x.2.2.2, .bool gg4.hl, .slice q6A3 gg4.seen.length q6c3] 1 (by rfl) (by rfl) (by kernel_rfl) (by kernel_rfl) (by rfl) (by kernel_rfl) (by kernel_rfl) (by kernel_rfl) ?_
        refine Sx.GT.alone (Sx.Alone.sto 33 (.tmp 2) (.tmp 33) b1 0 12 [.slice none 0 0, .int .i64 0, .int .i64 0, .slice none 0 0, .slice none 0 0, .int .i64 0, .int .i64 0, .bool false, .int .i64 0, .int .i64 0, .int .i64 0, .bool false, .int .i64 0, .bool false, .slice none 0 0] [.slice A4_0 gg4.prog.length c4_0, .int .i64 gg4.a, .int .i64 gg4.pc, .slice A4_1 gg4.wr.length c4_1, .slice A4_2 gg4.lv.length c4_2, .int .i64 gg4.t.1, .int .i64 gg4.t.2.1, .bool gg4.t.2.2, .int .i64 gg4.pd, .int .i64 gg4.x.1, .int .i64 gg4.x.2.1, .bool gg4.x.2.2.1, .int .i64 gg4.x.2.2.2, .bool gg4.hl, .slice A4_3 gg4.seen.length c4_3] [.slice A4_0 gg4.prog.length c4_0, .int .i64 gg4.a, .int .i64 gg4.pc, .slice A4_1 gg4.wr.length c4_1, .slice A4_2 gg4.lv.length c4_2, .int .i64 gg4.t.1, .int .i64 gg4.t.2.1, .bool gg4.t.2.2, .int .i64 gg4.pd, .int .i64 gg4.x.1, .int .i64 gg4.x.2.1, .bool gg4.x.2.2.1, .int .i64 gg4.x.2.2.2, .bool gg4.hl, .slice A4_3 gg4.seen.length c4_3] [vr b7 [.slice q6A0 gg4.prog.length q6c0, .int .i64 gg4.a, .int .i64 gg4.pc, .slice q6A1 gg4.wr.length q6c1, .slice q6A2 gg4.lv.length q6c2, .int .i64 gg4.t.1, .int .i64 gg4.t.2.1, .bool gg4.t.2.2, .int .i64 gg4.pd, .int .i64 gg4.x.1, .int .i64 gg4.x.2.1, .bool gg4.x.2.2.1, .int .i64 gg4.x.2.2.2, .bool gg4.hl, .slice q6A3 gg4.seen.length q6c3], ow (rLst 54 (rPair rInt rInt)) w6.heap.size (w6'.heap.size) gg4.prog [.slice q6A0 gg4.prog.length q6c0] G6_0, ow (rLsw (rPair rInt rInt)) w6.heap.size w6'.heap.size gg4.wr [.slice q6A1 gg4.wr.length q6c1] G6_1, ow (rLsw (rPair rInt rInt)) w6.heap.size w6'.heap.size gg4.lv [.slice q6A2 gg4.lv.length q6c2] G6_2, ow (rLst 3 rInt) w6.heap.size (w6'.heap.size) gg4.seen [.slice q6A3 gg4.seen.length q6c3] G6_3, vr b5 [.slice A4_0 gg4.prog.length c4_0, .int .i64 gg4.a, .int .i64 gg4.pc, .slice A4_1 gg4.wr.length c4_1, .slice A4_2 gg4.lv.length c4_2, .int .i64 gg4.t.1, .int .i64 gg4.t.2.1, .bool gg4.t.2.2, .int .i64 gg4.pd, .int .i64 gg4.x.1, .int .i64 gg4.x.2.1, .bool gg4.x.2.2.1, .int .i64 gg4.x.2.2.2, .bool gg4.hl, .slice A4_3 gg4.seen.length c4_3], Sx.rp l4_0 k4_0 gg4.prog A4_0 c4_0, Sx.rp l4_1 k4_1 gg4.wr A4_1 c4_1, Sx.rp l4_2 k4_2 gg4.lv A4_2 c4_2, ow (rLst 3 rInt) l4_3 k4_3 gg4.seen [.slice A4_3 gg4.seen.length c4_3] F4, Sx.cu A n c g, vr b2 [.slice none 0 0, .int .i64 0, .int .i64 0, .slice none 0 0, .slice none 0 0, .int .i64 0, .int .i64 0, .bool false, .int .i64 0, .int .i64 0, .int .i64 0, .bool false, .int .i64 0, .bool false, .slice none 0 0], vr b1 [.slice A4_0 gg4.prog.length c4_0, .int .i64 gg4.a, .int .i64 gg4.pc, .slice A4_1 gg4.wr.length c4_1, .slice A4_2 gg4.lv.length c4_2, .int .i64 gg4.t.1, .int .i64 gg4.t.2.1, .bool gg4.t.2.2, .int .i64 gg4.pd, .int .i64 gg4.x.1, .int .i64 gg4.x.2.1, .bool gg4.x.2.2.1, .int .i64 gg4.x.2.2.2, .bool gg4.hl, .slice A4_3 gg4.seen.length c4_3]] (by rfl) (by rfl) (by kernel_rfl) (by kernel_rfl) (by kernel_rfl) (by rfl) (by kernel_rfl) (by rfl) (by kernel_rfl) (by kernel_rfl) (by kernel_rfl) (fun w S => St.pick S [0, 5] _ rfl (by decide)) ?_)
        refine Sx.GT.alone (Sx.Alone.sto 33 (.tmp 3) (.tmp 34) b2 0 11 [.slice none 0 0, .int .i64 0, .int .i64 0, .slice none 0 0, .slice none 0 0, .int .i64 0, .int .i64 0, .bool false, .int .i64 0, .int .i64 0, .int .i64 0, .bool false, .int .i64 0, .bool false, .slice none 0 0] [.slice q6A0 gg4.prog.length q6c0, .int .i64 gg4.a, .int .i64 gg4.pc, .slice q6A1 gg4.wr.length q6c1, .slice q6A2 gg4.lv.length q6c2, .int .i64 gg4.t.1, .int .i64 gg4.t.2.1, .bool gg4.t.2.2, .int .i64 gg4.pd, .int .i64 gg4.x.1, .int .i64 gg4.x.2.1, .bool gg4.x.2.2.1, .int .i64 gg4.x.2.2.2, .bool gg4.hl, .slice q6A3 gg4.seen.length q6c3] [.slice q6A0 gg4.prog.length q6c0, .int .i64 gg4.a, .int .i64 gg4.pc, .slice q6A1 gg4.wr.length q6c1, .slice q6A2 gg4.lv.length q6c2, .int .i64 gg4.t.1, .int .i64 gg4.t.2.1, .bool gg4.t.2.2, .int .i64 gg4.pd, .int .i64 gg4.x.1, .int .i64 gg4.x.2.1, .bool gg4.x.2.2.1, .int .i64 gg4.x.2.2.2, .bool gg4.hl, .slice q6A3 gg4.seen.length q6c3] [vr b7 [.slice q6A0 gg4.prog.length q6c0, .int .i64 gg4.a, .int .i64 gg4.pc, .slice q6A1 gg4.wr.length q6c1, .slice q6A2 gg4.lv.length q6c2, .int .i64 gg4.t.1, .int .i64 gg4.t.2.1, .bool gg4.t.2.2, .int .i64 gg4.pd, .int .i64 gg4.x.1, .int .i64 gg4.x.2.1, .bool gg4.x.2.2.1, .int .i64 gg4.x.2.2.2, .bool gg4.hl, .slice q6A3 gg4.seen.length q6c3], ow (rLst 54 (rPair rInt rInt)) w6.heap.size (w6'.heap.size) gg4.prog [.slice q6A0 gg4.prog.length q6c0] G6_0, ow (rLsw (rPair rInt rInt)) w6.heap.size w6'.heap.size gg4.wr [.slice q6A1 gg4.wr.length q6c1] G6_1, ow (rLsw (rPair rInt rInt)) w6.heap.size w6'.heap.size gg4.lv [.slice q6A2 gg4.lv.length q6c2] G6_2, ow (rLst 3 rInt) w6.heap.size (w6'.heap.size) gg4.seen [.slice q6A3 gg4.seen.length q6c3] G6_3, vr b5 [.slice A4_0 gg4.prog.length c4_0, .int .i64 gg4.a, .int .i64 gg4.pc, .slice A4_1 gg4.wr.length c4_1, .slice A4_2 gg4.lv.length c4_2, .int .i64 gg4.t.1, .int .i64 gg4.t.2.1, .bool gg4.t.2.2, .int .i64 gg4.pd, .int .i64 gg4.x.1, .int .i64 gg4.x.2.1, .bool gg4.x.2.2.1, .int .i64 gg4.x.2.2.2, .bool gg4.hl, .slice A4_3 gg4.seen.length c4_3], Sx.rp l4_0 k4_0 gg4.prog A4_0 c4_0, Sx.rp l4_1 k4_1 gg4.wr A4_1 c4_1, Sx.rp l4_2 k4_2 gg4.lv A4_2 c4_2, ow (rLst 3 rInt) l4_3 k4_3 gg4.seen [.slice A4_3 gg4.seen.length c4_3] F4, Sx.cu A n c g, vr b2 [.slice q6A0 gg4.prog.length q6c0, .int .i64 gg4.a, .int .i64 gg4.pc, .slice q6A1 gg4.wr.length q6c1, .slice q6A2 gg4.lv.length q6c2, .int .i64 gg4.t.1, .int .i64 gg4.t.2.1, .bool gg4.t.2.2, .int .i64 gg4.pd, .int .i64 gg4.x.1, .int .i64 gg4.x.2.1, .bool gg4.x.2.2.1, .int .i64 gg4.x.2.2.2, .bool gg4.hl, .slice q6A3 gg4.seen.length q6c3], vr b1 [.slice A4_0 gg4.prog.length c4_0, .int .i64 gg4.a, .int .i64 gg4.pc, .slice A4_1 gg4.wr.length c4_1, .slice A4_2 gg4.lv.length c4_2, .int .i64 gg4.t.1, .int .i64 gg4.t.2.1, .bool gg4.t.2.2, .int .i64 gg4.pd, .int .i64 gg4.x.1, .int .i64 gg4.x.2.1, .bool gg4.x.2.2.1, .int .i64 gg4.x.2.2.2, .bool gg4.hl, .slice A4_3 gg4.seen.length c4_3]] (by rfl) (by rfl) (by kernel_rfl) (by kernel_rfl) (by kernel_rfl) (by rfl) (by kernel_rfl) (by rfl) (by kernel_rfl) (by kernel_rfl) (by kernel_rfl) (fun w S => St.pick S [0, 5] _ rfl (by decide)) ?_)
        refine Sx.GT.nil ?_
        refine Sx.E.next ?_
        refine Sx.C.ret ?_
        refine Sx.E.retg2 (.agg #[.slice A4_0 gg4.prog.length c4_0, .int .i64 gg4.a, .int .i64 gg4.pc, .slice A4_1 gg4.wr.length c4_1, .slice A4_2 gg4.lv.length c4_2, .int .i64 gg4.t.1, .int .i64 gg4.t.2.1, .bool gg4.t.2.2, .int .i64 gg4.pd, .int .i64 gg4.x.1, .int .i64 gg4.x.2.1, .bool gg4.x.2.2.1, .int .i64 gg4.x.2.2.2, .bool gg4.hl, .slice A4_3 gg4.seen.length c4_3]) (.agg #[.slice q6A0 gg4.prog.length q6c0, .int .i64 gg4.a, .int .i64 gg4.pc, .slice q6A1 gg4.wr.length q6c1, .slice q6A2 gg4.lv.length q6c2, .int .i64 gg4.t.1, .int .i64 gg4.t.2.1, .bool gg4.t.2.2, .int .i64 gg4.pd, .int .i64 gg4.x.1, .int .i64 gg4.x.2.1, .bool gg4.x.2.2.1, .int .i64 gg4.x.2.2.2, .bool gg4.hl, .slice q6A3 gg4.seen.length q6c3]) rfl (Sx.IsRes.row b1 12 [.slice A4_0 gg4.prog.length c4_0, .int .i64 gg4.a, .int .i64 gg4.pc, .slice A4_1 gg4.wr.length c4_1, .slice A4_2 gg4.lv.length c4_2, .int .i64 gg4.t.1, .int .i64 gg4.t.2.1, .bool gg4.t.2.2, .int .i64 gg4.pd, .int .i64 gg4.x.1, .int .i64 gg4.x.2.1, .bool gg4.x.2.2.1, .int .i64 gg4.x.2.2.2, .bool gg4.hl, .slice A4_3 gg4.seen.length c4_3] (by kernel_rfl) rfl (by kernel_rfl) (by kernel_rfl)) (Sx.IsRes.row b2 11 [.slice q6A0 gg4.prog.length q6c0, .int .i64 gg4.a, .int .i64 gg4.pc, .slice q6A1 gg4.wr.length q6c1, .slice q6A2 gg4.lv.length q6c2, .int .i64 gg4.t.1, .int .i64 gg4.t.2.1, .bool gg4.t.2.2, .int .i64 gg4.pd, .int .i64 gg4.x.1, .int .i64 gg4.x.2.1, .bool gg4.x.2.2.1, .int .i64 gg4.x.2.2.2, .bool gg4.hl, .slice q6A3 gg4.seen.length q6c3] (by kernel_rfl) rfl (by kernel_rfl) (by kernel_rfl)) (fun w S => ?_)
        exact ⟨gg4, _, gg4, _, rfl, ⟨hwf4, ⟨hsm4.1, hsm4.2.1, hsm4.2.2.1, by have := hsm4.2.2.2; show gg4.seen.length ≤ 46; omega⟩, (rG_rd_mk (g := gg4) (Sx.St.rpIn S 6 rfl) (Sx.St.rpIn S 7 rfl) (Sx.St.rpIn S 8 rfl) (Sx.St.owIn (r := rLst 3 rInt) S 9 rfl))⟩, ⟨⟨hwf4.1, hwf4.2.1, hwf4.2.2.1, hwf4.2.2.2.1, hwf4.2.2.2.2.1, hwf4.2.2.2.2.2.1, hwf4.2.2.2.2.2.2.1, hwf4.2.2.2.2.2.2.2.1, trivial, hwf4.2.2.2.2.2.2.2.2.2⟩, ⟨hsm4.1, hsm4.2.1, hsm4.2.2.1, by have := hsm4.2.2.2; show gg4.seen.length ≤ 46; omega⟩, (rG_rd_mk (g := gg4) (Sx.St.owIn (r := rLst 54 (rPair rInt rInt)) S 1 rfl) (Sx.St.owIn S 2 rfl) (Sx.St.owIn S 3 rfl) (Sx.St.owIn (r := rLst 3 rInt) S 4 rfl))⟩, S.below⟩
      · have hb11 := hc11
        refine Sx.C.yes (by kernel_rfl) (by kernel_rfl) ?_
        refine Sx.C.region ?_
        refine Sx.G.pure (.pointer (some ⟨g, 0, none⟩)) (by kernel_rfl) (fun w => by kernel_rfl) ?_
        refine Sx.G.call 40 #[.pointer (some ⟨g, 0, none⟩), .int .i64 4, .int .i64 8] (by kernel_rfl) (fun w => by kernel_rfl) (fun w12 S => (table_any w0 A n c g 4 _ 8 (by decide) (by decide) (by decide) hn hcode (Sx.St.cur S 10 rfl)).mono fun e w12' hp => ?_)
        obtain ⟨tb12, tc12, tl12, rfl, hl12, hw12, hown, hcur, hgr⟩ := hp
        rw [← pcells_s] at hown
        refine ⟨_, _, rfl, (Sx.St.plus S (Sx.St.moved S 10 rfl hcur hgr) _ (Sx.row_pairs hl12 hown) (Nat.le_refl _) (Nat.le_refl _)), ?_⟩
        clear S hcur hgr hown
        refine Sx.G.pure (.pointer (some ⟨b7, 4, none⟩)) (by kernel_rfl) (fun w => by kernel_rfl) ?_
        refine Sx.G.sto 26 (.tmp 32) (.tmp 31) b7 4 1 [.slice q6A0 gg4.prog.length q6c0, .int .i64 gg4.a, .int .i64 gg4.pc, .slice q6A1 gg4.wr.length q6c1, .slice q6A2 gg4.lv.length q6c2, .int .i64 gg4.t.1, .int .i64 gg4.t.2.1, .bool gg4.t.2.2, .int .i64 gg4.pd, .int .i64 gg4.x.1, .int .i64 gg4.x.2.1, .bool gg4.x.2.2.1, .int .i64 gg4.x.2.2.2, .bool gg4.hl, .slice q6A3 gg4.seen.length q6c3] [.slice (some ⟨tb12, 0, none⟩) 4 tc12] [.slice q6A0 gg4.prog.length q6c0, .int .i64 gg4.a, .int .i64 gg4.pc, .slice q6A1 gg4.wr.length q6c1, .slice (some ⟨tb12, 0, none⟩) 4 tc12, .int .i64 gg4.t.1, .int .i64 gg4.t.2.1, .bool gg4.t.2.2, .int .i64 gg4.pd, .int .i64 gg4.x.1, .int .i64 gg4.x.2.1, .bool gg4.x.2.2.1, .int .i64 gg4.x.2.2.2, .bool gg4.hl, .slice q6A3 gg4.seen.length q6c3] [ow (rLst 86 (rPair rInt rInt)) w12.heap.size (w12'.heap.size) tl12 [.slice (some ⟨tb12, 0, none⟩) 4 tc12] [tb12], vr b7 [.slice q6A0 gg4.prog.length q6c0, .int .i64 gg4.a, .int .i64 gg4.pc, .slice q6A1 gg4.wr.length q6c1, .slice (some ⟨tb12, 0, none⟩) 4 tc12, .int .i64 gg4.t.1, .int .i64 gg4.t.2.1, .bool gg4.t.2.2, .int .i64 gg4.pd, .int .i64 gg4.x.1, .int .i64 gg4.x.2.1, .bool gg4.x.2.2.1, .int .i64 gg4.x.2.2.2, .bool gg4.hl, .slice q6A3 gg4.seen.length q6c3], ow (rLst 54 (rPair rInt rInt)) w6.heap.size (w6'.heap.size) gg4.prog [.slice q6A0 gg4.prog.length q6c0] G6_0, ow (rLsw (rPair rInt rInt)) w6.heap.size w6'.heap.size gg4.wr [.slice q6A1 gg4.wr.length q6c1] G6_1, ow (rLsw (rPair rInt rInt)) w6.heap.size w6'.heap.size gg4.lv [.slice q6A2 gg4.lv.length q6c2] G6_2, ow (rLst 3 rInt) w6.heap.size (w6'.heap.size) gg4.seen [.slice q6A3 gg4.seen.length q6c3] G6_3, vr b5 [.slice A4_0 gg4.prog.length c4_0, .int .i64 gg4.a, .int .i64 gg4.pc, .slice A4_1 gg4.wr.length c4_1, .slice A4_2 gg4.lv.length c4_2, .int .i64 gg4.t.1, .int .i64 gg4.t.2.1, .bool gg4.t.2.2, .int .i64 gg4.pd, .int .i64 gg4.x.1, .int .i64 gg4.x.2.1, .bool gg4.x.2.2.1, .int .i64 gg4.x.2.2.2, .bool gg4.hl, .slice A4_3 gg4.seen.length c4_3], Sx.rp l4_0 k4_0 gg4.prog A4_0 c4_0, Sx.rp l4_1 k4_1 gg4.wr A4_1 c4_1, Sx.rp l4_2 k4_2 gg4.lv A4_2 c4_2, ow (rLst 3 rInt) l4_3 k4_3 gg4.seen [.slice A4_3 gg4.seen.length c4_3] F4, Sx.cu A n c g, vr b2 [.slice none 0 0, .int .i64 0, .int .i64 0, .slice none 0 0, .slice none 0 0, .int .i64 0, .int .i64 0, .bool false, .int .i64 0, .int .i64 0, .int .i64 0, .bool false, .int .i64 0, .bool false, .slice none 0 0], vr b1 [.slice none 0 0, .int .i64 0, .int .i64 0, .slice none 0 0, .slice none 0 0, .int .i64 0, .int .i64 0, .bool false, .int .i64 0, .int .i64 0, .int .i64 0, .bool false, .int .i64 0, .bool false, .slice none 0 0]] rfl (by kernel_rfl) (by kernel_rfl) (by kernel_rfl) rfl (by kernel_rfl) rfl (by kernel_rfl) (by kernel_rfl) (by kernel_rfl) ?_
        refine Sx.G.nil ?_
        refine Sx.E.block_normal ?_
        refine Sx.E.next ?_
        refine Sx.C.seq ?_
        refine Sx.C.draw (.take 0 (.take 1 (.alone 2 (.alone 3 .nil)))) [vr b7 [.slice q6A0 gg4.prog.length q6c0, .int .i64 gg4.a, .int .i64 gg4.pc, .slice q6A1 gg4.wr.length q6c1, .slice (some ⟨tb12, 0, none⟩) 4 tc12, .int .i64 gg4.t.1, .int .i64 gg4.t.2.1, .bool gg4.t.2.2, .int .i64 gg4.pd, .int .i64 gg4.x.1, .int .i64 gg4.x.2.1, .bool gg4.x.2.2.1, .int .i64 gg4.x.2.2.2, .bool gg4.hl, .slice q6A3 gg4.seen.length q6c3], vr b5 [.slice A4_0 gg4.prog.length c4_0, .int .i64 gg4.a, .int .i64 gg4.pc, .slice A4_1 gg4.wr.length c4_1, .slice A4_2 gg4.lv.length c4_2, .int .i64 gg4.t.1, .int .i64 gg4.t.2.1, .bool gg4.t.2.2, .int .i64 gg4.pd, .int .i64 gg4.x.1, .int .i64 gg4.x.2.1, .bool gg4.x.2.2.1, .int .i64 gg4.x.2.2.2, .bool gg4.hl, .slice A4_3 gg4.seen.length c4_3]] (fun w S => St.pick S [1, 6] _ rfl (by decide)) (by kernel_rfl) (by kernel_rfl) (by kernel_rfl) ?_
        refine Sx.GT.ld 33 (.tmp 5) b5 0 1 [.slice A4_0 gg4.prog.length c4_0, .int .i64 gg4.a, .int .i64 gg4.pc, .slice A4_1 gg4.wr.length c4_1, .slice A4_2 gg4.lv.length c4_2, .int .i64 gg4.t.1, .int .i64 gg4.t.2.1, .bool gg4.t.2.2, .int .i64 gg4.pd, .int .i64 gg4.x.1, .int .i64 gg4.x.2.1, .bool gg4.x.2.2.1, .int .i64 gg4.x.2.2.2, .bool gg4.hl, .slice A4_3 gg4.seen.length c4_3] [.slice A4_0 gg4.prog.length c4_0, .int .i64 gg4.a, .int .i64 gg4.pc, .slice A4_1 gg4.wr.length c4_1, .slice A4_2 gg4.lv.length c4_2, .int .i64 gg4.t.1, .int .i64 gg4.t.2.1, .bool gg4.t.2.2, .int .i64 gg4.pd, .int .i64 gg4.x.1, .int .i64 gg4.x.2.1, .bool gg4.x.2.2.1, .int .i64 gg4.x.2.2.2, .bool gg4.hl, .slice A4_3 gg4.seen.length c4_3] 0 (by rfl) (by rfl) (by kernel_rfl) (by kernel_rfl) (by rfl) (by kernel_rfl) (by kernel_rfl) (by kernel_rfl) ?_
        refine Sx.GT.ld 33 (.tmp 6) b7 0 0 [.slice q6A0 gg4.prog.length q6c0, .int .i64 gg4.a, .int .i64 gg4.pc, .slice q6A1 gg4.wr.length q6c1, .slice (some ⟨tb12, 0, none⟩) 4 tc12, .int .i64 gg4.t.1, .int .i64 gg4.t.2.1, .bool gg4.t.2.2, .int .i64 gg4.pd, .int .i64 gg4.x.1, .int .i64 gg4.x.2.1, .bool gg4.x.2.2.1, .int .i64 gg4.x.2.2.2, .bool gg4.hl, .slice q6A3 gg4.seen.length q6c3] [.slice q6A0 gg4.prog.length q6c0, .int .i64 gg4.a, .int .i64 gg4.pc, .slice q6A1 gg4.wr.length q6c1, .slice (some ⟨tb12, 0, none⟩) 4 tc12, .int .i64 gg4.t.1, .int .i64 gg4.t.2.1, .bool gg4.t.2.2, .int .i64 gg4.pd, .int .i64 gg4.x.1, .int .i64 gg4.x.2.1, .bool gg4.x.2.2.1, .int .i64 gg4.x.2.2.2, .bool gg4.hl, .slice q6A3 gg4.seen.length q6c3] 1 (by rfl) (by rfl) (by kernel_rfl) (by kernel_rfl) (by rfl) (by kernel_rfl) (by kernel_rfl) (by kernel_rfl) ?_
        refine Sx.GT.alone (Sx.Alone.sto 33 (.tmp 2) (.tmp 33) b1 0 13 [.slice none 0 0, .int .i64 0, .int .i64 0, .slice none 0 0, .slice none 0 0, .int .i64 0, .int .i64 0, .bool false, .int .i64 0, .int .i64 0, .int .i64 0, .bool false, .int .i64 0, .bool false, .slice none 0 0] [.slice A4_0 gg4.prog.length c4_0, .int .i64 gg4.a, .int .i64 gg4.pc, .slice A4_1 gg4.wr.length c4_1, .slice A4_2 gg4.lv.length c4_2, .int .i64 gg4.t.1, .int .i64 gg4.t.2.1, .bool gg4.t.2.2, .int .i64 gg4.pd, .int .i64 gg4.x.1, .int .i64 gg4.x.2.1, .bool gg4.x.2.2.1, .int .i64 gg4.x.2.2.2, .bool gg4.hl, .slice A4_3 gg4.seen.length c4_3] [.slice A4_0 gg4.prog.length c4_0, .int .i64 gg4.a, .int .i64 gg4.pc, .slice A4_1 gg4.wr.length c4_1, .slice A4_2 gg4.lv.length c4_2, .int .i64 gg4.t.1, .int .i64 gg4.t.2.1, .bool gg4.t.2.2, .int .i64 gg4.pd, .int .i64 gg4.x.1, .int .i64 gg4.x.2.1, .bool gg4.x.2.2.1, .int .i64 gg4.x.2.2.2, .bool gg4.hl, .slice A4_3 gg4.seen.length c4_3] [ow (rLst 86 (rPair rInt rInt)) w12.heap.size (w12'.heap.size) tl12 [.slice (some ⟨tb12, 0, none⟩) 4 tc12] [tb12], vr b7 [.slice q6A0 gg4.prog.length q6c0, .int .i64 gg4.a, .int .i64 gg4.pc, .slice q6A1 gg4.wr.length q6c1, .slice (some ⟨tb12, 0, none⟩) 4 tc12, .int .i64 gg4.t.1, .int .i64 gg4.t.2.1, .bool gg4.t.2.2, .int .i64 gg4.pd, .int .i64 gg4.x.1, .int .i64 gg4.x.2.1, .bool gg4.x.2.2.1, .int .i64 gg4.x.2.2.2, .bool gg4.hl, .slice q6A3 gg4.seen.length q6c3], ow (rLst 54 (rPair rInt rInt)) w6.heap.size (w6'.heap.size) gg4.prog [.slice q6A0 gg4.prog.length q6c0] G6_0, ow (rLsw (rPair rInt rInt)) w6.heap.size w6'.heap.size gg4.wr [.slice q6A1 gg4.wr.length q6c1] G6_1, ow (rLsw (rPair rInt rInt)) w6.heap.size w6'.heap.size gg4.lv [.slice q6A2 gg4.lv.length q6c2] G6_2, ow (rLst 3 rInt) w6.heap.size (w6'.heap.size) gg4.seen [.slice q6A3 gg4.seen.length q6c3] G6_3, vr b5 [.slice A4_0 gg4.prog.length c4_0, .int .i64 gg4.a, .int .i64 gg4.pc, .slice A4_1 gg4.wr.length c4_1, .slice A4_2 gg4.lv.length c4_2, .int .i64 gg4.t.1, .int .i64 gg4.t.2.1, .bool gg4.t.2.2, .int .i64 gg4.pd, .int .i64 gg4.x.1, .int .i64 gg4.x.2.1, .bool gg4.x.2.2.1, .int .i64 gg4.x.2.2.2, .bool gg4.hl, .slice A4_3 gg4.seen.length c4_3], Sx.rp l4_0 k4_0 gg4.prog A4_0 c4_0, Sx.rp l4_1 k4_1 gg4.wr A4_1 c4_1, Sx.rp l4_2 k4_2 gg4.lv A4_2 c4_2, ow (rLst 3 rInt) l4_3 k4_3 gg4.seen [.slice A4_3 gg4.seen.length c4_3] F4, Sx.cu A n c g, vr b2 [.slice none 0 0, .int .i64 0, .int .i64 0, .slice none 0 0, .slice none 0 0, .int .i64 0, .int .i64 0, .bool false, .int .i64 0, .int .i64 0, .int .i64 0, .bool false, .int .i64 0, .bool false, .slice none 0 0], vr b1 [.slice A4_0 gg4.prog.length c4_0, .int .i64 gg4.a, .int .i64 gg4.pc, .slice A4_1 gg4.wr.length c4_1, .slice A4_2 gg4.lv.length c4_2, .int .i64 gg4.t.1, .int .i64 gg4.t.2.1, .bool gg4.t.2.2, .int .i64 gg4.pd, .int .i64 gg4.x.1, .int .i64 gg4.x.2.1, .bool gg4.x.2.2.1, .int .i64 gg4.x.2.2.2, .bool gg4.hl, .slice A4_3 gg4.seen.length c4_3]] (by rfl) (by rfl) (by kernel_rfl) (by kernel_rfl) (by kernel_rfl) (by rfl) (by kernel_rfl) (by rfl) (by kernel_rfl) (by kernel_rfl) (by kernel_rfl) (fun w S => St.pick S [1, 6] _ rfl (by decide)) ?_)
        refine Sx.GT.alone (Sx.Alone.sto 33 (.tmp 3) (.tmp 34) b2 0 12 [.slice none 0 0, .int .i64 0, .int .i64 0, .slice none 0 0, .slice none 0 0, .int .i64 0, .int .i64 0, .bool false, .int .i64 0, .int .i64 0, .int .i64 0, .bool false, .int .i64 0, .bool false, .slice none 0 0] [.slice q6A0 gg4.prog.length q6c0, .int .i64 gg4.a, .int .i64 gg4.pc, .slice q6A1 gg4.wr.length q6c1, .slice (some ⟨tb12, 0, none⟩) 4 tc12, .int .i64 gg4.t.1, .int .i64 gg4.t.2.1, .bool gg4.t.2.2, .int .i64 gg4.pd, .int .i64 gg4.x.1, .int .i64 gg4.x.2.1, .bool gg4.x.2.2.1, .int .i64 gg4.x.2.2.2, .bool gg4.hl, .slice q6A3 gg4.seen.length q6c3] [.slice q6A0 gg4.prog.length q6c0, .int .i64 gg4.a, .int .i64 gg4.pc, .slice q6A1 gg4.wr.length q6c1, .slice (some ⟨tb12, 0, none⟩) 4 tc12, .int .i64 gg4.t.1, .int .i64 gg4.t.2.1, .bool gg4.t.2.2, .int .i64 gg4.pd, .int .i64 gg4.x.1, .int .i64 gg4.x.2.1, .bool gg4.x.2.2.1, .int .i64 gg4.x.2.2.2, .bool gg4.hl, .slice q6A3 gg4.seen.length q6c3] [ow (rLst 86 (rPair rInt rInt)) w12.heap.size (w12'.heap.size) tl12 [.slice (some ⟨tb12, 0, none⟩) 4 tc12] [tb12], vr b7 [.slice q6A0 gg4.prog.length q6c0, .int .i64 gg4.a, .int .i64 gg4.pc, .slice q6A1 gg4.wr.length q6c1, .slice (some ⟨tb12, 0, none⟩) 4 tc12, .int .i64 gg4.t.1, .int .i64 gg4.t.2.1, .bool gg4.t.2.2, .int .i64 gg4.pd, .int .i64 gg4.x.1, .int .i64 gg4.x.2.1, .bool gg4.x.2.2.1, .int .i64 gg4.x.2.2.2, .bool gg4.hl, .slice q6A3 gg4.seen.length q6c3], ow (rLst 54 (rPair rInt rInt)) w6.heap.size (w6'.heap.size) gg4.prog [.slice q6A0 gg4.prog.length q6c0] G6_0, ow (rLsw (rPair rInt rInt)) w6.heap.size w6'.heap.size gg4.wr [.slice q6A1 gg4.wr.length q6c1] G6_1, ow (rLsw (rPair rInt rInt)) w6.heap.size w6'.heap.size gg4.lv [.slice q6A2 gg4.lv.length q6c2] G6_2, ow (rLst 3 rInt) w6.heap.size (w6'.heap.size) gg4.seen [.slice q6A3 gg4.seen.length q6c3] G6_3, vr b5 [.slice A4_0 gg4.prog.length c4_0, .int .i64 gg4.a, .int .i64 gg4.pc, .slice A4_1 gg4.wr.length c4_1, .slice A4_2 gg4.lv.length c4_2, .int .i64 gg4.t.1, .int .i64 gg4.t.2.1, .bool gg4.t.2.2, .int .i64 gg4.pd, .int .i64 gg4.x.1, .int .i64 gg4.x.2.1, .bool gg4.x.2.2.1, .int .i64 gg4.x.2.2.2, .bool gg4.hl, .slice A4_3 gg4.seen.length c4_3], Sx.rp l4_0 k4_0 gg4.prog A4_0 c4_0, Sx.rp l4_1 k4_1 gg4.wr A4_1 c4_1, Sx.rp l4_2 k4_2 gg4.lv A4_2 c4_2, ow (rLst 3 rInt) l4_3 k4_3 gg4.seen [.slice A4_3 gg4.seen.length c4_3] F4, Sx.cu A n c g, vr b2 [.slice q6A0 gg4.prog.length q6c0, .int .i64 gg4.a, .int .i64 gg4.pc, .slice q6A1 gg4.wr.length q6c1, .slice (some ⟨tb12, 0, none⟩) 4 tc12, .int .i64 gg4.t.1, .int .i64 gg4.t.2.1, .bool gg4.t.2.2, .int .i64 gg4.pd, .int .i64 gg4.x.1, .int .i64 gg4.x.2.1, .bool gg4.x.2.2.1, .int .i64 gg4.x.2.2.2, .bool gg4.hl, .slice q6A3 gg4.seen.length q6c3], vr b1 [.slice A4_0 gg4.prog.length c4_0, .int .i64 gg4.a, .int .i64 gg4.pc, .slice A4_1 gg4.wr.length c4_1, .slice A4_2 gg4.lv.length c4_2, .int .i64 gg4.t.1, .int .i64 gg4.t.2.1, .bool gg4.t.2.2, .int .i64 gg4.pd, .int .i64 gg4.x.1, .int .i64 gg4.x.2.1, .bool gg4.x.2.2.1, .int .i64 gg4.x.2.2.2, .bool gg4.hl, .slice A4_3 gg4.seen.length c4_3]] (by rfl) (by rfl) (by kernel_rfl) (by kernel_rfl) (by kernel_rfl) (by rfl) (by kernel_rfl) (by rfl) (by kernel_rfl) (by kernel_rfl) (by kernel_rfl) (fun w S => St.pick S [1, 6] _ rfl (by decide)) ?_)
        refine Sx.GT.nil ?_
        refine Sx.E.next ?_
        refine Sx.C.ret ?_
        refine Sx.E.retg2 (.agg #[.slice A4_0 gg4.prog.length c4_0, .int .i64 gg4.a, .int .i64 gg4.pc, .slice A4_1 gg4.wr.length c4_1, .slice A4_2 gg4.lv.length c4_2, .int .i64 gg4.t.1, .int .i64 gg4.t.2.1, .bool gg4.t.2.2, .int .i64 gg4.pd, .int .i64 gg4.x.1, .int .i64 gg4.x.2.1, .bool gg4.x.2.2.1, .int .i64 gg4.x.2.2.2, .bool gg4.hl, .slice A4_3 gg4.seen.length c4_3]) (.agg #[.slice q6A0 gg4.prog.length q6c0, .int .i64 gg4.a, .int .i64 gg4.pc, .slice q6A1 gg4.wr.length q6c1, .slice (some ⟨tb12, 0, none⟩) 4 tc12, .int .i64 gg4.t.1, .int .i64 gg4.t.2.1, .bool gg4.t.2.2, .int .i64 gg4.pd, .int .i64 gg4.x.1, .int .i64 gg4.x.2.1, .bool gg4.x.2.2.1, .int .i64 gg4.x.2.2.2, .bool gg4.hl, .slice q6A3 gg4.seen.length q6c3]) rfl (Sx.IsRes.row b1 13 [.slice A4_0 gg4.prog.length c4_0, .int .i64 gg4.a, .int .i64 gg4.pc, .slice A4_1 gg4.wr.length c4_1, .slice A4_2 gg4.lv.length c4_2, .int .i64 gg4.t.1, .int .i64 gg4.t.2.1, .bool gg4.t.2.2, .int .i64 gg4.pd, .int .i64 gg4.x.1, .int .i64 gg4.x.2.1, .bool gg4.x.2.2.1, .int .i64 gg4.x.2.2.2, .bool gg4.hl, .slice A4_3 gg4.seen.length c4_3] (by kernel_rfl) rfl (by kernel_rfl) (by kernel_rfl)) (Sx.IsRes.row b2 12 [.slice q6A0 gg4.prog.length q6c0, .int .i64 gg4.a, .int .i64 gg4.pc, .slice q6A1 gg4.wr.length q6c1, .slice (some ⟨tb12, 0, none⟩) 4 tc12, .int .i64 gg4.t.1, .int .i64 gg4.t.2.1, .bool gg4.t.2.2, .int .i64 gg4.pd, .int .i64 gg4.x.1, .int .i64 gg4.x.2.1, .bool gg4.x.2.2.1, .int .i64 gg4.x.2.2.2, .bool gg4.hl, .slice q6A3 gg4.seen.length q6c3] (by kernel_rfl) rfl (by kernel_rfl) (by kernel_rfl)) (fun w S => ?_)
        exact ⟨gg4, _, { gg4 with lv := tl12 }, _, rfl, ⟨hwf4, ⟨hsm4.1, hsm4.2.1, hsm4.2.2.1, by have := hsm4.2.2.2; show gg4.seen.length ≤ 46; omega⟩, (rG_rd_mk (g := gg4) (Sx.St.rpIn S 7 rfl) (Sx.St.rpIn S 8 rfl) (Sx.St.rpIn S 9 rfl) (Sx.St.owIn (r := rLst 3 rInt) S 10 rfl))⟩, ⟨⟨hwf4.1, hwf4.2.1, hwf4.2.2.1, hwf4.2.2.2.1, ⟨by rw [hl12]; decide, hw12⟩, hwf4.2.2.2.2.2.1, hwf4.2.2.2.2.2.2.1, hwf4.2.2.2.2.2.2.2.1, trivial, hwf4.2.2.2.2.2.2.2.2.2⟩, ⟨hsm4.1, hsm4.2.1, by show tl12.length ≤ 4; rw [hl12]; exact Nat.le_refl _, by have := hsm4.2.2.2; show gg4.seen.length ≤ 46; omega⟩, (rG_rd_mk (g := { gg4 with lv := tl12 }) (Sx.St.owIn (r := rLst 54 (rPair rInt rInt)) S 2 rfl) (Sx.St.owIn S 3 rfl) (Sx.St.owIn (r := rLst 86 (rPair rInt rInt)) S 0 rfl) (Sx.St.owIn (r := rLst 3 rInt) S 5 rfl))⟩, S.below⟩
    · have hb10 := hc10
      refine Sx.C.yes (by kernel_rfl) (by kernel_rfl) ?_
      refine Sx.C.region ?_
      refine Sx.G.pure (.pointer (some ⟨b7, 14, none⟩)) (by kernel_rfl) (fun w => by kernel_rfl) ?_
      refine Sx.G.ld1 31 (.tmp 23) b7 14 0 [.slice q6A0 gg4.prog.length q6c0, .int .i64 gg4.a, .int .i64 gg4.pc, .slice q6A1 gg4.wr.length q6c1, .slice q6A2 gg4.lv.length q6c2, .int .i64 gg4.t.1, .int .i64 gg4.t.2.1, .bool gg4.t.2.2, .int .i64 gg4.pd, .int .i64 gg4.x.1, .int .i64 gg4.x.2.1, .bool gg4.x.2.2.1, .int .i64 gg4.x.2.2.2, .bool gg4.hl, .slice q6A3 gg4.seen.length q6c3] (.slice q6A3 gg4.seen.length q6c3) rfl (by kernel_rfl) (by kernel_rfl) rfl (by kernel_rfl) (by kernel_rfl) ?_
      refine Sx.G.made 3 [.int .i64 5] 1 (by kernel_rfl) (fun w => by kernel_rfl) (fun b13 => ?_)
      refine Sx.G.apps 5 rfl (gg4.seen ++ [5]) (fun w S => S.box 0 rfl rfl 1 (Nat.le_refl _)) rfl ((gg4.seen ++ [5]).length) (by simp) flat_int (.tmp 24) (.tmp 25) 31 1 8 rfl rfl (by kernel_rfl) (by kernel_rfl) rfl (by kernel_rfl) (by kernel_rfl) (by simp only [maxLen, List.length_nil, List.length_cons]; omega) (by simp only [List.length_nil, List.length_cons]; omega) (fun A14 c14 F14 hi14 hm14 => ?_)
      refine Sx.G.pure (.pointer (some ⟨b7, 14, none⟩)) (by kernel_rfl) (fun w => by kernel_rfl) ?_
      refine Sx.G.sto 31 (.tmp 27) (.tmp 26) b7 14 1 [.slice q6A0 gg4.prog.length q6c0, .int .i64 gg4.a, .int .i64 gg4.pc, .slice q6A1 gg4.wr.length q6c1, .slice q6A2 gg4.lv.length q6c2, .int .i64 gg4.t.1, .int .i64 gg4.t.2.1, .bool gg4.t.2.2, .int .i64 gg4.pd, .int .i64 gg4.x.1, .int .i64 gg4.x.2.1, .bool gg4.x.2.2.1, .int .i64 gg4.x.2.2.2, .bool gg4.hl, .slice q6A3 gg4.seen.length q6c3] [.slice A14 ((gg4.seen ++ [5]).length) c14] [.slice q6A0 gg4.prog.length q6c0, .int .i64 gg4.a, .int .i64 gg4.pc, .slice q6A1 gg4.wr.length q6c1, .slice q6A2 gg4.lv.length q6c2, .int .i64 gg4.t.1, .int .i64 gg4.t.2.1, .bool gg4.t.2.2, .int .i64 gg4.pd, .int .i64 gg4.x.1, .int .i64 gg4.x.2.1, .bool gg4.x.2.2.1, .int .i64 gg4.x.2.2.2, .bool gg4.hl, .slice A14 ((gg4.seen ++ [5]).length) c14] [vr b13 [.int .i64 5], vr b7 [.slice q6A0 gg4.prog.length q6c0, .int .i64 gg4.a, .int .i64 gg4.pc, .slice q6A1 gg4.wr.length q6c1, .slice q6A2 gg4.lv.length q6c2, .int .i64 gg4.t.1, .int .i64 gg4.t.2.1, .bool gg4.t.2.2, .int .i64 gg4.pd, .int .i64 gg4.x.1, .int .i64 gg4.x.2.1, .bool gg4.x.2.2.1, .int .i64 gg4.x.2.2.2, .bool gg4.hl, .slice A14 ((gg4.seen ++ [5]).length) c14], ow (rLst 54 (rPair rInt rInt)) w6.heap.size (w6'.heap.size) gg4.prog [.slice q6A0 gg4.prog.length q6c0] G6_0, ow (rLsw (rPair rInt rInt)) w6.heap.size w6'.heap.size gg4.wr [.slice q6A1 gg4.wr.length q6c1] G6_1, ow (rLsw (rPair rInt rInt)) w6.heap.size w6'.heap.size gg4.lv [.slice q6A2 gg4.lv.length q6c2] G6_2, ow (rLst 3 rInt) w0.heap.size hi14 (gg4.seen ++ [5]) [.slice A14 ((gg4.seen ++ [5]).length) c14] F14, vr b5 [.slice A4_0 gg4.prog.length c4_0, .int .i64 gg4.a, .int .i64 gg4.pc, .slice A4_1 gg4.wr.length c4_1, .slice A4_2 gg4.lv.length c4_2, .int .i64 gg4.t.1, .int .i64 gg4.t.2.1, .bool gg4.t.2.2, .int .i64 gg4.pd, .int .i64 gg4.x.1, .int .i64 gg4.x.2.1, .bool gg4.x.2.2.1, .int .i64 gg4.x.2.2.2, .bool gg4.hl, .slice A4_3 gg4.seen.length c4_3], Sx.rp l4_0 k4_0 gg4.prog A4_0 c4_0, Sx.rp l4_1 k4_1 gg4.wr A4_1 c4_1, Sx.rp l4_2 k4_2 gg4.lv A4_2 c4_2, ow (rLst 3 rInt) l4_3 k4_3 gg4.seen [.slice A4_3 gg4.seen.length c4_3] F4, Sx.cu A n c g, vr b2 [.slice none 0 0, .int .i64 0, .int .i64 0, .slice none 0 0, .slice none 0 0, .int .i64 0, .int .i64 0, .bool false, .int .i64 0, .int .i64 0, .int .i64 0, .bool false, .int .i64 0, .bool false, .slice none 0 0], vr b1 [.slice none 0 0, .int .i64 0, .int .i64 0, .slice none 0 0, .slice none 0 0, .int .i64 0, .int .i64 0, .bool false, .int .i64 0, .int .i64 0, .int .i64 0, .bool false, .int .i64 0, .bool false, .slice none 0 0]] rfl (by kernel_rfl) (by kernel_rfl) (by kernel_rfl) rfl (by kernel_rfl) rfl (by kernel_rfl) (by kernel_rfl) (by kernel_rfl) ?_
      refine Sx.G.nil ?_
      refine Sx.E.block_normal ?_
      refine Sx.E.next ?_
      refine Sx.C.seq ?_
      refine Sx.C.draw (.take 0 (.take 1 (.alone 2 (.alone 3 .nil)))) [vr b7 [.slice q6A0 gg4.prog.length q6c0, .int .i64 gg4.a, .int .i64 gg4.pc, .slice q6A1 gg4.wr.length q6c1, .slice q6A2 gg4.lv.length q6c2, .int .i64 gg4.t.1, .int .i64 gg4.t.2.1, .bool gg4.t.2.2, .int .i64 gg4.pd, .int .i64 gg4.x.1, .int .i64 gg4.x.2.1, .bool gg4.x.2.2.1, .int .i64 gg4.x.2.2.2, .bool gg4.hl, .slice A14 ((gg4.seen ++ [5]).length) c14], vr b5 [.slice A4_0 gg4.prog.length c4_0, .int .i64 gg4.a, .int .i64 gg4.pc, .slice A4_1 gg4.wr.length c4_1, .slice A4_2 gg4.lv.length c4_2, .int .i64 gg4.t.1, .int .i64 gg4.t.2.1, .bool gg4.t.2.2, .int .i64 gg4.pd, .int .i64 gg4.x.1, .int .i64 gg4.x.2.1, .bool gg4.x.2.2.1, .int .i64 gg4.x.2.2.2, .bool gg4.hl, .slice A4_3 gg4.seen.length c4_3]] (fun w S => St.pick S [1, 6] _ rfl (by decide)) (by kernel_rfl) (by kernel_rfl) (by kernel_rfl) ?_
      refine Sx.GT.ld 33 (.tmp 5) b5 0 1 [.slice A4_0 gg4.prog.length c4_0, .int .i64 gg4.a, .int .i64 gg4.pc, .slice A4_1 gg4.wr.length c4_1, .slice A4_2 gg4.lv.length c4_2, .int .i64 gg4.t.1, .int .i64 gg4.t.2.1, .bool gg4.t.2.2, .int .i64 gg4.pd, .int .i64 gg4.x.1, .int .i64 gg4.x.2.1, .bool gg4.x.2.2.1, .int .i64 gg4.x.2.2.2, .bool gg4.hl, .slice A4_3 gg4.seen.length c4_3] [.slice A4_0 gg4.prog.length c4_0, .int .i64 gg4.a, .int .i64 gg4.pc, .slice A4_1 gg4.wr.length c4_1, .slice A4_2 gg4.lv.length c4_2, .int .i64 gg4.t.1, .int .i64 gg4.t.2.1, .bool gg4.t.2.2, .int .i64 gg4.pd, .int .i64 gg4.x.1, .int .i64 gg4.x.2.1, .bool gg4.x.2.2.1, .int .i64 gg4.x.2.2.2, .bool gg4.hl, .slice A4_3 gg4.seen.length c4_3] 0 (by rfl) (by rfl) (by kernel_rfl) (by kernel_rfl) (by rfl) (by kernel_rfl) (by kernel_rfl) (by kernel_rfl) ?_
      refine Sx.GT.ld 33 (.tmp 6) b7 0 0 [.slice q6A0 gg4.prog.length q6c0, .int .i64 gg4.a, .int .i64 gg4.pc, .slice q6A1 gg4.wr.length q6c1, .slice q6A2 gg4.lv.length q6c2, .int .i64 gg4.t.1, .int .i64 gg4.t.2.1, .bool gg4.t.2.2, .int .i64 gg4.pd, .int .i64 gg4.x.1, .int .i64 gg4.x.2.1, .bool gg4.x.2.2.1, .int .i64 gg4.x.2.2.2, .bool gg4.hl, .slice A14 ((gg4.seen ++ [5]).length) c14] [.slice q6A0 gg4.prog.length q6c0, .int .i64 gg4.a, .int .i64 gg4.pc, .slice q6A1 gg4.wr.length q6c1, .slice q6A2 gg4.lv.length q6c2, .int .i64 gg4.t.1, .int .i64 gg4.t.2.1, .bool gg4.t.2.2, .int .i64 gg4.pd, .int .i64 gg4.x.1, .int .i64 gg4.x.2.1, .bool gg4.x.2.2.1, .int .i64 gg4.x.2.2.2, .bool gg4.hl, .slice A14 ((gg4.seen ++ [5]).length) c14] 1 (by rfl) (by rfl) (by kernel_rfl) (by kernel_rfl) (by rfl) (by kernel_rfl) (by kernel_rfl) (by kernel_rfl) ?_
      refine Sx.GT.alone (Sx.Alone.sto 33 (.tmp 2) (.tmp 33) b1 0 13 [.slice none 0 0, .int .i64 0, .int .i64 0, .slice none 0 0, .slice none 0 0, .int .i64 0, .int .i64 0, .bool false, .int .i64 0, .int .i64 0, .int .i64 0, .bool false, .int .i64 0, .bool false, .slice none 0 0] [.slice A4_0 gg4.prog.length c4_0, .int .i64 gg4.a, .int .i64 gg4.pc, .slice A4_1 gg4.wr.length c4_1, .slice A4_2 gg4.lv.length c4_2, .int .i64 gg4.t.1, .int .i64 gg4.t.2.1, .bool gg4.t.2.2, .int .i64 gg4.pd, .int .i64 gg4.x.1, .int .i64 gg4.x.2.1, .bool gg4.x.2.2.1, .int .i64 gg4.x.2.2.2, .bool gg4.hl, .slice A4_3 gg4.seen.length c4_3] [.slice A4_0 gg4.prog.length c4_0, .int .i64 gg4.a, .int .i64 gg4.pc, .slice A4_1 gg4.wr.length c4_1, .slice A4_2 gg4.lv.length c4_2, .int .i64 gg4.t.1, .int .i64 gg4.t.2.1, .bool gg4.t.2.2, .int .i64 gg4.pd, .int .i64 gg4.x.1, .int .i64 gg4.x.2.1, .bool gg4.x.2.2.1, .int .i64 gg4.x.2.2.2, .bool gg4.hl, .slice A4_3 gg4.seen.length c4_3] [vr b13 [.int .i64 5], vr b7 [.slice q6A0 gg4.prog.length q6c0, .int .i64 gg4.a, .int .i64 gg4.pc, .slice q6A1 gg4.wr.length q6c1, .slice q6A2 gg4.lv.length q6c2, .int .i64 gg4.t.1, .int .i64 gg4.t.2.1, .bool gg4.t.2.2, .int .i64 gg4.pd, .int .i64 gg4.x.1, .int .i64 gg4.x.2.1, .bool gg4.x.2.2.1, .int .i64 gg4.x.2.2.2, .bool gg4.hl, .slice A14 ((gg4.seen ++ [5]).length) c14], ow (rLst 54 (rPair rInt rInt)) w6.heap.size (w6'.heap.size) gg4.prog [.slice q6A0 gg4.prog.length q6c0] G6_0, ow (rLsw (rPair rInt rInt)) w6.heap.size w6'.heap.size gg4.wr [.slice q6A1 gg4.wr.length q6c1] G6_1, ow (rLsw (rPair rInt rInt)) w6.heap.size w6'.heap.size gg4.lv [.slice q6A2 gg4.lv.length q6c2] G6_2, ow (rLst 3 rInt) w0.heap.size hi14 (gg4.seen ++ [5]) [.slice A14 ((gg4.seen ++ [5]).length) c14] F14, vr b5 [.slice A4_0 gg4.prog.length c4_0, .int .i64 gg4.a, .int .i64 gg4.pc, .slice A4_1 gg4.wr.length c4_1, .slice A4_2 gg4.lv.length c4_2, .int .i64 gg4.t.1, .int .i64 gg4.t.2.1, .bool gg4.t.2.2, .int .i64 gg4.pd, .int .i64 gg4.x.1, .int .i64 gg4.x.2.1, .bool gg4.x.2.2.1, .int .i64 gg4.x.2.2.2, .bool gg4.hl, .slice A4_3 gg4.seen.length c4_3], Sx.rp l4_0 k4_0 gg4.prog A4_0 c4_0, Sx.rp l4_1 k4_1 gg4.wr A4_1 c4_1, Sx.rp l4_2 k4_2 gg4.lv A4_2 c4_2, ow (rLst 3 rInt) l4_3 k4_3 gg4.seen [.slice A4_3 gg4.seen.length c4_3] F4, Sx.cu A n c g, vr b2 [.slice none 0 0, .int .i64 0, .int .i64 0, .slice none 0 0, .slice none 0 0, .int .i64 0, .int .i64 0, .bool false, .int .i64 0, .int .i64 0, .int .i64 0, .bool false, .int .i64 0, .bool false, .slice none 0 0], vr b1 [.slice A4_0 gg4.prog.length c4_0, .int .i64 gg4.a, .int .i64 gg4.pc, .slice A4_1 gg4.wr.length c4_1, .slice A4_2 gg4.lv.length c4_2, .int .i64 gg4.t.1, .int .i64 gg4.t.2.1, .bool gg4.t.2.2, .int .i64 gg4.pd, .int .i64 gg4.x.1, .int .i64 gg4.x.2.1, .bool gg4.x.2.2.1, .int .i64 gg4.x.2.2.2, .bool gg4.hl, .slice A4_3 gg4.seen.length c4_3]] (by rfl) (by rfl) (by kernel_rfl) (by kernel_rfl) (by kernel_rfl) (by rfl) (by kernel_rfl) (by rfl) (by kernel_rfl) (by kernel_rfl) (by kernel_rfl) (fun w S => St.pick S [1, 6] _ rfl (by decide)) ?_)
      refine Sx.GT.alone (Sx.Alone.sto 33 (.tmp 3) (.tmp 34) b2 0 12 [.slice none 0 0, .int .i64 0, .int .i64 0, .slice none 0 0, .slice none 0 0, .int .i64 0, .int .i64 0, .bool false, .int .i64 0, .int .i64 0, .int .i64 0, .bool false, .int .i64 0, .bool false, .slice none 0 0] [.slice q6A0 gg4.prog.length q6c0, .int .i64 gg4.a, .int .i64 gg4.pc, .slice q6A1 gg4.wr.length q6c1, .slice q6A2 gg4.lv.length q6c2, .int .i64 gg4.t.1, .int .i64 gg4.t.2.1, .bool gg4.t.2.2, .int .i64 gg4.pd, .int .i64 gg4.x.1, .int .i64 gg4.x.2.1, .bool gg4.x.2.2.1, .int .i64 gg4.x.2.2.2, .bool gg4.hl, .slice A14 ((gg4.seen ++ [5]).length) c14] [.slice q6A0 gg4.prog.length q6c0, .int .i64 gg4.a, .int .i64 gg4.pc, .slice q6A1 gg4.wr.length q6c1, .slice q6A2 gg4.lv.length q6c2, .int .i64 gg4.t.1, .int .i64 gg4.t.2.1, .bool gg4.t.2.2, .int .i64 gg4.pd, .int .i64 gg4.x.1, .int .i64 gg4.x.2.1, .bool gg4.x.2.2.1, .int .i64 gg4.x.2.2.2, .bool gg4.hl, .slice A14 ((gg4.seen ++ [5]).length) c14] [vr b13 [.int .i64 5], vr b7 [.slice q6A0 gg4.prog.length q6c0, .int .i64 gg4.a, .int .i64 gg4.pc, .slice q6A1 gg4.wr.length q6c1, .slice q6A2 gg4.lv.length q6c2, .int .i64 gg4.t.1, .int .i64 gg4.t.2.1, .bool gg4.t.2.2, .int .i64 gg4.pd, .int .i64 gg4.x.1, .int .i64 gg4.x.2.1, .bool gg4.x.2.2.1, .int .i64 gg4.x.2.2.2, .bool gg4.hl, .slice A14 ((gg4.seen ++ [5]).length) c14], ow (rLst 54 (rPair rInt rInt)) w6.heap.size (w6'.heap.size) gg4.prog [.slice q6A0 gg4.prog.length q6c0] G6_0, ow (rLsw (rPair rInt rInt)) w6.heap.size w6'.heap.size gg4.wr [.slice q6A1 gg4.wr.length q6c1] G6_1, ow (rLsw (rPair rInt rInt)) w6.heap.size w6'.heap.size gg4.lv [.slice q6A2 gg4.lv.length q6c2] G6_2, ow (rLst 3 rInt) w0.heap.size hi14 (gg4.seen ++ [5]) [.slice A14 ((gg4.seen ++ [5]).length) c14] F14, vr b5 [.slice A4_0 gg4.prog.length c4_0, .int .i64 gg4.a, .int .i64 gg4.pc, .slice A4_1 gg4.wr.length c4_1, .slice A4_2 gg4.lv.length c4_2, .int .i64 gg4.t.1, .int .i64 gg4.t.2.1, .bool gg4.t.2.2, .int .i64 gg4.pd, .int .i64 gg4.x.1, .int .i64 gg4.x.2.1, .bool gg4.x.2.2.1, .int .i64 gg4.x.2.2.2, .bool gg4.hl, .slice A4_3 gg4.seen.length c4_3], Sx.rp l4_0 k4_0 gg4.prog A4_0 c4_0, Sx.rp l4_1 k4_1 gg4.wr A4_1 c4_1, Sx.rp l4_2 k4_2 gg4.lv A4_2 c4_2, ow (rLst 3 rInt) l4_3 k4_3 gg4.seen [.slice A4_3 gg4.seen.length c4_3] F4, Sx.cu A n c g, vr b2 [.slice q6A0 gg4.prog.length q6c0, .int .i64 gg4.a, .int .i64 gg4.pc, .slice q6A1 gg4.wr.length q6c1, .slice q6A2 gg4.lv.length q6c2, .int .i64 gg4.t.1, .int .i64 gg4.t.2.1, .bool gg4.t.2.2, .int .i64 gg4.pd, .int .i64 gg4.x.1, .int .i64 gg4.x.2.1, .bool gg4.x.2.2.1, .int .i64 gg4.x.2.2.2, .bool gg4.hl, .slice A14 ((gg4.seen ++ [5]).length) c14], vr b1 [.slice A4_0 gg4.prog.length c4_0, .int .i64 gg4.a, .int .i64 gg4.pc, .slice A4_1 gg4.wr.length c4_1, .slice A4_2 gg4.lv.length c4_2, .int .i64 gg4.t.1, .int .i64 gg4.t.2.1, .bool gg4.t.2.2, .int .i64 gg4.pd, .int .i64 gg4.x.1, .int .i64 gg4.x.2.1, .bool gg4.x.2.2.1, .int .i64 gg4.x.2.2.2, .bool gg4.hl, .slice A4_3 gg4.seen.length c4_3]] (by rfl) (by rfl) (by kernel_rfl) (by kernel_rfl) (by kernel_rfl) (by rfl) (by kernel_rfl) (by rfl) (by kernel_rfl) (by kernel_rfl) (by kernel_rfl) (fun w S => St.pick S [1, 6] _ rfl (by decide)) ?_)
      refine Sx.GT.nil ?_
      refine Sx.E.next ?_
      refine Sx.C.ret ?_
      refine Sx.E.retg2 (.agg #[.slice A4_0 gg4.prog.length c4_0, .int .i64 gg4.a, .int .i64 gg4.pc, .slice A4_1 gg4.wr.length c4_1, .slice A4_2 gg4.lv.length c4_2, .int .i64 gg4.t.1, .int .i64 gg4.t.2.1, .bool gg4.t.2.2, .int .i64 gg4.pd, .int .i64 gg4.x.1, .int .i64 gg4.x.2.1, .bool gg4.x.2.2.1, .int .i64 gg4.x.2.2.2, .bool gg4.hl, .slice A4_3 gg4.seen.length c4_3]) (.agg #[.slice q6A0 gg4.prog.length q6c0, .int .i64 gg4.a, .int .i64 gg4.pc, .slice q6A1 gg4.wr.length q6c1, .slice q6A2 gg4.lv.length q6c2, .int .i64 gg4.t.1, .int .i64 gg4.t.2.1, .bool gg4.t.2.2, .int .i64 gg4.pd, .int .i64 gg4.x.1, .int .i64 gg4.x.2.1, .bool gg4.x.2.2.1, .int .i64 gg4.x.2.2.2, .bool gg4.hl, .slice A14 ((gg4.seen ++ [5]).length) c14]) rfl (Sx.IsRes.row b1 13 [.slice A4_0 gg4.prog.length c4_0, .int .i64 gg4.a, .int .i64 gg4.pc, .slice A4_1 gg4.wr.length c4_1, .slice A4_2 gg4.lv.length c4_2, .int .i64 gg4.t.1, .int .i64 gg4.t.2.1, .bool gg4.t.2.2, .int .i64 gg4.pd, .int .i64 gg4.x.1, .int .i64 gg4.x.2.1, .bool gg4.x.2.2.1, .int .i64 gg4.x.2.2.2, .bool gg4.hl, .slice A4_3 gg4.seen.length c4_3] (by kernel_rfl) rfl (by kernel_rfl) (by kernel_rfl)) (Sx.IsRes.row b2 12 [.slice q6A0 gg4.prog.length q6c0, .int .i64 gg4.a, .int .i64 gg4.pc, .slice q6A1 gg4.wr.length q6c1, .slice q6A2 gg4.lv.length q6c2, .int .i64 gg4.t.1, .int .i64 gg4.t.2.1, .bool gg4.t.2.2, .int .i64 gg4.pd, .int .i64 gg4.x.1, .int .i64 gg4.x.2.1, .bool gg4.x.2.2.1, .int .i64 gg4.x.2.2.2, .bool gg4.hl, .slice A14 ((gg4.seen ++ [5]).length) c14] (by kernel_rfl) rfl (by kernel_rfl) (by kernel_rfl)) (fun w S => ?_)
      exact ⟨gg4, _, { gg4 with seen := gg4.seen ++ [5] }, _, rfl, ⟨hwf4, ⟨hsm4.1, hsm4.2.1, hsm4.2.2.1, by have := hsm4.2.2.2; show gg4.seen.length ≤ 46; omega⟩, (rG_rd_mk (g := gg4) (Sx.St.rpIn S 7 rfl) (Sx.St.rpIn S 8 rfl) (Sx.St.rpIn S 9 rfl) (Sx.St.owIn (r := rLst 3 rInt) S 10 rfl))⟩, ⟨⟨hwf4.1, hwf4.2.1, hwf4.2.2.1, hwf4.2.2.2.1, hwf4.2.2.2.2.1, hwf4.2.2.2.2.2.1, hwf4.2.2.2.2.2.2.1, hwf4.2.2.2.2.2.2.2.1, trivial, ⟨by have := hsm4.2.2.2; simp [maxLen]; omega, fun z hz => by rcases List.mem_append.1 hz with h | h; exact hwf4.2.2.2.2.2.2.2.2.2.2 z h; rw [List.mem_singleton.1 h]; decide⟩⟩, ⟨hsm4.1, hsm4.2.1, hsm4.2.2.1, by have := hsm4.2.2.2; simp; omega⟩, (rG_rd_mk (g := { gg4 with seen := gg4.seen ++ [5] }) (Sx.St.owIn (r := rLst 54 (rPair rInt rInt)) S 2 rfl) (Sx.St.owIn S 3 rfl) (Sx.St.owIn S 4 rfl) (Sx.St.owIn (r := rLst 3 rInt) S 5 rfl))⟩, S.below⟩
  · have hb9 := hc9
    refine Sx.C.yes (by kernel_rfl) (by kernel_rfl) ?_
    refine Sx.C.region ?_
    refine Sx.G.pure (.pointer (some ⟨b7, 1, none⟩)) (by kernel_rfl) (fun w => by kernel_rfl) ?_
    refine Sx.G.ld1 3 (.tmp 17) b7 1 0 [.slice q6A0 gg4.prog.length q6c0, .int .i64 gg4.a, .int .i64 gg4.pc, .slice q6A1 gg4.wr.length q6c1, .slice q6A2 gg4.lv.length q6c2, .int .i64 gg4.t.1, .int .i64 gg4.t.2.1, .bool gg4.t.2.2, .int .i64 gg4.pd, .int .i64 gg4.x.1, .int .i64 gg4.x.2.1, .bool gg4.x.2.2.1, .int .i64 gg4.x.2.2.2, .bool gg4.hl, .slice q6A3 gg4.seen.length q6c3] (.int .i64 gg4.a) rfl (by kernel_rfl) (by kernel_rfl) rfl (by kernel_rfl) (by kernel_rfl) ?_
    refine Sx.G.pure (.int .i64 (IntKind.i64.wrap (gg4.a + 1))) (by kernel_rfl) (fun w => by kernel_rfl) ?_
    refine Sx.G.pure (.pointer (some ⟨b7, 1, none⟩)) (by kernel_rfl) (fun w => by kernel_rfl) ?_
    refine Sx.G.sto 3 (.tmp 20) (.tmp 19) b7 1 0 [.slice q6A0 gg4.prog.length q6c0, .int .i64 gg4.a, .int .i64 gg4.pc, .slice q6A1 gg4.wr.length q6c1, .slice q6A2 gg4.lv.length q6c2, .int .i64 gg4.t.1, .int .i64 gg4.t.2.1, .bool gg4.t.2.2, .int .i64 gg4.pd, .int .i64 gg4.x.1, .int .i64 gg4.x.2.1, .bool gg4.x.2.2.1, .int .i64 gg4.x.2.2.2, .bool gg4.hl, .slice q6A3 gg4.seen.length q6c3] [.int .i64 (IntKind.i64.wrap (gg4.a + 1))] [.slice q6A0 gg4.prog.length q6c0, .int .i64 (IntKind.i64.wrap (gg4.a + 1)), .int .i64 gg4.pc, .slice q6A1 gg4.wr.length q6c1, .slice q6A2 gg4.lv.length q6c2, .int .i64 gg4.t.1, .int .i64 gg4.t.2.1, .bool gg4.t.2.2, .int .i64 gg4.pd, .int .i64 gg4.x.1, .int .i64 gg4.x.2.1, .bool gg4.x.2.2.1, .int .i64 gg4.x.2.2.2, .bool gg4.hl, .slice q6A3 gg4.seen.length q6c3] [vr b7 [.slice q6A0 gg4.prog.length q6c0, .int .i64 (IntKind.i64.wrap (gg4.a + 1)), .int .i64 gg4.pc, .slice q6A1 gg4.wr.length q6c1, .slice q6A2 gg4.lv.length q6c2, .int .i64 gg4.t.1, .int .i64 gg4.t.2.1, .bool gg4.t.2.2, .int .i64 gg4.pd, .int .i64 gg4.x.1, .int .i64 gg4.x.2.1, .bool gg4.x.2.2.1, .int .i64 gg4.x.2.2.2, .bool gg4.hl, .slice q6A3 gg4.seen.length q6c3], ow (rLst 54 (rPair rInt rInt)) w6.heap.size (w6'.heap.size) gg4.prog [.slice q6A0 gg4.prog.length q6c0] G6_0, ow (rLsw (rPair rInt rInt)) w6.heap.size w6'.heap.size gg4.wr [.slice q6A1 gg4.wr.length q6c1] G6_1, ow (rLsw (rPair rInt rInt)) w6.heap.size w6'.heap.size gg4.lv [.slice q6A2 gg4.lv.length q6c2] G6_2, ow (rLst 3 rInt) w6.heap.size (w6'.heap.size) gg4.seen [.slice q6A3 gg4.seen.length q6c3] G6_3, vr b5 [.slice A4_0 gg4.prog.length c4_0, .int .i64 gg4.a, .int .i64 gg4.pc, .slice A4_1 gg4.wr.length c4_1, .slice A4_2 gg4.lv.length c4_2, .int .i64 gg4.t.1, .int .i64 gg4.t.2.1, .bool gg4.t.2.2, .int .i64 gg4.pd, .int .i64 gg4.x.1, .int .i64 gg4.x.2.1, .bool gg4.x.2.2.1, .int .i64 gg4.x.2.2.2, .bool gg4.hl, .slice A4_3 gg4.seen.length c4_3], Sx.rp l4_0 k4_0 gg4.prog A4_0 c4_0, Sx.rp l4_1 k4_1 gg4.wr A4_1 c4_1, Sx.rp l4_2 k4_2 gg4.lv A4_2 c4_2, ow (rLst 3 rInt) l4_3 k4_3 gg4.seen [.slice A4_3 gg4.seen.length c4_3] F4, Sx.cu A n c g, vr b2 [.slice none 0 0, .int .i64 0, .int .i64 0, .slice none 0 0, .slice none 0 0, .int .i64 0, .int .i64 0, .bool false, .int .i64 0, .int .i64 0, .int .i64 0, .bool false, .int .i64 0, .bool false, .slice none 0 0], vr b1 [.slice none 0 0, .int .i64 0, .int .i64 0, .slice none 0 0, .slice none 0 0, .int .i64 0, .int .i64 0, .bool false, .int .i64 0, .int .i64 0, .int .i64 0, .bool false, .int .i64 0, .bool false, .slice none 0 0]] rfl (by kernel_rfl) (by kernel_rfl) (by kernel_rfl) rfl (by kernel_rfl) rfl (by kernel_rfl) (by kernel_rfl) (by kernel_rfl) ?_
    refine Sx.G.nil ?_
    refine Sx.E.block_normal ?_
    refine Sx.E.next ?_
    refine Sx.C.seq ?_
    refine Sx.C.draw (.take 0 (.take 1 (.alone 2 (.alone 3 .nil)))) [vr b7 [.slice q6A0 gg4.prog.length q6c0, .int .i64 (IntKind.i64.wrap (gg4.a + 1)), .int .i64 gg4.pc, .slice q6A1 gg4.wr.length q6c1, .slice q6A2 gg4.lv.length q6c2, .int .i64 gg4.t.1, .int .i64 gg4.t.2.1, .bool gg4.t.2.2, .int .i64 gg4.pd, .int .i64 gg4.x.1, .int .i64 gg4.x.2.1, .bool gg4.x.2.2.1, .int .i64 gg4.x.2.2.2, .bool gg4.hl, .slice q6A3 gg4.seen.length q6c3], vr b5 [.slice A4_0 gg4.prog.length c4_0, .int .i64 gg4.a, .int .i64 gg4.pc, .slice A4_1 gg4.wr.length c4_1, .slice A4_2 gg4.lv.length c4_2, .int .i64 gg4.t.1, .int .i64 gg4.t.2.1, .bool gg4.t.2.2, .int .i64 gg4.pd, .int .i64 gg4.x.1, .int .i64 gg4.x.2.1, .bool gg4.x.2.2.1, .int .i64 gg4.x.2.2.2, .bool gg4.hl, .slice A4_3 gg4.seen.length c4_3]] (fun w S => St.pick S [0, 5] _ rfl (by decide)) (by kernel_rfl) (by kernel_rfl) (by kernel_rfl) ?_
    refine Sx.GT.ld 33 (.tmp 5) b5 0 1 [.slice A4_0 gg4.prog.length c4_0, .int .i64 gg4.a, .int .i64 gg4.pc, .slice A4_1 gg4.wr.length c4_1, .slice A4_2 gg4.lv.length c4_2, .int .i64 gg4.t.1, .int .i64 gg4.t.2.1, .bool gg4.t.2.2, .int .i64 gg4.pd, .int .i64 gg4.x.1, .int .i64 gg4.x.2.1, .bool gg4.x.2.2.1, .int .i64 gg4.x.2.2.2, .bool gg4.hl, .slice A4_3 gg4.seen.length c4_3] [.slice A4_0 gg4.prog.length c4_0, .int .i64 gg4.a, .int .i64 gg4.pc, .slice A4_1 gg4.wr.length c4_1, .slice A4_2 gg4.lv.length c4_2, .int .i64 gg4.t.1, .int .i64 gg4.t.2.1, .bool gg4.t.2.2, .int .i64 gg4.pd, .int .i64 gg4.x.1, .int .i64 gg4.x.2.1, .bool gg4.x.2.2.1, .int .i64 gg4.x.2.2.2, .bool gg4.hl, .slice A4_3 gg4.seen.length c4_3] 0 (by rfl) (by rfl) (by kernel_rfl) (by kernel_rfl) (by rfl) (by kernel_rfl) (by kernel_rfl) (by kernel_rfl) ?_
    refine Sx.GT.ld 33 (.tmp 6) b7 0 0 [.slice q6A0 gg4.prog.length q6c0, .int .i64 (IntKind.i64.wrap (gg4.a + 1)), .int .i64 gg4.pc, .slice q6A1 gg4.wr.length q6c1, .slice q6A2 gg4.lv.length q6c2, .int .i64 gg4.t.1, .int .i64 gg4.t.2.1, .bool gg4.t.2.2, .int .i64 gg4.pd, .int .i64 gg4.x.1, .int .i64 gg4.x.2.1, .bool gg4.x.2.2.1, .int .i64 gg4.x.2.2.2, .bool gg4.hl, .slice q6A3 gg4.seen.length q6c3] [.slice q6A0 gg4.prog.length q6c0, .int .i64 (IntKind.i64.wrap (gg4.a + 1)), .int .i64 gg4.pc, .slice q6A1 gg4.wr.length q6c1, .slice q6A2 gg4.lv.length q6c2, .int .i64 gg4.t.1, .int .i64 gg4.t.2.1, .bool gg4.t.2.2, .int .i64 gg4.pd, .int .i64 gg4.x.1, .int .i64 gg4.x.2.1, .bool gg4.x.2.2.1, .int .i64 gg4.x.2.2.2, .bool gg4.hl, .slice q6A3 gg4.seen.length q6c3] 1 (by rfl) (by rfl) (by kernel_rfl) (by kernel_rfl) (by rfl) (by kernel_rfl) (by kernel_rfl) (by kernel_rfl) ?_
    refine Sx.GT.alone (Sx.Alone.sto 33 (.tmp 2) (.tmp 33) b1 0 12 [.slice none 0 0, .int .i64 0, .int .i64 0, .slice none 0 0, .slice none 0 0, .int .i64 0, .int .i64 0, .bool false, .int .i64 0, .int .i64 0, .int .i64 0, .bool false, .int .i64 0, .bool false, .slice none 0 0] [.slice A4_0 gg4.prog.length c4_0, .int .i64 gg4.a, .int .i64 gg4.pc, .slice A4_1 gg4.wr.length c4_1, .slice A4_2 gg4.lv.length c4_2, .int .i64 gg4.t.1, .int .i64 gg4.t.2.1, .bool gg4.t.2.2, .int .i64 gg4.pd, .int .i64 gg4.x.1, .int .i64 gg4.x.2.1, .bool gg4.x.2.2.1, .int .i64 gg4.x.2.2.2, .bool gg4.hl, .slice A4_3 gg4.seen.length c4_3] [.slice A4_0 gg4.prog.length c4_0, .int .i64 gg4.a, .int .i64 gg4.pc, .slice A4_1 gg4.wr.length c4_1, .slice A4_2 gg4.lv.length c4_2, .int .i64 gg4.t.1, .int .i64 gg4.t.2.1, .bool gg4.t.2.2, .int .i64 gg4.pd, .int .i64 gg4.x.1, .int .i64 gg4.x.2.1, .bool gg4.x.2.2.1, .int .i64 gg4.x.2.2.2, .bool gg4.hl, .slice A4_3 gg4.seen.length c4_3] [vr b7 [.slice q6A0 gg4.prog.length q6c0, .int .i64 (IntKind.i64.wrap (gg4.a + 1)), .int .i64 gg4.pc, .slice q6A1 gg4.wr.length q6c1, .slice q6A2 gg4.lv.length q6c2, .int .i64 gg4.t.1, .int .i64 gg4.t.2.1, .bool gg4.t.2.2, .int .i64 gg4.pd, .int .i64 gg4.x.1, .int .i64 gg4.x.2.1, .bool gg4.x.2.2.1, .int .i64 gg4.x.2.2.2, .bool gg4.hl, .slice q6A3 gg4.seen.length q6c3], ow (rLst 54 (rPair rInt rInt)) w6.heap.size (w6'.heap.size) gg4.prog [.slice q6A0 gg4.prog.length q6c0] G6_0, ow (rLsw (rPair rInt rInt)) w6.heap.size w6'.heap.size gg4.wr [.slice q6A1 gg4.wr.length q6c1] G6_1, ow (rLsw (rPair rInt rInt)) w6.heap.size w6'.heap.size gg4.lv [.slice q6A2 gg4.lv.length q6c2] G6_2, ow (rLst 3 rInt) w6.heap.size (w6'.heap.size) gg4.seen [.slice q6A3 gg4.seen.length q6c3] G6_3, vr b5 [.slice A4_0 gg4.prog.length c4_0, .int .i64 gg4.a, .int .i64 gg4.pc, .slice A4_1 gg4.wr.length c4_1, .slice A4_2 gg4.lv.length c4_2, .int .i64 gg4.t.1, .int .i64 gg4.t.2.1, .bool gg4.t.2.2, .int .i64 gg4.pd, .int .i64 gg4.x.1, .int .i64 gg4.x.2.1, .bool gg4.x.2.2.1, .int .i64 gg4.x.2.2.2, .bool gg4.hl, .slice A4_3 gg4.seen.length c4_3], Sx.rp l4_0 k4_0 gg4.prog A4_0 c4_0, Sx.rp l4_1 k4_1 gg4.wr A4_1 c4_1, Sx.rp l4_2 k4_2 gg4.lv A4_2 c4_2, ow (rLst 3 rInt) l4_3 k4_3 gg4.seen [.slice A4_3 gg4.seen.length c4_3] F4, Sx.cu A n c g, vr b2 [.slice none 0 0, .int .i64 0, .int .i64 0, .slice none 0 0, .slice none 0 0, .int .i64 0, .int .i64 0, .bool false, .int .i64 0, .int .i64 0, .int .i64 0, .bool false, .int .i64 0, .bool false, .slice none 0 0], vr b1 [.slice A4_0 gg4.prog.length c4_0, .int .i64 gg4.a, .int .i64 gg4.pc, .slice A4_1 gg4.wr.length c4_1, .slice A4_2 gg4.lv.length c4_2, .int .i64 gg4.t.1, .int .i64 gg4.t.2.1, .bool gg4.t.2.2, .int .i64 gg4.pd, .int .i64 gg4.x.1, .int .i64 gg4.x.2.1, .bool gg4.x.2.2.1, .int .i64 gg4.x.2.2.2, .bool gg4.hl, .slice A4_3 gg4.seen.length c4_3]] (by rfl) (by rfl) (by kernel_rfl) (by kernel_rfl) (by kernel_rfl) (by rfl) (by kernel_rfl) (by rfl) (by kernel_rfl) (by kernel_rfl) (by kernel_rfl) (fun w S => St.pick S [0, 5] _ rfl (by decide)) ?_)
    refine Sx.GT.alone (Sx.Alone.sto 33 (.tmp 3) (.tmp 34) b2 0 11 [.slice none 0 0, .int .i64 0, .int .i64 0, .slice none 0 0, .slice none 0 0, .int .i64 0, .int .i64 0, .bool false, .int .i64 0, .int .i64 0, .int .i64 0, .bool false, .int .i64 0, .bool false, .slice none 0 0] [.slice q6A0 gg4.prog.length q6c0, .int .i64 (IntKind.i64.wrap (gg4.a + 1)), .int .i64 gg4.pc, .slice q6A1 gg4.wr.length q6c1, .slice q6A2 gg4.lv.length q6c2, .int .i64 gg4.t.1, .int .i64 gg4.t.2.1, .bool gg4.t.2.2, .int .i64 gg4.pd, .int .i64 gg4.x.1, .int .i64 gg4.x.2.1, .bool gg4.x.2.2.1, .int .i64 gg4.x.2.2.2, .bool gg4.hl, .slice q6A3 gg4.seen.length q6c3] [.slice q6A0 gg4.prog.length q6c0, .int .i64 (IntKind.i64.wrap (gg4.a + 1)), .int .i64 gg4.pc, .slice q6A1 gg4.wr.length q6c1, .slice q6A2 gg4.lv.length q6c2, .int .i64 gg4.t.1, .int .i64 gg4.t.2.1, .bool gg4.t.2.2, .int .i64 gg4.pd, .int .i64 gg4.x.1, .int .i64 gg4.x.2.1, .bool gg4.x.2.2.1, .int .i64 gg4.x.2.2.2, .bool gg4.hl, .slice q6A3 gg4.seen.length q6c3] [vr b7 [.slice q6A0 gg4.prog.length q6c0, .int .i64 (IntKind.i64.wrap (gg4.a + 1)), .int .i64 gg4.pc, .slice q6A1 gg4.wr.length q6c1, .slice q6A2 gg4.lv.length q6c2, .int .i64 gg4.t.1, .int .i64 gg4.t.2.1, .bool gg4.t.2.2, .int .i64 gg4.pd, .int .i64 gg4.x.1, .int .i64 gg4.x.2.1, .bool gg4.x.2.2.1, .int .i64 gg4.x.2.2.2, .bool gg4.hl, .slice q6A3 gg4.seen.length q6c3], ow (rLst 54 (rPair rInt rInt)) w6.heap.size (w6'.heap.size) gg4.prog [.slice q6A0 gg4.prog.length q6c0] G6_0, ow (rLsw (rPair rInt rInt)) w6.heap.size w6'.heap.size gg4.wr [.slice q6A1 gg4.wr.length q6c1] G6_1, ow (rLsw (rPair rInt rInt)) w6.heap.size w6'.heap.size gg4.lv [.slice q6A2 gg4.lv.length q6c2] G6_2, ow (rLst 3 rInt) w6.heap.size (w6'.heap.size) gg4.seen [.slice q6A3 gg4.seen.length q6c3] G6_3, vr b5 [.slice A4_0 gg4.prog.length c4_0, .int .i64 gg4.a, .int .i64 gg4.pc, .slice A4_1 gg4.wr.length c4_1, .slice A4_2 gg4.lv.length c4_2, .int .i64 gg4.t.1, .int .i64 gg4.t.2.1, .bool gg4.t.2.2, .int .i64 gg4.pd, .int .i64 gg4.x.1, .int .i64 gg4.x.2.1, .bool gg4.x.2.2.1, .int .i64 gg4.x.2.2.2, .bool gg4.hl, .slice A4_3 gg4.seen.length c4_3], Sx.rp l4_0 k4_0 gg4.prog A4_0 c4_0, Sx.rp l4_1 k4_1 gg4.wr A4_1 c4_1, Sx.rp l4_2 k4_2 gg4.lv A4_2 c4_2, ow (rLst 3 rInt) l4_3 k4_3 gg4.seen [.slice A4_3 gg4.seen.length c4_3] F4, Sx.cu A n c g, vr b2 [.slice q6A0 gg4.prog.length q6c0, .int .i64 (IntKind.i64.wrap (gg4.a + 1)), .int .i64 gg4.pc, .slice q6A1 gg4.wr.length q6c1, .slice q6A2 gg4.lv.length q6c2, .int .i64 gg4.t.1, .int .i64 gg4.t.2.1, .bool gg4.t.2.2, .int .i64 gg4.pd, .int .i64 gg4.x.1, .int .i64 gg4.x.2.1, .bool gg4.x.2.2.1, .int .i64 gg4.x.2.2.2, .bool gg4.hl, .slice q6A3 gg4.seen.length q6c3], vr b1 [.slice A4_0 gg4.prog.length c4_0, .int .i64 gg4.a, .int .i64 gg4.pc, .slice A4_1 gg4.wr.length c4_1, .slice A4_2 gg4.lv.length c4_2, .int .i64 gg4.t.1, .int .i64 gg4.t.2.1, .bool gg4.t.2.2, .int .i64 gg4.pd, .int .i64 gg4.x.1, .int .i64 gg4.x.2.1, .bool gg4.x.2.2.1, .int .i64 gg4.x.2.2.2, .bool gg4.hl, .slice A4_3 gg4.seen.length c4_3]] (by rfl) (by rfl) (by kernel_rfl) (by kernel_rfl) (by kernel_rfl) (by rfl) (by kernel_rfl) (by rfl) (by kernel_rfl) (by kernel_rfl) (by kernel_rfl) (fun w S => St.pick S [0, 5] _ rfl (by decide)) ?_)
    refine Sx.GT.nil ?_
    refine Sx.E.next ?_
    refine Sx.C.ret ?_
    refine Sx.E.retg2 (.agg #[.slice A4_0 gg4.prog.length c4_0, .int .i64 gg4.a, .int .i64 gg4.pc, .slice A4_1 gg4.wr.length c4_1, .slice A4_2 gg4.lv.length c4_2, .int .i64 gg4.t.1, .int .i64 gg4.t.2.1, .bool gg4.t.2.2, .int .i64 gg4.pd, .int .i64 gg4.x.1, .int .i64 gg4.x.2.1, .bool gg4.x.2.2.1, .int .i64 gg4.x.2.2.2, .bool gg4.hl, .slice A4_3 gg4.seen.length c4_3]) (.agg #[.slice q6A0 gg4.prog.length q6c0, .int .i64 (IntKind.i64.wrap (gg4.a + 1)), .int .i64 gg4.pc, .slice q6A1 gg4.wr.length q6c1, .slice q6A2 gg4.lv.length q6c2, .int .i64 gg4.t.1, .int .i64 gg4.t.2.1, .bool gg4.t.2.2, .int .i64 gg4.pd, .int .i64 gg4.x.1, .int .i64 gg4.x.2.1, .bool gg4.x.2.2.1, .int .i64 gg4.x.2.2.2, .bool gg4.hl, .slice q6A3 gg4.seen.length q6c3]) rfl (Sx.IsRes.row b1 12 [.slice A4_0 gg4.prog.length c4_0, .int .i64 gg4.a, .int .i64 gg4.pc, .slice A4_1 gg4.wr.length c4_1, .slice A4_2 gg4.lv.length c4_2, .int .i64 gg4.t.1, .int .i64 gg4.t.2.1, .bool gg4.t.2.2, .int .i64 gg4.pd, .int .i64 gg4.x.1, .int .i64 gg4.x.2.1, .bool gg4.x.2.2.1, .int .i64 gg4.x.2.2.2, .bool gg4.hl, .slice A4_3 gg4.seen.length c4_3] (by kernel_rfl) rfl (by kernel_rfl) (by kernel_rfl)) (Sx.IsRes.row b2 11 [.slice q6A0 gg4.prog.length q6c0, .int .i64 (IntKind.i64.wrap (gg4.a + 1)), .int .i64 gg4.pc, .slice q6A1 gg4.wr.length q6c1, .slice q6A2 gg4.lv.length q6c2, .int .i64 gg4.t.1, .int .i64 gg4.t.2.1, .bool gg4.t.2.2, .int .i64 gg4.pd, .int .i64 gg4.x.1, .int .i64 gg4.x.2.1, .bool gg4.x.2.2.1, .int .i64 gg4.x.2.2.2, .bool gg4.hl, .slice q6A3 gg4.seen.length q6c3] (by kernel_rfl) rfl (by kernel_rfl) (by kernel_rfl)) (fun w S => ?_)
    exact ⟨gg4, _, { gg4 with a := (IntKind.i64.wrap (gg4.a + 1)) }, _, rfl, ⟨hwf4, ⟨hsm4.1, hsm4.2.1, hsm4.2.2.1, by have := hsm4.2.2.2; show gg4.seen.length ≤ 46; omega⟩, (rG_rd_mk (g := gg4) (Sx.St.rpIn S 6 rfl) (Sx.St.rpIn S 7 rfl) (Sx.St.rpIn S 8 rfl) (Sx.St.owIn (r := rLst 3 rInt) S 9 rfl))⟩, ⟨⟨hwf4.1, (show (Lit.int .i64 ((IntKind.i64.wrap (gg4.a + 1)))).wf = true from wf_wrap _ _), hwf4.2.2.1, hwf4.2.2.2.1, hwf4.2.2.2.2.1, hwf4.2.2.2.2.2.1, hwf4.2.2.2.2.2.2.1, hwf4.2.2.2.2.2.2.2.1, trivial, hwf4.2.2.2.2.2.2.2.2.2⟩, ⟨hsm4.1, hsm4.2.1, hsm4.2.2.1, by have := hsm4.2.2.2; show gg4.seen.length ≤ 46; omega⟩, (rG_rd_mk (g := { gg4 with a := (IntKind.i64.wrap (gg4.a + 1)) }) (Sx.St.owIn (r := rLst 54 (rPair rInt rInt)) S 1 rfl) (Sx.St.owIn S 2 rfl) (Sx.St.owIn S 3 rfl) (Sx.St.owIn (r := rLst 3 rInt) S 4 rfl))⟩, S.below⟩
end Go.Proofs.YteopkcndkcciaaaGreat.Guests
namespace Go.Proofs.YteopkcndkcciaaaGreat.Irqs
set_option maxRecDepth 100000
open Go.ChangeShapes Go.WideShapes Go.ChangeAt Go.RowKit
open Go.Proofs.YteopkcndkcciaaaGreat.Base Go.Proofs.YteopkcndkcciaaaGreat.Mem
set_option linter.unusedVariables false
set_option linter.unusedSimpArgs false
def takeOk (p : Int) : Bool :=
  let n := topTo p 8
  if n < 0 then p == 0 else let r := p - 2 ^ n.toNat; decide (0 ≤ r) && decide (r ≤ 255) && decide (cntTo r 8 = cntTo p 8 - 1) && decide (topTo r 8 < n) && decide (1 ≤ cntTo p 8)
theorem takeOk_all : ∀ x : Fin 256, takeOk (x.val : Int) = true := by decide +kernel
theorem takeOk_at {p : Int} (h : pend p = true) : takeOk p = true := byte takeOk takeOk_all (pend_iff.1 h).1 (pend_iff.1 h).2
/-- What is left behind the greatest interrupt. -/
theorem take_facts {p : Int} (h : ¬ topI p < 0) : pend (takeI p).1 = true ∧ cntI (takeI p).1 = cntI p - 1 ∧ topI (takeI p).1 < topI p ∧ (takeI p).2 = (topI p, true) := by
  have hp := topI_pend h
  have h1 := takeOk_at hp
  have ht : topI p = topTo p 8 := by unfold topI; rw [if_pos hp]
  unfold takeI
  rw [if_neg h]
  dsimp only
  rw [ht] at h ⊢
  unfold takeOk at h1
  dsimp only at h1
  rw [if_neg h] at h1
  simp only [Bool.and_eq_true, decide_eq_true_eq] at h1
  have hr := pend_iff.2 ⟨h1.1.1.1.1, h1.1.1.1.2⟩
  refine ⟨hr, ?_, ?_, rfl⟩
  · unfold cntI
    rw [if_pos hr, if_pos hp]
    exact h1.1.1.2
  · unfold topI
    rw [if_pos hr]
    exact h1.1.2
theorem cnt_range (p : Int) : 0 ≤ cntI p ∧ cntI p ≤ 8 := by
  unfold cntI
  split
  · rename_i h
    have := cntTo_le h (Nat.le_refl 8)
    omega
  · omega
end Go.Proofs.YteopkcndkcciaaaGreat.Irqs
namespace Go.Proofs.YteopkcndkcciaaaGreat.Guests
set_option maxRecDepth 100000
open Go.ChangeShapes Go.WideShapes Go.ChangeAt Go.RowKit
open Go.Proofs.YteopkcndkcciaaaGreat.Base Go.Proofs.YteopkcndkcciaaaGreat.Mem Go.Proofs.YteopkcndkcciaaaGreat.Data Go.Proofs.YteopkcndkcciaaaGreat.Slots Go.Proofs.YteopkcndkcciaaaGreat.Ints Go.Proofs.YteopkcndkcciaaaGreat.Ctls Go.Proofs.YteopkcndkcciaaaGreat.Exits Go.Proofs.YteopkcndkcciaaaGreat.Stt Go.Proofs.YteopkcndkcciaaaGreat.Irqs Go.Proofs.YteopkcndkcciaaaGreat.Inss
set_option linter.unusedVariables false
set_option linter.unusedSimpArgs false
theorem small_saw {x : gT} {n : Int} (h : x.prog.length ≤ 20 ∧ x.wr.length ≤ 4 ∧ x.lv.length ≤ 4 ∧ x.seen.length ≤ 46) : rG.cap (sawG x n) := gcap_rg (by unfold sawG; split; exact ⟨by show x.prog.length ≤ _; omega, by show x.wr.length ≤ _; omega, by show x.lv.length ≤ _; omega, by simp; omega⟩; exact ⟨by omega, by omega, by omega, by omega⟩)
theorem small_stop {x : gT} {q : QT} (h : x.prog.length ≤ 20 ∧ x.wr.length ≤ 4 ∧ x.lv.length ≤ 4 ∧ x.seen.length ≤ 46) : rG.cap (stopG x q) := gcap_rg ⟨by show x.prog.length ≤ _; omega, by show x.wr.length ≤ _; omega, by show x.lv.length ≤ _; omega, by show x.seen.length ≤ _; omega⟩
theorem small_int {x : gT} (h : x.prog.length ≤ 20 ∧ x.wr.length ≤ 4 ∧ x.lv.length ≤ 4 ∧ x.seen.length ≤ 46) : rG.cap (intG x) := by
  unfold intG
  split
  · exact small_saw (x := { x with pd := (takeI x.pd).1 }) h
  · exact small_cap h
theorem new_cap {l : List (Int × Int)} (h : l.length ≤ 20) : rG.cap (newG l) := gcap_rg ⟨by show l.length ≤ _; omega, by simp [newG, Slots.nosL], by simp [newG, Slots.nosL], by simp [newG]⟩
theorem new_wf {l : List (Int × Int)} (h : l.length ≤ 20) (hw : Inss.wfJL l) : wfGuest (newG l) :=
  ⟨⟨Nat.le_trans h (by decide), hw⟩, (show (Lit.int .i64 0).wf = true by decide), (show (Lit.int .i64 0).wf = true by decide), ⟨(by simp [newG, Slots.nosL]), fun s hs => by have : s = (-1, 0) := (List.mem_replicate.1 hs).2; subst this; decide⟩, ⟨(by simp [newG, Slots.nosL]), fun s hs => by have : s = (-1, 0) := (List.mem_replicate.1 hs).2; subst this; decide⟩,
    ⟨(show (Lit.int .i64 0).wf = true by decide), (show (Lit.int .i64 0).wf = true by decide), trivial⟩, (show (Lit.int .i64 0).wf = true by decide), ⟨(show (Lit.int .i64 0).wf = true by decide), (show (Lit.int .i64 0).wf = true by decide), trivial, (show (Lit.int .i64 0).wf = true by decide)⟩, trivial, ⟨(by simp [newG]), fun s hs => by cases hs⟩⟩
theorem new_ok (l : List (Int × Int)) : guestOk (newG l) = progOk l := by
  have h1 : okTab (Slots.nosL 4) 4 8 = true := by decide +kernel
  have h2 : ctlOk (0, 0, false) = true := by decide +kernel
  have h3 : pend 0 = true := by decide +kernel
  have h4 : exitOk (0, 0, false, 0) = true := by decide +kernel
  have h5 : inB 0 0 99 = true := by decide +kernel
  have h6 : inB 0 0 12 = true := by decide +kernel
  simp [guestOk, newG, h1, h2, h3, h4, h5, h6]
theorem takes_facts {x : gT} (h : takesI x = true) : canRun x = true ∧ x.t.2.2 = true ∧ cntI (intG x).pd = cntI x.pd - 1 := by
  have h' := h
  unfold takesI at h'
  simp only [Bool.and_eq_true, decide_eq_true_eq] at h'
  refine ⟨h'.1.1, h'.1.2, ?_⟩
  have h2 := (take_facts (p := x.pd) (by omega)).2.1
  unfold intG
  rw [if_pos h]
  unfold sawG
  split <;> exact h2
theorem rd_nil (w : World) (lo hi : Nat) : rdLst (rPair rInt rInt) w lo hi [] [.slice none 0 0] := ⟨none, 0, [], rfl, Nat.le_refl _, rfl, Lies.nil⟩
end Go.Proofs.YteopkcndkcciaaaGreat.Guests
namespace Go.Proofs.YteopkcndkcciaaaGreat.Sx
set_option maxRecDepth 100000
open Go.ChangeShapes Go.WideShapes Go.ChangeAt Go.RowKit Go.Deep
open Go.Proofs.YteopkcndkcciaaaGreat.Base Go.Proofs.YteopkcndkcciaaaGreat.Mem Go.Proofs.YteopkcndkcciaaaGreat.Data Go.Proofs.YteopkcndkcciaaaGreat.Stt
set_option linter.unusedVariables false
section
variable {P : Program} {n : Nat} {w0 : World} {T : Tl} {L : List Res} {fn : Func} {R : Ending → World → Prop}
theorem results_none {tmps : Array Value} {w : World} (hr : fn.results = #[]) : (results fn tmps).run P w = .ok (.tuple #[]) w := by
  rw [results_map, hr]; simp
theorem E.ret0 (hr : fn.results = #[]) (h : ∀ w, St w0 w L → R (.returned (.tuple #[])) w) : E n (bodyPost P fn R) w0 T L .ret := fun a w hA S =>
  bodyPost_ret (results_none hr) hA.defers (h w S)
end
section
variable {P : Program} {n : Nat} {Q : Exit → Act → World → Prop} {Z : World → Prop} {w0 : World} {T : Tl} {L : List Res} {l : List Oper} {o : Oper} {r : Ord.Ot}
theorem Alone.box {i : Nat} (t : TypeId) (x : Operand) (vs : List Value) (ho : l[i]? = some o) (hop : o.op = .box t x) (hc : chk n T l.toArray o = true) (hx : (ev T x).cells = vs.toArray) (hZ : ∀ w, St w0 w L → Z w)
    (k : ∀ b, GT P n l.toArray Q Z w0 (up o.dst (.pointer (some ⟨b, 0, none⟩)) T) (vr b vs :: L) r) : Alone P n l.toArray Q Z w0 T L i r :=
  Alone.turns ho hc fun w S => ⟨_, _, _, by
    unfold execOp
    simp only [hop, Sem.run_bind, Instr.box, newVar, newRow, run_newObj_alloc, Sem.run_pure, Result.andThen_ok, hx], S.alloc vs t, fun w S => hZ w (St.tail S), k _⟩
end
theorem lies_nothing {w : World} {lo hi : Nat} {cs : List Value} (h : Lies w lo hi none cs) : cs = [] := by
  rcases cs with _ | ⟨u, r⟩
  · rfl
  · obtain ⟨b, off, e, _⟩ := h 0 u rfl
    cases e
theorem p2_nothing {w : World} {lo hi n c : Nat} {l : List (Int × Int)} (h : rdLst (rPair rInt rInt) w lo hi l [.slice none n c]) : l = [] := by
  have := lies_nothing (p2_lies h)
  cases l with
  | nil => rfl
  | cons s l => simp [pcells] at this
theorem i1_nothing {w : World} {lo hi n c : Nat} {l : List Int} (h : rdLst rInt w lo hi l [.slice none n c]) : l = [] := by
  have := lies_nothing (i1_lies h)
  cases l with
  | nil => rfl
  | cons s l => simp [icells] at this
end Go.Proofs.YteopkcndkcciaaaGreat.Sx
namespace Go.Proofs.YteopkcndkcciaaaGreat.Irqs
set_option maxRecDepth 100000
open Go.ChangeShapes Go.WideShapes Go.ChangeAt Go.RowKit
open Go.Proofs.YteopkcndkcciaaaGreat.Base Go.Proofs.YteopkcndkcciaaaGreat.Mem
set_option linter.unusedVariables false
set_option linter.unusedSimpArgs false
attribute [local go_sem] Oper.semAt_some
/-- The interrupts of p below k, the greatest first. -/
def descI (p : Int) : Nat → List Int
  | 0 => []
  | k + 1 => if bitN p k = 1 then (k : Int) :: descI p k else descI p k
def listI (p : Int) : List Int := if pend p = true then descI p 8 else []
theorem descI_top (p : Int) : ∀ k : Nat, topTo p k = (descI p k).headD (-1)
  | 0 => rfl
  | k + 1 => by
    have h := descI_top p k
    unfold descI topTo
    split
    · rfl
    · exact h
theorem listI_top (p : Int) : topI p = (listI p).headD (-1) := by
  unfold topI listI
  split
  · exact descI_top p 8
  · rfl
section
variable (p n : Int) (w : World)
theorem impl_postOk' : Calls Tryz.prog 101 #[.int .i64 n] w fun e w' => e = .returned (.bool (pend n)) ∧ w = w' := by
  have hv : pend n = (decide (n ≥ 0) && decide (n ≤ 255)) := rfl
  cases h1 : decide (n ≥ 0)
  all_goals
    cases h2 : decide (n ≤ 255)
    all_goals
      rw [h1, h2] at hv
      simp only [Bool.and_false, Bool.and_true] at hv
      rw [hv]; clear hv
      go_enter Tryz.func101, Tryz.ntmps101
      go_wp2
      go_ret
      exact ⟨rfl, rfl⟩
theorem impl_pend' : Calls Tryz.prog 85 #[.int .i64 p] w fun e w' => e = .returned (.bool (pend p)) ∧ w = w' := by
  have K := Lib.hid (fun V : World => impl_postOk' p V)
  generalize pend p = x at K ⊢
  go_enter Tryz.func85, Tryz.ntmps85
  go_wp2_with fail
  refine (K.out _).mono ?_
  rintro e w' ⟨rfl, rfl⟩
  go_wp2_with fail
  go_ret
  exact ⟨rfl, rfl⟩
theorem impl_pend (wp : (Lit.int .i64 p).wf = true) : Calls Tryz.prog 85 #[.int .i64 p] w fun e w' => e = .returned (.bool (pend p)) ∧ Below w.heap.size w w' :=
  (impl_pend' p w).mono fun e w' h => ⟨h.1, h.2 ▸ Below.refl _ _⟩
end
/-- What a round keeps: the cell in which p lies. -/
def KpI (Bn : Nat) (A B : World) : Prop := B.cell? ⟨Bn, 0, none⟩ = A.cell? ⟨Bn, 0, none⟩
set_option maxRecDepth 100000 in
set_option maxHeartbeats 2000000 in
/-- The iterator, over whatever the rounds do. -/
theorem irqs_in (n l Bn : Nat) (p : Int) (J Jx : List Int → World → Prop)
    (hY : ∀ pre x W, J pre W → pre.length < (listI p).length → YieldAt Fence.wide (n - 1) Tryz.prog l #[.int .i64 x] W fun e W' =>
      (e = .returned (.bool true) ∧ J (pre ++ [x]) W' ∧ KpI Bn W W') ∨ (e = .returned (.bool false) ∧ Jx (pre ++ [x]) W'))
    (W : World) (hBn : W.cell? ⟨Bn, 0, none⟩ = some (.int .i64 p)) (h0 : J [] W) :
    CallsIn Fence.wide n Tryz.prog 110 #[.func (.yield l) #[] #[], .pointer (some ⟨Bn, 0, none⟩)] W fun e W' => (∃ v, e = .returned v) ∧
      ((∃ ys, ys = listI p ∧ J ys W') ∨ (∃ pre, pre <+: listI p ∧ Jx pre W')) := by
  have K := Lib.hid (fun V : World => impl_pend' p V)
  have hv : listI p = if pend p = true then descI p 8 else [] := rfl
  have hp : pend p = true → 0 ≤ p ∧ p ≤ 255 := pend_iff.1
  generalize listI p = L at hY hv ⊢
  generalize pend p = x at K hv hp
  cases x
  · rw [if_neg (Bool.false_ne_true)] at hv
    subst hv
    refine callsIn_of_wp Tryz.func110 rfl trivial ?_ rfl
    simp only [Tryz.ntmps110, List.size_toArray, List.length_cons, List.length_nil, Nat.reduceAdd, Nat.reduceSub, Array.replicate_succ, Array.replicate_zero, List.push_toArray, List.append_toArray, List.nil_append, List.cons_append]
    gi_wp2_with (refine ⟨trivial, fun h => (by cases h), ?_⟩; gi_at_call 85; refine (callsIn_wide.2 (K.out _)).mono ?_; rintro e w' ⟨rfl, rfl⟩)
    refine bodyPost_ret (results_none rfl _ _ _) rfl ?_
    exact ⟨⟨_, rfl⟩, .inl ⟨[], rfl, h0⟩⟩
  · rw [if_pos rfl] at hv
    obtain ⟨p0, p1⟩ := hp rfl
    clear hp
    have hv' := Lib.hid hv
    clear hv
    refine callsIn_of_wp Tryz.func110 rfl trivial ?_ rfl
    simp only [Tryz.ntmps110, List.size_toArray, List.length_cons, List.length_nil, Nat.reduceAdd, Nat.reduceSub, Array.replicate_succ, Array.replicate_zero, List.push_toArray, List.append_toArray, List.nil_append, List.cons_append]
    gi_wp2_with (refine ⟨trivial, fun h => (by cases h), ?_⟩; gi_at_call 85; refine (callsIn_wide.2 (K.out _)).mono ?_; rintro e w' ⟨rfl, rfl⟩)
    gi_loopw [3] (fun i wr => ∃ (k : Nat) (pre : List Int), k ≤ 8 ∧ i = .int .i64 ((k : Int) - 1) ∧ L = pre ++ descI p k ∧ wr.cell? ⟨Bn, 0, none⟩ = some (.int .i64 p) ∧ J pre wr)
      (fun i wr => (intOf i + 1).toNat)
    case atStart => exact ⟨8, [], by omega, rfl, hv'.out, hBn, h0⟩
    case round =>
      obtain ⟨k, pre, hk, rfl, hL, hc, hJ⟩ := hrel
      rcases k with _ | k
      · have HL := Lib.hid hL
        clear hL
        gi_wp2
        go_end0
        exact ⟨⟨_, rfl⟩, .inl ⟨pre, by rw [HL.out]; simp [descI], hJ⟩⟩
      · have hL' : L = pre ++ (if bitN p k = 1 then (k : Int) :: descI p k else descI p k) := hL
        rw [show ((k + 1 : Nat) : Int) - 1 = (k : Int) by omega]
        have hk0 : (k : Int) ≥ 0 := by omega
        clear hL
        by_cases hb : bitN p k = 1
        · rw [if_pos hb] at hL'
          obtain ⟨fn, tmps, assign, body, hy, hR⟩ := hY pre (k : Int) wr hJ (by rw [hL']; simp)
          have HL := Lib.hid hL'
          unfold bitN at hb
          clear hL'
          gi_wp2
          refine ⟨fun h => (by cases h), ?_⟩
          refine hR.mono ?_
          rintro e W3 (⟨rfl, hJ3, hk3⟩ | ⟨rfl, hJx3⟩)
          · skip
            gi_wp2
            go_roundw
            case rel => exact ⟨k, pre ++ [(k : Int)], by omega, by go_num, by rw [HL.out]; simp, hk3.trans hc, hJ3⟩
            case measure => simp [intOf]
          · gi_wp2
            refine bodyPost_ret (results_none rfl _ _ _) rfl ?_
            exact ⟨⟨_, rfl⟩, .inr ⟨pre ++ [(k : Int)], ⟨descI p k, by rw [HL.out]; simp⟩, hJx3⟩⟩
        · rw [if_neg hb] at hL'
          have HL := Lib.hid hL'
          have hb' : (bits .and .i64 (p / 2 ^ k) 1 == 1) = false := by unfold bitN at hb; simpa using hb
          clear hL' hb
          gi_wp2
          refine ⟨fun _ h => (by cases h), ?_⟩
          gi_wp2
          go_roundw
          case rel => exact ⟨k, pre, by omega, by go_num, HL.out, hc, hJ⟩
          case measure => simp [intOf]
theorem irqs_of (F : Fence) (hF : F = Fence.wide) (n : Nat) (p : Int) (w : World) :
    CallsIn F n Tryz.prog 107 #[.int .i64 p] w fun e w' => e = .returned (.func (.func 110) #[] #[.pointer (some ⟨w.heap.size, 0, none⟩)]) ∧ w' = w.alloc (.cells #[.int .i64 p] 3) := by
  subst hF
  refine callsIn_of_wp Tryz.func107 rfl trivial ?_ rfl
  simp only [Tryz.ntmps107, List.size_toArray, List.length_cons, List.length_nil, Nat.reduceAdd, Nat.reduceSub, Array.replicate_succ, Array.replicate_zero, List.push_toArray, List.append_toArray, List.nil_append, List.cons_append]
  gi_wp2
  go_ret
  exact ⟨rfl, rfl⟩
theorem irqs_stop (n Bn : Nat) (p : Int) (w : World) (hBn : Bn < w.heap.size) (hc : w.cell? ⟨Bn, 0, none⟩ = some (.int .i64 p)) :
    SeqStopsK Fence.wide n Tryz.prog 110 #[.pointer (some ⟨Bn, 0, none⟩)] (fun x : Int => #[Value.int .i64 x]) (KpI Bn) (fun ys => ys = listI p) (fun pre => pre <+: listI p) (listI p).length w := fun l J Jx W hW _ _ hY h0 =>
  irqs_in n l Bn p J Jx hY W ((hW.cell (p := ⟨Bn, 0, none⟩) hBn).trans hc) h0
theorem KpI_t {Bn : Nat} {A B C : World} (h : KpI Bn A B) (k : KpI Bn B C) : KpI Bn A C := k.trans h
theorem KpI_b {Bn : Nat} {w : World} (hn : Bn < w.heap.size) (W : World) (l : Nat) (o o' : Obj) (hl : w.heap.size ≤ l) (h : W.heap[l]? = some o) (k1 : o.isCells = false) (k2 : o.isWalk = false) : KpI Bn W (W.putObj l o') :=
  (belowK_b (n₀ := Bn + 1) (w := w) (by omega) W l o o' hl h k1 k2).cell (p := ⟨Bn, 0, none⟩) (by simp)
theorem cell_of_box_l {W : World} {B : Nat} {v : Value} {t : TypeId} (h : W.heap[B]? = some (.cells #[v] t (0, 0))) : W.cell? ⟨B, 0, none⟩ = some v ∧ W.frozen? ⟨B, 0, none⟩ = false := by
  constructor <;> simp [World.cell?, World.frozen?, h]
theorem cell_new_l (W : World) (v : Value) (t : TypeId) : (W.alloc (.cells #[v] t)).cell? ⟨W.heap.size, 0, none⟩ = some v ∧ (W.alloc (.cells #[v] t)).frozen? ⟨W.heap.size, 0, none⟩ = false :=
  cell_of_box_l (World.alloc_heap_new W _)
theorem cell_alloc_l {W : World} {a : Addr} {v : Value} (o : Obj) (h : W.cell? a = some v) : (W.alloc o).cell? a = some v := cell_kept h (World.grownBy_alloc W o none) (fun r e => by cases e)
theorem frozen_alloc_l {W : World} {a : Addr} {v : Value} (o : Obj) (h : W.cell? a = some v) (hf : W.frozen? a = false) : (W.alloc o).frozen? a = false := (frozen_kept h (World.grownBy_alloc W o none) (fun r e => by cases e)).trans hf
set_option maxRecDepth 100000 in
set_option maxHeartbeats 2000000 in
theorem impl_top (p : Int) (w : World) (wp : (Lit.int .i64 p).wf = true) : Calls Tryz.prog 90 #[.int .i64 p] w fun e w' => e = .returned (.int .i64 (topI p)) ∧ Below w.heap.size w w' := by
  refine (callsIn_wide (n := 3)).1 ?_
  rw [listI_top]
  refine callsIn_of_wp_marks Tryz.func90 rfl trivial ?_ rfl
  simp only [Tryz.ntmps90, List.size_toArray, List.length_cons, List.length_nil, Nat.reduceAdd, Nat.reduceSub, Array.replicate_succ, Array.replicate_zero, List.push_toArray, List.append_toArray, List.nil_append, List.cons_append]
  gi_wp2_with (refine ⟨trivial, ?_⟩; gi_at_call 107; refine (irqs_of _ rfl _ _ _).mono ?_; rintro e w' ⟨rfl, rfl⟩)
  have hs := cell_new_l w (.int .i64 0) 3
  have hb := cell_new_l (w.alloc (.cells #[.int .i64 0] 3)) (.int .i64 p) 3
  rw [World.size_alloc] at hb
  have hB0 : Below w.heap.size w ((w.alloc (.cells #[.int .i64 0] 3)).alloc (.cells #[.int .i64 p] 3)) := ((Below.refl _ w).alloc (Nat.le_refl _) _).alloc (by simp) _
  refine wpIn_rangeFunc_ownF rfl (show 1 ≤ 3 by omega) (gf := 110) (lb := #[.pointer (some ⟨w.heap.size + 1, 0, none⟩)]) rfl trivial (enters_of Tryz.func110 (by kernel_rfl) rfl)
    (irqs_stop _ (w.heap.size + 1) p _ (by simp) hb.1) KpI_t (KpI_b (by simp)) (Below.refl _ _) (fun _ => rfl)
    (fun pre W => (pre = [] ∧ W.cell? ⟨w.heap.size, 0, none⟩ = some (.int .i64 0) ∧ W.frozen? ⟨w.heap.size, 0, none⟩ = false) ∧ Below w.heap.size w W)
    (fun c pre W => (c = .ret ∧ ∃ x : Int, pre = [x] ∧ W.cell? ⟨w.heap.size, 0, none⟩ = some (.int .i64 x)) ∧ Below w.heap.size w W)
    (OwnFrom.and (Own.from (fun s A B row hs hg hr => ⟨hs.1, cell_kept hs.2.1 hg hr, (frozen_kept hs.2.1 hg hr).trans hs.2.2⟩) _) (ownFrom_below (Nat.le_refl _) (by simp; omega)))
    (fun c => OwnFrom.and (Own.from (fun s A B row hs hg hr => by obtain ⟨hc, x, hx, h⟩ := hs; exact ⟨hc, x, hx, cell_kept h hg hr⟩) _) (ownFrom_below (Nat.le_refl _) (by simp; omega)))
    ⟨⟨rfl, cell_alloc_l _ hs.1, frozen_alloc_l _ hs.1 hs.2⟩, hB0⟩
    (fun x => { tmps := #[.int .i64 p, undef, .pointer (some ⟨w.heap.size, 0, none⟩), .int .i64 x, .int .i64 p, .func (.func 110) #[] #[.pointer (some ⟨w.heap.size + 1, 0, none⟩)], .int .i64 x, undef], defers := [] }) ?assign ?body ?done ?stop
  case assign =>
    intro l x W K hK
    gi_wp2
    exact hK
  case body =>
    rintro l pre x W ⟨⟨rfl, hc, hf⟩, hB⟩ _
    gi_wp2
    exact ⟨KeepsOthers.setCell _ _ _, ⟨rfl, x, rfl, World.cell?_setCell_same' _ _ _ (by rw [hc]; rfl)⟩, hB.setCell (p := ⟨w.heap.size, 0, none⟩) (Nat.le_refl _) _⟩
  case done =>
    rintro D ys W hD hys ⟨⟨rfl, hc, hf⟩, hB⟩ hK
    gi_wp2
    have hK' := (KeepsOthers.setCell W ⟨w.heap.size, 0, none⟩ (.int .i64 (-1))).same D _ hK rfl
    refine ⟨by simp, .inl ⟨_, _, rfl, run_takeDeferred hK', ?_⟩⟩
    have hc5 := cell_kept (World.cell?_setCell_same' W ⟨w.heap.size, 0, none⟩ (.int .i64 (-1)) (by rw [hc]; rfl)) (grownBy_putObj' _ D (.deferred none)) (fun r e => by cases e; exact ⟨_, hK', rfl⟩)
    refine ⟨.int .i64 (-1), ?_, by rw [← hys]; rfl, (hB.setCell (p := ⟨w.heap.size, 0, none⟩) (by simp) _).trans (belowK_b (w := w) (Nat.le_refl _) _ D _ _ (by simp at hD; omega) hK' rfl rfl)⟩
    simp [results, Tryz.f90, go_sem, hc5]
  case stop =>
    rintro D c pre W hD hpre ⟨⟨rfl, x, rfl, hc⟩, hB⟩ hK
    obtain ⟨t, ht⟩ := hpre
    gi_wp2
    refine ⟨by simp, .inl ⟨_, _, rfl, run_takeDeferred hK, ?_⟩⟩
    have hc5 := cell_kept hc (grownBy_putObj' _ D (.deferred none)) (fun r e => by cases e; exact ⟨_, hK, rfl⟩)
    refine ⟨.int .i64 x, ?_, by rw [← ht]; rfl, hB.trans (belowK_b (w := w) (Nat.le_refl _) W D _ _ (by simp at hD; omega) hK rfl rfl)⟩
    simp [results, Tryz.f90, go_sem, hc5]
theorem andNot_pow : ∀ (x : Fin 256) (k : Fin 8), topI (x.val : Int) = (k.val : Int) → bits .andNot .i64 (x.val : Int) (2 ^ k.val) = (x.val : Int) - 2 ^ k.val := by decide +kernel
set_option maxHeartbeats 1000000 in
theorem impl_take (p : Int) (w : World) (wp : (Lit.int .i64 p).wf = true) : Calls Tryz.prog 95 #[.int .i64 p] w fun e w' => e = .returned (.tuple #[.int .i64 (takeI p).1, .int .i64 (takeI p).2.1, .bool (takeI p).2.2]) ∧ Below w.heap.size w w' := by
  have K := Lib.hid (fun V : World => impl_top p V wp)
  have hv : takeI p = if topI p < 0 then (p, -1, false) else (p - 2 ^ (topI p).toNat, topI p, true) := rfl
  have hr := topI_range p
  have hp := topI_pend (p := p)
  have ha : ∀ k : Nat, topI p = (k : Int) → bits .andNot .i64 p (2 ^ k) = p - 2 ^ k := by
    intro k hk
    obtain ⟨p0, p1⟩ := pend_iff.1 (hp (by omega))
    obtain ⟨x, rfl⟩ := Int.eq_ofNat_of_zero_le p0
    exact andNot_pow ⟨x, by omega⟩ ⟨k, by omega⟩ hk
  generalize topI p = n at K hv hr hp ha
  by_cases hn : n < 0
  · rw [if_pos hn] at hv
    rw [hv]
    obtain rfl : n = -1 := by omega
    clear hv hr hp hn ha
    go_enter Tryz.func95, Tryz.ntmps95
    go_wp2_with fail
    refine (K.out _).mono ?_
    rintro e w' ⟨rfl, hB⟩
    go_wp2_with fail
    exact bodyPost_ret (v := .tuple #[.int .i64 p, .int .i64 (-1), .bool false]) (by simp [results, Tryz.results95, go_sem]) rfl ⟨rfl, hB⟩
  · rw [if_neg hn] at hv
    obtain ⟨k, rfl⟩ := Int.eq_ofNat_of_zero_le (show 0 ≤ n by omega)
    have hk7 : (k : Int) ≤ 7 := by omega
    have hw := pow_small (show k ≤ 7 by omega)
    have ha' := ha k rfl
    rw [show ((k : Int)).toNat = k by simp, ← ha'] at hv
    rw [hv]
    have hne : ((k : Int) == -1) = false := by simp
    clear hv hr hp ha ha'
    go_enter Tryz.func95, Tryz.ntmps95
    go_wp2_with fail
    refine (K.out _).mono ?_
    rintro e w' ⟨rfl, hB⟩
    go_wp2_with fail
    exact bodyPost_ret (v := .tuple #[.int .i64 (bits .andNot .i64 p (2 ^ k)), .int .i64 (k : Int), .bool true]) (by simp [results, Tryz.results95, go_sem, hw]) rfl ⟨rfl, hB⟩
end Go.Proofs.YteopkcndkcciaaaGreat.Irqs
namespace Go.Proofs.YteopkcndkcciaaaGreat.Exits
set_option maxRecDepth 100000
open Go.ChangeShapes Go.WideShapes Go.ChangeAt Go.RowKit
open Go.Proofs.YteopkcndkcciaaaGreat.Base Go.Proofs.YteopkcndkcciaaaGreat.Mem Go.Proofs.YteopkcndkcciaaaGreat.Data
set_option linter.unusedVariables false
set_option linter.unusedSimpArgs false
/-- The exit in the type of its kind. -/
def usedV (k p : Int) (q : Bool) (n : Int) : Value :=
  if k = 0 then .iface 107 (.agg #[]) else if k = 1 then .iface 109 (.agg #[.int .i64 p, .bool q]) else if k = 2 then .iface 111 (.agg #[.int .i64 n]) else if k = 3 then .iface 112 (.agg #[.int .i64 n])
  else if k = 4 then .iface 113 (.agg #[]) else .nilIface
theorem usedV_0 (p : Int) (q : Bool) (n : Int) : usedV 0 p q n = .iface 107 (.agg #[]) := rfl
theorem usedV_1 (p : Int) (q : Bool) (n : Int) : usedV 1 p q n = .iface 109 (.agg #[.int .i64 p, .bool q]) := rfl
theorem usedV_2 (p : Int) (q : Bool) (n : Int) : usedV 2 p q n = .iface 111 (.agg #[.int .i64 n]) := rfl
theorem usedV_3 (p : Int) (q : Bool) (n : Int) : usedV 3 p q n = .iface 112 (.agg #[.int .i64 n]) := rfl
theorem usedV_4 (p : Int) (q : Bool) (n : Int) : usedV 4 p q n = .iface 113 (.agg #[]) := rfl
theorem usedV_else {k : Int} (p : Int) (q : Bool) (n : Int) (h : (k == 0) = false ∧ (k == 1) = false ∧ (k == 2) = false ∧ (k == 3) = false ∧ (k == 4) = false) : usedV k p q n = .nilIface := by
  simp only [beq_eq_false_iff_ne, ne_eq] at h
  simp [usedV, h]
set_option maxHeartbeats 4000000 in
theorem impl_usedBy (k p : Int) (q : Bool) (n : Int) (w : World) :
    Calls Tryz.prog 102 #[.agg #[.int .i64 k, .int .i64 p, .bool q, .int .i64 n]] w fun e w' => e = .returned (usedV k p q n) ∧ Below w.heap.size w w' := by
  rcases kind_cases k with rfl | rfl | rfl | rfl | rfl | h
  · have HV := Lib.hid (usedV_0 p q n)
    have HB := Lib.hid (show Below w.heap.size w (w.alloc (.cells #[.int .i64 0, .int .i64 p, .bool q, .int .i64 n] 30)) from (Below.refl _ _).alloc (Nat.le_refl _) _)
    go_enter Tryz.func102, Tryz.ntmps102
    go_wp2_with fail
    go_ret
    exact ⟨by rw [HV.out]; rfl, HB.out⟩
  · have HV := Lib.hid (usedV_4 p q n)
    have HB := Lib.hid (show Below w.heap.size w (w.alloc (.cells #[.int .i64 4, .int .i64 p, .bool q, .int .i64 n] 30)) from (Below.refl _ _).alloc (Nat.le_refl _) _)
    go_enter Tryz.func102, Tryz.ntmps102
    go_wp2_with fail
    go_ret
    exact ⟨by rw [HV.out]; rfl, HB.out⟩
  · have HV := Lib.hid (usedV_1 p q n)
    have HB := Lib.hid (show Below w.heap.size w (w.alloc (.cells #[.int .i64 1, .int .i64 p, .bool q, .int .i64 n] 30)) from (Below.refl _ _).alloc (Nat.le_refl _) _)
    go_enter Tryz.func102, Tryz.ntmps102
    go_wp2_with fail
    go_ret
    exact ⟨by rw [HV.out]; rfl, HB.out⟩
  · have HV := Lib.hid (usedV_2 p q n)
    have HB := Lib.hid (show Below w.heap.size w (w.alloc (.cells #[.int .i64 2, .int .i64 p, .bool q, .int .i64 n] 30)) from (Below.refl _ _).alloc (Nat.le_refl _) _)
    go_enter Tryz.func102, Tryz.ntmps102
    go_wp2_with fail
    go_ret
    exact ⟨by rw [HV.out]; rfl, HB.out⟩
  · have HV := Lib.hid (usedV_3 p q n)
    have HB := Lib.hid (show Below w.heap.size w (w.alloc (.cells #[.int .i64 3, .int .i64 p, .bool q, .int .i64 n] 30)) from (Below.refl _ _).alloc (Nat.le_refl _) _)
    go_enter Tryz.func102, Tryz.ntmps102
    go_wp2_with fail
    go_ret
    exact ⟨by rw [HV.out]; rfl, HB.out⟩
  · have HV := Lib.hid (usedV_else (k := k) p q n h)
    obtain ⟨h0, h1, h2, h3, h4⟩ := h
    have HB := Lib.hid (show Below w.heap.size w (w.alloc (.cells #[.int .i64 k, .int .i64 p, .bool q, .int .i64 n] 30)) from (Below.refl _ _).alloc (Nat.le_refl _) _)
    go_enter Tryz.func102, Tryz.ntmps102
    go_wp2_with fail
    go_ret
    exact ⟨by rw [HV.out]; rfl, HB.out⟩
theorem impl_cellOkE (v : Int) (w : World) :
    Calls Tryz.prog 83 #[.int .i64 v] w fun e w' => e = .returned (.bool (inB v 0 99)) ∧ Below w.heap.size w w' := by
  by_cases h0 : v < 0
  · have HV := Lib.hid (inB_false.2 (show v < 0 ∨ 99 < v from .inl h0))
    have h1 : ¬ v ≥ 0 := by omega
    clear h0
    go_enter Tryz.func83, Tryz.ntmps83
    go_wp2_with fail
    go_ret
    exact ⟨by rw [HV.out]; rfl, Below.refl _ _⟩
  · have h1 : v ≥ 0 := by omega
    by_cases h2 : v ≤ 99
    · have HV := Lib.hid (inB_iff.2 (show 0 ≤ v ∧ v ≤ 99 from ⟨h1, h2⟩))
      clear h0
      go_enter Tryz.func83, Tryz.ntmps83
      go_wp2_with fail
      go_ret
      exact ⟨by rw [HV.out]; rfl, Below.refl _ _⟩
    · have HV := Lib.hid (inB_false.2 (show v < 0 ∨ 99 < v from .inr (by omega)))
      clear h0
      go_enter Tryz.func83, Tryz.ntmps83
      go_wp2_with fail
      go_ret
      exact ⟨by rw [HV.out]; rfl, Below.refl _ _⟩
theorem impl_fault' (p : Int) (q : Bool) (w : World) :
    Calls Tryz.prog 103 #[.int .i64 p, .bool q] w (ExitP w (1, p, q, 0)) := by
  have HB := Lib.hid (show Below w.heap.size w (w.alloc (.cells #[.int .i64 1, .int .i64 p, .bool q, .int .i64 0] 30)) from (Below.refl _ _).alloc (Nat.le_refl _) _)
  have t1 : Var (w.alloc (.cells #[.int .i64 1, .int .i64 p, .bool q, .int .i64 0] 30)) w.heap.size [.int .i64 1, .int .i64 p, .bool q, .int .i64 0] := Var.new w [.int .i64 1, .int .i64 p, .bool q, .int .i64 0] 30
  have c0 := t1.cell 0 (v := .int .i64 1) rfl
  have c1 := t1.cell 1 (v := .int .i64 p) rfl
  have c2 := t1.cell 2 (v := .bool q) rfl
  have c3 := t1.cell 3 (v := .int .i64 0) rfl
  clear t1
  go_enter Tryz.func103, Tryz.ntmps103
  go_wp2_with fail
  generalize w.alloc (.cells #[.int .i64 1, .int .i64 p, .bool q, .int .i64 0] 30) = WF at c0 c1 c2 c3 HB ⊢
  exact bodyPost_ret (v := .agg #[.int .i64 1, .int .i64 p, .bool q, .int .i64 0]) (by simp [results, Tryz.results103, go_sem, c0, c1, c2, c3]) rfl ⟨rfl, HB.out⟩
theorem impl_call' (n : Int) (w : World) :
    Calls Tryz.prog 104 #[.int .i64 n] w (ExitP w (2, 0, false, n)) := by
  have HB := Lib.hid (show Below w.heap.size w (w.alloc (.cells #[.int .i64 2, .int .i64 0, .bool false, .int .i64 n] 30)) from (Below.refl _ _).alloc (Nat.le_refl _) _)
  have t1 : Var (w.alloc (.cells #[.int .i64 2, .int .i64 0, .bool false, .int .i64 n] 30)) w.heap.size [.int .i64 2, .int .i64 0, .bool false, .int .i64 n] := Var.new w [.int .i64 2, .int .i64 0, .bool false, .int .i64 n] 30
  have c0 := t1.cell 0 (v := .int .i64 2) rfl
  have c1 := t1.cell 1 (v := .int .i64 0) rfl
  have c2 := t1.cell 2 (v := .bool false) rfl
  have c3 := t1.cell 3 (v := .int .i64 n) rfl
  clear t1
  go_enter Tryz.func104, Tryz.ntmps104
  go_wp2_with fail
  generalize w.alloc (.cells #[.int .i64 2, .int .i64 0, .bool false, .int .i64 n] 30) = WF at c0 c1 c2 c3 HB ⊢
  exact bodyPost_ret (v := .agg #[.int .i64 2, .int .i64 0, .bool false, .int .i64 n]) (by simp [results, Tryz.results104, go_sem, c0, c1, c2, c3]) rfl ⟨rfl, HB.out⟩
theorem impl_out' (n : Int) (w : World) :
    Calls Tryz.prog 105 #[.int .i64 n] w (ExitP w (3, 0, false, n)) := by
  have HB := Lib.hid (show Below w.heap.size w (w.alloc (.cells #[.int .i64 3, .int .i64 0, .bool false, .int .i64 n] 30)) from (Below.refl _ _).alloc (Nat.le_refl _) _)
  have t1 : Var (w.alloc (.cells #[.int .i64 3, .int .i64 0, .bool false, .int .i64 n] 30)) w.heap.size [.int .i64 3, .int .i64 0, .bool false, .int .i64 n] := Var.new w [.int .i64 3, .int .i64 0, .bool false, .int .i64 n] 30
  have c0 := t1.cell 0 (v := .int .i64 3) rfl
  have c1 := t1.cell 1 (v := .int .i64 0) rfl
  have c2 := t1.cell 2 (v := .bool false) rfl
  have c3 := t1.cell 3 (v := .int .i64 n) rfl
  clear t1
  go_enter Tryz.func105, Tryz.ntmps105
  go_wp2_with fail
  generalize w.alloc (.cells #[.int .i64 3, .int .i64 0, .bool false, .int .i64 n] 30) = WF at c0 c1 c2 c3 HB ⊢
  exact bodyPost_ret (v := .agg #[.int .i64 3, .int .i64 0, .bool false, .int .i64 n]) (by simp [results, Tryz.results105, go_sem, c0, c1, c2, c3]) rfl ⟨rfl, HB.out⟩
theorem as_no_no (x : Value) (W : World) : (Instr.typeAssert (.iface 107 x) 20 107 true).run Tryz.prog W = .ok (.tuple #[x, .bool true]) W := by kernel_rfl
theorem as_fault_no (x : Value) (W : World) : (Instr.typeAssert (.iface 109 x) 20 107 true).run Tryz.prog W = .ok (.tuple #[.agg #[], .bool false]) W := by kernel_rfl
theorem as_fault_fault (x : Value) (W : World) : (Instr.typeAssert (.iface 109 x) 20 109 true).run Tryz.prog W = .ok (.tuple #[x, .bool true]) W := by kernel_rfl
theorem as_call_no (x : Value) (W : World) : (Instr.typeAssert (.iface 111 x) 20 107 true).run Tryz.prog W = .ok (.tuple #[.agg #[], .bool false]) W := by kernel_rfl
theorem as_call_fault (x : Value) (W : World) : (Instr.typeAssert (.iface 111 x) 20 109 true).run Tryz.prog W = .ok (.tuple #[.agg #[.int .i64 0, .bool false], .bool false]) W := by kernel_rfl
theorem as_call_call (x : Value) (W : World) : (Instr.typeAssert (.iface 111 x) 20 111 true).run Tryz.prog W = .ok (.tuple #[x, .bool true]) W := by kernel_rfl
theorem as_out_no (x : Value) (W : World) : (Instr.typeAssert (.iface 112 x) 20 107 true).run Tryz.prog W = .ok (.tuple #[.agg #[], .bool false]) W := by kernel_rfl
theorem as_out_fault (x : Value) (W : World) : (Instr.typeAssert (.iface 112 x) 20 109 true).run Tryz.prog W = .ok (.tuple #[.agg #[.int .i64 0, .bool false], .bool false]) W := by kernel_rfl
theorem as_out_call (x : Value) (W : World) : (Instr.typeAssert (.iface 112 x) 20 111 true).run Tryz.prog W = .ok (.tuple #[.agg #[.int .i64 0], .bool false]) W := by kernel_rfl
theorem as_out_out (x : Value) (W : World) : (Instr.typeAssert (.iface 112 x) 20 112 true).run Tryz.prog W = .ok (.tuple #[x, .bool true]) W := by kernel_rfl
theorem as_halt_no (x : Value) (W : World) : (Instr.typeAssert (.iface 113 x) 20 107 true).run Tryz.prog W = .ok (.tuple #[.agg #[], .bool false]) W := by kernel_rfl
theorem as_halt_fault (x : Value) (W : World) : (Instr.typeAssert (.iface 113 x) 20 109 true).run Tryz.prog W = .ok (.tuple #[.agg #[.int .i64 0, .bool false], .bool false]) W := by kernel_rfl
theorem as_halt_call (x : Value) (W : World) : (Instr.typeAssert (.iface 113 x) 20 111 true).run Tryz.prog W = .ok (.tuple #[.agg #[.int .i64 0], .bool false]) W := by kernel_rfl
theorem as_halt_out (x : Value) (W : World) : (Instr.typeAssert (.iface 113 x) 20 112 true).run Tryz.prog W = .ok (.tuple #[.agg #[.int .i64 0], .bool false]) W := by kernel_rfl
theorem as_halt_halt (x : Value) (W : World) : (Instr.typeAssert (.iface 113 x) 20 113 true).run Tryz.prog W = .ok (.tuple #[x, .bool true]) W := by kernel_rfl
theorem as_nil_no (W : World) : (Instr.typeAssert .nilIface 20 107 true).run Tryz.prog W = .ok (.tuple #[.agg #[], .bool false]) W := by kernel_rfl
theorem as_nil_fault (W : World) : (Instr.typeAssert .nilIface 20 109 true).run Tryz.prog W = .ok (.tuple #[.agg #[.int .i64 0, .bool false], .bool false]) W := by kernel_rfl
theorem as_nil_call (W : World) : (Instr.typeAssert .nilIface 20 111 true).run Tryz.prog W = .ok (.tuple #[.agg #[.int .i64 0], .bool false]) W := by kernel_rfl
theorem as_nil_out (W : World) : (Instr.typeAssert .nilIface 20 112 true).run Tryz.prog W = .ok (.tuple #[.agg #[.int .i64 0], .bool false]) W := by kernel_rfl
theorem as_nil_halt (W : World) : (Instr.typeAssert .nilIface 20 113 true).run Tryz.prog W = .ok (.tuple #[.agg #[], .bool false]) W := by kernel_rfl
set_option maxHeartbeats 16000000 in
theorem impl_exitOk (k p : Int) (q : Bool) (n : Int) (w : World) (ws : wfQ (k, p, q, n)) :
    Calls Tryz.prog 86 #[.agg #[.int .i64 k, .int .i64 p, .bool q, .int .i64 n]] w fun e w' => e = .returned (.bool (exitOk (k, p, q, n))) ∧ Below w.heap.size w w' := by
  clear ws
  rcases kind_cases k with rfl | rfl | rfl | rfl | rfl | h
  · by_cases hp : p = 0 <;> by_cases hn : n = 0 <;> cases q
    · subst hp
      subst hn
      have HV := Lib.hid (show exitOk (0, 0, false, 0) = true from by simp [exitOk])
      have HU := Lib.hid (fun V : World => impl_usedBy 0 0 false 0 V)
      rw [usedV_0] at HU
      have hb0 : Below w.heap.size w (w.alloc (.cells #[.int .i64 0, .int .i64 0, .bool false, .int .i64 0] 30)) := (Below.refl _ _).alloc (Nat.le_refl _) _
      have t0 : Var (w.alloc (.cells #[.int .i64 0, .int .i64 0, .bool false, .int .i64 0] 30)) w.heap.size [.int .i64 0, .int .i64 0, .bool false, .int .i64 0] := Var.new w [.int .i64 0, .int .i64 0, .bool false, .int .i64 0] 30
      have hz : w.heap.size < (w.alloc (.cells #[.int .i64 0, .int .i64 0, .bool false, .int .i64 0] 30)).heap.size := by simp
      go_enter Tryz.func86, Tryz.ntmps86
      go_wp2_with fail
      generalize w.alloc (.cells #[.int .i64 0, .int .i64 0, .bool false, .int .i64 0] 30) = W0 at t0 hb0 hz ⊢
      refine (HU.out _).mono ?_
      rintro e w1 ⟨rfl, hb1⟩
      have hb := btr hb0 hb1
      have T := t0.below hb1 hz
      have hz1 : w.heap.size < w1.heap.size := T.2
      clear hb0 hb1 t0 hz HU
      have as0 := as_no_no (.agg #[])
      have hA : Below w1.heap.size w1 (w1.alloc (.cells #[] 107)) := (Below.refl _ _).alloc (Nat.le_refl _) _
      have T2 := T.below hA hz1
      have v0 := T2.cell 0 (v := .int .i64 0) rfl
      have v1 := T2.cell 1 (v := .int .i64 0) rfl
      have v2 := T2.cell 2 (v := .bool false) rfl
      have v3 := T2.cell 3 (v := .int .i64 0) rfl
      have HB := Lib.hid (btr hb hA)
      clear T T2 hA hb hz1
      go_wp2_with fail
      go_ret
      exact ⟨by rw [HV.out]; rfl, HB.out⟩
    · subst hp
      subst hn
      have HV := Lib.hid (show exitOk (0, 0, true, 0) = false from by simp [exitOk])
      have HU := Lib.hid (fun V : World => impl_usedBy 0 0 true 0 V)
      rw [usedV_0] at HU
      have hb0 : Below w.heap.size w (w.alloc (.cells #[.int .i64 0, .int .i64 0, .bool true, .int .i64 0] 30)) := (Below.refl _ _).alloc (Nat.le_refl _) _
      have t0 : Var (w.alloc (.cells #[.int .i64 0, .int .i64 0, .bool true, .int .i64 0] 30)) w.heap.size [.int .i64 0, .int .i64 0, .bool true, .int .i64 0] := Var.new w [.int .i64 0, .int .i64 0, .bool true, .int .i64 0] 30
      have hz : w.heap.size < (w.alloc (.cells #[.int .i64 0, .int .i64 0, .bool true, .int .i64 0] 30)).heap.size := by simp
      go_enter Tryz.func86, Tryz.ntmps86
      go_wp2_with fail
      generalize w.alloc (.cells #[.int .i64 0, .int .i64 0, .bool true, .int .i64 0] 30) = W0 at t0 hb0 hz ⊢
      refine (HU.out _).mono ?_
      rintro e w1 ⟨rfl, hb1⟩
      have hb := btr hb0 hb1
      have T := t0.below hb1 hz
      have hz1 : w.heap.size < w1.heap.size := T.2
      clear hb0 hb1 t0 hz HU
      have as0 := as_no_no (.agg #[])
      have hA : Below w1.heap.size w1 (w1.alloc (.cells #[] 107)) := (Below.refl _ _).alloc (Nat.le_refl _) _
      have T2 := T.below hA hz1
      have v0 := T2.cell 0 (v := .int .i64 0) rfl
      have v1 := T2.cell 1 (v := .int .i64 0) rfl
      have v2 := T2.cell 2 (v := .bool true) rfl
      have v3 := T2.cell 3 (v := .int .i64 0) rfl
      have HB := Lib.hid (btr hb hA)
      clear T T2 hA hb hz1
      go_wp2_with fail
      go_ret
      exact ⟨by rw [HV.out]; rfl, HB.out⟩
    · subst hp
      have hn' : (n == 0) = false := by simpa using hn
      have HV := Lib.hid (show exitOk (0, 0, false, n) = false from by simp [exitOk, hn])
      have HU := Lib.hid (fun V : World => impl_usedBy 0 0 false n V)
      rw [usedV_0] at HU
      have hb0 : Below w.heap.size w (w.alloc (.cells #[.int .i64 0, .int .i64 0, .bool false, .int .i64 n] 30)) := (Below.refl _ _).alloc (Nat.le_refl _) _
      have t0 : Var (w.alloc (.cells #[.int .i64 0, .int .i64 0, .bool false, .int .i64 n] 30)) w.heap.size [.int .i64 0, .int .i64 0, .bool false, .int .i64 n] := Var.new w [.int .i64 0, .int .i64 0, .bool false, .int .i64 n] 30
      have hz : w.heap.size < (w.alloc (.cells #[.int .i64 0, .int .i64 0, .bool false, .int .i64 n] 30)).heap.size := by simp
      go_enter Tryz.func86, Tryz.ntmps86
      go_wp2_with fail
      generalize w.alloc (.cells #[.int .i64 0, .int .i64 0, .bool false, .int .i64 n] 30) = W0 at t0 hb0 hz ⊢
      refine (HU.out _).mono ?_
      rintro e w1 ⟨rfl, hb1⟩
      have hb := btr hb0 hb1
      have T := t0.below hb1 hz
      have hz1 : w.heap.size < w1.heap.size := T.2
      clear hb0 hb1 t0 hz HU
      have as0 := as_no_no (.agg #[])
      have hA : Below w1.heap.size w1 (w1.alloc (.cells #[] 107)) := (Below.refl _ _).alloc (Nat.le_refl _) _
      have T2 := T.below hA hz1
      have v0 := T2.cell 0 (v := .int .i64 0) rfl
      have v1 := T2.cell 1 (v := .int .i64 0) rfl
      have v2 := T2.cell 2 (v := .bool false) rfl
      have v3 := T2.cell 3 (v := .int .i64 n) rfl
      have HB := Lib.hid (btr hb hA)
      clear T T2 hA hb hz1
      go_wp2_with fail
      go_ret
      exact ⟨by rw [HV.out]; rfl, HB.out⟩
    · subst hp
      have hn' : (n == 0) = false := by simpa using hn
      have HV := Lib.hid (show exitOk (0, 0, true, n) = false from by simp [exitOk, hn])
      have HU := Lib.hid (fun V : World => impl_usedBy 0 0 true n V)
      rw [usedV_0] at HU
      have hb0 : Below w.heap.size w (w.alloc (.cells #[.int .i64 0, .int .i64 0, .bool true, .int .i64 n] 30)) := (Below.refl _ _).alloc (Nat.le_refl _) _
      have t0 : Var (w.alloc (.cells #[.int .i64 0, .int .i64 0, .bool true, .int .i64 n] 30)) w.heap.size [.int .i64 0, .int .i64 0, .bool true, .int .i64 n] := Var.new w [.int .i64 0, .int .i64 0, .bool true, .int .i64 n] 30
      have hz : w.heap.size < (w.alloc (.cells #[.int .i64 0, .int .i64 0, .bool true, .int .i64 n] 30)).heap.size := by simp
      go_enter Tryz.func86, Tryz.ntmps86
      go_wp2_with fail
      generalize w.alloc (.cells #[.int .i64 0, .int .i64 0, .bool true, .int .i64 n] 30) = W0 at t0 hb0 hz ⊢
      refine (HU.out _).mono ?_
      rintro e w1 ⟨rfl, hb1⟩
      have hb := btr hb0 hb1
      have T := t0.below hb1 hz
      have hz1 : w.heap.size < w1.heap.size := T.2
      clear hb0 hb1 t0 hz HU
      have as0 := as_no_no (.agg #[])
      have hA : Below w1.heap.size w1 (w1.alloc (.cells #[] 107)) := (Below.refl _ _).alloc (Nat.le_refl _) _
      have T2 := T.below hA hz1
      have v0 := T2.cell 0 (v := .int .i64 0) rfl
      have v1 := T2.cell 1 (v := .int .i64 0) rfl
      have v2 := T2.cell 2 (v := .bool true) rfl
      have v3 := T2.cell 3 (v := .int .i64 n) rfl
      have HB := Lib.hid (btr hb hA)
      clear T T2 hA hb hz1
      go_wp2_with fail
      go_ret
      exact ⟨by rw [HV.out]; rfl, HB.out⟩
    · have hp' : (p == 0) = false := by simpa using hp
      subst hn
      have HV := Lib.hid (show exitOk (0, p, false, 0) = false from by simp [exitOk, hp])
      have HU := Lib.hid (fun V : World => impl_usedBy 0 p false 0 V)
      rw [usedV_0] at HU
      have hb0 : Below w.heap.size w (w.alloc (.cells #[.int .i64 0, .int .i64 p, .bool false, .int .i64 0] 30)) := (Below.refl _ _).alloc (Nat.le_refl _) _
      have t0 : Var (w.alloc (.cells #[.int .i64 0, .int .i64 p, .bool false, .int .i64 0] 30)) w.heap.size [.int .i64 0, .int .i64 p, .bool false, .int .i64 0] := Var.new w [.int .i64 0, .int .i64 p, .bool false, .int .i64 0] 30
      have hz : w.heap.size < (w.alloc (.cells #[.int .i64 0, .int .i64 p, .bool false, .int .i64 0] 30)).heap.size := by simp
      go_enter Tryz.func86, Tryz.ntmps86
      go_wp2_with fail
      generalize w.alloc (.cells #[.int .i64 0, .int .i64 p, .bool false, .int .i64 0] 30) = W0 at t0 hb0 hz ⊢
      refine (HU.out _).mono ?_
      rintro e w1 ⟨rfl, hb1⟩
      have hb := btr hb0 hb1
      have T := t0.below hb1 hz
      have hz1 : w.heap.size < w1.heap.size := T.2
      clear hb0 hb1 t0 hz HU
      have as0 := as_no_no (.agg #[])
      have hA : Below w1.heap.size w1 (w1.alloc (.cells #[] 107)) := (Below.refl _ _).alloc (Nat.le_refl _) _
      have T2 := T.below hA hz1
      have v0 := T2.cell 0 (v := .int .i64 0) rfl
      have v1 := T2.cell 1 (v := .int .i64 p) rfl
      have v2 := T2.cell 2 (v := .bool false) rfl
      have v3 := T2.cell 3 (v := .int .i64 0) rfl
      have HB := Lib.hid (btr hb hA)
      clear T T2 hA hb hz1
      go_wp2_with fail
      go_ret
      exact ⟨by rw [HV.out]; rfl, HB.out⟩
    · have hp' : (p == 0) = false := by simpa using hp
      subst hn
      have HV := Lib.hid (show exitOk (0, p, true, 0) = false from by simp [exitOk, hp])
      have HU := Lib.hid (fun V : World => impl_usedBy 0 p true 0 V)
      rw [usedV_0] at HU
      have hb0 : Below w.heap.size w (w.alloc (.cells #[.int .i64 0, .int .i64 p, .bool true, .int .i64 0] 30)) := (Below.refl _ _).alloc (Nat.le_refl _) _
      have t0 : Var (w.alloc (.cells #[.int .i64 0, .int .i64 p, .bool true, .int .i64 0] 30)) w.heap.size [.int .i64 0, .int .i64 p, .bool true, .int .i64 0] := Var.new w [.int .i64 0, .int .i64 p, .bool true, .int .i64 0] 30
      have hz : w.heap.size < (w.alloc (.cells #[.int .i64 0, .int .i64 p, .bool true, .int .i64 0] 30)).heap.size := by simp
      go_enter Tryz.func86, Tryz.ntmps86
      go_wp2_with fail
      generalize w.alloc (.cells #[.int .i64 0, .int .i64 p, .bool true, .int .i64 0] 30) = W0 at t0 hb0 hz ⊢
      refine (HU.out _).mono ?_
      rintro e w1 ⟨rfl, hb1⟩
      have hb := btr hb0 hb1
      have T := t0.below hb1 hz
      have hz1 : w.heap.size < w1.heap.size := T.2
      clear hb0 hb1 t0 hz HU
      have as0 := as_no_no (.agg #[])
      have hA : Below w1.heap.size w1 (w1.alloc (.cells #[] 107)) := (Below.refl _ _).alloc (Nat.le_refl _) _
      have T2 := T.below hA hz1
      have v0 := T2.cell 0 (v := .int .i64 0) rfl
      have v1 := T2.cell 1 (v := .int .i64 p) rfl
      have v2 := T2.cell 2 (v := .bool true) rfl
      have v3 := T2.cell 3 (v := .int .i64 0) rfl
      have HB := Lib.hid (btr hb hA)
      clear T T2 hA hb hz1
      go_wp2_with fail
      go_ret
      exact ⟨by rw [HV.out]; rfl, HB.out⟩
    · have hp' : (p == 0) = false := by simpa using hp
      have hn' : (n == 0) = false := by simpa using hn
      have HV := Lib.hid (show exitOk (0, p, false, n) = false from by simp [exitOk, hp, hn])
      have HU := Lib.hid (fun V : World => impl_usedBy 0 p false n V)
      rw [usedV_0] at HU
      have hb0 : Below w.heap.size w (w.alloc (.cells #[.int .i64 0, .int .i64 p, .bool false, .int .i64 n] 30)) := (Below.refl _ _).alloc (Nat.le_refl _) _
      have t0 : Var (w.alloc (.cells #[.int .i64 0, .int .i64 p, .bool false, .int .i64 n] 30)) w.heap.size [.int .i64 0, .int .i64 p, .bool false, .int .i64 n] := Var.new w [.int .i64 0, .int .i64 p, .bool false, .int .i64 n] 30
      have hz : w.heap.size < (w.alloc (.cells #[.int .i64 0, .int .i64 p, .bool false, .int .i64 n] 30)).heap.size := by simp
      go_enter Tryz.func86, Tryz.ntmps86
      go_wp2_with fail
      generalize w.alloc (.cells #[.int .i64 0, .int .i64 p, .bool false, .int .i64 n] 30) = W0 at t0 hb0 hz ⊢
      refine (HU.out _).mono ?_
      rintro e w1 ⟨rfl, hb1⟩
      have hb := btr hb0 hb1
      have T := t0.below hb1 hz
      have hz1 : w.heap.size < w1.heap.size := T.2
      clear hb0 hb1 t0 hz HU
      have as0 := as_no_no (.agg #[])
      have hA : Below w1.heap.size w1 (w1.alloc (.cells #[] 107)) := (Below.refl _ _).alloc (Nat.le_refl _) _
      have T2 := T.below hA hz1
      have v0 := T2.cell 0 (v := .int .i64 0) rfl
      have v1 := T2.cell 1 (v := .int .i64 p) rfl
      have v2 := T2.cell 2 (v := .bool false) rfl
      have v3 := T2.cell 3 (v := .int .i64 n) rfl
      have HB := Lib.hid (btr hb hA)
      clear T T2 hA hb hz1
      go_wp2_with fail
      go_ret
      exact ⟨by rw [HV.out]; rfl, HB.out⟩
    · have hp' : (p == 0) = false := by simpa using hp
      have hn' : (n == 0) = false := by simpa using hn
      have HV := Lib.hid (show exitOk (0, p, true, n) = false from by simp [exitOk, hp, hn])
      have HU := Lib.hid (fun V : World => impl_usedBy 0 p true n V)
      rw [usedV_0] at HU
      have hb0 : Below w.heap.size w (w.alloc (.cells #[.int .i64 0, .int .i64 p, .bool true, .int .i64 n] 30)) := (Below.refl _ _).alloc (Nat.le_refl _) _
      have t0 : Var (w.alloc (.cells #[.int .i64 0, .int .i64 p, .bool true, .int .i64 n] 30)) w.heap.size [.int .i64 0, .int .i64 p, .bool true, .int .i64 n] := Var.new w [.int .i64 0, .int .i64 p, .bool true, .int .i64 n] 30
      have hz : w.heap.size < (w.alloc (.cells #[.int .i64 0, .int .i64 p, .bool true, .int .i64 n] 30)).heap.size := by simp
      go_enter Tryz.func86, Tryz.ntmps86
      go_wp2_with fail
      generalize w.alloc (.cells #[.int .i64 0, .int .i64 p, .bool true, .int .i64 n] 30) = W0 at t0 hb0 hz ⊢
      refine (HU.out _).mono ?_
      rintro e w1 ⟨rfl, hb1⟩
      have hb := btr hb0 hb1
      have T := t0.below hb1 hz
      have hz1 : w.heap.size < w1.heap.size := T.2
      clear hb0 hb1 t0 hz HU
      have as0 := as_no_no (.agg #[])
      have hA : Below w1.heap.size w1 (w1.alloc (.cells #[] 107)) := (Below.refl _ _).alloc (Nat.le_refl _) _
      have T2 := T.below hA hz1
      have v0 := T2.cell 0 (v := .int .i64 0) rfl
      have v1 := T2.cell 1 (v := .int .i64 p) rfl
      have v2 := T2.cell 2 (v := .bool true) rfl
      have v3 := T2.cell 3 (v := .int .i64 n) rfl
      have HB := Lib.hid (btr hb hA)
      clear T T2 hA hb hz1
      go_wp2_with fail
      go_ret
      exact ⟨by rw [HV.out]; rfl, HB.out⟩
  · by_cases hp : p = 0 <;> by_cases hn : n = 0 <;> cases q
    · subst hp
      subst hn
      have HV := Lib.hid (show exitOk (4, 0, false, 0) = true from by simp [exitOk])
      have HU := Lib.hid (fun V : World => impl_usedBy 4 0 false 0 V)
      rw [usedV_4] at HU
      have hb0 : Below w.heap.size w (w.alloc (.cells #[.int .i64 4, .int .i64 0, .bool false, .int .i64 0] 30)) := (Below.refl _ _).alloc (Nat.le_refl _) _
      have t0 : Var (w.alloc (.cells #[.int .i64 4, .int .i64 0, .bool false, .int .i64 0] 30)) w.heap.size [.int .i64 4, .int .i64 0, .bool false, .int .i64 0] := Var.new w [.int .i64 4, .int .i64 0, .bool false, .int .i64 0] 30
      have hz : w.heap.size < (w.alloc (.cells #[.int .i64 4, .int .i64 0, .bool false, .int .i64 0] 30)).heap.size := by simp
      go_enter Tryz.func86, Tryz.ntmps86
      go_wp2_with fail
      generalize w.alloc (.cells #[.int .i64 4, .int .i64 0, .bool false, .int .i64 0] 30) = W0 at t0 hb0 hz ⊢
      refine (HU.out _).mono ?_
      rintro e w1 ⟨rfl, hb1⟩
      have hb := btr hb0 hb1
      have T := t0.below hb1 hz
      have hz1 : w.heap.size < w1.heap.size := T.2
      clear hb0 hb1 t0 hz HU
      have as0 := as_halt_no (.agg #[])
      have as1 := as_halt_fault (.agg #[])
      have as2 := as_halt_call (.agg #[])
      have as3 := as_halt_out (.agg #[])
      have as4 := as_halt_halt (.agg #[])
      have hA : Below w1.heap.size w1 (w1.alloc (.cells #[] 113)) := (Below.refl _ _).alloc (Nat.le_refl _) _
      have T2 := T.below hA hz1
      have v0 := T2.cell 0 (v := .int .i64 4) rfl
      have v1 := T2.cell 1 (v := .int .i64 0) rfl
      have v2 := T2.cell 2 (v := .bool false) rfl
      have v3 := T2.cell 3 (v := .int .i64 0) rfl
      have HB := Lib.hid (btr hb hA)
      clear T T2 hA hb hz1
      go_wp2_with fail
      go_ret
      exact ⟨by rw [HV.out]; rfl, HB.out⟩
    · subst hp
      subst hn
      have HV := Lib.hid (show exitOk (4, 0, true, 0) = false from by simp [exitOk])
      have HU := Lib.hid (fun V : World => impl_usedBy 4 0 true 0 V)
      rw [usedV_4] at HU
      have hb0 : Below w.heap.size w (w.alloc (.cells #[.int .i64 4, .int .i64 0, .bool true, .int .i64 0] 30)) := (Below.refl _ _).alloc (Nat.le_refl _) _
      have t0 : Var (w.alloc (.cells #[.int .i64 4, .int .i64 0, .bool true, .int .i64 0] 30)) w.heap.size [.int .i64 4, .int .i64 0, .bool true, .int .i64 0] := Var.new w [.int .i64 4, .int .i64 0, .bool true, .int .i64 0] 30
      have hz : w.heap.size < (w.alloc (.cells #[.int .i64 4, .int .i64 0, .bool true, .int .i64 0] 30)).heap.size := by simp
      go_enter Tryz.func86, Tryz.ntmps86
      go_wp2_with fail
      generalize w.alloc (.cells #[.int .i64 4, .int .i64 0, .bool true, .int .i64 0] 30) = W0 at t0 hb0 hz ⊢
      refine (HU.out _).mono ?_
      rintro e w1 ⟨rfl, hb1⟩
      have hb := btr hb0 hb1
      have T := t0.below hb1 hz
      have hz1 : w.heap.size < w1.heap.size := T.2
      clear hb0 hb1 t0 hz HU
      have as0 := as_halt_no (.agg #[])
      have as1 := as_halt_fault (.agg #[])
      have as2 := as_halt_call (.agg #[])
      have as3 := as_halt_out (.agg #[])
      have as4 := as_halt_halt (.agg #[])
      have hA : Below w1.heap.size w1 (w1.alloc (.cells #[] 113)) := (Below.refl _ _).alloc (Nat.le_refl _) _
      have T2 := T.below hA hz1
      have v0 := T2.cell 0 (v := .int .i64 4) rfl
      have v1 := T2.cell 1 (v := .int .i64 0) rfl
      have v2 := T2.cell 2 (v := .bool true) rfl
      have v3 := T2.cell 3 (v := .int .i64 0) rfl
      have HB := Lib.hid (btr hb hA)
      clear T T2 hA hb hz1
      go_wp2_with fail
      go_ret
      exact ⟨by rw [HV.out]; rfl, HB.out⟩
    · subst hp
      have hn' : (n == 0) = false := by simpa using hn
      have HV := Lib.hid (show exitOk (4, 0, false, n) = false from by simp [exitOk, hn])
      have HU := Lib.hid (fun V : World => impl_usedBy 4 0 false n V)
      rw [usedV_4] at HU
      have hb0 : Below w.heap.size w (w.alloc (.cells #[.int .i64 4, .int .i64 0, .bool false, .int .i64 n] 30)) := (Below.refl _ _).alloc (Nat.le_refl _) _
      have t0 : Var (w.alloc (.cells #[.int .i64 4, .int .i64 0, .bool false, .int .i64 n] 30)) w.heap.size [.int .i64 4, .int .i64 0, .bool false, .int .i64 n] := Var.new w [.int .i64 4, .int .i64 0, .bool false, .int .i64 n] 30
      have hz : w.heap.size < (w.alloc (.cells #[.int .i64 4, .int .i64 0, .bool false, .int .i64 n] 30)).heap.size := by simp
      go_enter Tryz.func86, Tryz.ntmps86
      go_wp2_with fail
      generalize w.alloc (.cells #[.int .i64 4, .int .i64 0, .bool false, .int .i64 n] 30) = W0 at t0 hb0 hz ⊢
      refine (HU.out _).mono ?_
      rintro e w1 ⟨rfl, hb1⟩
      have hb := btr hb0 hb1
      have T := t0.below hb1 hz
      have hz1 : w.heap.size < w1.heap.size := T.2
      clear hb0 hb1 t0 hz HU
      have as0 := as_halt_no (.agg #[])
      have as1 := as_halt_fault (.agg #[])
      have as2 := as_halt_call (.agg #[])
      have as3 := as_halt_out (.agg #[])
      have as4 := as_halt_halt (.agg #[])
      have hA : Below w1.heap.size w1 (w1.alloc (.cells #[] 113)) := (Below.refl _ _).alloc (Nat.le_refl _) _
      have T2 := T.below hA hz1
      have v0 := T2.cell 0 (v := .int .i64 4) rfl
      have v1 := T2.cell 1 (v := .int .i64 0) rfl
      have v2 := T2.cell 2 (v := .bool false) rfl
      have v3 := T2.cell 3 (v := .int .i64 n) rfl
      have HB := Lib.hid (btr hb hA)
      clear T T2 hA hb hz1
      go_wp2_with fail
      go_ret
      exact ⟨by rw [HV.out]; rfl, HB.out⟩
    · subst hp
      have hn' : (n == 0) = false := by simpa using hn
      have HV := Lib.hid (show exitOk (4, 0, true, n) = false from by simp [exitOk, hn])
      have HU := Lib.hid (fun V : World => impl_usedBy 4 0 true n V)
      rw [usedV_4] at HU
      have hb0 : Below w.heap.size w (w.alloc (.cells #[.int .i64 4, .int .i64 0, .bool true, .int .i64 n] 30)) := (Below.refl _ _).alloc (Nat.le_refl _) _
      have t0 : Var (w.alloc (.cells #[.int .i64 4, .int .i64 0, .bool true, .int .i64 n] 30)) w.heap.size [.int .i64 4, .int .i64 0, .bool true, .int .i64 n] := Var.new w [.int .i64 4, .int .i64 0, .bool true, .int .i64 n] 30
      have hz : w.heap.size < (w.alloc (.cells #[.int .i64 4, .int .i64 0, .bool true, .int .i64 n] 30)).heap.size := by simp
      go_enter Tryz.func86, Tryz.ntmps86
      go_wp2_with fail
      generalize w.alloc (.cells #[.int .i64 4, .int .i64 0, .bool true, .int .i64 n] 30) = W0 at t0 hb0 hz ⊢
      refine (HU.out _).mono ?_
      rintro e w1 ⟨rfl, hb1⟩
      have hb := btr hb0 hb1
      have T := t0.below hb1 hz
      have hz1 : w.heap.size < w1.heap.size := T.2
      clear hb0 hb1 t0 hz HU
      have as0 := as_halt_no (.agg #[])
      have as1 := as_halt_fault (.agg #[])
      have as2 := as_halt_call (.agg #[])
      have as3 := as_halt_out (.agg #[])
      have as4 := as_halt_halt (.agg #[])
      have hA : Below w1.heap.size w1 (w1.alloc (.cells #[] 113)) := (Below.refl _ _).alloc (Nat.le_refl _) _
      have T2 := T.below hA hz1
      have v0 := T2.cell 0 (v := .int .i64 4) rfl
      have v1 := T2.cell 1 (v := .int .i64 0) rfl
      have v2 := T2.cell 2 (v := .bool true) rfl
      have v3 := T2.cell 3 (v := .int .i64 n) rfl
      have HB := Lib.hid (btr hb hA)
      clear T T2 hA hb hz1
      go_wp2_with fail
      go_ret
      exact ⟨by rw [HV.out]; rfl, HB.out⟩
    · have hp' : (p == 0) = false := by simpa using hp
      subst hn
      have HV := Lib.hid (show exitOk (4, p, false, 0) = false from by simp [exitOk, hp])
      have HU := Lib.hid (fun V : World => impl_usedBy 4 p false 0 V)
      rw [usedV_4] at HU
      have hb0 : Below w.heap.size w (w.alloc (.cells #[.int .i64 4, .int .i64 p, .bool false, .int .i64 0] 30)) := (Below.refl _ _).alloc (Nat.le_refl _) _
      have t0 : Var (w.alloc (.cells #[.int .i64 4, .int .i64 p, .bool false, .int .i64 0] 30)) w.heap.size [.int .i64 4, .int .i64 p, .bool false, .int .i64 0] := Var.new w [.int .i64 4, .int .i64 p, .bool false, .int .i64 0] 30
      have hz : w.heap.size < (w.alloc (.cells #[.int .i64 4, .int .i64 p, .bool false, .int .i64 0] 30)).heap.size := by simp
      go_enter Tryz.func86, Tryz.ntmps86
      go_wp2_with fail
      generalize w.alloc (.cells #[.int .i64 4, .int .i64 p, .bool false, .int .i64 0] 30) = W0 at t0 hb0 hz ⊢
      refine (HU.out _).mono ?_
      rintro e w1 ⟨rfl, hb1⟩
      have hb := btr hb0 hb1
      have T := t0.below hb1 hz
      have hz1 : w.heap.size < w1.heap.size := T.2
      clear hb0 hb1 t0 hz HU
      have as0 := as_halt_no (.agg #[])
      have as1 := as_halt_fault (.agg #[])
      have as2 := as_halt_call (.agg #[])
      have as3 := as_halt_out (.agg #[])
      have as4 := as_halt_halt (.agg #[])
      have hA : Below w1.heap.size w1 (w1.alloc (.cells #[] 113)) := (Below.refl _ _).alloc (Nat.le_refl _) _
      have T2 := T.below hA hz1
      have v0 := T2.cell 0 (v := .int .i64 4) rfl
      have v1 := T2.cell 1 (v := .int .i64 p) rfl
      have v2 := T2.cell 2 (v := .bool false) rfl
      have v3 := T2.cell 3 (v := .int .i64 0) rfl
      have HB := Lib.hid (btr hb hA)
      clear T T2 hA hb hz1
      go_wp2_with fail
      go_ret
      exact ⟨by rw [HV.out]; rfl, HB.out⟩
    · have hp' : (p == 0) = false := by simpa using hp
      subst hn
      have HV := Lib.hid (show exitOk (4, p, true, 0) = false from by simp [exitOk, hp])
      have HU := Lib.hid (fun V : World => impl_usedBy 4 p true 0 V)
      rw [usedV_4] at HU
      have hb0 : Below w.heap.size w (w.alloc (.cells #[.int .i64 4, .int .i64 p, .bool true, .int .i64 0] 30)) := (Below.refl _ _).alloc (Nat.le_refl _) _
      have t0 : Var (w.alloc (.cells #[.int .i64 4, .int .i64 p, .bool true, .int .i64 0] 30)) w.heap.size [.int .i64 4, .int .i64 p, .bool true, .int .i64 0] := Var.new w [.int .i64 4, .int .i64 p, .bool true, .int .i64 0] 30
      have hz : w.heap.size < (w.alloc (.cells #[.int .i64 4, .int .i64 p, .bool true, .int .i64 0] 30)).heap.size := by simp
      go_enter Tryz.func86, Tryz.ntmps86
      go_wp2_with fail
      generalize w.alloc (.cells #[.int .i64 4, .int .i64 p, .bool true, .int .i64 0] 30) = W0 at t0 hb0 hz ⊢
      refine (HU.out _).mono ?_
      rintro e w1 ⟨rfl, hb1⟩
      have hb := btr hb0 hb1
      have T := t0.below hb1 hz
      have hz1 : w.heap.size < w1.heap.size := T.2
      clear hb0 hb1 t0 hz HU
      have as0 := as_halt_no (.agg #[])
      have as1 := as_halt_fault (.agg #[])
      have as2 := as_halt_call (.agg #[])
      have as3 := as_halt_out (.agg #[])
      have as4 := as_halt_halt (.agg #[])
      have hA : Below w1.heap.size w1 (w1.alloc (.cells #[] 113)) := (Below.refl _ _).alloc (Nat.le_refl _) _
      have T2 := T.below hA hz1
      have v0 := T2.cell 0 (v := .int .i64 4) rfl
      have v1 := T2.cell 1 (v := .int .i64 p) rfl
      have v2 := T2.cell 2 (v := .bool true) rfl
      have v3 := T2.cell 3 (v := .int .i64 0) rfl
      have HB := Lib.hid (btr hb hA)
      clear T T2 hA hb hz1
      go_wp2_with fail
      go_ret
      exact ⟨by rw [HV.out]; rfl, HB.out⟩
    · have hp' : (p == 0) = false := by simpa using hp
      have hn' : (n == 0) = false := by simpa using hn
      have HV := Lib.hid (show exitOk (4, p, false, n) = false from by simp [exitOk, hp, hn])
      have HU := Lib.hid (fun V : World => impl_usedBy 4 p false n V)
      rw [usedV_4] at HU
      have hb0 : Below w.heap.size w (w.alloc (.cells #[.int .i64 4, .int .i64 p, .bool false, .int .i64 n] 30)) := (Below.refl _ _).alloc (Nat.le_refl _) _
      have t0 : Var (w.alloc (.cells #[.int .i64 4, .int .i64 p, .bool false, .int .i64 n] 30)) w.heap.size [.int .i64 4, .int .i64 p, .bool false, .int .i64 n] := Var.new w [.int .i64 4, .int .i64 p, .bool false, .int .i64 n] 30
      have hz : w.heap.size < (w.alloc (.cells #[.int .i64 4, .int .i64 p, .bool false, .int .i64 n] 30)).heap.size := by simp
      go_enter Tryz.func86, Tryz.ntmps86
      go_wp2_with fail
      generalize w.alloc (.cells #[.int .i64 4, .int .i64 p, .bool false, .int .i64 n] 30) = W0 at t0 hb0 hz ⊢
      refine (HU.out _).mono ?_
      rintro e w1 ⟨rfl, hb1⟩
      have hb := btr hb0 hb1
      have T := t0.below hb1 hz
      have hz1 : w.heap.size < w1.heap.size := T.2
      clear hb0 hb1 t0 hz HU
      have as0 := as_halt_no (.agg #[])
      have as1 := as_halt_fault (.agg #[])
      have as2 := as_halt_call (.agg #[])
      have as3 := as_halt_out (.agg #[])
      have as4 := as_halt_halt (.agg #[])
      have hA : Below w1.heap.size w1 (w1.alloc (.cells #[] 113)) := (Below.refl _ _).alloc (Nat.le_refl _) _
      have T2 := T.below hA hz1
      have v0 := T2.cell 0 (v := .int .i64 4) rfl
      have v1 := T2.cell 1 (v := .int .i64 p) rfl
      have v2 := T2.cell 2 (v := .bool false) rfl
      have v3 := T2.cell 3 (v := .int .i64 n) rfl
      have HB := Lib.hid (btr hb hA)
      clear T T2 hA hb hz1
      go_wp2_with fail
      go_ret
      exact ⟨by rw [HV.out]; rfl, HB.out⟩
    · have hp' : (p == 0) = false := by simpa using hp
      have hn' : (n == 0) = false := by simpa using hn
      have HV := Lib.hid (show exitOk (4, p, true, n) = false from by simp [exitOk, hp, hn])
      have HU := Lib.hid (fun V : World => impl_usedBy 4 p true n V)
      rw [usedV_4] at HU
      have hb0 : Below w.heap.size w (w.alloc (.cells #[.int .i64 4, .int .i64 p, .bool true, .int .i64 n] 30)) := (Below.refl _ _).alloc (Nat.le_refl _) _
      have t0 : Var (w.alloc (.cells #[.int .i64 4, .int .i64 p, .bool true, .int .i64 n] 30)) w.heap.size [.int .i64 4, .int .i64 p, .bool true, .int .i64 n] := Var.new w [.int .i64 4, .int .i64 p, .bool true, .int .i64 n] 30
      have hz : w.heap.size < (w.alloc (.cells #[.int .i64 4, .int .i64 p, .bool true, .int .i64 n] 30)).heap.size := by simp
      go_enter Tryz.func86, Tryz.ntmps86
      go_wp2_with fail
      generalize w.alloc (.cells #[.int .i64 4, .int .i64 p, .bool true, .int .i64 n] 30) = W0 at t0 hb0 hz ⊢
      refine (HU.out _).mono ?_
      rintro e w1 ⟨rfl, hb1⟩
      have hb := btr hb0 hb1
      have T := t0.below hb1 hz
      have hz1 : w.heap.size < w1.heap.size := T.2
      clear hb0 hb1 t0 hz HU
      have as0 := as_halt_no (.agg #[])
      have as1 := as_halt_fault (.agg #[])
      have as2 := as_halt_call (.agg #[])
      have as3 := as_halt_out (.agg #[])
      have as4 := as_halt_halt (.agg #[])
      have hA : Below w1.heap.size w1 (w1.alloc (.cells #[] 113)) := (Below.refl _ _).alloc (Nat.le_refl _) _
      have T2 := T.below hA hz1
      have v0 := T2.cell 0 (v := .int .i64 4) rfl
      have v1 := T2.cell 1 (v := .int .i64 p) rfl
      have v2 := T2.cell 2 (v := .bool true) rfl
      have v3 := T2.cell 3 (v := .int .i64 n) rfl
      have HB := Lib.hid (btr hb hA)
      clear T T2 hA hb hz1
      go_wp2_with fail
      go_ret
      exact ⟨by rw [HV.out]; rfl, HB.out⟩
  · have HM := Lib.hid (fun V : World => impl_fault' p q V)
    unfold ExitP at HM
    dsimp only at HM
    by_cases h0 : p < 0
    · have HV := Lib.hid (show exitOk (1, p, q, n) = false from by simp [exitOk, inB_false.2 (show p < 0 ∨ 3 < p from .inl h0)])
      have h9 : ¬ p ≥ 0 := by omega
      have h8 : decide (p ≥ 0) = false := decide_eq_false h9
      clear h0 HM
      have HU := Lib.hid (fun V : World => impl_usedBy 1 p q n V)
      rw [usedV_1] at HU
      have hb0 : Below w.heap.size w (w.alloc (.cells #[.int .i64 1, .int .i64 p, .bool q, .int .i64 n] 30)) := (Below.refl _ _).alloc (Nat.le_refl _) _
      have t0 : Var (w.alloc (.cells #[.int .i64 1, .int .i64 p, .bool q, .int .i64 n] 30)) w.heap.size [.int .i64 1, .int .i64 p, .bool q, .int .i64 n] := Var.new w [.int .i64 1, .int .i64 p, .bool q, .int .i64 n] 30
      have hz : w.heap.size < (w.alloc (.cells #[.int .i64 1, .int .i64 p, .bool q, .int .i64 n] 30)).heap.size := by simp
      go_enter Tryz.func86, Tryz.ntmps86
      go_wp2_with fail
      generalize w.alloc (.cells #[.int .i64 1, .int .i64 p, .bool q, .int .i64 n] 30) = W0 at t0 hb0 hz ⊢
      refine (HU.out _).mono ?_
      rintro e w1 ⟨rfl, hb1⟩
      have hb := btr hb0 hb1
      have T := t0.below hb1 hz
      have hz1 : w.heap.size < w1.heap.size := T.2
      clear hb0 hb1 t0 hz HU
      have as0 := as_fault_no (.agg #[.int .i64 p, .bool q])
      have as1 := as_fault_fault (.agg #[.int .i64 p, .bool q])
      have t2 : Var (w1.alloc (.cells #[.int .i64 p, .bool q] 109)) w1.heap.size [.int .i64 p, .bool q] := Var.new w1 [.int .i64 p, .bool q] 109
      have hA : Below w1.heap.size w1 (w1.alloc (.cells #[.int .i64 p, .bool q] 109)) := (Below.refl _ _).alloc (Nat.le_refl _) _
      have hB2 := btr hb hA
      have T2 := T.below hA hz1
      have hz2 : w1.heap.size < (w1.alloc (.cells #[.int .i64 p, .bool q] 109)).heap.size := by simp
      have hz3 : w.heap.size < (w1.alloc (.cells #[.int .i64 p, .bool q] 109)).heap.size := Nat.lt_trans hz1 hz2
      clear T hA hb
      go_wp2_with fail
      generalize w1.alloc (.cells #[.int .i64 p, .bool q] 109) = W2 at t2 T2 hB2 hz2 hz3 ⊢
      refine Ord.wp_region_ord (fun w' => w'.cell? ⟨w.heap.size, 0, none⟩ = some (.int .i64 1) ∧ w'.cell? ⟨w.heap.size, 1, none⟩ = some (.int .i64 p) ∧ w'.cell? ⟨w.heap.size, 2, none⟩ = some (.bool q) ∧ w'.cell? ⟨w.heap.size, 3, none⟩ = some (.int .i64 n) ∧ w'.cell? ⟨w1.heap.size, 0, none⟩ = some (.int .i64 p) ∧ w'.cell? ⟨w1.heap.size, 1, none⟩ = some (.bool q)) [(0, true), (1, true), (2, true), (3, true), (4, true), (5, true), (6, true), (7, true), (8, true), (9, true), (10, true), (11, true), (12, true), (13, true), (14, false), (15, true), (16, true), (17, true)] (by kernel_rfl) (by kernel_rfl) rfl (by kernel_rfl) (⟨T2.cell 0 (v := .int .i64 1) rfl, T2.cell 1 (v := .int .i64 p) rfl, T2.cell 2 (v := .bool q) rfl, T2.cell 3 (v := .int .i64 n) rfl, t2.cell 0 (v := .int .i64 p) rfl, t2.cell 1 (v := .bool q) rfl⟩) ?_
      simp only [Ord.ordOps, List.getElem?_toArray, List.getElem?_cons_zero, List.getElem?_cons_succ]
      repeat (first
        | (refine Ord.ord_plain (v := ?_) rfl (fun w' hS => ?_) ?_; rotate_left; (focus ((try dsimp only at hS); go_simp; first | done | with_reducible rfl)); simp only [Act.put, List.setIfInBounds_toArray, List.set_cons_zero, List.set_cons_succ])
        | (refine Ord.ord_skip (by rfl) ?_; simp only [Act.put, List.setIfInBounds_toArray, List.set_cons_zero, List.set_cons_succ])
        | (refine Ord.ord_take (v := ?_) (by rfl) (fun w' hS => ?_) ?_; rotate_left; (focus ((try dsimp only at hS); go_simp; first | done | with_reducible rfl)); simp only [Act.put, List.setIfInBounds_toArray, List.set_cons_zero, List.set_cons_succ]))
      have hbd : Below W2.heap.size W2 W2.drew := (Below.refl _ _).drew
      have hB3 := btr hB2 hbd
      have T3 := T2.below hbd hz3
      have t3 := t2.below hbd hz2
      have hz4 : W2.heap.size ≤ W2.drew.heap.size := hbd.size
      clear hbd
      refine Ord.ord_not (by rfl) (fun K hK => ?_)
      simp only [Act.put, List.setIfInBounds_toArray, List.set_cons_zero, List.set_cons_succ]
      refine hK.out _ _ (⟨T3.cell 0 (v := .int .i64 1) rfl, T3.cell 1 (v := .int .i64 p) rfl, T3.cell 2 (v := .bool q) rfl, T3.cell 3 (v := .int .i64 n) rfl, t3.cell 0 (v := .int .i64 p) rfl, t3.cell 1 (v := .bool q) rfl⟩) ?_
      clear hK K
      repeat (first
        | (refine Ord.ord_plain (v := ?_) rfl (fun w' hS => ?_) ?_; rotate_left; (focus ((try dsimp only at hS); go_simp; first | done | with_reducible rfl)); simp only [Act.put, List.setIfInBounds_toArray, List.set_cons_zero, List.set_cons_succ])
        | (refine Ord.ord_skip (by rfl) ?_; simp only [Act.put, List.setIfInBounds_toArray, List.set_cons_zero, List.set_cons_succ])
        | (refine Ord.ord_take (v := ?_) (by rfl) (fun w' hS => ?_) ?_; rotate_left; (focus ((try dsimp only at hS); go_simp; first | done | with_reducible rfl)); simp only [Act.put, List.setIfInBounds_toArray, List.set_cons_zero, List.set_cons_succ]))
      refine Ord.ord_nil ?_
      have HBF := Lib.hid hB3
      clear hB2 hB3
      go_wp2_with fail
      go_ret
      exact ⟨by rw [HV.out]; rfl, HBF.out⟩
    · by_cases h1 : p < 4
      · by_cases hn : n = 0
        · subst hn
          have HV := Lib.hid (show exitOk (1, p, q, 0) = true from by simp [exitOk, inB_iff.2 (show 0 ≤ p ∧ p ≤ 3 from ⟨by omega, by omega⟩)])
          have h9 : p ≥ 0 := by omega
          clear h0
          have HU := Lib.hid (fun V : World => impl_usedBy 1 p q 0 V)
          rw [usedV_1] at HU
          have hb0 : Below w.heap.size w (w.alloc (.cells #[.int .i64 1, .int .i64 p, .bool q, .int .i64 0] 30)) := (Below.refl _ _).alloc (Nat.le_refl _) _
          have t0 : Var (w.alloc (.cells #[.int .i64 1, .int .i64 p, .bool q, .int .i64 0] 30)) w.heap.size [.int .i64 1, .int .i64 p, .bool q, .int .i64 0] := Var.new w [.int .i64 1, .int .i64 p, .bool q, .int .i64 0] 30
          have hz : w.heap.size < (w.alloc (.cells #[.int .i64 1, .int .i64 p, .bool q, .int .i64 0] 30)).heap.size := by simp
          go_enter Tryz.func86, Tryz.ntmps86
          go_wp2_with fail
          generalize w.alloc (.cells #[.int .i64 1, .int .i64 p, .bool q, .int .i64 0] 30) = W0 at t0 hb0 hz ⊢
          refine (HU.out _).mono ?_
          rintro e w1 ⟨rfl, hb1⟩
          have hb := btr hb0 hb1
          have T := t0.below hb1 hz
          have hz1 : w.heap.size < w1.heap.size := T.2
          clear hb0 hb1 t0 hz HU
          have as0 := as_fault_no (.agg #[.int .i64 p, .bool q])
          have as1 := as_fault_fault (.agg #[.int .i64 p, .bool q])
          have t2 : Var (w1.alloc (.cells #[.int .i64 p, .bool q] 109)) w1.heap.size [.int .i64 p, .bool q] := Var.new w1 [.int .i64 p, .bool q] 109
          have hA : Below w1.heap.size w1 (w1.alloc (.cells #[.int .i64 p, .bool q] 109)) := (Below.refl _ _).alloc (Nat.le_refl _) _
          have hB2 := btr hb hA
          have T2 := T.below hA hz1
          have hz2 : w1.heap.size < (w1.alloc (.cells #[.int .i64 p, .bool q] 109)).heap.size := by simp
          have hz3 : w.heap.size < (w1.alloc (.cells #[.int .i64 p, .bool q] 109)).heap.size := Nat.lt_trans hz1 hz2
          clear T hA hb
          go_wp2_with fail
          generalize w1.alloc (.cells #[.int .i64 p, .bool q] 109) = W2 at t2 T2 hB2 hz2 hz3 ⊢
          refine Ord.wp_region_ord (fun w' => w'.cell? ⟨w.heap.size, 0, none⟩ = some (.int .i64 1) ∧ w'.cell? ⟨w.heap.size, 1, none⟩ = some (.int .i64 p) ∧ w'.cell? ⟨w.heap.size, 2, none⟩ = some (.bool q) ∧ w'.cell? ⟨w.heap.size, 3, none⟩ = some (.int .i64 0) ∧ w'.cell? ⟨w1.heap.size, 0, none⟩ = some (.int .i64 p) ∧ w'.cell? ⟨w1.heap.size, 1, none⟩ = some (.bool q)) [(0, true), (1, true), (2, true), (3, true), (4, true), (5, true), (6, true), (7, true), (8, true), (9, true), (10, true), (11, true), (12, true), (13, true), (14, false), (15, true), (16, true), (17, true)] (by kernel_rfl) (by kernel_rfl) rfl (by kernel_rfl) (⟨T2.cell 0 (v := .int .i64 1) rfl, T2.cell 1 (v := .int .i64 p) rfl, T2.cell 2 (v := .bool q) rfl, T2.cell 3 (v := .int .i64 0) rfl, t2.cell 0 (v := .int .i64 p) rfl, t2.cell 1 (v := .bool q) rfl⟩) ?_
          simp only [Ord.ordOps, List.getElem?_toArray, List.getElem?_cons_zero, List.getElem?_cons_succ]
          repeat (first
            | (refine Ord.ord_plain (v := ?_) rfl (fun w' hS => ?_) ?_; rotate_left; (focus ((try dsimp only at hS); go_simp; first | done | with_reducible rfl)); simp only [Act.put, List.setIfInBounds_toArray, List.set_cons_zero, List.set_cons_succ])
            | (refine Ord.ord_skip (by rfl) ?_; simp only [Act.put, List.setIfInBounds_toArray, List.set_cons_zero, List.set_cons_succ])
            | (refine Ord.ord_take (v := ?_) (by rfl) (fun w' hS => ?_) ?_; rotate_left; (focus ((try dsimp only at hS); go_simp; first | done | with_reducible rfl)); simp only [Act.put, List.setIfInBounds_toArray, List.set_cons_zero, List.set_cons_succ]))
          have hbd : Below W2.heap.size W2 W2.drew := (Below.refl _ _).drew
          have hB3 := btr hB2 hbd
          have T3 := T2.below hbd hz3
          have t3 := t2.below hbd hz2
          have hz4 : W2.heap.size ≤ W2.drew.heap.size := hbd.size
          clear hbd
          refine Ord.ord_call (fun K hK => ?_)
          go_simp
          refine (HM.out _).mono ?_
          rintro e v4' ⟨rfl, hb4⟩
          have hB4 := btr hB3 hb4
          have T4 := T3.below hb4 (by omega)
          have t4 := t3.below hb4 (by omega)
          have hy4 := hb4.size
          refine hK.out _ _ (⟨T4.cell 0 (v := .int .i64 1) rfl, T4.cell 1 (v := .int .i64 p) rfl, T4.cell 2 (v := .bool q) rfl, T4.cell 3 (v := .int .i64 0) rfl, t4.cell 0 (v := .int .i64 p) rfl, t4.cell 1 (v := .bool q) rfl⟩) ?_
          clear hK K
          repeat (first
            | (refine Ord.ord_plain (v := ?_) rfl (fun w' hS => ?_) ?_; rotate_left; (focus ((try dsimp only at hS); go_simp; first | done | with_reducible rfl)); simp only [Act.put, List.setIfInBounds_toArray, List.set_cons_zero, List.set_cons_succ])
            | (refine Ord.ord_skip (by rfl) ?_; simp only [Act.put, List.setIfInBounds_toArray, List.set_cons_zero, List.set_cons_succ])
            | (refine Ord.ord_take (v := ?_) (by rfl) (fun w' hS => ?_) ?_; rotate_left; (focus ((try dsimp only at hS); go_simp; first | done | with_reducible rfl)); simp only [Act.put, List.setIfInBounds_toArray, List.set_cons_zero, List.set_cons_succ]))
          refine Ord.ord_nil ?_
          have HBF := Lib.hid hB4
          clear hB2 hB3 hB4
          go_wp2_with fail
          go_ret
          exact ⟨by rw [HV.out]; rfl, HBF.out⟩
        · have hn' : (n == 0) = false := by simpa using hn
          have HV := Lib.hid (show exitOk (1, p, q, n) = false from by simp [exitOk, inB_iff.2 (show 0 ≤ p ∧ p ≤ 3 from ⟨by omega, by omega⟩), hn])
          have h9 : p ≥ 0 := by omega
          clear h0 hn
          have HU := Lib.hid (fun V : World => impl_usedBy 1 p q n V)
          rw [usedV_1] at HU
          have hb0 : Below w.heap.size w (w.alloc (.cells #[.int .i64 1, .int .i64 p, .bool q, .int .i64 n] 30)) := (Below.refl _ _).alloc (Nat.le_refl _) _
          have t0 : Var (w.alloc (.cells #[.int .i64 1, .int .i64 p, .bool q, .int .i64 n] 30)) w.heap.size [.int .i64 1, .int .i64 p, .bool q, .int .i64 n] := Var.new w [.int .i64 1, .int .i64 p, .bool q, .int .i64 n] 30
          have hz : w.heap.size < (w.alloc (.cells #[.int .i64 1, .int .i64 p, .bool q, .int .i64 n] 30)).heap.size := by simp
          go_enter Tryz.func86, Tryz.ntmps86
          go_wp2_with fail
          generalize w.alloc (.cells #[.int .i64 1, .int .i64 p, .bool q, .int .i64 n] 30) = W0 at t0 hb0 hz ⊢
          refine (HU.out _).mono ?_
          rintro e w1 ⟨rfl, hb1⟩
          have hb := btr hb0 hb1
          have T := t0.below hb1 hz
          have hz1 : w.heap.size < w1.heap.size := T.2
          clear hb0 hb1 t0 hz HU
          have as0 := as_fault_no (.agg #[.int .i64 p, .bool q])
          have as1 := as_fault_fault (.agg #[.int .i64 p, .bool q])
          have t2 : Var (w1.alloc (.cells #[.int .i64 p, .bool q] 109)) w1.heap.size [.int .i64 p, .bool q] := Var.new w1 [.int .i64 p, .bool q] 109
          have hA : Below w1.heap.size w1 (w1.alloc (.cells #[.int .i64 p, .bool q] 109)) := (Below.refl _ _).alloc (Nat.le_refl _) _
          have hB2 := btr hb hA
          have T2 := T.below hA hz1
          have hz2 : w1.heap.size < (w1.alloc (.cells #[.int .i64 p, .bool q] 109)).heap.size := by simp
          have hz3 : w.heap.size < (w1.alloc (.cells #[.int .i64 p, .bool q] 109)).heap.size := Nat.lt_trans hz1 hz2
          clear T hA hb
          go_wp2_with fail
          generalize w1.alloc (.cells #[.int .i64 p, .bool q] 109) = W2 at t2 T2 hB2 hz2 hz3 ⊢
          refine Ord.wp_region_ord (fun w' => w'.cell? ⟨w.heap.size, 0, none⟩ = some (.int .i64 1) ∧ w'.cell? ⟨w.heap.size, 1, none⟩ = some (.int .i64 p) ∧ w'.cell? ⟨w.heap.size, 2, none⟩ = some (.bool q) ∧ w'.cell? ⟨w.heap.size, 3, none⟩ = some (.int .i64 n) ∧ w'.cell? ⟨w1.heap.size, 0, none⟩ = some (.int .i64 p) ∧ w'.cell? ⟨w1.heap.size, 1, none⟩ = some (.bool q)) [(0, true), (1, true), (2, true), (3, true), (4, true), (5, true), (6, true), (7, true), (8, true), (9, true), (10, true), (11, true), (12, true), (13, true), (14, false), (15, true), (16, true), (17, true)] (by kernel_rfl) (by kernel_rfl) rfl (by kernel_rfl) (⟨T2.cell 0 (v := .int .i64 1) rfl, T2.cell 1 (v := .int .i64 p) rfl, T2.cell 2 (v := .bool q) rfl, T2.cell 3 (v := .int .i64 n) rfl, t2.cell 0 (v := .int .i64 p) rfl, t2.cell 1 (v := .bool q) rfl⟩) ?_
          simp only [Ord.ordOps, List.getElem?_toArray, List.getElem?_cons_zero, List.getElem?_cons_succ]
          repeat (first
            | (refine Ord.ord_plain (v := ?_) rfl (fun w' hS => ?_) ?_; rotate_left; (focus ((try dsimp only at hS); go_simp; first | done | with_reducible rfl)); simp only [Act.put, List.setIfInBounds_toArray, List.set_cons_zero, List.set_cons_succ])
            | (refine Ord.ord_skip (by rfl) ?_; simp only [Act.put, List.setIfInBounds_toArray, List.set_cons_zero, List.set_cons_succ])
            | (refine Ord.ord_take (v := ?_) (by rfl) (fun w' hS => ?_) ?_; rotate_left; (focus ((try dsimp only at hS); go_simp; first | done | with_reducible rfl)); simp only [Act.put, List.setIfInBounds_toArray, List.set_cons_zero, List.set_cons_succ]))
          have hbd : Below W2.heap.size W2 W2.drew := (Below.refl _ _).drew
          have hB3 := btr hB2 hbd
          have T3 := T2.below hbd hz3
          have t3 := t2.below hbd hz2
          have hz4 : W2.heap.size ≤ W2.drew.heap.size := hbd.size
          clear hbd
          refine Ord.ord_call (fun K hK => ?_)
          go_simp
          refine (HM.out _).mono ?_
          rintro e v4' ⟨rfl, hb4⟩
          have hB4 := btr hB3 hb4
          have T4 := T3.below hb4 (by omega)
          have t4 := t3.below hb4 (by omega)
          have hy4 := hb4.size
          refine hK.out _ _ (⟨T4.cell 0 (v := .int .i64 1) rfl, T4.cell 1 (v := .int .i64 p) rfl, T4.cell 2 (v := .bool q) rfl, T4.cell 3 (v := .int .i64 n) rfl, t4.cell 0 (v := .int .i64 p) rfl, t4.cell 1 (v := .bool q) rfl⟩) ?_
          clear hK K
          repeat (first
            | (refine Ord.ord_plain (v := ?_) rfl (fun w' hS => ?_) ?_; rotate_left; (focus ((try dsimp only at hS); go_simp; first | done | with_reducible rfl)); simp only [Act.put, List.setIfInBounds_toArray, List.set_cons_zero, List.set_cons_succ])
            | (refine Ord.ord_skip (by rfl) ?_; simp only [Act.put, List.setIfInBounds_toArray, List.set_cons_zero, List.set_cons_succ])
            | (refine Ord.ord_take (v := ?_) (by rfl) (fun w' hS => ?_) ?_; rotate_left; (focus ((try dsimp only at hS); go_simp; first | done | with_reducible rfl)); simp only [Act.put, List.setIfInBounds_toArray, List.set_cons_zero, List.set_cons_succ]))
          refine Ord.ord_nil ?_
          have HBF := Lib.hid hB4
          clear hB2 hB3 hB4
          go_wp2_with fail
          go_ret
          exact ⟨by rw [HV.out]; rfl, HBF.out⟩
      · have HV := Lib.hid (show exitOk (1, p, q, n) = false from by simp [exitOk, inB_false.2 (show p < 0 ∨ 3 < p from .inr (by omega))])
        have h9 : p ≥ 0 := by omega
        have h8 : decide (p < 4) = false := decide_eq_false h1
        clear h0 HM
        have HU := Lib.hid (fun V : World => impl_usedBy 1 p q n V)
        rw [usedV_1] at HU
        have hb0 : Below w.heap.size w (w.alloc (.cells #[.int .i64 1, .int .i64 p, .bool q, .int .i64 n] 30)) := (Below.refl _ _).alloc (Nat.le_refl _) _
        have t0 : Var (w.alloc (.cells #[.int .i64 1, .int .i64 p, .bool q, .int .i64 n] 30)) w.heap.size [.int .i64 1, .int .i64 p, .bool q, .int .i64 n] := Var.new w [.int .i64 1, .int .i64 p, .bool q, .int .i64 n] 30
        have hz : w.heap.size < (w.alloc (.cells #[.int .i64 1, .int .i64 p, .bool q, .int .i64 n] 30)).heap.size := by simp
        go_enter Tryz.func86, Tryz.ntmps86
        go_wp2_with fail
        generalize w.alloc (.cells #[.int .i64 1, .int .i64 p, .bool q, .int .i64 n] 30) = W0 at t0 hb0 hz ⊢
        refine (HU.out _).mono ?_
        rintro e w1 ⟨rfl, hb1⟩
        have hb := btr hb0 hb1
        have T := t0.below hb1 hz
        have hz1 : w.heap.size < w1.heap.size := T.2
        clear hb0 hb1 t0 hz HU
        have as0 := as_fault_no (.agg #[.int .i64 p, .bool q])
        have as1 := as_fault_fault (.agg #[.int .i64 p, .bool q])
        have t2 : Var (w1.alloc (.cells #[.int .i64 p, .bool q] 109)) w1.heap.size [.int .i64 p, .bool q] := Var.new w1 [.int .i64 p, .bool q] 109
        have hA : Below w1.heap.size w1 (w1.alloc (.cells #[.int .i64 p, .bool q] 109)) := (Below.refl _ _).alloc (Nat.le_refl _) _
        have hB2 := btr hb hA
        have T2 := T.below hA hz1
        have hz2 : w1.heap.size < (w1.alloc (.cells #[.int .i64 p, .bool q] 109)).heap.size := by simp
        have hz3 : w.heap.size < (w1.alloc (.cells #[.int .i64 p, .bool q] 109)).heap.size := Nat.lt_trans hz1 hz2
        clear T hA hb
        go_wp2_with fail
        generalize w1.alloc (.cells #[.int .i64 p, .bool q] 109) = W2 at t2 T2 hB2 hz2 hz3 ⊢
        refine Ord.wp_region_ord (fun w' => w'.cell? ⟨w.heap.size, 0, none⟩ = some (.int .i64 1) ∧ w'.cell? ⟨w.heap.size, 1, none⟩ = some (.int .i64 p) ∧ w'.cell? ⟨w.heap.size, 2, none⟩ = some (.bool q) ∧ w'.cell? ⟨w.heap.size, 3, none⟩ = some (.int .i64 n) ∧ w'.cell? ⟨w1.heap.size, 0, none⟩ = some (.int .i64 p) ∧ w'.cell? ⟨w1.heap.size, 1, none⟩ = some (.bool q)) [(0, true), (1, true), (2, true), (3, true), (4, true), (5, true), (6, true), (7, true), (8, true), (9, true), (10, true), (11, true), (12, true), (13, true), (14, false), (15, true), (16, true), (17, true)] (by kernel_rfl) (by kernel_rfl) rfl (by kernel_rfl) (⟨T2.cell 0 (v := .int .i64 1) rfl, T2.cell 1 (v := .int .i64 p) rfl, T2.cell 2 (v := .bool q) rfl, T2.cell 3 (v := .int .i64 n) rfl, t2.cell 0 (v := .int .i64 p) rfl, t2.cell 1 (v := .bool q) rfl⟩) ?_
        simp only [Ord.ordOps, List.getElem?_toArray, List.getElem?_cons_zero, List.getElem?_cons_succ]
        repeat (first
          | (refine Ord.ord_plain (v := ?_) rfl (fun w' hS => ?_) ?_; rotate_left; (focus ((try dsimp only at hS); go_simp; first | done | with_reducible rfl)); simp only [Act.put, List.setIfInBounds_toArray, List.set_cons_zero, List.set_cons_succ])
          | (refine Ord.ord_skip (by rfl) ?_; simp only [Act.put, List.setIfInBounds_toArray, List.set_cons_zero, List.set_cons_succ])
          | (refine Ord.ord_take (v := ?_) (by rfl) (fun w' hS => ?_) ?_; rotate_left; (focus ((try dsimp only at hS); go_simp; first | done | with_reducible rfl)); simp only [Act.put, List.setIfInBounds_toArray, List.set_cons_zero, List.set_cons_succ]))
        have hbd : Below W2.heap.size W2 W2.drew := (Below.refl _ _).drew
        have hB3 := btr hB2 hbd
        have T3 := T2.below hbd hz3
        have t3 := t2.below hbd hz2
        have hz4 : W2.heap.size ≤ W2.drew.heap.size := hbd.size
        clear hbd
        refine Ord.ord_not (by rfl) (fun K hK => ?_)
        simp only [Act.put, List.setIfInBounds_toArray, List.set_cons_zero, List.set_cons_succ]
        refine hK.out _ _ (⟨T3.cell 0 (v := .int .i64 1) rfl, T3.cell 1 (v := .int .i64 p) rfl, T3.cell 2 (v := .bool q) rfl, T3.cell 3 (v := .int .i64 n) rfl, t3.cell 0 (v := .int .i64 p) rfl, t3.cell 1 (v := .bool q) rfl⟩) ?_
        clear hK K
        repeat (first
          | (refine Ord.ord_plain (v := ?_) rfl (fun w' hS => ?_) ?_; rotate_left; (focus ((try dsimp only at hS); go_simp; first | done | with_reducible rfl)); simp only [Act.put, List.setIfInBounds_toArray, List.set_cons_zero, List.set_cons_succ])
          | (refine Ord.ord_skip (by rfl) ?_; simp only [Act.put, List.setIfInBounds_toArray, List.set_cons_zero, List.set_cons_succ])
          | (refine Ord.ord_take (v := ?_) (by rfl) (fun w' hS => ?_) ?_; rotate_left; (focus ((try dsimp only at hS); go_simp; first | done | with_reducible rfl)); simp only [Act.put, List.setIfInBounds_toArray, List.set_cons_zero, List.set_cons_succ]))
        refine Ord.ord_nil ?_
        have HBF := Lib.hid hB3
        clear hB2 hB3
        go_wp2_with fail
        go_ret
        exact ⟨by rw [HV.out]; rfl, HBF.out⟩
  · have HM := Lib.hid (fun V : World => impl_call' n V)
    unfold ExitP at HM
    dsimp only at HM
    have hC := fun V : World => impl_cellOkE n V
    cases hi : inB n 0 99
    · have HV := Lib.hid (show exitOk (2, p, q, n) = false from by simp [exitOk, hi])
      rw [hi] at hC
      have HC := Lib.hid hC
      clear hC HM hi
      have HU := Lib.hid (fun V : World => impl_usedBy 2 p q n V)
      rw [usedV_2] at HU
      have hb0 : Below w.heap.size w (w.alloc (.cells #[.int .i64 2, .int .i64 p, .bool q, .int .i64 n] 30)) := (Below.refl _ _).alloc (Nat.le_refl _) _
      have t0 : Var (w.alloc (.cells #[.int .i64 2, .int .i64 p, .bool q, .int .i64 n] 30)) w.heap.size [.int .i64 2, .int .i64 p, .bool q, .int .i64 n] := Var.new w [.int .i64 2, .int .i64 p, .bool q, .int .i64 n] 30
      have hz : w.heap.size < (w.alloc (.cells #[.int .i64 2, .int .i64 p, .bool q, .int .i64 n] 30)).heap.size := by simp
      go_enter Tryz.func86, Tryz.ntmps86
      go_wp2_with fail
      generalize w.alloc (.cells #[.int .i64 2, .int .i64 p, .bool q, .int .i64 n] 30) = W0 at t0 hb0 hz ⊢
      refine (HU.out _).mono ?_
      rintro e w1 ⟨rfl, hb1⟩
      have hb := btr hb0 hb1
      have T := t0.below hb1 hz
      have hz1 : w.heap.size < w1.heap.size := T.2
      clear hb0 hb1 t0 hz HU
      have as0 := as_call_no (.agg #[.int .i64 n])
      have as1 := as_call_fault (.agg #[.int .i64 n])
      have as2 := as_call_call (.agg #[.int .i64 n])
      have t2 : Var (w1.alloc (.cells #[.int .i64 n] 111)) w1.heap.size [.int .i64 n] := Var.new w1 [.int .i64 n] 111
      have hA : Below w1.heap.size w1 (w1.alloc (.cells #[.int .i64 n] 111)) := (Below.refl _ _).alloc (Nat.le_refl _) _
      have hB2 := btr hb hA
      have T2 := T.below hA hz1
      have hz2 : w1.heap.size < (w1.alloc (.cells #[.int .i64 n] 111)).heap.size := by simp
      have hz3 : w.heap.size < (w1.alloc (.cells #[.int .i64 n] 111)).heap.size := Nat.lt_trans hz1 hz2
      clear T hA hb
      go_wp2_with fail
      generalize w1.alloc (.cells #[.int .i64 n] 111) = W2 at t2 T2 hB2 hz2 hz3 ⊢
      refine Ord.wp_region_ord (fun w' => w'.cell? ⟨w.heap.size, 0, none⟩ = some (.int .i64 2) ∧ w'.cell? ⟨w.heap.size, 1, none⟩ = some (.int .i64 p) ∧ w'.cell? ⟨w.heap.size, 2, none⟩ = some (.bool q) ∧ w'.cell? ⟨w.heap.size, 3, none⟩ = some (.int .i64 n) ∧ w'.cell? ⟨w1.heap.size, 0, none⟩ = some (.int .i64 n)) [(0, true), (1, true), (2, false), (3, true), (4, true), (5, true), (6, true), (7, false), (8, true), (9, true), (10, true)] (by kernel_rfl) (by kernel_rfl) rfl (by kernel_rfl) (⟨T2.cell 0 (v := .int .i64 2) rfl, T2.cell 1 (v := .int .i64 p) rfl, T2.cell 2 (v := .bool q) rfl, T2.cell 3 (v := .int .i64 n) rfl, t2.cell 0 (v := .int .i64 n) rfl⟩) ?_
      simp only [Ord.ordOps, List.getElem?_toArray, List.getElem?_cons_zero, List.getElem?_cons_succ]
      repeat (first
        | (refine Ord.ord_plain (v := ?_) rfl (fun w' hS => ?_) ?_; rotate_left; (focus ((try dsimp only at hS); go_simp; first | done | with_reducible rfl)); simp only [Act.put, List.setIfInBounds_toArray, List.set_cons_zero, List.set_cons_succ])
        | (refine Ord.ord_skip (by rfl) ?_; simp only [Act.put, List.setIfInBounds_toArray, List.set_cons_zero, List.set_cons_succ])
        | (refine Ord.ord_take (v := ?_) (by rfl) (fun w' hS => ?_) ?_; rotate_left; (focus ((try dsimp only at hS); go_simp; first | done | with_reducible rfl)); simp only [Act.put, List.setIfInBounds_toArray, List.set_cons_zero, List.set_cons_succ]))
      have hbd : Below W2.heap.size W2 W2.drew := (Below.refl _ _).drew
      have hB3 := btr hB2 hbd
      have T3 := T2.below hbd hz3
      have t3 := t2.below hbd hz2
      have hz4 : W2.heap.size ≤ W2.drew.heap.size := hbd.size
      clear hbd
      refine Ord.ord_call (fun K hK => ?_)
      go_simp
      refine (HC.out _).mono ?_
      rintro e v4' ⟨rfl, hb4⟩
      have hB4 := btr hB3 hb4
      have T4 := T3.below hb4 (by omega)
      have t4 := t3.below hb4 (by omega)
      have hy4 := hb4.size
      refine hK.out _ _ (⟨T4.cell 0 (v := .int .i64 2) rfl, T4.cell 1 (v := .int .i64 p) rfl, T4.cell 2 (v := .bool q) rfl, T4.cell 3 (v := .int .i64 n) rfl, t4.cell 0 (v := .int .i64 n) rfl⟩) ?_
      clear hK K
      repeat (first
        | (refine Ord.ord_plain (v := ?_) rfl (fun w' hS => ?_) ?_; rotate_left; (focus ((try dsimp only at hS); go_simp; first | done | with_reducible rfl)); simp only [Act.put, List.setIfInBounds_toArray, List.set_cons_zero, List.set_cons_succ])
        | (refine Ord.ord_skip (by rfl) ?_; simp only [Act.put, List.setIfInBounds_toArray, List.set_cons_zero, List.set_cons_succ])
        | (refine Ord.ord_take (v := ?_) (by rfl) (fun w' hS => ?_) ?_; rotate_left; (focus ((try dsimp only at hS); go_simp; first | done | with_reducible rfl)); simp only [Act.put, List.setIfInBounds_toArray, List.set_cons_zero, List.set_cons_succ]))
      refine Ord.ord_not (by rfl) (fun K hK => ?_)
      simp only [Act.put, List.setIfInBounds_toArray, List.set_cons_zero, List.set_cons_succ]
      refine hK.out _ _ (⟨T4.cell 0 (v := .int .i64 2) rfl, T4.cell 1 (v := .int .i64 p) rfl, T4.cell 2 (v := .bool q) rfl, T4.cell 3 (v := .int .i64 n) rfl, t4.cell 0 (v := .int .i64 n) rfl⟩) ?_
      clear hK K
      repeat (first
        | (refine Ord.ord_plain (v := ?_) rfl (fun w' hS => ?_) ?_; rotate_left; (focus ((try dsimp only at hS); go_simp; first | done | with_reducible rfl)); simp only [Act.put, List.setIfInBounds_toArray, List.set_cons_zero, List.set_cons_succ])
        | (refine Ord.ord_skip (by rfl) ?_; simp only [Act.put, List.setIfInBounds_toArray, List.set_cons_zero, List.set_cons_succ])
        | (refine Ord.ord_take (v := ?_) (by rfl) (fun w' hS => ?_) ?_; rotate_left; (focus ((try dsimp only at hS); go_simp; first | done | with_reducible rfl)); simp only [Act.put, List.setIfInBounds_toArray, List.set_cons_zero, List.set_cons_succ]))
      refine Ord.ord_nil ?_
      have HBF := Lib.hid hB4
      clear hB2 hB3 hB4
      go_wp2_with fail
      go_ret
      exact ⟨by rw [HV.out]; rfl, HBF.out⟩
    · rw [hi] at hC
      have HC := Lib.hid hC
      clear hC
      by_cases hp : p = 0 <;> cases q
      · subst hp
        have HV := Lib.hid (show exitOk (2, 0, false, n) = true from by simp [exitOk, hi])
        clear hi
        have HU := Lib.hid (fun V : World => impl_usedBy 2 0 false n V)
        rw [usedV_2] at HU
        have hb0 : Below w.heap.size w (w.alloc (.cells #[.int .i64 2, .int .i64 0, .bool false, .int .i64 n] 30)) := (Below.refl _ _).alloc (Nat.le_refl _) _
        have t0 : Var (w.alloc (.cells #[.int .i64 2, .int .i64 0, .bool false, .int .i64 n] 30)) w.heap.size [.int .i64 2, .int .i64 0, .bool false, .int .i64 n] := Var.new w [.int .i64 2, .int .i64 0, .bool false, .int .i64 n] 30
        have hz : w.heap.size < (w.alloc (.cells #[.int .i64 2, .int .i64 0, .bool false, .int .i64 n] 30)).heap.size := by simp
        go_enter Tryz.func86, Tryz.ntmps86
        go_wp2_with fail
        generalize w.alloc (.cells #[.int .i64 2, .int .i64 0, .bool false, .int .i64 n] 30) = W0 at t0 hb0 hz ⊢
        refine (HU.out _).mono ?_
        rintro e w1 ⟨rfl, hb1⟩
        have hb := btr hb0 hb1
        have T := t0.below hb1 hz
        have hz1 : w.heap.size < w1.heap.size := T.2
        clear hb0 hb1 t0 hz HU
        have as0 := as_call_no (.agg #[.int .i64 n])
        have as1 := as_call_fault (.agg #[.int .i64 n])
        have as2 := as_call_call (.agg #[.int .i64 n])
        have t2 : Var (w1.alloc (.cells #[.int .i64 n] 111)) w1.heap.size [.int .i64 n] := Var.new w1 [.int .i64 n] 111
        have hA : Below w1.heap.size w1 (w1.alloc (.cells #[.int .i64 n] 111)) := (Below.refl _ _).alloc (Nat.le_refl _) _
        have hB2 := btr hb hA
        have T2 := T.below hA hz1
        have hz2 : w1.heap.size < (w1.alloc (.cells #[.int .i64 n] 111)).heap.size := by simp
        have hz3 : w.heap.size < (w1.alloc (.cells #[.int .i64 n] 111)).heap.size := Nat.lt_trans hz1 hz2
        clear T hA hb
        go_wp2_with fail
        generalize w1.alloc (.cells #[.int .i64 n] 111) = W2 at t2 T2 hB2 hz2 hz3 ⊢
        refine Ord.wp_region_ord (fun w' => w'.cell? ⟨w.heap.size, 0, none⟩ = some (.int .i64 2) ∧ w'.cell? ⟨w.heap.size, 1, none⟩ = some (.int .i64 0) ∧ w'.cell? ⟨w.heap.size, 2, none⟩ = some (.bool false) ∧ w'.cell? ⟨w.heap.size, 3, none⟩ = some (.int .i64 n) ∧ w'.cell? ⟨w1.heap.size, 0, none⟩ = some (.int .i64 n)) [(0, true), (1, true), (2, false), (3, true), (4, true), (5, true), (6, true), (7, false), (8, true), (9, true), (10, true)] (by kernel_rfl) (by kernel_rfl) rfl (by kernel_rfl) (⟨T2.cell 0 (v := .int .i64 2) rfl, T2.cell 1 (v := .int .i64 0) rfl, T2.cell 2 (v := .bool false) rfl, T2.cell 3 (v := .int .i64 n) rfl, t2.cell 0 (v := .int .i64 n) rfl⟩) ?_
        simp only [Ord.ordOps, List.getElem?_toArray, List.getElem?_cons_zero, List.getElem?_cons_succ]
        repeat (first
          | (refine Ord.ord_plain (v := ?_) rfl (fun w' hS => ?_) ?_; rotate_left; (focus ((try dsimp only at hS); go_simp; first | done | with_reducible rfl)); simp only [Act.put, List.setIfInBounds_toArray, List.set_cons_zero, List.set_cons_succ])
          | (refine Ord.ord_skip (by rfl) ?_; simp only [Act.put, List.setIfInBounds_toArray, List.set_cons_zero, List.set_cons_succ])
          | (refine Ord.ord_take (v := ?_) (by rfl) (fun w' hS => ?_) ?_; rotate_left; (focus ((try dsimp only at hS); go_simp; first | done | with_reducible rfl)); simp only [Act.put, List.setIfInBounds_toArray, List.set_cons_zero, List.set_cons_succ]))
        have hbd : Below W2.heap.size W2 W2.drew := (Below.refl _ _).drew
        have hB3 := btr hB2 hbd
        have T3 := T2.below hbd hz3
        have t3 := t2.below hbd hz2
        have hz4 : W2.heap.size ≤ W2.drew.heap.size := hbd.size
        clear hbd
        refine Ord.ord_call (fun K hK => ?_)
        go_simp
        refine (HC.out _).mono ?_
        rintro e v4' ⟨rfl, hb4⟩
        have hB4 := btr hB3 hb4
        have T4 := T3.below hb4 (by omega)
        have t4 := t3.below hb4 (by omega)
        have hy4 := hb4.size
        refine hK.out _ _ (⟨T4.cell 0 (v := .int .i64 2) rfl, T4.cell 1 (v := .int .i64 0) rfl, T4.cell 2 (v := .bool false) rfl, T4.cell 3 (v := .int .i64 n) rfl, t4.cell 0 (v := .int .i64 n) rfl⟩) ?_
        clear hK K
        repeat (first
          | (refine Ord.ord_plain (v := ?_) rfl (fun w' hS => ?_) ?_; rotate_left; (focus ((try dsimp only at hS); go_simp; first | done | with_reducible rfl)); simp only [Act.put, List.setIfInBounds_toArray, List.set_cons_zero, List.set_cons_succ])
          | (refine Ord.ord_skip (by rfl) ?_; simp only [Act.put, List.setIfInBounds_toArray, List.set_cons_zero, List.set_cons_succ])
          | (refine Ord.ord_take (v := ?_) (by rfl) (fun w' hS => ?_) ?_; rotate_left; (focus ((try dsimp only at hS); go_simp; first | done | with_reducible rfl)); simp only [Act.put, List.setIfInBounds_toArray, List.set_cons_zero, List.set_cons_succ]))
        refine Ord.ord_call (fun K hK => ?_)
        go_simp
        refine (HM.out _).mono ?_
        rintro e v5' ⟨rfl, hb5⟩
        have hB5 := btr hB4 hb5
        have T5 := T4.below hb5 (by omega)
        have t5 := t4.below hb5 (by omega)
        have hy5 := hb5.size
        refine hK.out _ _ (⟨T5.cell 0 (v := .int .i64 2) rfl, T5.cell 1 (v := .int .i64 0) rfl, T5.cell 2 (v := .bool false) rfl, T5.cell 3 (v := .int .i64 n) rfl, t5.cell 0 (v := .int .i64 n) rfl⟩) ?_
        clear hK K
        repeat (first
          | (refine Ord.ord_plain (v := ?_) rfl (fun w' hS => ?_) ?_; rotate_left; (focus ((try dsimp only at hS); go_simp; first | done | with_reducible rfl)); simp only [Act.put, List.setIfInBounds_toArray, List.set_cons_zero, List.set_cons_succ])
          | (refine Ord.ord_skip (by rfl) ?_; simp only [Act.put, List.setIfInBounds_toArray, List.set_cons_zero, List.set_cons_succ])
          | (refine Ord.ord_take (v := ?_) (by rfl) (fun w' hS => ?_) ?_; rotate_left; (focus ((try dsimp only at hS); go_simp; first | done | with_reducible rfl)); simp only [Act.put, List.setIfInBounds_toArray, List.set_cons_zero, List.set_cons_succ]))
        refine Ord.ord_nil ?_
        have HBF := Lib.hid hB5
        clear hB2 hB3 hB4 hB5
        go_wp2_with fail
        go_ret
        exact ⟨by rw [HV.out]; rfl, HBF.out⟩
      · subst hp
        have HV := Lib.hid (show exitOk (2, 0, true, n) = false from by simp [exitOk, hi])
        clear hi
        have HU := Lib.hid (fun V : World => impl_usedBy 2 0 true n V)
        rw [usedV_2] at HU
        have hb0 : Below w.heap.size w (w.alloc (.cells #[.int .i64 2, .int .i64 0, .bool true, .int .i64 n] 30)) := (Below.refl _ _).alloc (Nat.le_refl _) _
        have t0 : Var (w.alloc (.cells #[.int .i64 2, .int .i64 0, .bool true, .int .i64 n] 30)) w.heap.size [.int .i64 2, .int .i64 0, .bool true, .int .i64 n] := Var.new w [.int .i64 2, .int .i64 0, .bool true, .int .i64 n] 30
        have hz : w.heap.size < (w.alloc (.cells #[.int .i64 2, .int .i64 0, .bool true, .int .i64 n] 30)).heap.size := by simp
        go_enter Tryz.func86, Tryz.ntmps86
        go_wp2_with fail
        generalize w.alloc (.cells #[.int .i64 2, .int .i64 0, .bool true, .int .i64 n] 30) = W0 at t0 hb0 hz ⊢
        refine (HU.out _).mono ?_
        rintro e w1 ⟨rfl, hb1⟩
        have hb := btr hb0 hb1
        have T := t0.below hb1 hz
        have hz1 : w.heap.size < w1.heap.size := T.2
        clear hb0 hb1 t0 hz HU
        have as0 := as_call_no (.agg #[.int .i64 n])
        have as1 := as_call_fault (.agg #[.int .i64 n])
        have as2 := as_call_call (.agg #[.int .i64 n])
        have t2 : Var (w1.alloc (.cells #[.int .i64 n] 111)) w1.heap.size [.int .i64 n] := Var.new w1 [.int .i64 n] 111
        have hA : Below w1.heap.size w1 (w1.alloc (.cells #[.int .i64 n] 111)) := (Below.refl _ _).alloc (Nat.le_refl _) _
        have hB2 := btr hb hA
        have T2 := T.below hA hz1
        have hz2 : w1.heap.size < (w1.alloc (.cells #[.int .i64 n] 111)).heap.size := by simp
        have hz3 : w.heap.size < (w1.alloc (.cells #[.int .i64 n] 111)).heap.size := Nat.lt_trans hz1 hz2
        clear T hA hb
        go_wp2_with fail
        generalize w1.alloc (.cells #[.int .i64 n] 111) = W2 at t2 T2 hB2 hz2 hz3 ⊢
        refine Ord.wp_region_ord (fun w' => w'.cell? ⟨w.heap.size, 0, none⟩ = some (.int .i64 2) ∧ w'.cell? ⟨w.heap.size, 1, none⟩ = some (.int .i64 0) ∧ w'.cell? ⟨w.heap.size, 2, none⟩ = some (.bool true) ∧ w'.cell? ⟨w.heap.size, 3, none⟩ = some (.int .i64 n) ∧ w'.cell? ⟨w1.heap.size, 0, none⟩ = some (.int .i64 n)) [(0, true), (1, true), (2, false), (3, true), (4, true), (5, true), (6, true), (7, false), (8, true), (9, true), (10, true)] (by kernel_rfl) (by kernel_rfl) rfl (by kernel_rfl) (⟨T2.cell 0 (v := .int .i64 2) rfl, T2.cell 1 (v := .int .i64 0) rfl, T2.cell 2 (v := .bool true) rfl, T2.cell 3 (v := .int .i64 n) rfl, t2.cell 0 (v := .int .i64 n) rfl⟩) ?_
        simp only [Ord.ordOps, List.getElem?_toArray, List.getElem?_cons_zero, List.getElem?_cons_succ]
        repeat (first
          | (refine Ord.ord_plain (v := ?_) rfl (fun w' hS => ?_) ?_; rotate_left; (focus ((try dsimp only at hS); go_simp; first | done | with_reducible rfl)); simp only [Act.put, List.setIfInBounds_toArray, List.set_cons_zero, List.set_cons_succ])
          | (refine Ord.ord_skip (by rfl) ?_; simp only [Act.put, List.setIfInBounds_toArray, List.set_cons_zero, List.set_cons_succ])
          | (refine Ord.ord_take (v := ?_) (by rfl) (fun w' hS => ?_) ?_; rotate_left; (focus ((try dsimp only at hS); go_simp; first | done | with_reducible rfl)); simp only [Act.put, List.setIfInBounds_toArray, List.set_cons_zero, List.set_cons_succ]))
        have hbd : Below W2.heap.size W2 W2.drew := (Below.refl _ _).drew
        have hB3 := btr hB2 hbd
        have T3 := T2.below hbd hz3
        have t3 := t2.below hbd hz2
        have hz4 : W2.heap.size ≤ W2.drew.heap.size := hbd.size
        clear hbd
        refine Ord.ord_call (fun K hK => ?_)
        go_simp
        refine (HC.out _).mono ?_
        rintro e v4' ⟨rfl, hb4⟩
        have hB4 := btr hB3 hb4
        have T4 := T3.below hb4 (by omega)
        have t4 := t3.below hb4 (by omega)
        have hy4 := hb4.size
        refine hK.out _ _ (⟨T4.cell 0 (v := .int .i64 2) rfl, T4.cell 1 (v := .int .i64 0) rfl, T4.cell 2 (v := .bool true) rfl, T4.cell 3 (v := .int .i64 n) rfl, t4.cell 0 (v := .int .i64 n) rfl⟩) ?_
        clear hK K
        repeat (first
          | (refine Ord.ord_plain (v := ?_) rfl (fun w' hS => ?_) ?_; rotate_left; (focus ((try dsimp only at hS); go_simp; first | done | with_reducible rfl)); simp only [Act.put, List.setIfInBounds_toArray, List.set_cons_zero, List.set_cons_succ])
          | (refine Ord.ord_skip (by rfl) ?_; simp only [Act.put, List.setIfInBounds_toArray, List.set_cons_zero, List.set_cons_succ])
          | (refine Ord.ord_take (v := ?_) (by rfl) (fun w' hS => ?_) ?_; rotate_left; (focus ((try dsimp only at hS); go_simp; first | done | with_reducible rfl)); simp only [Act.put, List.setIfInBounds_toArray, List.set_cons_zero, List.set_cons_succ]))
        refine Ord.ord_call (fun K hK => ?_)
        go_simp
        refine (HM.out _).mono ?_
        rintro e v5' ⟨rfl, hb5⟩
        have hB5 := btr hB4 hb5
        have T5 := T4.below hb5 (by omega)
        have t5 := t4.below hb5 (by omega)
        have hy5 := hb5.size
        refine hK.out _ _ (⟨T5.cell 0 (v := .int .i64 2) rfl, T5.cell 1 (v := .int .i64 0) rfl, T5.cell 2 (v := .bool true) rfl, T5.cell 3 (v := .int .i64 n) rfl, t5.cell 0 (v := .int .i64 n) rfl⟩) ?_
        clear hK K
        repeat (first
          | (refine Ord.ord_plain (v := ?_) rfl (fun w' hS => ?_) ?_; rotate_left; (focus ((try dsimp only at hS); go_simp; first | done | with_reducible rfl)); simp only [Act.put, List.setIfInBounds_toArray, List.set_cons_zero, List.set_cons_succ])
          | (refine Ord.ord_skip (by rfl) ?_; simp only [Act.put, List.setIfInBounds_toArray, List.set_cons_zero, List.set_cons_succ])
          | (refine Ord.ord_take (v := ?_) (by rfl) (fun w' hS => ?_) ?_; rotate_left; (focus ((try dsimp only at hS); go_simp; first | done | with_reducible rfl)); simp only [Act.put, List.setIfInBounds_toArray, List.set_cons_zero, List.set_cons_succ]))
        refine Ord.ord_nil ?_
        have HBF := Lib.hid hB5
        clear hB2 hB3 hB4 hB5
        go_wp2_with fail
        go_ret
        exact ⟨by rw [HV.out]; rfl, HBF.out⟩
      · have hp' : (p == 0) = false := by simpa using hp
        have HV := Lib.hid (show exitOk (2, p, false, n) = false from by simp [exitOk, hi, hp])
        clear hi hp
        have HU := Lib.hid (fun V : World => impl_usedBy 2 p false n V)
        rw [usedV_2] at HU
        have hb0 : Below w.heap.size w (w.alloc (.cells #[.int .i64 2, .int .i64 p, .bool false, .int .i64 n] 30)) := (Below.refl _ _).alloc (Nat.le_refl _) _
        have t0 : Var (w.alloc (.cells #[.int .i64 2, .int .i64 p, .bool false, .int .i64 n] 30)) w.heap.size [.int .i64 2, .int .i64 p, .bool false, .int .i64 n] := Var.new w [.int .i64 2, .int .i64 p, .bool false, .int .i64 n] 30
        have hz : w.heap.size < (w.alloc (.cells #[.int .i64 2, .int .i64 p, .bool false, .int .i64 n] 30)).heap.size := by simp
        go_enter Tryz.func86, Tryz.ntmps86
        go_wp2_with fail
        generalize w.alloc (.cells #[.int .i64 2, .int .i64 p, .bool false, .int .i64 n] 30) = W0 at t0 hb0 hz ⊢
        refine (HU.out _).mono ?_
        rintro e w1 ⟨rfl, hb1⟩
        have hb := btr hb0 hb1
        have T := t0.below hb1 hz
        have hz1 : w.heap.size < w1.heap.size := T.2
        clear hb0 hb1 t0 hz HU
        have as0 := as_call_no (.agg #[.int .i64 n])
        have as1 := as_call_fault (.agg #[.int .i64 n])
        have as2 := as_call_call (.agg #[.int .i64 n])
        have t2 : Var (w1.alloc (.cells #[.int .i64 n] 111)) w1.heap.size [.int .i64 n] := Var.new w1 [.int .i64 n] 111
        have hA : Below w1.heap.size w1 (w1.alloc (.cells #[.int .i64 n] 111)) := (Below.refl _ _).alloc (Nat.le_refl _) _
        have hB2 := btr hb hA
        have T2 := T.below hA hz1
        have hz2 : w1.heap.size < (w1.alloc (.cells #[.int .i64 n] 111)).heap.size := by simp
        have hz3 : w.heap.size < (w1.alloc (.cells #[.int .i64 n] 111)).heap.size := Nat.lt_trans hz1 hz2
        clear T hA hb
        go_wp2_with fail
        generalize w1.alloc (.cells #[.int .i64 n] 111) = W2 at t2 T2 hB2 hz2 hz3 ⊢
        refine Ord.wp_region_ord (fun w' => w'.cell? ⟨w.heap.size, 0, none⟩ = some (.int .i64 2) ∧ w'.cell? ⟨w.heap.size, 1, none⟩ = some (.int .i64 p) ∧ w'.cell? ⟨w.heap.size, 2, none⟩ = some (.bool false) ∧ w'.cell? ⟨w.heap.size, 3, none⟩ = some (.int .i64 n) ∧ w'.cell? ⟨w1.heap.size, 0, none⟩ = some (.int .i64 n)) [(0, true), (1, true), (2, false), (3, true), (4, true), (5, true), (6, true), (7, false), (8, true), (9, true), (10, true)] (by kernel_rfl) (by kernel_rfl) rfl (by kernel_rfl) (⟨T2.cell 0 (v := .int .i64 2) rfl, T2.cell 1 (v := .int .i64 p) rfl, T2.cell 2 (v := .bool false) rfl, T2.cell 3 (v := .int .i64 n) rfl, t2.cell 0 (v := .int .i64 n) rfl⟩) ?_
        simp only [Ord.ordOps, List.getElem?_toArray, List.getElem?_cons_zero, List.getElem?_cons_succ]
        repeat (first
          | (refine Ord.ord_plain (v := ?_) rfl (fun w' hS => ?_) ?_; rotate_left; (focus ((try dsimp only at hS); go_simp; first | done | with_reducible rfl)); simp only [Act.put, List.setIfInBounds_toArray, List.set_cons_zero, List.set_cons_succ])
          | (refine Ord.ord_skip (by rfl) ?_; simp only [Act.put, List.setIfInBounds_toArray, List.set_cons_zero, List.set_cons_succ])
          | (refine Ord.ord_take (v := ?_) (by rfl) (fun w' hS => ?_) ?_; rotate_left; (focus ((try dsimp only at hS); go_simp; first | done | with_reducible rfl)); simp only [Act.put, List.setIfInBounds_toArray, List.set_cons_zero, List.set_cons_succ]))
        have hbd : Below W2.heap.size W2 W2.drew := (Below.refl _ _).drew
        have hB3 := btr hB2 hbd
        have T3 := T2.below hbd hz3
        have t3 := t2.below hbd hz2
        have hz4 : W2.heap.size ≤ W2.drew.heap.size := hbd.size
        clear hbd
        refine Ord.ord_call (fun K hK => ?_)
        go_simp
        refine (HC.out _).mono ?_
        rintro e v4' ⟨rfl, hb4⟩
        have hB4 := btr hB3 hb4
        have T4 := T3.below hb4 (by omega)
        have t4 := t3.below hb4 (by omega)
        have hy4 := hb4.size
        refine hK.out _ _ (⟨T4.cell 0 (v := .int .i64 2) rfl, T4.cell 1 (v := .int .i64 p) rfl, T4.cell 2 (v := .bool false) rfl, T4.cell 3 (v := .int .i64 n) rfl, t4.cell 0 (v := .int .i64 n) rfl⟩) ?_
        clear hK K
        repeat (first
          | (refine Ord.ord_plain (v := ?_) rfl (fun w' hS => ?_) ?_; rotate_left; (focus ((try dsimp only at hS); go_simp; first | done | with_reducible rfl)); simp only [Act.put, List.setIfInBounds_toArray, List.set_cons_zero, List.set_cons_succ])
          | (refine Ord.ord_skip (by rfl) ?_; simp only [Act.put, List.setIfInBounds_toArray, List.set_cons_zero, List.set_cons_succ])
          | (refine Ord.ord_take (v := ?_) (by rfl) (fun w' hS => ?_) ?_; rotate_left; (focus ((try dsimp only at hS); go_simp; first | done | with_reducible rfl)); simp only [Act.put, List.setIfInBounds_toArray, List.set_cons_zero, List.set_cons_succ]))
        refine Ord.ord_call (fun K hK => ?_)
        go_simp
        refine (HM.out _).mono ?_
        rintro e v5' ⟨rfl, hb5⟩
        have hB5 := btr hB4 hb5
        have T5 := T4.below hb5 (by omega)
        have t5 := t4.below hb5 (by omega)
        have hy5 := hb5.size
        refine hK.out _ _ (⟨T5.cell 0 (v := .int .i64 2) rfl, T5.cell 1 (v := .int .i64 p) rfl, T5.cell 2 (v := .bool false) rfl, T5.cell 3 (v := .int .i64 n) rfl, t5.cell 0 (v := .int .i64 n) rfl⟩) ?_
        clear hK K
        repeat (first
          | (refine Ord.ord_plain (v := ?_) rfl (fun w' hS => ?_) ?_; rotate_left; (focus ((try dsimp only at hS); go_simp; first | done | with_reducible rfl)); simp only [Act.put, List.setIfInBounds_toArray, List.set_cons_zero, List.set_cons_succ])
          | (refine Ord.ord_skip (by rfl) ?_; simp only [Act.put, List.setIfInBounds_toArray, List.set_cons_zero, List.set_cons_succ])
          | (refine Ord.ord_take (v := ?_) (by rfl) (fun w' hS => ?_) ?_; rotate_left; (focus ((try dsimp only at hS); go_simp; first | done | with_reducible rfl)); simp only [Act.put, List.setIfInBounds_toArray, List.set_cons_zero, List.set_cons_succ]))
        refine Ord.ord_nil ?_
        have HBF := Lib.hid hB5
        clear hB2 hB3 hB4 hB5
        go_wp2_with fail
        go_ret
        exact ⟨by rw [HV.out]; rfl, HBF.out⟩
      · have hp' : (p == 0) = false := by simpa using hp
        have HV := Lib.hid (show exitOk (2, p, true, n) = false from by simp [exitOk, hi, hp])
        clear hi hp
        have HU := Lib.hid (fun V : World => impl_usedBy 2 p true n V)
        rw [usedV_2] at HU
        have hb0 : Below w.heap.size w (w.alloc (.cells #[.int .i64 2, .int .i64 p, .bool true, .int .i64 n] 30)) := (Below.refl _ _).alloc (Nat.le_refl _) _
        have t0 : Var (w.alloc (.cells #[.int .i64 2, .int .i64 p, .bool true, .int .i64 n] 30)) w.heap.size [.int .i64 2, .int .i64 p, .bool true, .int .i64 n] := Var.new w [.int .i64 2, .int .i64 p, .bool true, .int .i64 n] 30
        have hz : w.heap.size < (w.alloc (.cells #[.int .i64 2, .int .i64 p, .bool true, .int .i64 n] 30)).heap.size := by simp
        go_enter Tryz.func86, Tryz.ntmps86
        go_wp2_with fail
        generalize w.alloc (.cells #[.int .i64 2, .int .i64 p, .bool true, .int .i64 n] 30) = W0 at t0 hb0 hz ⊢
        refine (HU.out _).mono ?_
        rintro e w1 ⟨rfl, hb1⟩
        have hb := btr hb0 hb1
        have T := t0.below hb1 hz
        have hz1 : w.heap.size < w1.heap.size := T.2
        clear hb0 hb1 t0 hz HU
        have as0 := as_call_no (.agg #[.int .i64 n])
        have as1 := as_call_fault (.agg #[.int .i64 n])
        have as2 := as_call_call (.agg #[.int .i64 n])
        have t2 : Var (w1.alloc (.cells #[.int .i64 n] 111)) w1.heap.size [.int .i64 n] := Var.new w1 [.int .i64 n] 111
        have hA : Below w1.heap.size w1 (w1.alloc (.cells #[.int .i64 n] 111)) := (Below.refl _ _).alloc (Nat.le_refl _) _
        have hB2 := btr hb hA
        have T2 := T.below hA hz1
        have hz2 : w1.heap.size < (w1.alloc (.cells #[.int .i64 n] 111)).heap.size := by simp
        have hz3 : w.heap.size < (w1.alloc (.cells #[.int .i64 n] 111)).heap.size := Nat.lt_trans hz1 hz2
        clear T hA hb
        go_wp2_with fail
        generalize w1.alloc (.cells #[.int .i64 n] 111) = W2 at t2 T2 hB2 hz2 hz3 ⊢
        refine Ord.wp_region_ord (fun w' => w'.cell? ⟨w.heap.size, 0, none⟩ = some (.int .i64 2) ∧ w'.cell? ⟨w.heap.size, 1, none⟩ = some (.int .i64 p) ∧ w'.cell? ⟨w.heap.size, 2, none⟩ = some (.bool true) ∧ w'.cell? ⟨w.heap.size, 3, none⟩ = some (.int .i64 n) ∧ w'.cell? ⟨w1.heap.size, 0, none⟩ = some (.int .i64 n)) [(0, true), (1, true), (2, false), (3, true), (4, true), (5, true), (6, true), (7, false), (8, true), (9, true), (10, true)] (by kernel_rfl) (by kernel_rfl) rfl (by kernel_rfl) (⟨T2.cell 0 (v := .int .i64 2) rfl, T2.cell 1 (v := .int .i64 p) rfl, T2.cell 2 (v := .bool true) rfl, T2.cell 3 (v := .int .i64 n) rfl, t2.cell 0 (v := .int .i64 n) rfl⟩) ?_
        simp only [Ord.ordOps, List.getElem?_toArray, List.getElem?_cons_zero, List.getElem?_cons_succ]
        repeat (first
          | (refine Ord.ord_plain (v := ?_) rfl (fun w' hS => ?_) ?_; rotate_left; (focus ((try dsimp only at hS); go_simp; first | done | with_reducible rfl)); simp only [Act.put, List.setIfInBounds_toArray, List.set_cons_zero, List.set_cons_succ])
          | (refine Ord.ord_skip (by rfl) ?_; simp only [Act.put, List.setIfInBounds_toArray, List.set_cons_zero, List.set_cons_succ])
          | (refine Ord.ord_take (v := ?_) (by rfl) (fun w' hS => ?_) ?_; rotate_left; (focus ((try dsimp only at hS); go_simp; first | done | with_reducible rfl)); simp only [Act.put, List.setIfInBounds_toArray, List.set_cons_zero, List.set_cons_succ]))
        have hbd : Below W2.heap.size W2 W2.drew := (Below.refl _ _).drew
        have hB3 := btr hB2 hbd
        have T3 := T2.below hbd hz3
        have t3 := t2.below hbd hz2
        have hz4 : W2.heap.size ≤ W2.drew.heap.size := hbd.size
        clear hbd
        refine Ord.ord_call (fun K hK => ?_)
        go_simp
        refine (HC.out _).mono ?_
        rintro e v4' ⟨rfl, hb4⟩
        have hB4 := btr hB3 hb4
        have T4 := T3.below hb4 (by omega)
        have t4 := t3.below hb4 (by omega)
        have hy4 := hb4.size
        refine hK.out _ _ (⟨T4.cell 0 (v := .int .i64 2) rfl, T4.cell 1 (v := .int .i64 p) rfl, T4.cell 2 (v := .bool true) rfl, T4.cell 3 (v := .int .i64 n) rfl, t4.cell 0 (v := .int .i64 n) rfl⟩) ?_
        clear hK K
        repeat (first
          | (refine Ord.ord_plain (v := ?_) rfl (fun w' hS => ?_) ?_; rotate_left; (focus ((try dsimp only at hS); go_simp; first | done | with_reducible rfl)); simp only [Act.put, List.setIfInBounds_toArray, List.set_cons_zero, List.set_cons_succ])
          | (refine Ord.ord_skip (by rfl) ?_; simp only [Act.put, List.setIfInBounds_toArray, List.set_cons_zero, List.set_cons_succ])
          | (refine Ord.ord_take (v := ?_) (by rfl) (fun w' hS => ?_) ?_; rotate_left; (focus ((try dsimp only at hS); go_simp; first | done | with_reducible rfl)); simp only [Act.put, List.setIfInBounds_toArray, List.set_cons_zero, List.set_cons_succ]))
        refine Ord.ord_call (fun K hK => ?_)
        go_simp
        refine (HM.out _).mono ?_
        rintro e v5' ⟨rfl, hb5⟩
        have hB5 := btr hB4 hb5
        have T5 := T4.below hb5 (by omega)
        have t5 := t4.below hb5 (by omega)
        have hy5 := hb5.size
        refine hK.out _ _ (⟨T5.cell 0 (v := .int .i64 2) rfl, T5.cell 1 (v := .int .i64 p) rfl, T5.cell 2 (v := .bool true) rfl, T5.cell 3 (v := .int .i64 n) rfl, t5.cell 0 (v := .int .i64 n) rfl⟩) ?_
        clear hK K
        repeat (first
          | (refine Ord.ord_plain (v := ?_) rfl (fun w' hS => ?_) ?_; rotate_left; (focus ((try dsimp only at hS); go_simp; first | done | with_reducible rfl)); simp only [Act.put, List.setIfInBounds_toArray, List.set_cons_zero, List.set_cons_succ])
          | (refine Ord.ord_skip (by rfl) ?_; simp only [Act.put, List.setIfInBounds_toArray, List.set_cons_zero, List.set_cons_succ])
          | (refine Ord.ord_take (v := ?_) (by rfl) (fun w' hS => ?_) ?_; rotate_left; (focus ((try dsimp only at hS); go_simp; first | done | with_reducible rfl)); simp only [Act.put, List.setIfInBounds_toArray, List.set_cons_zero, List.set_cons_succ]))
        refine Ord.ord_nil ?_
        have HBF := Lib.hid hB5
        clear hB2 hB3 hB4 hB5
        go_wp2_with fail
        go_ret
        exact ⟨by rw [HV.out]; rfl, HBF.out⟩
  · have HM := Lib.hid (fun V : World => impl_out' n V)
    unfold ExitP at HM
    dsimp only at HM
    have hC := fun V : World => impl_cellOkE n V
    cases hi : inB n 0 99
    · have HV := Lib.hid (show exitOk (3, p, q, n) = false from by simp [exitOk, hi])
      rw [hi] at hC
      have HC := Lib.hid hC
      clear hC HM hi
      have HU := Lib.hid (fun V : World => impl_usedBy 3 p q n V)
      rw [usedV_3] at HU
      have hb0 : Below w.heap.size w (w.alloc (.cells #[.int .i64 3, .int .i64 p, .bool q, .int .i64 n] 30)) := (Below.refl _ _).alloc (Nat.le_refl _) _
      have t0 : Var (w.alloc (.cells #[.int .i64 3, .int .i64 p, .bool q, .int .i64 n] 30)) w.heap.size [.int .i64 3, .int .i64 p, .bool q, .int .i64 n] := Var.new w [.int .i64 3, .int .i64 p, .bool q, .int .i64 n] 30
      have hz : w.heap.size < (w.alloc (.cells #[.int .i64 3, .int .i64 p, .bool q, .int .i64 n] 30)).heap.size := by simp
      go_enter Tryz.func86, Tryz.ntmps86
      go_wp2_with fail
      generalize w.alloc (.cells #[.int .i64 3, .int .i64 p, .bool q, .int .i64 n] 30) = W0 at t0 hb0 hz ⊢
      refine (HU.out _).mono ?_
      rintro e w1 ⟨rfl, hb1⟩
      have hb := btr hb0 hb1
      have T := t0.below hb1 hz
      have hz1 : w.heap.size < w1.heap.size := T.2
      clear hb0 hb1 t0 hz HU
      have as0 := as_out_no (.agg #[.int .i64 n])
      have as1 := as_out_fault (.agg #[.int .i64 n])
      have as2 := as_out_call (.agg #[.int .i64 n])
      have as3 := as_out_out (.agg #[.int .i64 n])
      have t2 : Var (w1.alloc (.cells #[.int .i64 n] 112)) w1.heap.size [.int .i64 n] := Var.new w1 [.int .i64 n] 112
      have hA : Below w1.heap.size w1 (w1.alloc (.cells #[.int .i64 n] 112)) := (Below.refl _ _).alloc (Nat.le_refl _) _
      have hB2 := btr hb hA
      have T2 := T.below hA hz1
      have hz2 : w1.heap.size < (w1.alloc (.cells #[.int .i64 n] 112)).heap.size := by simp
      have hz3 : w.heap.size < (w1.alloc (.cells #[.int .i64 n] 112)).heap.size := Nat.lt_trans hz1 hz2
      clear T hA hb
      go_wp2_with fail
      generalize w1.alloc (.cells #[.int .i64 n] 112) = W2 at t2 T2 hB2 hz2 hz3 ⊢
      refine Ord.wp_region_ord (fun w' => w'.cell? ⟨w.heap.size, 0, none⟩ = some (.int .i64 3) ∧ w'.cell? ⟨w.heap.size, 1, none⟩ = some (.int .i64 p) ∧ w'.cell? ⟨w.heap.size, 2, none⟩ = some (.bool q) ∧ w'.cell? ⟨w.heap.size, 3, none⟩ = some (.int .i64 n) ∧ w'.cell? ⟨w1.heap.size, 0, none⟩ = some (.int .i64 n)) [(0, true), (1, true), (2, false), (3, true), (4, true), (5, true), (6, true), (7, false), (8, true), (9, true), (10, true)] (by kernel_rfl) (by kernel_rfl) rfl (by kernel_rfl) (⟨T2.cell 0 (v := .int .i64 3) rfl, T2.cell 1 (v := .int .i64 p) rfl, T2.cell 2 (v := .bool q) rfl, T2.cell 3 (v := .int .i64 n) rfl, t2.cell 0 (v := .int .i64 n) rfl⟩) ?_
      simp only [Ord.ordOps, List.getElem?_toArray, List.getElem?_cons_zero, List.getElem?_cons_succ]
      repeat (first
        | (refine Ord.ord_plain (v := ?_) rfl (fun w' hS => ?_) ?_; rotate_left; (focus ((try dsimp only at hS); go_simp; first | done | with_reducible rfl)); simp only [Act.put, List.setIfInBounds_toArray, List.set_cons_zero, List.set_cons_succ])
        | (refine Ord.ord_skip (by rfl) ?_; simp only [Act.put, List.setIfInBounds_toArray, List.set_cons_zero, List.set_cons_succ])
        | (refine Ord.ord_take (v := ?_) (by rfl) (fun w' hS => ?_) ?_; rotate_left; (focus ((try dsimp only at hS); go_simp; first | done | with_reducible rfl)); simp only [Act.put, List.setIfInBounds_toArray, List.set_cons_zero, List.set_cons_succ]))
      have hbd : Below W2.heap.size W2 W2.drew := (Below.refl _ _).drew
      have hB3 := btr hB2 hbd
      have T3 := T2.below hbd hz3
      have t3 := t2.below hbd hz2
      have hz4 : W2.heap.size ≤ W2.drew.heap.size := hbd.size
      clear hbd
      refine Ord.ord_call (fun K hK => ?_)
      go_simp
      refine (HC.out _).mono ?_
      rintro e v4' ⟨rfl, hb4⟩
      have hB4 := btr hB3 hb4
      have T4 := T3.below hb4 (by omega)
      have t4 := t3.below hb4 (by omega)
      have hy4 := hb4.size
      refine hK.out _ _ (⟨T4.cell 0 (v := .int .i64 3) rfl, T4.cell 1 (v := .int .i64 p) rfl, T4.cell 2 (v := .bool q) rfl, T4.cell 3 (v := .int .i64 n) rfl, t4.cell 0 (v := .int .i64 n) rfl⟩) ?_
      clear hK K
      repeat (first
        | (refine Ord.ord_plain (v := ?_) rfl (fun w' hS => ?_) ?_; rotate_left; (focus ((try dsimp only at hS); go_simp; first | done | with_reducible rfl)); simp only [Act.put, List.setIfInBounds_toArray, List.set_cons_zero, List.set_cons_succ])
        | (refine Ord.ord_skip (by rfl) ?_; simp only [Act.put, List.setIfInBounds_toArray, List.set_cons_zero, List.set_cons_succ])
        | (refine Ord.ord_take (v := ?_) (by rfl) (fun w' hS => ?_) ?_; rotate_left; (focus ((try dsimp only at hS); go_simp; first | done | with_reducible rfl)); simp only [Act.put, List.setIfInBounds_toArray, List.set_cons_zero, List.set_cons_succ]))
      refine Ord.ord_not (by rfl) (fun K hK => ?_)
      simp only [Act.put, List.setIfInBounds_toArray, List.set_cons_zero, List.set_cons_succ]
      refine hK.out _ _ (⟨T4.cell 0 (v := .int .i64 3) rfl, T4.cell 1 (v := .int .i64 p) rfl, T4.cell 2 (v := .bool q) rfl, T4.cell 3 (v := .int .i64 n) rfl, t4.cell 0 (v := .int .i64 n) rfl⟩) ?_
      clear hK K
      repeat (first
        | (refine Ord.ord_plain (v := ?_) rfl (fun w' hS => ?_) ?_; rotate_left; (focus ((try dsimp only at hS); go_simp; first | done | with_reducible rfl)); simp only [Act.put, List.setIfInBounds_toArray, List.set_cons_zero, List.set_cons_succ])
        | (refine Ord.ord_skip (by rfl) ?_; simp only [Act.put, List.setIfInBounds_toArray, List.set_cons_zero, List.set_cons_succ])
        | (refine Ord.ord_take (v := ?_) (by rfl) (fun w' hS => ?_) ?_; rotate_left; (focus ((try dsimp only at hS); go_simp; first | done | with_reducible rfl)); simp only [Act.put, List.setIfInBounds_toArray, List.set_cons_zero, List.set_cons_succ]))
      refine Ord.ord_nil ?_
      have HBF := Lib.hid hB4
      clear hB2 hB3 hB4
      go_wp2_with fail
      go_ret
      exact ⟨by rw [HV.out]; rfl, HBF.out⟩
    · rw [hi] at hC
      have HC := Lib.hid hC
      clear hC
      by_cases hp : p = 0 <;> cases q
      · subst hp
        have HV := Lib.hid (show exitOk (3, 0, false, n) = true from by simp [exitOk, hi])
        clear hi
        have HU := Lib.hid (fun V : World => impl_usedBy 3 0 false n V)
        rw [usedV_3] at HU
        have hb0 : Below w.heap.size w (w.alloc (.cells #[.int .i64 3, .int .i64 0, .bool false, .int .i64 n] 30)) := (Below.refl _ _).alloc (Nat.le_refl _) _
        have t0 : Var (w.alloc (.cells #[.int .i64 3, .int .i64 0, .bool false, .int .i64 n] 30)) w.heap.size [.int .i64 3, .int .i64 0, .bool false, .int .i64 n] := Var.new w [.int .i64 3, .int .i64 0, .bool false, .int .i64 n] 30
        have hz : w.heap.size < (w.alloc (.cells #[.int .i64 3, .int .i64 0, .bool false, .int .i64 n] 30)).heap.size := by simp
        go_enter Tryz.func86, Tryz.ntmps86
        go_wp2_with fail
        generalize w.alloc (.cells #[.int .i64 3, .int .i64 0, .bool false, .int .i64 n] 30) = W0 at t0 hb0 hz ⊢
        refine (HU.out _).mono ?_
        rintro e w1 ⟨rfl, hb1⟩
        have hb := btr hb0 hb1
        have T := t0.below hb1 hz
        have hz1 : w.heap.size < w1.heap.size := T.2
        clear hb0 hb1 t0 hz HU
        have as0 := as_out_no (.agg #[.int .i64 n])
        have as1 := as_out_fault (.agg #[.int .i64 n])
        have as2 := as_out_call (.agg #[.int .i64 n])
        have as3 := as_out_out (.agg #[.int .i64 n])
        have t2 : Var (w1.alloc (.cells #[.int .i64 n] 112)) w1.heap.size [.int .i64 n] := Var.new w1 [.int .i64 n] 112
        have hA : Below w1.heap.size w1 (w1.alloc (.cells #[.int .i64 n] 112)) := (Below.refl _ _).alloc (Nat.le_refl _) _
        have hB2 := btr hb hA
        have T2 := T.below hA hz1
        have hz2 : w1.heap.size < (w1.alloc (.cells #[.int .i64 n] 112)).heap.size := by simp
        have hz3 : w.heap.size < (w1.alloc (.cells #[.int .i64 n] 112)).heap.size := Nat.lt_trans hz1 hz2
        clear T hA hb
        go_wp2_with fail
        generalize w1.alloc (.cells #[.int .i64 n] 112) = W2 at t2 T2 hB2 hz2 hz3 ⊢
        refine Ord.wp_region_ord (fun w' => w'.cell? ⟨w.heap.size, 0, none⟩ = some (.int .i64 3) ∧ w'.cell? ⟨w.heap.size, 1, none⟩ = some (.int .i64 0) ∧ w'.cell? ⟨w.heap.size, 2, none⟩ = some (.bool false) ∧ w'.cell? ⟨w.heap.size, 3, none⟩ = some (.int .i64 n) ∧ w'.cell? ⟨w1.heap.size, 0, none⟩ = some (.int .i64 n)) [(0, true), (1, true), (2, false), (3, true), (4, true), (5, true), (6, true), (7, false), (8, true), (9, true), (10, true)] (by kernel_rfl) (by kernel_rfl) rfl (by kernel_rfl) (⟨T2.cell 0 (v := .int .i64 3) rfl, T2.cell 1 (v := .int .i64 0) rfl, T2.cell 2 (v := .bool false) rfl, T2.cell 3 (v := .int .i64 n) rfl, t2.cell 0 (v := .int .i64 n) rfl⟩) ?_
        simp only [Ord.ordOps, List.getElem?_toArray, List.getElem?_cons_zero, List.getElem?_cons_succ]
        repeat (first
          | (refine Ord.ord_plain (v := ?_) rfl (fun w' hS => ?_) ?_; rotate_left; (focus ((try dsimp only at hS); go_simp; first | done | with_reducible rfl)); simp only [Act.put, List.setIfInBounds_toArray, List.set_cons_zero, List.set_cons_succ])
          | (refine Ord.ord_skip (by rfl) ?_; simp only [Act.put, List.setIfInBounds_toArray, List.set_cons_zero, List.set_cons_succ])
          | (refine Ord.ord_take (v := ?_) (by rfl) (fun w' hS => ?_) ?_; rotate_left; (focus ((try dsimp only at hS); go_simp; first | done | with_reducible rfl)); simp only [Act.put, List.setIfInBounds_toArray, List.set_cons_zero, List.set_cons_succ]))
        have hbd : Below W2.heap.size W2 W2.drew := (Below.refl _ _).drew
        have hB3 := btr hB2 hbd
        have T3 := T2.below hbd hz3
        have t3 := t2.below hbd hz2
        have hz4 : W2.heap.size ≤ W2.drew.heap.size := hbd.size
        clear hbd
        refine Ord.ord_call (fun K hK => ?_)
        go_simp
        refine (HC.out _).mono ?_
        rintro e v4' ⟨rfl, hb4⟩
        have hB4 := btr hB3 hb4
        have T4 := T3.below hb4 (by omega)
        have t4 := t3.below hb4 (by omega)
        have hy4 := hb4.size
        refine hK.out _ _ (⟨T4.cell 0 (v := .int .i64 3) rfl, T4.cell 1 (v := .int .i64 0) rfl, T4.cell 2 (v := .bool false) rfl, T4.cell 3 (v := .int .i64 n) rfl, t4.cell 0 (v := .int .i64 n) rfl⟩) ?_
        clear hK K
        repeat (first
          | (refine Ord.ord_plain (v := ?_) rfl (fun w' hS => ?_) ?_; rotate_left; (focus ((try dsimp only at hS); go_simp; first | done | with_reducible rfl)); simp only [Act.put, List.setIfInBounds_toArray, List.set_cons_zero, List.set_cons_succ])
          | (refine Ord.ord_skip (by rfl) ?_; simp only [Act.put, List.setIfInBounds_toArray, List.set_cons_zero, List.set_cons_succ])
          | (refine Ord.ord_take (v := ?_) (by rfl) (fun w' hS => ?_) ?_; rotate_left; (focus ((try dsimp only at hS); go_simp; first | done | with_reducible rfl)); simp only [Act.put, List.setIfInBounds_toArray, List.set_cons_zero, List.set_cons_succ]))
        refine Ord.ord_call (fun K hK => ?_)
        go_simp
        refine (HM.out _).mono ?_
        rintro e v5' ⟨rfl, hb5⟩
        have hB5 := btr hB4 hb5
        have T5 := T4.below hb5 (by omega)
        have t5 := t4.below hb5 (by omega)
        have hy5 := hb5.size
        refine hK.out _ _ (⟨T5.cell 0 (v := .int .i64 3) rfl, T5.cell 1 (v := .int .i64 0) rfl, T5.cell 2 (v := .bool false) rfl, T5.cell 3 (v := .int .i64 n) rfl, t5.cell 0 (v := .int .i64 n) rfl⟩) ?_
        clear hK K
        repeat (first
          | (refine Ord.ord_plain (v := ?_) rfl (fun w' hS => ?_) ?_; rotate_left; (focus ((try dsimp only at hS); go_simp; first | done | with_reducible rfl)); simp only [Act.put, List.setIfInBounds_toArray, List.set_cons_zero, List.set_cons_succ])
          | (refine Ord.ord_skip (by rfl) ?_; simp only [Act.put, List.setIfInBounds_toArray, List.set_cons_zero, List.set_cons_succ])
          | (refine Ord.ord_take (v := ?_) (by rfl) (fun w' hS => ?_) ?_; rotate_left; (focus ((try dsimp only at hS); go_simp; first | done | with_reducible rfl)); simp only [Act.put, List.setIfInBounds_toArray, List.set_cons_zero, List.set_cons_succ]))
        refine Ord.ord_nil ?_
        have HBF := Lib.hid hB5
        clear hB2 hB3 hB4 hB5
        go_wp2_with fail
        go_ret
        exact ⟨by rw [HV.out]; rfl, HBF.out⟩
      · subst hp
        have HV := Lib.hid (show exitOk (3, 0, true, n) = false from by simp [exitOk, hi])
        clear hi
        have HU := Lib.hid (fun V : World => impl_usedBy 3 0 true n V)
        rw [usedV_3] at HU
        have hb0 : Below w.heap.size w (w.alloc (.cells #[.int .i64 3, .int .i64 0, .bool true, .int .i64 n] 30)) := (Below.refl _ _).alloc (Nat.le_refl _) _
        have t0 : Var (w.alloc (.cells #[.int .i64 3, .int .i64 0, .bool true, .int .i64 n] 30)) w.heap.size [.int .i64 3, .int .i64 0, .bool true, .int .i64 n] := Var.new w [.int .i64 3, .int .i64 0, .bool true, .int .i64 n] 30
        have hz : w.heap.size < (w.alloc (.cells #[.int .i64 3, .int .i64 0, .bool true, .int .i64 n] 30)).heap.size := by simp
        go_enter Tryz.func86, Tryz.ntmps86
        go_wp2_with fail
        generalize w.alloc (.cells #[.int .i64 3, .int .i64 0, .bool true, .int .i64 n] 30) = W0 at t0 hb0 hz ⊢
        refine (HU.out _).mono ?_
        rintro e w1 ⟨rfl, hb1⟩
        have hb := btr hb0 hb1
        have T := t0.below hb1 hz
        have hz1 : w.heap.size < w1.heap.size := T.2
        clear hb0 hb1 t0 hz HU
        have as0 := as_out_no (.agg #[.int .i64 n])
        have as1 := as_out_fault (.agg #[.int .i64 n])
        have as2 := as_out_call (.agg #[.int .i64 n])
        have as3 := as_out_out (.agg #[.int .i64 n])
        have t2 : Var (w1.alloc (.cells #[.int .i64 n] 112)) w1.heap.size [.int .i64 n] := Var.new w1 [.int .i64 n] 112
        have hA : Below w1.heap.size w1 (w1.alloc (.cells #[.int .i64 n] 112)) := (Below.refl _ _).alloc (Nat.le_refl _) _
        have hB2 := btr hb hA
        have T2 := T.below hA hz1
        have hz2 : w1.heap.size < (w1.alloc (.cells #[.int .i64 n] 112)).heap.size := by simp
        have hz3 : w.heap.size < (w1.alloc (.cells #[.int .i64 n] 112)).heap.size := Nat.lt_trans hz1 hz2
        clear T hA hb
        go_wp2_with fail
        generalize w1.alloc (.cells #[.int .i64 n] 112) = W2 at t2 T2 hB2 hz2 hz3 ⊢
        refine Ord.wp_region_ord (fun w' => w'.cell? ⟨w.heap.size, 0, none⟩ = some (.int .i64 3) ∧ w'.cell? ⟨w.heap.size, 1, none⟩ = some (.int .i64 0) ∧ w'.cell? ⟨w.heap.size, 2, none⟩ = some (.bool true) ∧ w'.cell? ⟨w.heap.size, 3, none⟩ = some (.int .i64 n) ∧ w'.cell? ⟨w1.heap.size, 0, none⟩ = some (.int .i64 n)) [(0, true), (1, true), (2, false), (3, true), (4, true), (5, true), (6, true), (7, false), (8, true), (9, true), (10, true)] (by kernel_rfl) (by kernel_rfl) rfl (by kernel_rfl) (⟨T2.cell 0 (v := .int .i64 3) rfl, T2.cell 1 (v := .int .i64 0) rfl, T2.cell 2 (v := .bool true) rfl, T2.cell 3 (v := .int .i64 n) rfl, t2.cell 0 (v := .int .i64 n) rfl⟩) ?_
        simp only [Ord.ordOps, List.getElem?_toArray, List.getElem?_cons_zero, List.getElem?_cons_succ]
        repeat (first
          | (refine Ord.ord_plain (v := ?_) rfl (fun w' hS => ?_) ?_; rotate_left; (focus ((try dsimp only at hS); go_simp; first | done | with_reducible rfl)); simp only [Act.put, List.setIfInBounds_toArray, List.set_cons_zero, List.set_cons_succ])
          | (refine Ord.ord_skip (by rfl) ?_; simp only [Act.put, List.setIfInBounds_toArray, List.set_cons_zero, List.set_cons_succ])
          | (refine Ord.ord_take (v := ?_) (by rfl) (fun w' hS => ?_) ?_; rotate_left; (focus ((try dsimp only at hS); go_simp; first | done | with_reducible rfl)); simp only [Act.put, List.setIfInBounds_toArray, List.set_cons_zero, List.set_cons_succ]))
        have hbd : Below W2.heap.size W2 W2.drew := (Below.refl _ _).drew
        have hB3 := btr hB2 hbd
        have T3 := T2.below hbd hz3
        have t3 := t2.below hbd hz2
        have hz4 : W2.heap.size ≤ W2.drew.heap.size := hbd.size
        clear hbd
        refine Ord.ord_call (fun K hK => ?_)
        go_simp
        refine (HC.out _).mono ?_
        rintro e v4' ⟨rfl, hb4⟩
        have hB4 := btr hB3 hb4
        have T4 := T3.below hb4 (by omega)
        have t4 := t3.below hb4 (by omega)
        have hy4 := hb4.size
        refine hK.out _ _ (⟨T4.cell 0 (v := .int .i64 3) rfl, T4.cell 1 (v := .int .i64 0) rfl, T4.cell 2 (v := .bool true) rfl, T4.cell 3 (v := .int .i64 n) rfl, t4.cell 0 (v := .int .i64 n) rfl⟩) ?_
        clear hK K
        repeat (first
          | (refine Ord.ord_plain (v := ?_) rfl (fun w' hS => ?_) ?_; rotate_left; (focus ((try dsimp only at hS); go_simp; first | done | with_reducible rfl)); simp only [Act.put, List.setIfInBounds_toArray, List.set_cons_zero, List.set_cons_succ])
          | (refine Ord.ord_skip (by rfl) ?_; simp only [Act.put, List.setIfInBounds_toArray, List.set_cons_zero, List.set_cons_succ])
          | (refine Ord.ord_take (v := ?_) (by rfl) (fun w' hS => ?_) ?_; rotate_left; (focus ((try dsimp only at hS); go_simp; first | done | with_reducible rfl)); simp only [Act.put, List.setIfInBounds_toArray, List.set_cons_zero, List.set_cons_succ]))
        refine Ord.ord_call (fun K hK => ?_)
        go_simp
        refine (HM.out _).mono ?_
        rintro e v5' ⟨rfl, hb5⟩
        have hB5 := btr hB4 hb5
        have T5 := T4.below hb5 (by omega)
        have t5 := t4.below hb5 (by omega)
        have hy5 := hb5.size
        refine hK.out _ _ (⟨T5.cell 0 (v := .int .i64 3) rfl, T5.cell 1 (v := .int .i64 0) rfl, T5.cell 2 (v := .bool true) rfl, T5.cell 3 (v := .int .i64 n) rfl, t5.cell 0 (v := .int .i64 n) rfl⟩) ?_
        clear hK K
        repeat (first
          | (refine Ord.ord_plain (v := ?_) rfl (fun w' hS => ?_) ?_; rotate_left; (focus ((try dsimp only at hS); go_simp; first | done | with_reducible rfl)); simp only [Act.put, List.setIfInBounds_toArray, List.set_cons_zero, List.set_cons_succ])
          | (refine Ord.ord_skip (by rfl) ?_; simp only [Act.put, List.setIfInBounds_toArray, List.set_cons_zero, List.set_cons_succ])
          | (refine Ord.ord_take (v := ?_) (by rfl) (fun w' hS => ?_) ?_; rotate_left; (focus ((try dsimp only at hS); go_simp; first | done | with_reducible rfl)); simp only [Act.put, List.setIfInBounds_toArray, List.set_cons_zero, List.set_cons_succ]))
        refine Ord.ord_nil ?_
        have HBF := Lib.hid hB5
        clear hB2 hB3 hB4 hB5
        go_wp2_with fail
        go_ret
        exact ⟨by rw [HV.out]; rfl, HBF.out⟩
      · have hp' : (p == 0) = false := by simpa using hp
        have HV := Lib.hid (show exitOk (3, p, false, n) = false from by simp [exitOk, hi, hp])
        clear hi hp
        have HU := Lib.hid (fun V : World => impl_usedBy 3 p false n V)
        rw [usedV_3] at HU
        have hb0 : Below w.heap.size w (w.alloc (.cells #[.int .i64 3, .int .i64 p, .bool false, .int .i64 n] 30)) := (Below.refl _ _).alloc (Nat.le_refl _) _
        have t0 : Var (w.alloc (.cells #[.int .i64 3, .int .i64 p, .bool false, .int .i64 n] 30)) w.heap.size [.int .i64 3, .int .i64 p, .bool false, .int .i64 n] := Var.new w [.int .i64 3, .int .i64 p, .bool false, .int .i64 n] 30
        have hz : w.heap.size < (w.alloc (.cells #[.int .i64 3, .int .i64 p, .bool false, .int .i64 n] 30)).heap.size := by simp
        go_enter Tryz.func86, Tryz.ntmps86
        go_wp2_with fail
        generalize w.alloc (.cells #[.int .i64 3, .int .i64 p, .bool false, .int .i64 n] 30) = W0 at t0 hb0 hz ⊢
        refine (HU.out _).mono ?_
        rintro e w1 ⟨rfl, hb1⟩
        have hb := btr hb0 hb1
        have T := t0.below hb1 hz
        have hz1 : w.heap.size < w1.heap.size := T.2
        clear hb0 hb1 t0 hz HU
        have as0 := as_out_no (.agg #[.int .i64 n])
        have as1 := as_out_fault (.agg #[.int .i64 n])
        have as2 := as_out_call (.agg #[.int .i64 n])
        have as3 := as_out_out (.agg #[.int .i64 n])
        have t2 : Var (w1.alloc (.cells #[.int .i64 n] 112)) w1.heap.size [.int .i64 n] := Var.new w1 [.int .i64 n] 112
        have hA : Below w1.heap.size w1 (w1.alloc (.cells #[.int .i64 n] 112)) := (Below.refl _ _).alloc (Nat.le_refl _) _
        have hB2 := btr hb hA
        have T2 := T.below hA hz1
        have hz2 : w1.heap.size < (w1.alloc (.cells #[.int .i64 n] 112)).heap.size := by simp
        have hz3 : w.heap.size < (w1.alloc (.cells #[.int .i64 n] 112)).heap.size := Nat.lt_trans hz1 hz2
        clear T hA hb
        go_wp2_with fail
        generalize w1.alloc (.cells #[.int .i64 n] 112) = W2 at t2 T2 hB2 hz2 hz3 ⊢
        refine Ord.wp_region_ord (fun w' => w'.cell? ⟨w.heap.size, 0, none⟩ = some (.int .i64 3) ∧ w'.cell? ⟨w.heap.size, 1, none⟩ = some (.int .i64 p) ∧ w'.cell? ⟨w.heap.size, 2, none⟩ = some (.bool false) ∧ w'.cell? ⟨w.heap.size, 3, none⟩ = some (.int .i64 n) ∧ w'.cell? ⟨w1.heap.size, 0, none⟩ = some (.int .i64 n)) [(0, true), (1, true), (2, false), (3, true), (4, true), (5, true), (6, true), (7, false), (8, true), (9, true), (10, true)] (by kernel_rfl) (by kernel_rfl) rfl (by kernel_rfl) (⟨T2.cell 0 (v := .int .i64 3) rfl, T2.cell 1 (v := .int .i64 p) rfl, T2.cell 2 (v := .bool false) rfl, T2.cell 3 (v := .int .i64 n) rfl, t2.cell 0 (v := .int .i64 n) rfl⟩) ?_
        simp only [Ord.ordOps, List.getElem?_toArray, List.getElem?_cons_zero, List.getElem?_cons_succ]
        repeat (first
          | (refine Ord.ord_plain (v := ?_) rfl (fun w' hS => ?_) ?_; rotate_left; (focus ((try dsimp only at hS); go_simp; first | done | with_reducible rfl)); simp only [Act.put, List.setIfInBounds_toArray, List.set_cons_zero, List.set_cons_succ])
          | (refine Ord.ord_skip (by rfl) ?_; simp only [Act.put, List.setIfInBounds_toArray, List.set_cons_zero, List.set_cons_succ])
          | (refine Ord.ord_take (v := ?_) (by rfl) (fun w' hS => ?_) ?_; rotate_left; (focus ((try dsimp only at hS); go_simp; first | done | with_reducible rfl)); simp only [Act.put, List.setIfInBounds_toArray, List.set_cons_zero, List.set_cons_succ]))
        have hbd : Below W2.heap.size W2 W2.drew := (Below.refl _ _).drew
        have hB3 := btr hB2 hbd
        have T3 := T2.below hbd hz3
        have t3 := t2.below hbd hz2
        have hz4 : W2.heap.size ≤ W2.drew.heap.size := hbd.size
        clear hbd
        refine Ord.ord_call (fun K hK => ?_)
        go_simp
        refine (HC.out _).mono ?_
        rintro e v4' ⟨rfl, hb4⟩
        have hB4 := btr hB3 hb4
        have T4 := T3.below hb4 (by omega)
        have t4 := t3.below hb4 (by omega)
        have hy4 := hb4.size
        refine hK.out _ _ (⟨T4.cell 0 (v := .int .i64 3) rfl, T4.cell 1 (v := .int .i64 p) rfl, T4.cell 2 (v := .bool false) rfl, T4.cell 3 (v := .int .i64 n) rfl, t4.cell 0 (v := .int .i64 n) rfl⟩) ?_
        clear hK K
        repeat (first
          | (refine Ord.ord_plain (v := ?_) rfl (fun w' hS => ?_) ?_; rotate_left; (focus ((try dsimp only at hS); go_simp; first | done | with_reducible rfl)); simp only [Act.put, List.setIfInBounds_toArray, List.set_cons_zero, List.set_cons_succ])
          | (refine Ord.ord_skip (by rfl) ?_; simp only [Act.put, List.setIfInBounds_toArray, List.set_cons_zero, List.set_cons_succ])
          | (refine Ord.ord_take (v := ?_) (by rfl) (fun w' hS => ?_) ?_; rotate_left; (focus ((try dsimp only at hS); go_simp; first | done | with_reducible rfl)); simp only [Act.put, List.setIfInBounds_toArray, List.set_cons_zero, List.set_cons_succ]))
        refine Ord.ord_call (fun K hK => ?_)
        go_simp
        refine (HM.out _).mono ?_
        rintro e v5' ⟨rfl, hb5⟩
        have hB5 := btr hB4 hb5
        have T5 := T4.below hb5 (by omega)
        have t5 := t4.below hb5 (by omega)
        have hy5 := hb5.size
        refine hK.out _ _ (⟨T5.cell 0 (v := .int .i64 3) rfl, T5.cell 1 (v := .int .i64 p) rfl, T5.cell 2 (v := .bool false) rfl, T5.cell 3 (v := .int .i64 n) rfl, t5.cell 0 (v := .int .i64 n) rfl⟩) ?_
        clear hK K
        repeat (first
          | (refine Ord.ord_plain (v := ?_) rfl (fun w' hS => ?_) ?_; rotate_left; (focus ((try dsimp only at hS); go_simp; first | done | with_reducible rfl)); simp only [Act.put, List.setIfInBounds_toArray, List.set_cons_zero, List.set_cons_succ])
          | (refine Ord.ord_skip (by rfl) ?_; simp only [Act.put, List.setIfInBounds_toArray, List.set_cons_zero, List.set_cons_succ])
          | (refine Ord.ord_take (v := ?_) (by rfl) (fun w' hS => ?_) ?_; rotate_left; (focus ((try dsimp only at hS); go_simp; first | done | with_reducible rfl)); simp only [Act.put, List.setIfInBounds_toArray, List.set_cons_zero, List.set_cons_succ]))
        refine Ord.ord_nil ?_
        have HBF := Lib.hid hB5
        clear hB2 hB3 hB4 hB5
        go_wp2_with fail
        go_ret
        exact ⟨by rw [HV.out]; rfl, HBF.out⟩
      · have hp' : (p == 0) = false := by simpa using hp
        have HV := Lib.hid (show exitOk (3, p, true, n) = false from by simp [exitOk, hi, hp])
        clear hi hp
        have HU := Lib.hid (fun V : World => impl_usedBy 3 p true n V)
        rw [usedV_3] at HU
        have hb0 : Below w.heap.size w (w.alloc (.cells #[.int .i64 3, .int .i64 p, .bool true, .int .i64 n] 30)) := (Below.refl _ _).alloc (Nat.le_refl _) _
        have t0 : Var (w.alloc (.cells #[.int .i64 3, .int .i64 p, .bool true, .int .i64 n] 30)) w.heap.size [.int .i64 3, .int .i64 p, .bool true, .int .i64 n] := Var.new w [.int .i64 3, .int .i64 p, .bool true, .int .i64 n] 30
        have hz : w.heap.size < (w.alloc (.cells #[.int .i64 3, .int .i64 p, .bool true, .int .i64 n] 30)).heap.size := by simp
        go_enter Tryz.func86, Tryz.ntmps86
        go_wp2_with fail
        generalize w.alloc (.cells #[.int .i64 3, .int .i64 p, .bool true, .int .i64 n] 30) = W0 at t0 hb0 hz ⊢
        refine (HU.out _).mono ?_
        rintro e w1 ⟨rfl, hb1⟩
        have hb := btr hb0 hb1
        have T := t0.below hb1 hz
        have hz1 : w.heap.size < w1.heap.size := T.2
        clear hb0 hb1 t0 hz HU
        have as0 := as_out_no (.agg #[.int .i64 n])
        have as1 := as_out_fault (.agg #[.int .i64 n])
        have as2 := as_out_call (.agg #[.int .i64 n])
        have as3 := as_out_out (.agg #[.int .i64 n])
        have t2 : Var (w1.alloc (.cells #[.int .i64 n] 112)) w1.heap.size [.int .i64 n] := Var.new w1 [.int .i64 n] 112
        have hA : Below w1.heap.size w1 (w1.alloc (.cells #[.int .i64 n] 112)) := (Below.refl _ _).alloc (Nat.le_refl _) _
        have hB2 := btr hb hA
        have T2 := T.below hA hz1
        have hz2 : w1.heap.size < (w1.alloc (.cells #[.int .i64 n] 112)).heap.size := by simp
        have hz3 : w.heap.size < (w1.alloc (.cells #[.int .i64 n] 112)).heap.size := Nat.lt_trans hz1 hz2
        clear T hA hb
        go_wp2_with fail
        generalize w1.alloc (.cells #[.int .i64 n] 112) = W2 at t2 T2 hB2 hz2 hz3 ⊢
        refine Ord.wp_region_ord (fun w' => w'.cell? ⟨w.heap.size, 0, none⟩ = some (.int .i64 3) ∧ w'.cell? ⟨w.heap.size, 1, none⟩ = some (.int .i64 p) ∧ w'.cell? ⟨w.heap.size, 2, none⟩ = some (.bool true) ∧ w'.cell? ⟨w.heap.size, 3, none⟩ = some (.int .i64 n) ∧ w'.cell? ⟨w1.heap.size, 0, none⟩ = some (.int .i64 n)) [(0, true), (1, true), (2, false), (3, true), (4, true), (5, true), (6, true), (7, false), (8, true), (9, true), (10, true)] (by kernel_rfl) (by kernel_rfl) rfl (by kernel_rfl) (⟨T2.cell 0 (v := .int .i64 3) rfl, T2.cell 1 (v := .int .i64 p) rfl, T2.cell 2 (v := .bool true) rfl, T2.cell 3 (v := .int .i64 n) rfl, t2.cell 0 (v := .int .i64 n) rfl⟩) ?_
        simp only [Ord.ordOps, List.getElem?_toArray, List.getElem?_cons_zero, List.getElem?_cons_succ]
        repeat (first
          | (refine Ord.ord_plain (v := ?_) rfl (fun w' hS => ?_) ?_; rotate_left; (focus ((try dsimp only at hS); go_simp; first | done | with_reducible rfl)); simp only [Act.put, List.setIfInBounds_toArray, List.set_cons_zero, List.set_cons_succ])
          | (refine Ord.ord_skip (by rfl) ?_; simp only [Act.put, List.setIfInBounds_toArray, List.set_cons_zero, List.set_cons_succ])
          | (refine Ord.ord_take (v := ?_) (by rfl) (fun w' hS => ?_) ?_; rotate_left; (focus ((try dsimp only at hS); go_simp; first | done | with_reducible rfl)); simp only [Act.put, List.setIfInBounds_toArray, List.set_cons_zero, List.set_cons_succ]))
        have hbd : Below W2.heap.size W2 W2.drew := (Below.refl _ _).drew
        have hB3 := btr hB2 hbd
        have T3 := T2.below hbd hz3
        have t3 := t2.below hbd hz2
        have hz4 : W2.heap.size ≤ W2.drew.heap.size := hbd.size
        clear hbd
        refine Ord.ord_call (fun K hK => ?_)
        go_simp
        refine (HC.out _).mono ?_
        rintro e v4' ⟨rfl, hb4⟩
        have hB4 := btr hB3 hb4
        have T4 := T3.below hb4 (by omega)
        have t4 := t3.below hb4 (by omega)
        have hy4 := hb4.size
        refine hK.out _ _ (⟨T4.cell 0 (v := .int .i64 3) rfl, T4.cell 1 (v := .int .i64 p) rfl, T4.cell 2 (v := .bool true) rfl, T4.cell 3 (v := .int .i64 n) rfl, t4.cell 0 (v := .int .i64 n) rfl⟩) ?_
        clear hK K
        repeat (first
          | (refine Ord.ord_plain (v := ?_) rfl (fun w' hS => ?_) ?_; rotate_left; (focus ((try dsimp only at hS); go_simp; first | done | with_reducible rfl)); simp only [Act.put, List.setIfInBounds_toArray, List.set_cons_zero, List.set_cons_succ])
          | (refine Ord.ord_skip (by rfl) ?_; simp only [Act.put, List.setIfInBounds_toArray, List.set_cons_zero, List.set_cons_succ])
          | (refine Ord.ord_take (v := ?_) (by rfl) (fun w' hS => ?_) ?_; rotate_left; (focus ((try dsimp only at hS); go_simp; first | done | with_reducible rfl)); simp only [Act.put, List.setIfInBounds_toArray, List.set_cons_zero, List.set_cons_succ]))
        refine Ord.ord_call (fun K hK => ?_)
        go_simp
        refine (HM.out _).mono ?_
        rintro e v5' ⟨rfl, hb5⟩
        have hB5 := btr hB4 hb5
        have T5 := T4.below hb5 (by omega)
        have t5 := t4.below hb5 (by omega)
        have hy5 := hb5.size
        refine hK.out _ _ (⟨T5.cell 0 (v := .int .i64 3) rfl, T5.cell 1 (v := .int .i64 p) rfl, T5.cell 2 (v := .bool true) rfl, T5.cell 3 (v := .int .i64 n) rfl, t5.cell 0 (v := .int .i64 n) rfl⟩) ?_
        clear hK K
        repeat (first
          | (refine Ord.ord_plain (v := ?_) rfl (fun w' hS => ?_) ?_; rotate_left; (focus ((try dsimp only at hS); go_simp; first | done | with_reducible rfl)); simp only [Act.put, List.setIfInBounds_toArray, List.set_cons_zero, List.set_cons_succ])
          | (refine Ord.ord_skip (by rfl) ?_; simp only [Act.put, List.setIfInBounds_toArray, List.set_cons_zero, List.set_cons_succ])
          | (refine Ord.ord_take (v := ?_) (by rfl) (fun w' hS => ?_) ?_; rotate_left; (focus ((try dsimp only at hS); go_simp; first | done | with_reducible rfl)); simp only [Act.put, List.setIfInBounds_toArray, List.set_cons_zero, List.set_cons_succ]))
        refine Ord.ord_nil ?_
        have HBF := Lib.hid hB5
        clear hB2 hB3 hB4 hB5
        go_wp2_with fail
        go_ret
        exact ⟨by rw [HV.out]; rfl, HBF.out⟩
  · have HV := Lib.hid (exitOk_else (p := p) (n := n) (w := q) h)
    have HU := Lib.hid (fun V : World => impl_usedBy k p q n V)
    rw [usedV_else p q n h] at HU
    have hb0 : Below w.heap.size w (w.alloc (.cells #[.int .i64 k, .int .i64 p, .bool q, .int .i64 n] 30)) := (Below.refl _ _).alloc (Nat.le_refl _) _
    have t0 : Var (w.alloc (.cells #[.int .i64 k, .int .i64 p, .bool q, .int .i64 n] 30)) w.heap.size [.int .i64 k, .int .i64 p, .bool q, .int .i64 n] := Var.new w [.int .i64 k, .int .i64 p, .bool q, .int .i64 n] 30
    have hz : w.heap.size < (w.alloc (.cells #[.int .i64 k, .int .i64 p, .bool q, .int .i64 n] 30)).heap.size := by simp
    go_enter Tryz.func86, Tryz.ntmps86
    go_wp2_with fail
    generalize w.alloc (.cells #[.int .i64 k, .int .i64 p, .bool q, .int .i64 n] 30) = W0 at t0 hb0 hz ⊢
    refine (HU.out _).mono ?_
    rintro e w1 ⟨rfl, hb1⟩
    have hb := btr hb0 hb1
    have T := t0.below hb1 hz
    have hz1 : w.heap.size < w1.heap.size := T.2
    clear hb0 hb1 t0 hz HU
    have as0 := as_nil_no
    have as1 := as_nil_fault
    have as2 := as_nil_call
    have as3 := as_nil_out
    have as4 := as_nil_halt
    have HB := Lib.hid hb
    clear T hb hz1 h
    go_wp2_with fail
    go_ret
    exact ⟨by rw [HV.out]; rfl, HB.out⟩
end Go.Proofs.YteopkcndkcciaaaGreat.Exits
