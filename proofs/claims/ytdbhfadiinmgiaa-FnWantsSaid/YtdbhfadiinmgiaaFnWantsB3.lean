/-
  The texts that FnWants wants, part 3: WantDraws WantX GuestLaw WantLaw SxM IrqImpl ExitImpl CtlImpl InsImpl. No condition.
-/
import Derived.Test.YtdbhfadiinmgiaaFnWantsB2
import Derived.RangeFuncFrom
import Derived.RangeFuncBound
import Derived.RangeFuncCalls
import Derived.RangeFuncLeaves
import Derived.Shelf.Abstract
import Derived.WalkKit
import Derived.OwnWalkIn
import Derived.TacticsInMore
import Derived.LoopNIn
import Derived.LoopIn
import Derived.Laws.Build
import Derived.Laws.StructEq
import Derived.BigQuiet
namespace Go.Proofs.Ytdbhfadiinmgiaa.Guests
set_option maxRecDepth 100000
open Go.ChangeShapes Go.WideShapes Go.ChangeAt Go.RowKit
open Go.Proofs.Ytdbhfadiinmgiaa.Base Go.Proofs.Ytdbhfadiinmgiaa.Mem Go.Proofs.Ytdbhfadiinmgiaa.Data Go.Proofs.Ytdbhfadiinmgiaa.Slots Go.Proofs.Ytdbhfadiinmgiaa.Ints Go.Proofs.Ytdbhfadiinmgiaa.Ctls Go.Proofs.Ytdbhfadiinmgiaa.Exits Go.Proofs.Ytdbhfadiinmgiaa.Stt Go.Proofs.Ytdbhfadiinmgiaa.Irqs Go.Proofs.Ytdbhfadiinmgiaa.Inss Go.Proofs.Ytdbhfadiinmgiaa.Draw Go.Proofs.Ytdbhfadiinmgiaa.SDraw
set_option linter.unusedVariables false
set_option linter.unusedSimpArgs false
set_option maxRecDepth 100000 in
set_option maxHeartbeats 4000000 in
theorem drawMoved (A : Option Addr) (n c : Nat) (w0 : World) (hn : n ≤ 1048576) (hcode : CodeAt w0 A n) : Calls Try.prog 16 #[.slice A n c] w0 (GOne w0) := by
  refine Sx.enter (args := [.slice A n c]) Try.func16 rfl Try.ntmps16 rfl ?_
  refine Sx.C.seq ?_
  refine Sx.C.region ?_
  refine Sx.G.alloc 32 (.agg #[.slice none 0 0, .int .i64 0, .int .i64 0, .slice none 0 0, .slice none 0 0, .int .i64 0, .int .i64 0, .bool false, .int .i64 0, .int .i64 0, .int .i64 0, .bool false, .int .i64 0, .bool false, .slice none 0 0]) [.slice none 0 0, .int .i64 0, .int .i64 0, .slice none 0 0, .slice none 0 0, .int .i64 0, .int .i64 0, .bool false, .int .i64 0, .int .i64 0, .int .i64 0, .bool false, .int .i64 0, .bool false, .slice none 0 0] rfl (by kernel_rfl) (fun w => by kernel_rfl) (by kernel_rfl) (fun b1 => ?_)
  refine Sx.G.nil ?_
  refine Sx.E.next ?_
  refine Sx.C.seq ?_
  refine Sx.C.region ?_
  refine Sx.G.pure (.slice A n c) (by kernel_rfl) (fun w => by kernel_rfl) ?_
  refine Sx.G.call 43 #[.slice A n c] (by kernel_rfl) (fun w => by kernel_rfl) (fun w2 S => (Sx.new_g A n c _ hn (hcode.below S.below)).mono fun e w2' hp => ?_)
  obtain ⟨g, rfl, hcs, hlo, hhi, hb⟩ := hp
  refine ⟨_, _, rfl, (S.add hb (Sx.cu A n c g) hcs hlo hhi), ?_⟩
  clear S hcs hlo hhi hb
  refine Sx.G.call 42 #[.pointer (some ⟨g, 0, none⟩)] (by kernel_rfl) (fun w => by kernel_rfl) (fun w3 S => (gany_any w0 A n c g _ hn hcode (Sx.St.cur S 0 rfl)).mono fun e w3' hp => ?_)
  obtain ⟨gg3, A3_0, c3_0, A3_1, c3_1, A3_2, c3_2, A3_3, c3_3, rfl, hwf3, hsm3, hcur, hgr, F3, l3_0, k3_0, l3_1, k3_1, l3_2, k3_2, l3_3, k3_3, hfr⟩ := hp
  refine ⟨_, _, rfl, Sx.St.joinD S (Sx.St.moved S 0 rfl hcur hgr) hfr, ?_⟩
  clear S hcur hgr hfr
  refine Sx.G.sto 32 (.tmp 2) (.tmp 5) b1 0 5 [.slice none 0 0, .int .i64 0, .int .i64 0, .slice none 0 0, .slice none 0 0, .int .i64 0, .int .i64 0, .bool false, .int .i64 0, .int .i64 0, .int .i64 0, .bool false, .int .i64 0, .bool false, .slice none 0 0] [.slice A3_0 gg3.prog.length c3_0, .int .i64 gg3.a, .int .i64 gg3.pc, .slice A3_1 gg3.wr.length c3_1, .slice A3_2 gg3.lv.length c3_2, .int .i64 gg3.t.1, .int .i64 gg3.t.2.1, .bool gg3.t.2.2, .int .i64 gg3.pd, .int .i64 gg3.x.1, .int .i64 gg3.x.2.1, .bool gg3.x.2.2.1, .int .i64 gg3.x.2.2.2, .bool gg3.hl, .slice A3_3 gg3.seen.length c3_3] [.slice A3_0 gg3.prog.length c3_0, .int .i64 gg3.a, .int .i64 gg3.pc, .slice A3_1 gg3.wr.length c3_1, .slice A3_2 gg3.lv.length c3_2, .int .i64 gg3.t.1, .int .i64 gg3.t.2.1, .bool gg3.t.2.2, .int .i64 gg3.pd, .int .i64 gg3.x.1, .int .i64 gg3.x.2.1, .bool gg3.x.2.2.1, .int .i64 gg3.x.2.2.2, .bool gg3.hl, .slice A3_3 gg3.seen.length c3_3] [Sx.rp l3_0 k3_0 gg3.prog A3_0 c3_0, Sx.rp l3_1 k3_1 gg3.wr A3_1 c3_1, Sx.rp l3_2 k3_2 gg3.lv A3_2 c3_2, ow (rLst 3 rInt) l3_3 k3_3 gg3.seen [.slice A3_3 gg3.seen.length c3_3] F3, Sx.cu A n c g, vr b1 [.slice A3_0 gg3.prog.length c3_0, .int .i64 gg3.a, .int .i64 gg3.pc, .slice A3_1 gg3.wr.length c3_1, .slice A3_2 gg3.lv.length c3_2, .int .i64 gg3.t.1, .int .i64 gg3.t.2.1, .bool gg3.t.2.2, .int .i64 gg3.pd, .int .i64 gg3.x.1, .int .i64 gg3.x.2.1, .bool gg3.x.2.2.1, .int .i64 gg3.x.2.2.2, .bool gg3.hl, .slice A3_3 gg3.seen.length c3_3]] rfl (by kernel_rfl) (by kernel_rfl) (by kernel_rfl) rfl (by kernel_rfl) rfl (by kernel_rfl) (by kernel_rfl) (by kernel_rfl) ?_
  refine Sx.G.nil ?_
  refine Sx.E.next ?_
  refine Sx.C.ret ?_
  refine Sx.E.retc b1 5 [.slice A3_0 gg3.prog.length c3_0, .int .i64 gg3.a, .int .i64 gg3.pc, .slice A3_1 gg3.wr.length c3_1, .slice A3_2 gg3.lv.length c3_2, .int .i64 gg3.t.1, .int .i64 gg3.t.2.1, .bool gg3.t.2.2, .int .i64 gg3.pd, .int .i64 gg3.x.1, .int .i64 gg3.x.2.1, .bool gg3.x.2.2.1, .int .i64 gg3.x.2.2.2, .bool gg3.hl, .slice A3_3 gg3.seen.length c3_3] rfl (by kernel_rfl) rfl (by kernel_rfl) (by kernel_rfl) (fun w S => ?_)
  exact ⟨gg3, _, rfl, hwf3, ⟨hsm3.1, hsm3.2.1, hsm3.2.2.1, by have := hsm3.2.2.2; show gg3.seen.length ≤ 46; omega⟩, (rG_rd_mk (g := gg3) (Sx.St.rpIn S 0 rfl) (Sx.St.rpIn S 1 rfl) (Sx.St.rpIn S 2 rfl) (Sx.St.owIn (r := rLst 3 rInt) S 3 rfl)), S.below⟩
set_option maxRecDepth 100000 in
set_option maxHeartbeats 4000000 in
theorem drawPlainly (A : Option Addr) (n c : Nat) (w0 : World) (hn : n ≤ 1048576) (hcode : CodeAt w0 A n) : Calls Try.prog 13 #[.slice A n c] w0 (GOne w0) := by
  refine Sx.enter (args := [.slice A n c]) Try.func13 rfl Try.ntmps13 rfl ?_
  refine Sx.C.seq ?_
  refine Sx.C.region ?_
  refine Sx.G.alloc 32 (.agg #[.slice none 0 0, .int .i64 0, .int .i64 0, .slice none 0 0, .slice none 0 0, .int .i64 0, .int .i64 0, .bool false, .int .i64 0, .int .i64 0, .int .i64 0, .bool false, .int .i64 0, .bool false, .slice none 0 0]) [.slice none 0 0, .int .i64 0, .int .i64 0, .slice none 0 0, .slice none 0 0, .int .i64 0, .int .i64 0, .bool false, .int .i64 0, .int .i64 0, .int .i64 0, .bool false, .int .i64 0, .bool false, .slice none 0 0] rfl (by kernel_rfl) (fun w => by kernel_rfl) (by kernel_rfl) (fun b1 => ?_)
  refine Sx.G.nil ?_
  refine Sx.E.next ?_
  refine Sx.C.seq ?_
  refine Sx.C.region ?_
  refine Sx.G.pure (.slice A n c) (by kernel_rfl) (fun w => by kernel_rfl) ?_
  refine Sx.G.call 43 #[.slice A n c] (by kernel_rfl) (fun w => by kernel_rfl) (fun w2 S => (Sx.new_g A n c _ hn (hcode.below S.below)).mono fun e w2' hp => ?_)
  obtain ⟨g, rfl, hcs, hlo, hhi, hb⟩ := hp
  refine ⟨_, _, rfl, (S.add hb (Sx.cu A n c g) hcs hlo hhi), ?_⟩
  clear S hcs hlo hhi hb
  refine Sx.G.call 42 #[.pointer (some ⟨g, 0, none⟩)] (by kernel_rfl) (fun w => by kernel_rfl) (fun w3 S => (gany_any w0 A n c g _ hn hcode (Sx.St.cur S 0 rfl)).mono fun e w3' hp => ?_)
  obtain ⟨gg3, A3_0, c3_0, A3_1, c3_1, A3_2, c3_2, A3_3, c3_3, rfl, hwf3, hsm3, hcur, hgr, F3, l3_0, k3_0, l3_1, k3_1, l3_2, k3_2, l3_3, k3_3, hfr⟩ := hp
  refine ⟨_, _, rfl, Sx.St.joinD S (Sx.St.moved S 0 rfl hcur hgr) hfr, ?_⟩
  clear S hcur hgr hfr
  refine Sx.G.sto 32 (.tmp 2) (.tmp 5) b1 0 5 [.slice none 0 0, .int .i64 0, .int .i64 0, .slice none 0 0, .slice none 0 0, .int .i64 0, .int .i64 0, .bool false, .int .i64 0, .int .i64 0, .int .i64 0, .bool false, .int .i64 0, .bool false, .slice none 0 0] [.slice A3_0 gg3.prog.length c3_0, .int .i64 gg3.a, .int .i64 gg3.pc, .slice A3_1 gg3.wr.length c3_1, .slice A3_2 gg3.lv.length c3_2, .int .i64 gg3.t.1, .int .i64 gg3.t.2.1, .bool gg3.t.2.2, .int .i64 gg3.pd, .int .i64 gg3.x.1, .int .i64 gg3.x.2.1, .bool gg3.x.2.2.1, .int .i64 gg3.x.2.2.2, .bool gg3.hl, .slice A3_3 gg3.seen.length c3_3] [.slice A3_0 gg3.prog.length c3_0, .int .i64 gg3.a, .int .i64 gg3.pc, .slice A3_1 gg3.wr.length c3_1, .slice A3_2 gg3.lv.length c3_2, .int .i64 gg3.t.1, .int .i64 gg3.t.2.1, .bool gg3.t.2.2, .int .i64 gg3.pd, .int .i64 gg3.x.1, .int .i64 gg3.x.2.1, .bool gg3.x.2.2.1, .int .i64 gg3.x.2.2.2, .bool gg3.hl, .slice A3_3 gg3.seen.length c3_3] [Sx.rp l3_0 k3_0 gg3.prog A3_0 c3_0, Sx.rp l3_1 k3_1 gg3.wr A3_1 c3_1, Sx.rp l3_2 k3_2 gg3.lv A3_2 c3_2, ow (rLst 3 rInt) l3_3 k3_3 gg3.seen [.slice A3_3 gg3.seen.length c3_3] F3, Sx.cu A n c g, vr b1 [.slice A3_0 gg3.prog.length c3_0, .int .i64 gg3.a, .int .i64 gg3.pc, .slice A3_1 gg3.wr.length c3_1, .slice A3_2 gg3.lv.length c3_2, .int .i64 gg3.t.1, .int .i64 gg3.t.2.1, .bool gg3.t.2.2, .int .i64 gg3.pd, .int .i64 gg3.x.1, .int .i64 gg3.x.2.1, .bool gg3.x.2.2.1, .int .i64 gg3.x.2.2.2, .bool gg3.hl, .slice A3_3 gg3.seen.length c3_3]] rfl (by kernel_rfl) (by kernel_rfl) (by kernel_rfl) rfl (by kernel_rfl) rfl (by kernel_rfl) (by kernel_rfl) (by kernel_rfl) ?_
  refine Sx.G.nil ?_
  refine Sx.E.next ?_
  refine Sx.C.ret ?_
  refine Sx.E.retc b1 5 [.slice A3_0 gg3.prog.length c3_0, .int .i64 gg3.a, .int .i64 gg3.pc, .slice A3_1 gg3.wr.length c3_1, .slice A3_2 gg3.lv.length c3_2, .int .i64 gg3.t.1, .int .i64 gg3.t.2.1, .bool gg3.t.2.2, .int .i64 gg3.pd, .int .i64 gg3.x.1, .int .i64 gg3.x.2.1, .bool gg3.x.2.2.1, .int .i64 gg3.x.2.2.2, .bool gg3.hl, .slice A3_3 gg3.seen.length c3_3] rfl (by kernel_rfl) rfl (by kernel_rfl) (by kernel_rfl) (fun w S => ?_)
  exact ⟨gg3, _, rfl, hwf3, ⟨hsm3.1, hsm3.2.1, hsm3.2.2.1, by have := hsm3.2.2.2; show gg3.seen.length ≤ 46; omega⟩, (rG_rd_mk (g := gg3) (Sx.St.rpIn S 0 rfl) (Sx.St.rpIn S 1 rfl) (Sx.St.rpIn S 2 rfl) (Sx.St.owIn (r := rLst 3 rInt) S 3 rfl)), S.below⟩
set_option maxRecDepth 100000 in
set_option maxHeartbeats 4000000 in
theorem drawLoaded (A : Option Addr) (n c : Nat) (w0 : World) (hn : n ≤ 1048576) (hcode : CodeAt w0 A n) : Calls Try.prog 15 #[.slice A n c] w0 (GNum w0) := by
  refine Sx.enter (args := [.slice A n c]) Try.func15 rfl Try.ntmps15 rfl ?_
  refine Sx.C.seq ?_
  refine Sx.C.region ?_
  refine Sx.G.alloc 32 (.agg #[.slice none 0 0, .int .i64 0, .int .i64 0, .slice none 0 0, .slice none 0 0, .int .i64 0, .int .i64 0, .bool false, .int .i64 0, .int .i64 0, .int .i64 0, .bool false, .int .i64 0, .bool false, .slice none 0 0]) [.slice none 0 0, .int .i64 0, .int .i64 0, .slice none 0 0, .slice none 0 0, .int .i64 0, .int .i64 0, .bool false, .int .i64 0, .int .i64 0, .int .i64 0, .bool false, .int .i64 0, .bool false, .slice none 0 0] rfl (by kernel_rfl) (fun w => by kernel_rfl) (by kernel_rfl) (fun b1 => ?_)
  refine Sx.G.pure (.int .i64 0) (by kernel_rfl) (fun w => by kernel_rfl) ?_
  refine Sx.G.nil ?_
  refine Sx.E.next ?_
  refine Sx.C.seq ?_
  refine Sx.C.region ?_
  refine Sx.G.pure (.slice A n c) (by kernel_rfl) (fun w => by kernel_rfl) ?_
  refine Sx.G.call 43 #[.slice A n c] (by kernel_rfl) (fun w => by kernel_rfl) (fun w2 S => (Sx.new_g A n c _ hn (hcode.below S.below)).mono fun e w2' hp => ?_)
  obtain ⟨g, rfl, hcs, hlo, hhi, hb⟩ := hp
  refine ⟨_, _, rfl, (S.add hb (Sx.cu A n c g) hcs hlo hhi), ?_⟩
  clear S hcs hlo hhi hb
  refine Sx.G.pure (.pointer (some ⟨g, 0, none⟩)) (by kernel_rfl) (fun w => by kernel_rfl) ?_
  refine Sx.G.nil ?_
  refine Sx.E.next ?_
  refine Sx.C.seq ?_
  refine Sx.C.region ?_
  refine Sx.G.pure (.pointer (some ⟨g, 0, none⟩)) (by kernel_rfl) (fun w => by kernel_rfl) ?_
  refine Sx.G.call 42 #[.pointer (some ⟨g, 0, none⟩)] (by kernel_rfl) (fun w => by kernel_rfl) (fun w3 S => (gany_any w0 A n c g _ hn hcode (Sx.St.cur S 0 rfl)).mono fun e w3' hp => ?_)
  obtain ⟨gg3, A3_0, c3_0, A3_1, c3_1, A3_2, c3_2, A3_3, c3_3, rfl, hwf3, hsm3, hcur, hgr, F3, l3_0, k3_0, l3_1, k3_1, l3_2, k3_2, l3_3, k3_3, hfr⟩ := hp
  refine ⟨_, _, rfl, Sx.St.joinD S (Sx.St.moved S 0 rfl hcur hgr) hfr, ?_⟩
  clear S hcur hgr hfr
  refine Sx.G.pure (.pointer (some ⟨g, 0, none⟩)) (by kernel_rfl) (fun w => by kernel_rfl) ?_
  refine Sx.G.call 48 #[.pointer (some ⟨g, 0, none⟩), .int .i64 100] (by kernel_rfl) (fun w => by kernel_rfl) (fun w4 S => (below_any w0 A n c g _ 100 (by decide) (by decide) hn hcode (Sx.St.cur S 4 rfl)).mono fun e w4' hp => ?_)
  obtain ⟨x4, rfl, hx4, hy4, hcur, hgr⟩ := hp
  refine ⟨_, _, rfl, Sx.St.moved S 4 rfl hcur hgr, ?_⟩
  clear S hcur hgr
  refine Sx.G.sto 32 (.tmp 2) (.tmp 8) b1 0 5 [.slice none 0 0, .int .i64 0, .int .i64 0, .slice none 0 0, .slice none 0 0, .int .i64 0, .int .i64 0, .bool false, .int .i64 0, .int .i64 0, .int .i64 0, .bool false, .int .i64 0, .bool false, .slice none 0 0] [.slice A3_0 gg3.prog.length c3_0, .int .i64 gg3.a, .int .i64 gg3.pc, .slice A3_1 gg3.wr.length c3_1, .slice A3_2 gg3.lv.length c3_2, .int .i64 gg3.t.1, .int .i64 gg3.t.2.1, .bool gg3.t.2.2, .int .i64 gg3.pd, .int .i64 gg3.x.1, .int .i64 gg3.x.2.1, .bool gg3.x.2.2.1, .int .i64 gg3.x.2.2.2, .bool gg3.hl, .slice A3_3 gg3.seen.length c3_3] [.slice A3_0 gg3.prog.length c3_0, .int .i64 gg3.a, .int .i64 gg3.pc, .slice A3_1 gg3.wr.length c3_1, .slice A3_2 gg3.lv.length c3_2, .int .i64 gg3.t.1, .int .i64 gg3.t.2.1, .bool gg3.t.2.2, .int .i64 gg3.pd, .int .i64 gg3.x.1, .int .i64 gg3.x.2.1, .bool gg3.x.2.2.1, .int .i64 gg3.x.2.2.2, .bool gg3.hl, .slice A3_3 gg3.seen.length c3_3] [Sx.rp l3_0 k3_0 gg3.prog A3_0 c3_0, Sx.rp l3_1 k3_1 gg3.wr A3_1 c3_1, Sx.rp l3_2 k3_2 gg3.lv A3_2 c3_2, ow (rLst 3 rInt) l3_3 k3_3 gg3.seen [.slice A3_3 gg3.seen.length c3_3] F3, Sx.cu A n c g, vr b1 [.slice A3_0 gg3.prog.length c3_0, .int .i64 gg3.a, .int .i64 gg3.pc, .slice A3_1 gg3.wr.length c3_1, .slice A3_2 gg3.lv.length c3_2, .int .i64 gg3.t.1, .int .i64 gg3.t.2.1, .bool gg3.t.2.2, .int .i64 gg3.pd, .int .i64 gg3.x.1, .int .i64 gg3.x.2.1, .bool gg3.x.2.2.1, .int .i64 gg3.x.2.2.2, .bool gg3.hl, .slice A3_3 gg3.seen.length c3_3]] rfl (by kernel_rfl) (by kernel_rfl) (by kernel_rfl) rfl (by kernel_rfl) rfl (by kernel_rfl) (by kernel_rfl) (by kernel_rfl) ?_
  refine Sx.G.pure (.int .i64 x4) (by kernel_rfl) (fun w => by kernel_rfl) ?_
  refine Sx.G.nil ?_
  refine Sx.E.next ?_
  refine Sx.C.ret ?_
  refine Sx.E.retg2 (.agg #[.slice A3_0 gg3.prog.length c3_0, .int .i64 gg3.a, .int .i64 gg3.pc, .slice A3_1 gg3.wr.length c3_1, .slice A3_2 gg3.lv.length c3_2, .int .i64 gg3.t.1, .int .i64 gg3.t.2.1, .bool gg3.t.2.2, .int .i64 gg3.pd, .int .i64 gg3.x.1, .int .i64 gg3.x.2.1, .bool gg3.x.2.2.1, .int .i64 gg3.x.2.2.2, .bool gg3.hl, .slice A3_3 gg3.seen.length c3_3]) (.int .i64 x4) rfl (Sx.IsRes.row b1 5 [.slice A3_0 gg3.prog.length c3_0, .int .i64 gg3.a, .int .i64 gg3.pc, .slice A3_1 gg3.wr.length c3_1, .slice A3_2 gg3.lv.length c3_2, .int .i64 gg3.t.1, .int .i64 gg3.t.2.1, .bool gg3.t.2.2, .int .i64 gg3.pd, .int .i64 gg3.x.1, .int .i64 gg3.x.2.1, .bool gg3.x.2.2.1, .int .i64 gg3.x.2.2.2, .bool gg3.hl, .slice A3_3 gg3.seen.length c3_3] (by kernel_rfl) rfl (by kernel_rfl) (by kernel_rfl)) (Sx.IsRes.slot (by kernel_rfl)) (fun w S => ?_)
  exact ⟨gg3, _, _, rfl, hwf3, ⟨hsm3.1, hsm3.2.1, hsm3.2.2.1, by have := hsm3.2.2.2; show gg3.seen.length ≤ 46; omega⟩, (rG_rd_mk (g := gg3) (Sx.St.rpIn S 0 rfl) (Sx.St.rpIn S 1 rfl) (Sx.St.rpIn S 2 rfl) (Sx.St.owIn (r := rLst 3 rInt) S 3 rfl)), (Sx.wf_small hx4 (Int.lt_trans hy4 (by decide))), S.below⟩
end Go.Proofs.Ytdbhfadiinmgiaa.Guests
namespace Go.Proofs.Ytdbhfadiinmgiaa.Guests
set_option maxRecDepth 100000
open Go.ChangeShapes Go.WideShapes Go.ChangeAt Go.RowKit
open Go.Proofs.Ytdbhfadiinmgiaa.Base Go.Proofs.Ytdbhfadiinmgiaa.Mem Go.Proofs.Ytdbhfadiinmgiaa.Data Go.Proofs.Ytdbhfadiinmgiaa.Slots Go.Proofs.Ytdbhfadiinmgiaa.Ints Go.Proofs.Ytdbhfadiinmgiaa.Ctls Go.Proofs.Ytdbhfadiinmgiaa.Exits Go.Proofs.Ytdbhfadiinmgiaa.Stt Go.Proofs.Ytdbhfadiinmgiaa.Irqs Go.Proofs.Ytdbhfadiinmgiaa.Inss
set_option linter.unusedVariables false
set_option linter.unusedSimpArgs false
/-- What chapter 16 computes. -/
def opWant (o : Int) : Int := if (o == 3) = true then 3 else if (o == 4) = true then 4 else if (o == 5) = true then 5 else if (o == 6) = true then 6 else if (o == 7) = true then 7 else 2
def wantG (g : gT) : Int := if canRun g = true then (if takesI g = true then 1 else opWant (insAt g.prog g.pc).1) else 0
def movedG (g : gT) : gT := { g with pc := if decide (g.pc ≥ 12) = true then 12 else IntKind.i64.wrap (g.pc + 1) }
def plainG (g : gT) : gT :=
  if (wantG g != 2) = true then g
  else if (inB g.a 0 99 && inB (insAt g.prog g.pc).2 0 99 && ((insAt g.prog g.pc).1 == 1)) = true then movedG { g with a := (insAt g.prog g.pc).2 }
  else if (inB g.a 0 99 && inB (insAt g.prog g.pc).2 0 99 && ((insAt g.prog g.pc).1 == 2)) = true then movedG { g with a := (IntKind.i64.wrap (g.a + (insAt g.prog g.pc).2)).tmod 100 }
  else if (inB g.a 0 99 && inB (insAt g.prog g.pc).2 0 99 && ((insAt g.prog g.pc).1 == 8) && (g.a == 0)) = true then { g with pc := (insAt g.prog g.pc).2 }
  else movedG g
def loadedG (g : gT) (v : Int) : gT := movedG (sawG { g with a := v } v)
def heldG (g : gT) : gT := movedG { g with hl := true }
def addrG (g : gT) : Int := if ((wantG g != 3) && (wantG g != 4)) = true then -1 else (insAt g.prog g.pc).2
set_option maxRecDepth 100000 in
set_option maxHeartbeats 4000000 in
theorem specx_want (g : gT) (cs : List Value) (w : World) (hc : rG.cap g) (h : rG.rd w 0 w.heap.size g cs) : Calls Try.prog 28 #[.agg cs.toArray] w (fun e w' => e = .returned (.int .i64 (wantG g)) ∧ Below w.heap.size w w') := by
  obtain ⟨q0, q1, q2, q3⟩ := rG_len hc
  have hr := h
  obtain ⟨P0, P1, P2, P3, rfl, h0, h1, h2, h3⟩ := rG_rd h
  obtain ⟨PA0, Pc0, e0, hP0⟩ := lst_val h0
  subst e0
  obtain ⟨PA1, Pc1, e1, hP1⟩ := lst_val h1
  subst e1
  obtain ⟨PA2, Pc2, e2, hP2⟩ := lst_val h2
  subst e2
  obtain ⟨PA3, Pc3, e3, hP3⟩ := lst_val h3
  subst e3
  refine Sx.enter (args := [.agg #[.slice PA0 g.prog.length Pc0, .int .i64 g.a, .int .i64 g.pc, .slice PA1 g.wr.length Pc1, .slice PA2 g.lv.length Pc2, .int .i64 g.t.1, .int .i64 g.t.2.1, .bool g.t.2.2, .int .i64 g.pd, .int .i64 g.x.1, .int .i64 g.x.2.1, .bool g.x.2.2.1, .int .i64 g.x.2.2.2, .bool g.hl, .slice PA3 g.seen.length Pc3]]) Try.func28 rfl Try.ntmps28 rfl ?_
  refine Sx.C.seq ?_
  refine Sx.C.region ?_
  refine Sx.G.box 32 (.tmp 0) [.slice PA0 g.prog.length Pc0, .int .i64 g.a, .int .i64 g.pc, .slice PA1 g.wr.length Pc1, .slice PA2 g.lv.length Pc2, .int .i64 g.t.1, .int .i64 g.t.2.1, .bool g.t.2.2, .int .i64 g.pd, .int .i64 g.x.1, .int .i64 g.x.2.1, .bool g.x.2.2.1, .int .i64 g.x.2.2.2, .bool g.hl, .slice PA3 g.seen.length Pc3] rfl (by kernel_rfl) (by kernel_rfl) (fun b1 => ?_)
  refine Sx.G.pure (.int .i64 0) (by kernel_rfl) (fun w => by kernel_rfl) ?_
  refine Sx.G.nil ?_
  refine Sx.E.next ?_
  refine Sx.C.seq ?_
  refine Sx.C.seq ?_
  refine Sx.C.region ?_
  refine Sx.G.ld 32 (.tmp 1) b1 0 0 [.slice PA0 g.prog.length Pc0, .int .i64 g.a, .int .i64 g.pc, .slice PA1 g.wr.length Pc1, .slice PA2 g.lv.length Pc2, .int .i64 g.t.1, .int .i64 g.t.2.1, .bool g.t.2.2, .int .i64 g.pd, .int .i64 g.x.1, .int .i64 g.x.2.1, .bool g.x.2.2.1, .int .i64 g.x.2.2.2, .bool g.hl, .slice PA3 g.seen.length Pc3] [.slice PA0 g.prog.length Pc0, .int .i64 g.a, .int .i64 g.pc, .slice PA1 g.wr.length Pc1, .slice PA2 g.lv.length Pc2, .int .i64 g.t.1, .int .i64 g.t.2.1, .bool g.t.2.2, .int .i64 g.pd, .int .i64 g.x.1, .int .i64 g.x.2.1, .bool g.x.2.2.1, .int .i64 g.x.2.2.2, .bool g.hl, .slice PA3 g.seen.length Pc3] rfl (by kernel_rfl) (by kernel_rfl) rfl (by kernel_rfl) (by kernel_rfl) (by kernel_rfl) ?_
  refine Sx.G.plain 32 #[.agg #[.slice PA0 g.prog.length Pc0, .int .i64 g.a, .int .i64 g.pc, .slice PA1 g.wr.length Pc1, .slice PA2 g.lv.length Pc2, .int .i64 g.t.1, .int .i64 g.t.2.1, .bool g.t.2.2, .int .i64 g.pd, .int .i64 g.x.1, .int .i64 g.x.2.1, .bool g.x.2.2.1, .int .i64 g.x.2.2.2, .bool g.hl, .slice PA3 g.seen.length Pc3]] (.bool (canRun g)) (by kernel_rfl) (fun w => by kernel_rfl) (fun w S => by exact spec_canRun g (.slice PA0 g.prog.length Pc0) (.slice PA1 g.wr.length Pc1) (.slice PA2 g.lv.length Pc2) (.slice PA3 g.seen.length Pc3) _) ?_
  refine Sx.G.pure (.bool (!(canRun g))) (by kernel_rfl) (fun w => by kernel_rfl) ?_
  refine Sx.G.nil ?_
  refine Sx.E.next ?_
  cases hc2 : (canRun g)
  · have hb2 := hc2
    refine Sx.C.yes (by kernel_rfl) (by kernel_rfl) ?_
    refine Sx.C.seq ?_
    refine Sx.C.region ?_
    refine Sx.G.pure (.int .i64 0) (by kernel_rfl) (fun w => by kernel_rfl) ?_
    refine Sx.G.nil ?_
    refine Sx.E.next ?_
    refine Sx.C.ret ?_
    refine Sx.E.then_ret ?_
    refine Sx.E.ret1 (.int .i64 0) rfl (by kernel_rfl) (fun w S => ?_)
    exact ⟨congrArg Ending.returned (congrArg (Value.int .i64) (by simp [wantG, opWant, hb2])), S.below⟩
  · have hb2 := hc2
    refine Sx.C.no (by kernel_rfl) (by kernel_rfl) ?_
    refine Sx.C.skip ?_
    refine Sx.E.next ?_
    refine Sx.C.seq ?_
    refine Sx.C.seq ?_
    refine Sx.C.region ?_
    refine Sx.G.ld 32 (.tmp 1) b1 0 0 [.slice PA0 g.prog.length Pc0, .int .i64 g.a, .int .i64 g.pc, .slice PA1 g.wr.length Pc1, .slice PA2 g.lv.length Pc2, .int .i64 g.t.1, .int .i64 g.t.2.1, .bool g.t.2.2, .int .i64 g.pd, .int .i64 g.x.1, .int .i64 g.x.2.1, .bool g.x.2.2.1, .int .i64 g.x.2.2.2, .bool g.hl, .slice PA3 g.seen.length Pc3] [.slice PA0 g.prog.length Pc0, .int .i64 g.a, .int .i64 g.pc, .slice PA1 g.wr.length Pc1, .slice PA2 g.lv.length Pc2, .int .i64 g.t.1, .int .i64 g.t.2.1, .bool g.t.2.2, .int .i64 g.pd, .int .i64 g.x.1, .int .i64 g.x.2.1, .bool g.x.2.2.1, .int .i64 g.x.2.2.2, .bool g.hl, .slice PA3 g.seen.length Pc3] rfl (by kernel_rfl) (by kernel_rfl) rfl (by kernel_rfl) (by kernel_rfl) (by kernel_rfl) ?_
    refine Sx.G.plain 60 #[.agg #[.slice PA0 g.prog.length Pc0, .int .i64 g.a, .int .i64 g.pc, .slice PA1 g.wr.length Pc1, .slice PA2 g.lv.length Pc2, .int .i64 g.t.1, .int .i64 g.t.2.1, .bool g.t.2.2, .int .i64 g.pd, .int .i64 g.x.1, .int .i64 g.x.2.1, .bool g.x.2.2.1, .int .i64 g.x.2.2.2, .bool g.hl, .slice PA3 g.seen.length Pc3]] (.bool (takesI g)) (by kernel_rfl) (fun w => by kernel_rfl) (fun w S => by exact spec_takes g (.slice PA0 g.prog.length Pc0) (.slice PA1 g.wr.length Pc1) (.slice PA2 g.lv.length Pc2) (.slice PA3 g.seen.length Pc3) _) ?_
    refine Sx.G.nil ?_
    refine Sx.E.next ?_
    cases hc3 : (takesI g)
    · have hb3 := hc3
      refine Sx.C.no (by kernel_rfl) (by kernel_rfl) ?_
      refine Sx.C.skip ?_
      refine Sx.E.next ?_
      refine Sx.C.seq ?_
      refine Sx.C.seq ?_
      refine Sx.C.region ?_
      refine Sx.G.pure (.pointer (some ⟨b1, 0, none⟩)) (by kernel_rfl) (fun w => by kernel_rfl) ?_
      refine Sx.G.ld1 24 (.tmp 8) b1 0 0 [.slice PA0 g.prog.length Pc0, .int .i64 g.a, .int .i64 g.pc, .slice PA1 g.wr.length Pc1, .slice PA2 g.lv.length Pc2, .int .i64 g.t.1, .int .i64 g.t.2.1, .bool g.t.2.2, .int .i64 g.pd, .int .i64 g.x.1, .int .i64 g.x.2.1, .bool g.x.2.2.1, .int .i64 g.x.2.2.2, .bool g.hl, .slice PA3 g.seen.length Pc3] (.slice PA0 g.prog.length Pc0) rfl (by kernel_rfl) (by kernel_rfl) rfl (by kernel_rfl) (by kernel_rfl) ?_
      refine Sx.G.pure (.pointer (some ⟨b1, 2, none⟩)) (by kernel_rfl) (fun w => by kernel_rfl) ?_
      refine Sx.G.ld1 3 (.tmp 10) b1 2 0 [.slice PA0 g.prog.length Pc0, .int .i64 g.a, .int .i64 g.pc, .slice PA1 g.wr.length Pc1, .slice PA2 g.lv.length Pc2, .int .i64 g.t.1, .int .i64 g.t.2.1, .bool g.t.2.2, .int .i64 g.pd, .int .i64 g.x.1, .int .i64 g.x.2.1, .bool g.x.2.2.1, .int .i64 g.x.2.2.2, .bool g.hl, .slice PA3 g.seen.length Pc3] (.int .i64 g.pc) rfl (by kernel_rfl) (by kernel_rfl) rfl (by kernel_rfl) (by kernel_rfl) ?_
      refine Sx.G.plain 52 #[.slice PA0 g.prog.length Pc0, .int .i64 g.pc] (.agg #[.int .i64 (insAt g.prog g.pc).1, .int .i64 (insAt g.prog g.pc).2]) (by kernel_rfl) (fun w => by kernel_rfl) (fun w S => by exact spec_insAt PA0 g.prog.length Pc0 0 g.pc g.prog _ q0 rfl (by rw [← pcells_j]; exact p2_lies (St.old S h0))) ?_
      refine Sx.G.pure (.int .i64 (insAt g.prog g.pc).1) (by kernel_rfl) (fun w => by kernel_rfl) ?_
      refine Sx.G.nil ?_
      refine Sx.E.next ?_
      refine Sx.C.block ?_
      refine Sx.C.seq ?_
      refine Sx.C.region ?_
      refine Sx.G.pure (.bool ((insAt g.prog g.pc).1 == 3)) (by kernel_rfl) (fun w => by kernel_rfl) ?_
      refine Sx.G.pure (.bool ((insAt g.prog g.pc).1 == 3)) (by kernel_rfl) (fun w => by kernel_rfl) ?_
      refine Sx.G.nil ?_
      refine Sx.E.next ?_
      cases hc4 : ((insAt g.prog g.pc).1 == 3)
      · have hb4 := hc4
        refine Sx.C.no (by kernel_rfl) (by kernel_rfl) ?_
        refine Sx.C.seq ?_
        refine Sx.C.region ?_
        refine Sx.G.pure (.bool ((insAt g.prog g.pc).1 == 4)) (by kernel_rfl) (fun w => by kernel_rfl) ?_
        refine Sx.G.pure (.bool ((insAt g.prog g.pc).1 == 4)) (by kernel_rfl) (fun w => by kernel_rfl) ?_
        refine Sx.G.nil ?_
        refine Sx.E.next ?_
        cases hc5 : ((insAt g.prog g.pc).1 == 4)
        · have hb5 := hc5
          refine Sx.C.no (by kernel_rfl) (by kernel_rfl) ?_
          refine Sx.C.seq ?_
          refine Sx.C.region ?_
          refine Sx.G.pure (.bool ((insAt g.prog g.pc).1 == 5)) (by kernel_rfl) (fun w => by kernel_rfl) ?_
          refine Sx.G.pure (.bool ((insAt g.prog g.pc).1 == 5)) (by kernel_rfl) (fun w => by kernel_rfl) ?_
          refine Sx.G.nil ?_
          refine Sx.E.next ?_
          cases hc6 : ((insAt g.prog g.pc).1 == 5)
          · have hb6 := hc6
            refine Sx.C.no (by kernel_rfl) (by kernel_rfl) ?_
            refine Sx.C.seq ?_
            refine Sx.C.region ?_
            refine Sx.G.pure (.bool ((insAt g.prog g.pc).1 == 6)) (by kernel_rfl) (fun w => by kernel_rfl) ?_
            refine Sx.G.pure (.bool ((insAt g.prog g.pc).1 == 6)) (by kernel_rfl) (fun w => by kernel_rfl) ?_
            refine Sx.G.nil ?_
            refine Sx.E.next ?_
            cases hc7 : ((insAt g.prog g.pc).1 == 6)
            · have hb7 := hc7
              refine Sx.C.no (by kernel_rfl) (by kernel_rfl) ?_
              refine Sx.C.seq ?_
              refine Sx.C.region ?_
              refine Sx.G.pure (.bool ((insAt g.prog g.pc).1 == 7)) (by kernel_rfl) (fun w => by kernel_rfl) ?_
              refine Sx.G.pure (.bool ((insAt g.prog g.pc).1 == 7)) (by kernel_rfl) (fun w => by kernel_rfl) ?_
              refine Sx.G.nil ?_
              refine Sx.E.next ?_
              cases hc8 : ((insAt g.prog g.pc).1 == 7)
              · have hb8 := hc8
                refine Sx.C.no (by kernel_rfl) (by kernel_rfl) ?_
                refine Sx.C.skip ?_
                refine Sx.E.block_normal ?_
                refine Sx.E.next ?_
                refine Sx.C.seq ?_
                refine Sx.C.region ?_
                refine Sx.G.pure (.int .i64 2) (by kernel_rfl) (fun w => by kernel_rfl) ?_
                refine Sx.G.nil ?_
                refine Sx.E.next ?_
                refine Sx.C.ret ?_
                refine Sx.E.ret1 (.int .i64 2) rfl (by kernel_rfl) (fun w S => ?_)
                exact ⟨congrArg Ending.returned (congrArg (Value.int .i64) (by simp [wantG, opWant, hb2, hb3, hb4, hb5, hb6, hb7, hb8])), S.below⟩
              · have hb8 := hc8
                refine Sx.C.yes (by kernel_rfl) (by kernel_rfl) ?_
                refine Sx.C.seq ?_
                refine Sx.C.region ?_
                refine Sx.G.pure (.int .i64 7) (by kernel_rfl) (fun w => by kernel_rfl) ?_
                refine Sx.G.nil ?_
                refine Sx.E.next ?_
                refine Sx.C.ret ?_
                refine Sx.E.block_ret ?_
                refine Sx.E.then_ret ?_
                refine Sx.E.ret1 (.int .i64 7) rfl (by kernel_rfl) (fun w S => ?_)
                exact ⟨congrArg Ending.returned (congrArg (Value.int .i64) (by simp [wantG, opWant, hb2, hb3, hb4, hb5, hb6, hb7, hb8])), S.below⟩
            · have hb7 := hc7
              refine Sx.C.yes (by kernel_rfl) (by kernel_rfl) ?_
              refine Sx.C.seq ?_
              refine Sx.C.region ?_
              refine Sx.G.pure (.int .i64 6) (by kernel_rfl) (fun w => by kernel_rfl) ?_
              refine Sx.G.nil ?_
              refine Sx.E.next ?_
              refine Sx.C.ret ?_
              refine Sx.E.block_ret ?_
              refine Sx.E.then_ret ?_
              refine Sx.E.ret1 (.int .i64 6) rfl (by kernel_rfl) (fun w S => ?_)
              exact ⟨congrArg Ending.returned (congrArg (Value.int .i64) (by simp [wantG, opWant, hb2, hb3, hb4, hb5, hb6, hb7])), S.below⟩
          · have hb6 := hc6
            refine Sx.C.yes (by kernel_rfl) (by kernel_rfl) ?_
            refine Sx.C.seq ?_
            refine Sx.C.region ?_
            refine Sx.G.pure (.int .i64 5) (by kernel_rfl) (fun w => by kernel_rfl) ?_
            refine Sx.G.nil ?_
            refine Sx.E.next ?_
            refine Sx.C.ret ?_
            refine Sx.E.block_ret ?_
            refine Sx.E.then_ret ?_
            refine Sx.E.ret1 (.int .i64 5) rfl (by kernel_rfl) (fun w S => ?_)
            exact ⟨congrArg Ending.returned (congrArg (Value.int .i64) (by simp [wantG, opWant, hb2, hb3, hb4, hb5, hb6])), S.below⟩
        · have hb5 := hc5
          refine Sx.C.yes (by kernel_rfl) (by kernel_rfl) ?_
          refine Sx.C.seq ?_
          refine Sx.C.region ?_
          refine Sx.G.pure (.int .i64 4) (by kernel_rfl) (fun w => by kernel_rfl) ?_
          refine Sx.G.nil ?_
          refine Sx.E.next ?_
          refine Sx.C.ret ?_
          refine Sx.E.block_ret ?_
          refine Sx.E.then_ret ?_
          refine Sx.E.ret1 (.int .i64 4) rfl (by kernel_rfl) (fun w S => ?_)
          exact ⟨congrArg Ending.returned (congrArg (Value.int .i64) (by simp [wantG, opWant, hb2, hb3, hb4, hb5])), S.below⟩
      · have hb4 := hc4
        refine Sx.C.yes (by kernel_rfl) (by kernel_rfl) ?_
        refine Sx.C.seq ?_
        refine Sx.C.region ?_
        refine Sx.G.pure (.int .i64 3) (by kernel_rfl) (fun w => by kernel_rfl) ?_
        refine Sx.G.nil ?_
        refine Sx.E.next ?_
        refine Sx.C.ret ?_
        refine Sx.E.block_ret ?_
        refine Sx.E.then_ret ?_
        refine Sx.E.ret1 (.int .i64 3) rfl (by kernel_rfl) (fun w S => ?_)
        exact ⟨congrArg Ending.returned (congrArg (Value.int .i64) (by simp [wantG, opWant, hb2, hb3, hb4])), S.below⟩
    · have hb3 := hc3
      refine Sx.C.yes (by kernel_rfl) (by kernel_rfl) ?_
      refine Sx.C.seq ?_
      refine Sx.C.region ?_
      refine Sx.G.pure (.int .i64 1) (by kernel_rfl) (fun w => by kernel_rfl) ?_
      refine Sx.G.nil ?_
      refine Sx.E.next ?_
      refine Sx.C.ret ?_
      refine Sx.E.then_ret ?_
      refine Sx.E.ret1 (.int .i64 1) rfl (by kernel_rfl) (fun w S => ?_)
      exact ⟨congrArg Ending.returned (congrArg (Value.int .i64) (by simp [wantG, opWant, hb2, hb3])), S.below⟩
set_option maxRecDepth 100000 in
set_option maxHeartbeats 4000000 in
theorem specx_moved (g : gT) (cs : List Value) (w : World) (hc : rG.cap g) (h : rG.rd w 0 w.heap.size g cs) : Calls Try.prog 22 #[.agg cs.toArray] w (Gives rG w (movedG g)) := by
  obtain ⟨q0, q1, q2, q3⟩ := rG_len hc
  have hr := h
  obtain ⟨P0, P1, P2, P3, rfl, h0, h1, h2, h3⟩ := rG_rd h
  obtain ⟨PA0, Pc0, e0, hP0⟩ := lst_val h0
  subst e0
  obtain ⟨PA1, Pc1, e1, hP1⟩ := lst_val h1
  subst e1
  obtain ⟨PA2, Pc2, e2, hP2⟩ := lst_val h2
  subst e2
  obtain ⟨PA3, Pc3, e3, hP3⟩ := lst_val h3
  subst e3
  refine Sx.enter (args := [.agg #[.slice PA0 g.prog.length Pc0, .int .i64 g.a, .int .i64 g.pc, .slice PA1 g.wr.length Pc1, .slice PA2 g.lv.length Pc2, .int .i64 g.t.1, .int .i64 g.t.2.1, .bool g.t.2.2, .int .i64 g.pd, .int .i64 g.x.1, .int .i64 g.x.2.1, .bool g.x.2.2.1, .int .i64 g.x.2.2.2, .bool g.hl, .slice PA3 g.seen.length Pc3]]) Try.func22 rfl Try.ntmps22 rfl ?_
  refine Sx.C.seq ?_
  refine Sx.C.region ?_
  refine Sx.G.box 32 (.tmp 0) [.slice PA0 g.prog.length Pc0, .int .i64 g.a, .int .i64 g.pc, .slice PA1 g.wr.length Pc1, .slice PA2 g.lv.length Pc2, .int .i64 g.t.1, .int .i64 g.t.2.1, .bool g.t.2.2, .int .i64 g.pd, .int .i64 g.x.1, .int .i64 g.x.2.1, .bool g.x.2.2.1, .int .i64 g.x.2.2.2, .bool g.hl, .slice PA3 g.seen.length Pc3] rfl (by kernel_rfl) (by kernel_rfl) (fun b1 => ?_)
  refine Sx.G.alloc 32 (.agg #[.slice none 0 0, .int .i64 0, .int .i64 0, .slice none 0 0, .slice none 0 0, .int .i64 0, .int .i64 0, .bool false, .int .i64 0, .int .i64 0, .int .i64 0, .bool false, .int .i64 0, .bool false, .slice none 0 0]) [.slice none 0 0, .int .i64 0, .int .i64 0, .slice none 0 0, .slice none 0 0, .int .i64 0, .int .i64 0, .bool false, .int .i64 0, .int .i64 0, .int .i64 0, .bool false, .int .i64 0, .bool false, .slice none 0 0] rfl (by kernel_rfl) (fun w => by kernel_rfl) (by kernel_rfl) (fun b2 => ?_)
  refine Sx.G.nil ?_
  refine Sx.E.next ?_
  refine Sx.C.seq ?_
  refine Sx.C.region ?_
  refine Sx.G.ld 32 (.tmp 1) b1 0 1 [.slice PA0 g.prog.length Pc0, .int .i64 g.a, .int .i64 g.pc, .slice PA1 g.wr.length Pc1, .slice PA2 g.lv.length Pc2, .int .i64 g.t.1, .int .i64 g.t.2.1, .bool g.t.2.2, .int .i64 g.pd, .int .i64 g.x.1, .int .i64 g.x.2.1, .bool g.x.2.2.1, .int .i64 g.x.2.2.2, .bool g.hl, .slice PA3 g.seen.length Pc3] [.slice PA0 g.prog.length Pc0, .int .i64 g.a, .int .i64 g.pc, .slice PA1 g.wr.length Pc1, .slice PA2 g.lv.length Pc2, .int .i64 g.t.1, .int .i64 g.t.2.1, .bool g.t.2.2, .int .i64 g.pd, .int .i64 g.x.1, .int .i64 g.x.2.1, .bool g.x.2.2.1, .int .i64 g.x.2.2.2, .bool g.hl, .slice PA3 g.seen.length Pc3] rfl (by kernel_rfl) (by kernel_rfl) rfl (by kernel_rfl) (by kernel_rfl) (by kernel_rfl) ?_
  refine Sx.G.call 51 #[.agg #[.slice PA0 g.prog.length Pc0, .int .i64 g.a, .int .i64 g.pc, .slice PA1 g.wr.length Pc1, .slice PA2 g.lv.length Pc2, .int .i64 g.t.1, .int .i64 g.t.2.1, .bool g.t.2.2, .int .i64 g.pd, .int .i64 g.x.1, .int .i64 g.x.2.1, .bool g.x.2.2.1, .int .i64 g.x.2.2.2, .bool g.hl, .slice PA3 g.seen.length Pc3]] (by kernel_rfl) (fun w => by kernel_rfl) (fun w3 S => (specx_copy g _ _ (by exact hc) (St.old S hr)).mono fun e w3' hp => ?_)
  obtain ⟨cs, F, rfl, ho, hF, hb⟩ := hp
  obtain ⟨q3_0, q3_1, q3_2, q3_3, G3_0, G3_1, G3_2, G3_3, rfl, S'⟩ := rG_open (S.got hb ho hF)
  obtain ⟨q3A0, q3c0, e0, -⟩ := lst_val (S'.reads 0 rfl)
  subst e0
  obtain ⟨q3A1, q3c1, e1, -⟩ := lst_val (S'.reads 1 rfl)
  subst e1
  obtain ⟨q3A2, q3c2, e2, -⟩ := lst_val (S'.reads 2 rfl)
  subst e2
  obtain ⟨q3A3, q3c3, e3, -⟩ := lst_val (S'.reads 3 rfl)
  subst e3
  refine ⟨_, _, rfl, S', ?_⟩
  clear S S' ho hF hb
  refine Sx.G.sto 32 (.tmp 1) (.tmp 4) b1 0 5 [.slice PA0 g.prog.length Pc0, .int .i64 g.a, .int .i64 g.pc, .slice PA1 g.wr.length Pc1, .slice PA2 g.lv.length Pc2, .int .i64 g.t.1, .int .i64 g.t.2.1, .bool g.t.2.2, .int .i64 g.pd, .int .i64 g.x.1, .int .i64 g.x.2.1, .bool g.x.2.2.1, .int .i64 g.x.2.2.2, .bool g.hl, .slice PA3 g.seen.length Pc3] [.slice q3A0 g.prog.length q3c0, .int .i64 g.a, .int .i64 g.pc, .slice q3A1 g.wr.length q3c1, .slice q3A2 g.lv.length q3c2, .int .i64 g.t.1, .int .i64 g.t.2.1, .bool g.t.2.2, .int .i64 g.pd, .int .i64 g.x.1, .int .i64 g.x.2.1, .bool g.x.2.2.1, .int .i64 g.x.2.2.2, .bool g.hl, .slice q3A3 g.seen.length q3c3] [.slice q3A0 g.prog.length q3c0, .int .i64 g.a, .int .i64 g.pc, .slice q3A1 g.wr.length q3c1, .slice q3A2 g.lv.length q3c2, .int .i64 g.t.1, .int .i64 g.t.2.1, .bool g.t.2.2, .int .i64 g.pd, .int .i64 g.x.1, .int .i64 g.x.2.1, .bool g.x.2.2.1, .int .i64 g.x.2.2.2, .bool g.hl, .slice q3A3 g.seen.length q3c3] [ow (rLst 42 (rPair rInt rInt)) w3.heap.size (w3'.heap.size) g.prog [.slice q3A0 g.prog.length q3c0] G3_0, ow (rLsw (rPair rInt rInt)) w3.heap.size w3'.heap.size g.wr [.slice q3A1 g.wr.length q3c1] G3_1, ow (rLsw (rPair rInt rInt)) w3.heap.size w3'.heap.size g.lv [.slice q3A2 g.lv.length q3c2] G3_2, ow (rLst 3 rInt) w3.heap.size (w3'.heap.size) g.seen [.slice q3A3 g.seen.length q3c3] G3_3, vr b2 [.slice none 0 0, .int .i64 0, .int .i64 0, .slice none 0 0, .slice none 0 0, .int .i64 0, .int .i64 0, .bool false, .int .i64 0, .int .i64 0, .int .i64 0, .bool false, .int .i64 0, .bool false, .slice none 0 0], vr b1 [.slice q3A0 g.prog.length q3c0, .int .i64 g.a, .int .i64 g.pc, .slice q3A1 g.wr.length q3c1, .slice q3A2 g.lv.length q3c2, .int .i64 g.t.1, .int .i64 g.t.2.1, .bool g.t.2.2, .int .i64 g.pd, .int .i64 g.x.1, .int .i64 g.x.2.1, .bool g.x.2.2.1, .int .i64 g.x.2.2.2, .bool g.hl, .slice q3A3 g.seen.length q3c3]] rfl (by kernel_rfl) (by kernel_rfl) (by kernel_rfl) rfl (by kernel_rfl) rfl (by kernel_rfl) (by kernel_rfl) (by kernel_rfl) ?_
  refine Sx.G.nil ?_
  refine Sx.E.next ?_
  refine Sx.C.seq ?_
  refine Sx.C.seq ?_
  refine Sx.C.region ?_
  refine Sx.G.pure (.pointer (some ⟨b1, 2, none⟩)) (by kernel_rfl) (fun w => by kernel_rfl) ?_
  refine Sx.G.ld1 3 (.tmp 5) b1 2 5 [.slice q3A0 g.prog.length q3c0, .int .i64 g.a, .int .i64 g.pc, .slice q3A1 g.wr.length q3c1, .slice q3A2 g.lv.length q3c2, .int .i64 g.t.1, .int .i64 g.t.2.1, .bool g.t.2.2, .int .i64 g.pd, .int .i64 g.x.1, .int .i64 g.x.2.1, .bool g.x.2.2.1, .int .i64 g.x.2.2.2, .bool g.hl, .slice q3A3 g.seen.length q3c3] (.int .i64 g.pc) rfl (by kernel_rfl) (by kernel_rfl) rfl (by kernel_rfl) (by kernel_rfl) ?_
  refine Sx.G.pure (.bool (decide (g.pc ≥ 12))) (by kernel_rfl) (fun w => by kernel_rfl) ?_
  refine Sx.G.nil ?_
  refine Sx.E.next ?_
  cases hc4 : (decide (g.pc ≥ 12))
  · have hb4 := hc4
    replace hc4 := of_decide_eq_false hc4
    refine Sx.C.no (by kernel_rfl) (by kernel_rfl) ?_
    refine Sx.C.region ?_
    refine Sx.G.pure (.pointer (some ⟨b1, 2, none⟩)) (by kernel_rfl) (fun w => by kernel_rfl) ?_
    refine Sx.G.ld1 3 (.tmp 9) b1 2 5 [.slice q3A0 g.prog.length q3c0, .int .i64 g.a, .int .i64 g.pc, .slice q3A1 g.wr.length q3c1, .slice q3A2 g.lv.length q3c2, .int .i64 g.t.1, .int .i64 g.t.2.1, .bool g.t.2.2, .int .i64 g.pd, .int .i64 g.x.1, .int .i64 g.x.2.1, .bool g.x.2.2.1, .int .i64 g.x.2.2.2, .bool g.hl, .slice q3A3 g.seen.length q3c3] (.int .i64 g.pc) rfl (by kernel_rfl) (by kernel_rfl) rfl (by kernel_rfl) (by kernel_rfl) ?_
    refine Sx.G.pure (.int .i64 (IntKind.i64.wrap (g.pc + 1))) (by kernel_rfl) (fun w => by kernel_rfl) ?_
    refine Sx.G.pure (.pointer (some ⟨b1, 2, none⟩)) (by kernel_rfl) (fun w => by kernel_rfl) ?_
    refine Sx.G.sto 3 (.tmp 12) (.tmp 11) b1 2 5 [.slice q3A0 g.prog.length q3c0, .int .i64 g.a, .int .i64 g.pc, .slice q3A1 g.wr.length q3c1, .slice q3A2 g.lv.length q3c2, .int .i64 g.t.1, .int .i64 g.t.2.1, .bool g.t.2.2, .int .i64 g.pd, .int .i64 g.x.1, .int .i64 g.x.2.1, .bool g.x.2.2.1, .int .i64 g.x.2.2.2, .bool g.hl, .slice q3A3 g.seen.length q3c3] [.int .i64 (IntKind.i64.wrap (g.pc + 1))] [.slice q3A0 g.prog.length q3c0, .int .i64 g.a, .int .i64 (IntKind.i64.wrap (g.pc + 1)), .slice q3A1 g.wr.length q3c1, .slice q3A2 g.lv.length q3c2, .int .i64 g.t.1, .int .i64 g.t.2.1, .bool g.t.2.2, .int .i64 g.pd, .int .i64 g.x.1, .int .i64 g.x.2.1, .bool g.x.2.2.1, .int .i64 g.x.2.2.2, .bool g.hl, .slice q3A3 g.seen.length q3c3] [ow (rLst 42 (rPair rInt rInt)) w3.heap.size (w3'.heap.size) g.prog [.slice q3A0 g.prog.length q3c0] G3_0, ow (rLsw (rPair rInt rInt)) w3.heap.size w3'.heap.size g.wr [.slice q3A1 g.wr.length q3c1] G3_1, ow (rLsw (rPair rInt rInt)) w3.heap.size w3'.heap.size g.lv [.slice q3A2 g.lv.length q3c2] G3_2, ow (rLst 3 rInt) w3.heap.size (w3'.heap.size) g.seen [.slice q3A3 g.seen.length q3c3] G3_3, vr b2 [.slice none 0 0, .int .i64 0, .int .i64 0, .slice none 0 0, .slice none 0 0, .int .i64 0, .int .i64 0, .bool false, .int .i64 0, .int .i64 0, .int .i64 0, .bool false, .int .i64 0, .bool false, .slice none 0 0], vr b1 [.slice q3A0 g.prog.length q3c0, .int .i64 g.a, .int .i64 (IntKind.i64.wrap (g.pc + 1)), .slice q3A1 g.wr.length q3c1, .slice q3A2 g.lv.length q3c2, .int .i64 g.t.1, .int .i64 g.t.2.1, .bool g.t.2.2, .int .i64 g.pd, .int .i64 g.x.1, .int .i64 g.x.2.1, .bool g.x.2.2.1, .int .i64 g.x.2.2.2, .bool g.hl, .slice q3A3 g.seen.length q3c3]] rfl (by kernel_rfl) (by kernel_rfl) (by kernel_rfl) rfl (by kernel_rfl) rfl (by kernel_rfl) (by kernel_rfl) (by kernel_rfl) ?_
    refine Sx.G.nil ?_
    refine Sx.E.next ?_
    refine Sx.C.seq ?_
    refine Sx.C.region ?_
    refine Sx.G.ld 32 (.tmp 1) b1 0 5 [.slice q3A0 g.prog.length q3c0, .int .i64 g.a, .int .i64 (IntKind.i64.wrap (g.pc + 1)), .slice q3A1 g.wr.length q3c1, .slice q3A2 g.lv.length q3c2, .int .i64 g.t.1, .int .i64 g.t.2.1, .bool g.t.2.2, .int .i64 g.pd, .int .i64 g.x.1, .int .i64 g.x.2.1, .bool g.x.2.2.1, .int .i64 g.x.2.2.2, .bool g.hl, .slice q3A3 g.seen.length q3c3] [.slice q3A0 g.prog.length q3c0, .int .i64 g.a, .int .i64 (IntKind.i64.wrap (g.pc + 1)), .slice q3A1 g.wr.length q3c1, .slice q3A2 g.lv.length q3c2, .int .i64 g.t.1, .int .i64 g.t.2.1, .bool g.t.2.2, .int .i64 g.pd, .int .i64 g.x.1, .int .i64 g.x.2.1, .bool g.x.2.2.1, .int .i64 g.x.2.2.2, .bool g.hl, .slice q3A3 g.seen.length q3c3] rfl (by kernel_rfl) (by kernel_rfl) rfl (by kernel_rfl) (by kernel_rfl) (by kernel_rfl) ?_
    refine Sx.G.sto 32 (.tmp 2) (.tmp 13) b2 0 4 [.slice none 0 0, .int .i64 0, .int .i64 0, .slice none 0 0, .slice none 0 0, .int .i64 0, .int .i64 0, .bool false, .int .i64 0, .int .i64 0, .int .i64 0, .bool false, .int .i64 0, .bool false, .slice none 0 0] [.slice q3A0 g.prog.length q3c0, .int .i64 g.a, .int .i64 (IntKind.i64.wrap (g.pc + 1)), .slice q3A1 g.wr.length q3c1, .slice q3A2 g.lv.length q3c2, .int .i64 g.t.1, .int .i64 g.t.2.1, .bool g.t.2.2, .int .i64 g.pd, .int .i64 g.x.1, .int .i64 g.x.2.1, .bool g.x.2.2.1, .int .i64 g.x.2.2.2, .bool g.hl, .slice q3A3 g.seen.length q3c3] [.slice q3A0 g.prog.length q3c0, .int .i64 g.a, .int .i64 (IntKind.i64.wrap (g.pc + 1)), .slice q3A1 g.wr.length q3c1, .slice q3A2 g.lv.length q3c2, .int .i64 g.t.1, .int .i64 g.t.2.1, .bool g.t.2.2, .int .i64 g.pd, .int .i64 g.x.1, .int .i64 g.x.2.1, .bool g.x.2.2.1, .int .i64 g.x.2.2.2, .bool g.hl, .slice q3A3 g.seen.length q3c3] [ow (rLst 42 (rPair rInt rInt)) w3.heap.size (w3'.heap.size) g.prog [.slice q3A0 g.prog.length q3c0] G3_0, ow (rLsw (rPair rInt rInt)) w3.heap.size w3'.heap.size g.wr [.slice q3A1 g.wr.length q3c1] G3_1, ow (rLsw (rPair rInt rInt)) w3.heap.size w3'.heap.size g.lv [.slice q3A2 g.lv.length q3c2] G3_2, ow (rLst 3 rInt) w3.heap.size (w3'.heap.size) g.seen [.slice q3A3 g.seen.length q3c3] G3_3, vr b2 [.slice q3A0 g.prog.length q3c0, .int .i64 g.a, .int .i64 (IntKind.i64.wrap (g.pc + 1)), .slice q3A1 g.wr.length q3c1, .slice q3A2 g.lv.length q3c2, .int .i64 g.t.1, .int .i64 g.t.2.1, .bool g.t.2.2, .int .i64 g.pd, .int .i64 g.x.1, .int .i64 g.x.2.1, .bool g.x.2.2.1, .int .i64 g.x.2.2.2, .bool g.hl, .slice q3A3 g.seen.length q3c3], vr b1 [.slice q3A0 g.prog.length q3c0, .int .i64 g.a, .int .i64 (IntKind.i64.wrap (g.pc + 1)), .slice q3A1 g.wr.length q3c1, .slice q3A2 g.lv.length q3c2, .int .i64 g.t.1, .int .i64 g.t.2.1, .bool g.t.2.2, .int .i64 g.pd, .int .i64 g.x.1, .int .i64 g.x.2.1, .bool g.x.2.2.1, .int .i64 g.x.2.2.2, .bool g.hl, .slice q3A3 g.seen.length q3c3]] rfl (by kernel_rfl) (by kernel_rfl) (by kernel_rfl) rfl (by kernel_rfl) rfl (by kernel_rfl) (by kernel_rfl) (by kernel_rfl) ?_
    refine Sx.G.nil ?_
    refine Sx.E.next ?_
    refine Sx.C.ret ?_
    refine Sx.E.retc b2 4 [.slice q3A0 g.prog.length q3c0, .int .i64 g.a, .int .i64 (IntKind.i64.wrap (g.pc + 1)), .slice q3A1 g.wr.length q3c1, .slice q3A2 g.lv.length q3c2, .int .i64 g.t.1, .int .i64 g.t.2.1, .bool g.t.2.2, .int .i64 g.pd, .int .i64 g.x.1, .int .i64 g.x.2.1, .bool g.x.2.2.1, .int .i64 g.x.2.2.2, .bool g.hl, .slice q3A3 g.seen.length q3c3] rfl (by kernel_rfl) rfl (by kernel_rfl) (by kernel_rfl) (fun w S => ?_)
    have HW : movedG g = { g with pc := (IntKind.i64.wrap (g.pc + 1)) } := by simp [movedG, hb4]
    obtain ⟨ho, hF⟩ := rG_shut (g := { g with pc := (IntKind.i64.wrap (g.pc + 1)) }) S 0 rfl 1 rfl 2 rfl 3 rfl (by decide) (by decide) (by decide) (by decide) (by decide) (by decide)
    rw [HW]; exact ⟨_, _, rfl, ho, hF, S.below⟩
  · have hb4 := hc4
    replace hc4 := of_decide_eq_true hc4
    refine Sx.C.yes (by kernel_rfl) (by kernel_rfl) ?_
    refine Sx.C.region ?_
    refine Sx.G.pure (.pointer (some ⟨b1, 2, none⟩)) (by kernel_rfl) (fun w => by kernel_rfl) ?_
    refine Sx.G.sto 3 (.tmp 8) (.const (.int .i64 12)) b1 2 5 [.slice q3A0 g.prog.length q3c0, .int .i64 g.a, .int .i64 g.pc, .slice q3A1 g.wr.length q3c1, .slice q3A2 g.lv.length q3c2, .int .i64 g.t.1, .int .i64 g.t.2.1, .bool g.t.2.2, .int .i64 g.pd, .int .i64 g.x.1, .int .i64 g.x.2.1, .bool g.x.2.2.1, .int .i64 g.x.2.2.2, .bool g.hl, .slice q3A3 g.seen.length q3c3] [.int .i64 12] [.slice q3A0 g.prog.length q3c0, .int .i64 g.a, .int .i64 12, .slice q3A1 g.wr.length q3c1, .slice q3A2 g.lv.length q3c2, .int .i64 g.t.1, .int .i64 g.t.2.1, .bool g.t.2.2, .int .i64 g.pd, .int .i64 g.x.1, .int .i64 g.x.2.1, .bool g.x.2.2.1, .int .i64 g.x.2.2.2, .bool g.hl, .slice q3A3 g.seen.length q3c3] [ow (rLst 42 (rPair rInt rInt)) w3.heap.size (w3'.heap.size) g.prog [.slice q3A0 g.prog.length q3c0] G3_0, ow (rLsw (rPair rInt rInt)) w3.heap.size w3'.heap.size g.wr [.slice q3A1 g.wr.length q3c1] G3_1, ow (rLsw (rPair rInt rInt)) w3.heap.size w3'.heap.size g.lv [.slice q3A2 g.lv.length q3c2] G3_2, ow (rLst 3 rInt) w3.heap.size (w3'.heap.size) g.seen [.slice q3A3 g.seen.length q3c3] G3_3, vr b2 [.slice none 0 0, .int .i64 0, .int .i64 0, .slice none 0 0, .slice none 0 0, .int .i64 0, .int .i64 0, .bool false, .int .i64 0, .int .i64 0, .int .i64 0, .bool false, .int .i64 0, .bool false, .slice none 0 0], vr b1 [.slice q3A0 g.prog.length q3c0, .int .i64 g.a, .int .i64 12, .slice q3A1 g.wr.length q3c1, .slice q3A2 g.lv.length q3c2, .int .i64 g.t.1, .int .i64 g.t.2.1, .bool g.t.2.2, .int .i64 g.pd, .int .i64 g.x.1, .int .i64 g.x.2.1, .bool g.x.2.2.1, .int .i64 g.x.2.2.2, .bool g.hl, .slice q3A3 g.seen.length q3c3]] rfl (by kernel_rfl) (by kernel_rfl) (by kernel_rfl) rfl (by kernel_rfl) rfl (by kernel_rfl) (by kernel_rfl) (by kernel_rfl) ?_
    refine Sx.G.nil ?_
    refine Sx.E.next ?_
    refine Sx.C.seq ?_
    refine Sx.C.region ?_
    refine Sx.G.ld 32 (.tmp 1) b1 0 5 [.slice q3A0 g.prog.length q3c0, .int .i64 g.a, .int .i64 12, .slice q3A1 g.wr.length q3c1, .slice q3A2 g.lv.length q3c2, .int .i64 g.t.1, .int .i64 g.t.2.1, .bool g.t.2.2, .int .i64 g.pd, .int .i64 g.x.1, .int .i64 g.x.2.1, .bool g.x.2.2.1, .int .i64 g.x.2.2.2, .bool g.hl, .slice q3A3 g.seen.length q3c3] [.slice q3A0 g.prog.length q3c0, .int .i64 g.a, .int .i64 12, .slice q3A1 g.wr.length q3c1, .slice q3A2 g.lv.length q3c2, .int .i64 g.t.1, .int .i64 g.t.2.1, .bool g.t.2.2, .int .i64 g.pd, .int .i64 g.x.1, .int .i64 g.x.2.1, .bool g.x.2.2.1, .int .i64 g.x.2.2.2, .bool g.hl, .slice q3A3 g.seen.length q3c3] rfl (by kernel_rfl) (by kernel_rfl) rfl (by kernel_rfl) (by kernel_rfl) (by kernel_rfl) ?_
    refine Sx.G.sto 32 (.tmp 2) (.tmp 13) b2 0 4 [.slice none 0 0, .int .i64 0, .int .i64 0, .slice none 0 0, .slice none 0 0, .int .i64 0, .int .i64 0, .bool false, .int .i64 0, .int .i64 0, .int .i64 0, .bool false, .int .i64 0, .bool false, .slice none 0 0] [.slice q3A0 g.prog.length q3c0, .int .i64 g.a, .int .i64 12, .slice q3A1 g.wr.length q3c1, .slice q3A2 g.lv.length q3c2, .int .i64 g.t.1, .int .i64 g.t.2.1, .bool g.t.2.2, .int .i64 g.pd, .int .i64 g.x.1, .int .i64 g.x.2.1, .bool g.x.2.2.1, .int .i64 g.x.2.2.2, .bool g.hl, .slice q3A3 g.seen.length q3c3] [.slice q3A0 g.prog.length q3c0, .int .i64 g.a, .int .i64 12, .slice q3A1 g.wr.length q3c1, .slice q3A2 g.lv.length q3c2, .int .i64 g.t.1, .int .i64 g.t.2.1, .bool g.t.2.2, .int .i64 g.pd, .int .i64 g.x.1, .int .i64 g.x.2.1, .bool g.x.2.2.1, .int .i64 g.x.2.2.2, .bool g.hl, .slice q3A3 g.seen.length q3c3] [ow (rLst 42 (rPair rInt rInt)) w3.heap.size (w3'.heap.size) g.prog [.slice q3A0 g.prog.length q3c0] G3_0, ow (rLsw (rPair rInt rInt)) w3.heap.size w3'.heap.size g.wr [.slice q3A1 g.wr.length q3c1] G3_1, ow (rLsw (rPair rInt rInt)) w3.heap.size w3'.heap.size g.lv [.slice q3A2 g.lv.length q3c2] G3_2, ow (rLst 3 rInt) w3.heap.size (w3'.heap.size) g.seen [.slice q3A3 g.seen.length q3c3] G3_3, vr b2 [.slice q3A0 g.prog.length q3c0, .int .i64 g.a, .int .i64 12, .slice q3A1 g.wr.length q3c1, .slice q3A2 g.lv.length q3c2, .int .i64 g.t.1, .int .i64 g.t.2.1, .bool g.t.2.2, .int .i64 g.pd, .int .i64 g.x.1, .int .i64 g.x.2.1, .bool g.x.2.2.1, .int .i64 g.x.2.2.2, .bool g.hl, .slice q3A3 g.seen.length q3c3], vr b1 [.slice q3A0 g.prog.length q3c0, .int .i64 g.a, .int .i64 12, .slice q3A1 g.wr.length q3c1, .slice q3A2 g.lv.length q3c2, .int .i64 g.t.1, .int .i64 g.t.2.1, .bool g.t.2.2, .int .i64 g.pd, .int .i64 g.x.1, .int .i64 g.x.2.1, .bool g.x.2.2.1, .int .i64 g.x.2.2.2, .bool g.hl, .slice q3A3 g.seen.length q3c3]] rfl (by kernel_rfl) (by kernel_rfl) (by kernel_rfl) rfl (by kernel_rfl) rfl (by kernel_rfl) (by kernel_rfl) (by kernel_rfl) ?_
    refine Sx.G.nil ?_
    refine Sx.E.next ?_
    refine Sx.C.ret ?_
    refine Sx.E.retc b2 4 [.slice q3A0 g.prog.length q3c0, .int .i64 g.a, .int .i64 12, .slice q3A1 g.wr.length q3c1, .slice q3A2 g.lv.length q3c2, .int .i64 g.t.1, .int .i64 g.t.2.1, .bool g.t.2.2, .int .i64 g.pd, .int .i64 g.x.1, .int .i64 g.x.2.1, .bool g.x.2.2.1, .int .i64 g.x.2.2.2, .bool g.hl, .slice q3A3 g.seen.length q3c3] rfl (by kernel_rfl) rfl (by kernel_rfl) (by kernel_rfl) (fun w S => ?_)
    have HW : movedG g = { g with pc := 12 } := by simp [movedG, hb4]
    obtain ⟨ho, hF⟩ := rG_shut (g := { g with pc := 12 }) S 0 rfl 1 rfl 2 rfl 3 rfl (by decide) (by decide) (by decide) (by decide) (by decide) (by decide)
    rw [HW]; exact ⟨_, _, rfl, ho, hF, S.below⟩
set_option maxRecDepth 100000 in
set_option maxHeartbeats 4000000 in
theorem specx_plain (g : gT) (cs : List Value) (w : World) (hc : rG.cap g) (h : rG.rd w 0 w.heap.size g cs) : Calls Try.prog 18 #[.agg cs.toArray] w (Gives rG w (plainG g)) := by
  obtain ⟨q0, q1, q2, q3⟩ := rG_len hc
  have hr := h
  obtain ⟨P0, P1, P2, P3, rfl, h0, h1, h2, h3⟩ := rG_rd h
  obtain ⟨PA0, Pc0, e0, hP0⟩ := lst_val h0
  subst e0
  obtain ⟨PA1, Pc1, e1, hP1⟩ := lst_val h1
  subst e1
  obtain ⟨PA2, Pc2, e2, hP2⟩ := lst_val h2
  subst e2
  obtain ⟨PA3, Pc3, e3, hP3⟩ := lst_val h3
  subst e3
  refine Sx.enter (args := [.agg #[.slice PA0 g.prog.length Pc0, .int .i64 g.a, .int .i64 g.pc, .slice PA1 g.wr.length Pc1, .slice PA2 g.lv.length Pc2, .int .i64 g.t.1, .int .i64 g.t.2.1, .bool g.t.2.2, .int .i64 g.pd, .int .i64 g.x.1, .int .i64 g.x.2.1, .bool g.x.2.2.1, .int .i64 g.x.2.2.2, .bool g.hl, .slice PA3 g.seen.length Pc3]]) Try.func18 rfl Try.ntmps18 rfl ?_
  refine Sx.C.seq ?_
  refine Sx.C.region ?_
  refine Sx.G.box 32 (.tmp 0) [.slice PA0 g.prog.length Pc0, .int .i64 g.a, .int .i64 g.pc, .slice PA1 g.wr.length Pc1, .slice PA2 g.lv.length Pc2, .int .i64 g.t.1, .int .i64 g.t.2.1, .bool g.t.2.2, .int .i64 g.pd, .int .i64 g.x.1, .int .i64 g.x.2.1, .bool g.x.2.2.1, .int .i64 g.x.2.2.2, .bool g.hl, .slice PA3 g.seen.length Pc3] rfl (by kernel_rfl) (by kernel_rfl) (fun b1 => ?_)
  refine Sx.G.alloc 32 (.agg #[.slice none 0 0, .int .i64 0, .int .i64 0, .slice none 0 0, .slice none 0 0, .int .i64 0, .int .i64 0, .bool false, .int .i64 0, .int .i64 0, .int .i64 0, .bool false, .int .i64 0, .bool false, .slice none 0 0]) [.slice none 0 0, .int .i64 0, .int .i64 0, .slice none 0 0, .slice none 0 0, .int .i64 0, .int .i64 0, .bool false, .int .i64 0, .int .i64 0, .int .i64 0, .bool false, .int .i64 0, .bool false, .slice none 0 0] rfl (by kernel_rfl) (fun w => by kernel_rfl) (by kernel_rfl) (fun b2 => ?_)
  refine Sx.G.nil ?_
  refine Sx.E.next ?_
  refine Sx.C.seq ?_
  refine Sx.C.seq ?_
  refine Sx.C.region ?_
  refine Sx.G.ld 32 (.tmp 1) b1 0 1 [.slice PA0 g.prog.length Pc0, .int .i64 g.a, .int .i64 g.pc, .slice PA1 g.wr.length Pc1, .slice PA2 g.lv.length Pc2, .int .i64 g.t.1, .int .i64 g.t.2.1, .bool g.t.2.2, .int .i64 g.pd, .int .i64 g.x.1, .int .i64 g.x.2.1, .bool g.x.2.2.1, .int .i64 g.x.2.2.2, .bool g.hl, .slice PA3 g.seen.length Pc3] [.slice PA0 g.prog.length Pc0, .int .i64 g.a, .int .i64 g.pc, .slice PA1 g.wr.length Pc1, .slice PA2 g.lv.length Pc2, .int .i64 g.t.1, .int .i64 g.t.2.1, .bool g.t.2.2, .int .i64 g.pd, .int .i64 g.x.1, .int .i64 g.x.2.1, .bool g.x.2.2.1, .int .i64 g.x.2.2.2, .bool g.hl, .slice PA3 g.seen.length Pc3] rfl (by kernel_rfl) (by kernel_rfl) rfl (by kernel_rfl) (by kernel_rfl) (by kernel_rfl) ?_
  refine Sx.G.plain 28 #[.agg #[.slice PA0 g.prog.length Pc0, .int .i64 g.a, .int .i64 g.pc, .slice PA1 g.wr.length Pc1, .slice PA2 g.lv.length Pc2, .int .i64 g.t.1, .int .i64 g.t.2.1, .bool g.t.2.2, .int .i64 g.pd, .int .i64 g.x.1, .int .i64 g.x.2.1, .bool g.x.2.2.1, .int .i64 g.x.2.2.2, .bool g.hl, .slice PA3 g.seen.length Pc3]] (.int .i64 (wantG g)) (by kernel_rfl) (fun w => by kernel_rfl) (fun w S => by exact specx_want g _ _ (by exact hc) (St.old S hr)) ?_
  refine Sx.G.pure (.bool ((wantG g) != 2)) (by kernel_rfl) (fun w => by kernel_rfl) ?_
  refine Sx.G.nil ?_
  refine Sx.E.next ?_
  cases hc3 : ((wantG g) != 2)
  · have hb3 := hc3
    refine Sx.C.no (by kernel_rfl) (by kernel_rfl) ?_
    refine Sx.C.skip ?_
    refine Sx.E.next ?_
    refine Sx.C.seq ?_
    refine Sx.C.region ?_
    refine Sx.G.pure (.pointer (some ⟨b1, 0, none⟩)) (by kernel_rfl) (fun w => by kernel_rfl) ?_
    refine Sx.G.ld1 24 (.tmp 10) b1 0 1 [.slice PA0 g.prog.length Pc0, .int .i64 g.a, .int .i64 g.pc, .slice PA1 g.wr.length Pc1, .slice PA2 g.lv.length Pc2, .int .i64 g.t.1, .int .i64 g.t.2.1, .bool g.t.2.2, .int .i64 g.pd, .int .i64 g.x.1, .int .i64 g.x.2.1, .bool g.x.2.2.1, .int .i64 g.x.2.2.2, .bool g.hl, .slice PA3 g.seen.length Pc3] (.slice PA0 g.prog.length Pc0) rfl (by kernel_rfl) (by kernel_rfl) rfl (by kernel_rfl) (by kernel_rfl) ?_
    refine Sx.G.pure (.pointer (some ⟨b1, 2, none⟩)) (by kernel_rfl) (fun w => by kernel_rfl) ?_
    refine Sx.G.ld1 3 (.tmp 12) b1 2 1 [.slice PA0 g.prog.length Pc0, .int .i64 g.a, .int .i64 g.pc, .slice PA1 g.wr.length Pc1, .slice PA2 g.lv.length Pc2, .int .i64 g.t.1, .int .i64 g.t.2.1, .bool g.t.2.2, .int .i64 g.pd, .int .i64 g.x.1, .int .i64 g.x.2.1, .bool g.x.2.2.1, .int .i64 g.x.2.2.2, .bool g.hl, .slice PA3 g.seen.length Pc3] (.int .i64 g.pc) rfl (by kernel_rfl) (by kernel_rfl) rfl (by kernel_rfl) (by kernel_rfl) ?_
    refine Sx.G.plain 52 #[.slice PA0 g.prog.length Pc0, .int .i64 g.pc] (.agg #[.int .i64 (insAt g.prog g.pc).1, .int .i64 (insAt g.prog g.pc).2]) (by kernel_rfl) (fun w => by kernel_rfl) (fun w S => by exact spec_insAt PA0 g.prog.length Pc0 0 g.pc g.prog _ q0 rfl (by rw [← pcells_j]; exact p2_lies (St.old S h0))) ?_
    refine Sx.G.alloc 42 (.agg #[.int .i64 0, .int .i64 0]) [.int .i64 0, .int .i64 0] rfl (by kernel_rfl) (fun w => by kernel_rfl) (by kernel_rfl) (fun b4 => ?_)
    refine Sx.G.sto 42 (.tmp 3) (.tmp 14) b4 0 0 [.int .i64 0, .int .i64 0] [.int .i64 (insAt g.prog g.pc).1, .int .i64 (insAt g.prog g.pc).2] [.int .i64 (insAt g.prog g.pc).1, .int .i64 (insAt g.prog g.pc).2] [vr b4 [.int .i64 (insAt g.prog g.pc).1, .int .i64 (insAt g.prog g.pc).2], vr b2 [.slice none 0 0, .int .i64 0, .int .i64 0, .slice none 0 0, .slice none 0 0, .int .i64 0, .int .i64 0, .bool false, .int .i64 0, .int .i64 0, .int .i64 0, .bool false, .int .i64 0, .bool false, .slice none 0 0], vr b1 [.slice PA0 g.prog.length Pc0, .int .i64 g.a, .int .i64 g.pc, .slice PA1 g.wr.length Pc1, .slice PA2 g.lv.length Pc2, .int .i64 g.t.1, .int .i64 g.t.2.1, .bool g.t.2.2, .int .i64 g.pd, .int .i64 g.x.1, .int .i64 g.x.2.1, .bool g.x.2.2.1, .int .i64 g.x.2.2.2, .bool g.hl, .slice PA3 g.seen.length Pc3]] rfl (by kernel_rfl) (by kernel_rfl) (by kernel_rfl) rfl (by kernel_rfl) rfl (by kernel_rfl) (by kernel_rfl) (by kernel_rfl) ?_
    refine Sx.G.nil ?_
    refine Sx.E.next ?_
    refine Sx.C.seq ?_
    refine Sx.C.region ?_
    refine Sx.G.pure (.pointer (some ⟨b1, 1, none⟩)) (by kernel_rfl) (fun w => by kernel_rfl) ?_
    refine Sx.G.ld1 3 (.tmp 15) b1 1 2 [.slice PA0 g.prog.length Pc0, .int .i64 g.a, .int .i64 g.pc, .slice PA1 g.wr.length Pc1, .slice PA2 g.lv.length Pc2, .int .i64 g.t.1, .int .i64 g.t.2.1, .bool g.t.2.2, .int .i64 g.pd, .int .i64 g.x.1, .int .i64 g.x.2.1, .bool g.x.2.2.1, .int .i64 g.x.2.2.2, .bool g.hl, .slice PA3 g.seen.length Pc3] (.int .i64 g.a) rfl (by kernel_rfl) (by kernel_rfl) rfl (by kernel_rfl) (by kernel_rfl) ?_
    refine Sx.G.plain 53 #[.int .i64 g.a, .int .i64 0, .int .i64 99] (.bool (inB g.a 0 99)) (by kernel_rfl) (fun w => by kernel_rfl) (fun w S => by exact ((spec_in g.a 0 99 _).mono fun e w' h => And.intro h.1 (below_same h.2))) ?_
    refine Sx.G.pure (.bool (inB g.a 0 99)) (by kernel_rfl) (fun w => by kernel_rfl) ?_
    cases hc5 : (inB g.a 0 99)
    · have hb5 := hc5
      refine Sx.G.skip (by kernel_rfl) ?_
      refine Sx.G.skip (by kernel_rfl) ?_
      refine Sx.G.skip (by kernel_rfl) ?_
      refine Sx.G.pure (.bool false) (by kernel_rfl) (fun w => by kernel_rfl) ?_
      refine Sx.G.pure (.bool false) (by kernel_rfl) (fun w => by kernel_rfl) ?_
      refine Sx.G.nil ?_
      refine Sx.E.next ?_
      refine Sx.C.seq ?_
      refine Sx.C.block ?_
      refine Sx.C.seq ?_
      refine Sx.C.region ?_
      refine Sx.G.pure (.bool false) (by kernel_rfl) (fun w => by kernel_rfl) ?_
      refine Sx.G.pure (.bool false) (by kernel_rfl) (fun w => by kernel_rfl) ?_
      refine Sx.G.skip (by kernel_rfl) ?_
      refine Sx.G.skip (by kernel_rfl) ?_
      refine Sx.G.skip (by kernel_rfl) ?_
      refine Sx.G.pure (.bool false) (by kernel_rfl) (fun w => by kernel_rfl) ?_
      refine Sx.G.pure (.bool false) (by kernel_rfl) (fun w => by kernel_rfl) ?_
      refine Sx.G.nil ?_
      refine Sx.E.next ?_
      refine Sx.C.no (by kernel_rfl) (by kernel_rfl) ?_
      refine Sx.C.seq ?_
      refine Sx.C.region ?_
      refine Sx.G.pure (.bool false) (by kernel_rfl) (fun w => by kernel_rfl) ?_
      refine Sx.G.pure (.bool false) (by kernel_rfl) (fun w => by kernel_rfl) ?_
      refine Sx.G.skip (by kernel_rfl) ?_
      refine Sx.G.skip (by kernel_rfl) ?_
      refine Sx.G.skip (by kernel_rfl) ?_
      refine Sx.G.pure (.bool false) (by kernel_rfl) (fun w => by kernel_rfl) ?_
      refine Sx.G.pure (.bool false) (by kernel_rfl) (fun w => by kernel_rfl) ?_
      refine Sx.G.nil ?_
      refine Sx.E.next ?_
      refine Sx.C.no (by kernel_rfl) (by kernel_rfl) ?_
      refine Sx.C.seq ?_
      refine Sx.C.region ?_
      refine Sx.G.pure (.bool false) (by kernel_rfl) (fun w => by kernel_rfl) ?_
      refine Sx.G.pure (.bool false) (by kernel_rfl) (fun w => by kernel_rfl) ?_
      refine Sx.G.skip (by kernel_rfl) ?_
      refine Sx.G.skip (by kernel_rfl) ?_
      refine Sx.G.skip (by kernel_rfl) ?_
      refine Sx.G.pure (.bool false) (by kernel_rfl) (fun w => by kernel_rfl) ?_
      refine Sx.G.pure (.bool false) (by kernel_rfl) (fun w => by kernel_rfl) ?_
      refine Sx.G.skip (by kernel_rfl) ?_
      refine Sx.G.skip (by kernel_rfl) ?_
      refine Sx.G.skip (by kernel_rfl) ?_
      refine Sx.G.pure (.bool false) (by kernel_rfl) (fun w => by kernel_rfl) ?_
      refine Sx.G.pure (.bool false) (by kernel_rfl) (fun w => by kernel_rfl) ?_
      refine Sx.G.nil ?_
      refine Sx.E.next ?_
      refine Sx.C.no (by kernel_rfl) (by kernel_rfl) ?_
      refine Sx.C.skip ?_
      refine Sx.E.block_normal ?_
      refine Sx.E.next ?_
      refine Sx.C.seq ?_
      refine Sx.C.region ?_
      refine Sx.G.ld 32 (.tmp 1) b1 0 2 [.slice PA0 g.prog.length Pc0, .int .i64 g.a, .int .i64 g.pc, .slice PA1 g.wr.length Pc1, .slice PA2 g.lv.length Pc2, .int .i64 g.t.1, .int .i64 g.t.2.1, .bool g.t.2.2, .int .i64 g.pd, .int .i64 g.x.1, .int .i64 g.x.2.1, .bool g.x.2.2.1, .int .i64 g.x.2.2.2, .bool g.hl, .slice PA3 g.seen.length Pc3] [.slice PA0 g.prog.length Pc0, .int .i64 g.a, .int .i64 g.pc, .slice PA1 g.wr.length Pc1, .slice PA2 g.lv.length Pc2, .int .i64 g.t.1, .int .i64 g.t.2.1, .bool g.t.2.2, .int .i64 g.pd, .int .i64 g.x.1, .int .i64 g.x.2.1, .bool g.x.2.2.1, .int .i64 g.x.2.2.2, .bool g.hl, .slice PA3 g.seen.length Pc3] rfl (by kernel_rfl) (by kernel_rfl) rfl (by kernel_rfl) (by kernel_rfl) (by kernel_rfl) ?_
      refine Sx.G.call 22 #[.agg #[.slice PA0 g.prog.length Pc0, .int .i64 g.a, .int .i64 g.pc, .slice PA1 g.wr.length Pc1, .slice PA2 g.lv.length Pc2, .int .i64 g.t.1, .int .i64 g.t.2.1, .bool g.t.2.2, .int .i64 g.pd, .int .i64 g.x.1, .int .i64 g.x.2.1, .bool g.x.2.2.1, .int .i64 g.x.2.2.2, .bool g.hl, .slice PA3 g.seen.length Pc3]] (by kernel_rfl) (fun w => by kernel_rfl) (fun w6 S => (specx_moved g _ _ (by exact hc) (St.old S hr)).mono fun e w6' hp => ?_)
      obtain ⟨cs, F, rfl, ho, hF, hb⟩ := hp
      obtain ⟨q6_0, q6_1, q6_2, q6_3, G6_0, G6_1, G6_2, G6_3, rfl, S'⟩ := rG_open (S.got hb ho hF)
      obtain ⟨q6A0, q6c0, e0, -⟩ := lst_val (S'.reads 0 rfl)
      subst e0
      obtain ⟨q6A1, q6c1, e1, -⟩ := lst_val (S'.reads 1 rfl)
      subst e1
      obtain ⟨q6A2, q6c2, e2, -⟩ := lst_val (S'.reads 2 rfl)
      subst e2
      obtain ⟨q6A3, q6c3, e3, -⟩ := lst_val (S'.reads 3 rfl)
      subst e3
      refine ⟨_, _, rfl, S', ?_⟩
      clear S S' ho hF hb
      refine Sx.G.sto 32 (.tmp 2) (.tmp 66) b2 0 5 [.slice none 0 0, .int .i64 0, .int .i64 0, .slice none 0 0, .slice none 0 0, .int .i64 0, .int .i64 0, .bool false, .int .i64 0, .int .i64 0, .int .i64 0, .bool false, .int .i64 0, .bool false, .slice none 0 0] [.slice q6A0 (movedG g).prog.length q6c0, .int .i64 (movedG g).a, .int .i64 (movedG g).pc, .slice q6A1 (movedG g).wr.length q6c1, .slice q6A2 (movedG g).lv.length q6c2, .int .i64 (movedG g).t.1, .int .i64 (movedG g).t.2.1, .bool (movedG g).t.2.2, .int .i64 (movedG g).pd, .int .i64 (movedG g).x.1, .int .i64 (movedG g).x.2.1, .bool (movedG g).x.2.2.1, .int .i64 (movedG g).x.2.2.2, .bool (movedG g).hl, .slice q6A3 (movedG g).seen.length q6c3] [.slice q6A0 (movedG g).prog.length q6c0, .int .i64 (movedG g).a, .int .i64 (movedG g).pc, .slice q6A1 (movedG g).wr.length q6c1, .slice q6A2 (movedG g).lv.length q6c2, .int .i64 (movedG g).t.1, .int .i64 (movedG g).t.2.1, .bool (movedG g).t.2.2, .int .i64 (movedG g).pd, .int .i64 (movedG g).x.1, .int .i64 (movedG g).x.2.1, .bool (movedG g).x.2.2.1, .int .i64 (movedG g).x.2.2.2, .bool (movedG g).hl, .slice q6A3 (movedG g).seen.length q6c3] [ow (rLst 42 (rPair rInt rInt)) w6.heap.size (w6'.heap.size) ((movedG g).prog) [.slice q6A0 (movedG g).prog.length q6c0] G6_0, ow (rLsw (rPair rInt rInt)) w6.heap.size w6'.heap.size (movedG g).wr [.slice q6A1 (movedG g).wr.length q6c1] G6_1, ow (rLsw (rPair rInt rInt)) w6.heap.size w6'.heap.size (movedG g).lv [.slice q6A2 (movedG g).lv.length q6c2] G6_2, ow (rLst 3 rInt) w6.heap.size (w6'.heap.size) ((movedG g).seen) [.slice q6A3 (movedG g).seen.length q6c3] G6_3, vr b4 [.int .i64 (insAt g.prog g.pc).1, .int .i64 (insAt g.prog g.pc).2], vr b2 [.slice q6A0 (movedG g).prog.length q6c0, .int .i64 (movedG g).a, .int .i64 (movedG g).pc, .slice q6A1 (movedG g).wr.length q6c1, .slice q6A2 (movedG g).lv.length q6c2, .int .i64 (movedG g).t.1, .int .i64 (movedG g).t.2.1, .bool (movedG g).t.2.2, .int .i64 (movedG g).pd, .int .i64 (movedG g).x.1, .int .i64 (movedG g).x.2.1, .bool (movedG g).x.2.2.1, .int .i64 (movedG g).x.2.2.2, .bool (movedG g).hl, .slice q6A3 (movedG g).seen.length q6c3], vr b1 [.slice PA0 g.prog.length Pc0, .int .i64 g.a, .int .i64 g.pc, .slice PA1 g.wr.length Pc1, .slice PA2 g.lv.length Pc2, .int .i64 g.t.1, .int .i64 g.t.2.1, .bool g.t.2.2, .int .i64 g.pd, .int .i64 g.x.1, .int .i64 g.x.2.1, .bool g.x.2.2.1, .int .i64 g.x.2.2.2, .bool g.hl, .slice PA3 g.seen.length Pc3]] rfl (by kernel_rfl) (by kernel_rfl) (by kernel_rfl) rfl (by kernel_rfl) rfl (by kernel_rfl) (by kernel_rfl) (by kernel_rfl) ?_
      refine Sx.G.nil ?_
      refine Sx.E.next ?_
      refine Sx.C.ret ?_
      refine Sx.E.retc b2 5 [.slice q6A0 (movedG g).prog.length q6c0, .int .i64 (movedG g).a, .int .i64 (movedG g).pc, .slice q6A1 (movedG g).wr.length q6c1, .slice q6A2 (movedG g).lv.length q6c2, .int .i64 (movedG g).t.1, .int .i64 (movedG g).t.2.1, .bool (movedG g).t.2.2, .int .i64 (movedG g).pd, .int .i64 (movedG g).x.1, .int .i64 (movedG g).x.2.1, .bool (movedG g).x.2.2.1, .int .i64 (movedG g).x.2.2.2, .bool (movedG g).hl, .slice q6A3 (movedG g).seen.length q6c3] rfl (by kernel_rfl) rfl (by kernel_rfl) (by kernel_rfl) (fun w S => ?_)
      have HW : plainG g = movedG g := by simp [plainG, hb3, hb5]
      obtain ⟨ho, hF⟩ := rG_shut (g := movedG g) S 0 rfl 1 rfl 2 rfl 3 rfl (by decide) (by decide) (by decide) (by decide) (by decide) (by decide)
      rw [HW]; exact ⟨_, _, rfl, ho, hF, S.below⟩
    · have hb5 := hc5
      refine Sx.G.pure (.pointer (some ⟨b4, 1, none⟩)) (by kernel_rfl) (fun w => by kernel_rfl) ?_
      refine Sx.G.ld1 3 (.tmp 19) b4 1 0 [.int .i64 (insAt g.prog g.pc).1, .int .i64 (insAt g.prog g.pc).2] (.int .i64 (insAt g.prog g.pc).2) rfl (by kernel_rfl) (by kernel_rfl) rfl (by kernel_rfl) (by kernel_rfl) ?_
      refine Sx.G.plain 53 #[.int .i64 (insAt g.prog g.pc).2, .int .i64 0, .int .i64 99] (.bool (inB ((insAt g.prog g.pc).2) 0 99)) (by kernel_rfl) (fun w => by kernel_rfl) (fun w S => by exact ((spec_in ((insAt g.prog g.pc).2) 0 99 _).mono fun e w' h => And.intro h.1 (below_same h.2))) ?_
      refine Sx.G.pure (.bool (inB ((insAt g.prog g.pc).2) 0 99)) (by kernel_rfl) (fun w => by kernel_rfl) ?_
      refine Sx.G.pure (.bool (inB ((insAt g.prog g.pc).2) 0 99)) (by kernel_rfl) (fun w => by kernel_rfl) ?_
      refine Sx.G.nil ?_
      refine Sx.E.next ?_
      refine Sx.C.seq ?_
      refine Sx.C.block ?_
      refine Sx.C.seq ?_
      refine Sx.C.region ?_
      refine Sx.G.pure (.bool (inB ((insAt g.prog g.pc).2) 0 99)) (by kernel_rfl) (fun w => by kernel_rfl) ?_
      refine Sx.G.pure (.bool (inB ((insAt g.prog g.pc).2) 0 99)) (by kernel_rfl) (fun w => by kernel_rfl) ?_
      cases hc7 : (inB ((insAt g.prog g.pc).2) 0 99)
      · have hb7 := hc7
        refine Sx.G.skip (by kernel_rfl) ?_
        refine Sx.G.skip (by kernel_rfl) ?_
        refine Sx.G.skip (by kernel_rfl) ?_
        refine Sx.G.pure (.bool false) (by kernel_rfl) (fun w => by kernel_rfl) ?_
        refine Sx.G.pure (.bool false) (by kernel_rfl) (fun w => by kernel_rfl) ?_
        refine Sx.G.nil ?_
        refine Sx.E.next ?_
        refine Sx.C.no (by kernel_rfl) (by kernel_rfl) ?_
        refine Sx.C.seq ?_
        refine Sx.C.region ?_
        refine Sx.G.pure (.bool false) (by kernel_rfl) (fun w => by kernel_rfl) ?_
        refine Sx.G.pure (.bool false) (by kernel_rfl) (fun w => by kernel_rfl) ?_
        refine Sx.G.skip (by kernel_rfl) ?_
        refine Sx.G.skip (by kernel_rfl) ?_
        refine Sx.G.skip (by kernel_rfl) ?_
        refine Sx.G.pure (.bool false) (by kernel_rfl) (fun w => by kernel_rfl) ?_
        refine Sx.G.pure (.bool false) (by kernel_rfl) (fun w => by kernel_rfl) ?_
        refine Sx.G.nil ?_
        refine Sx.E.next ?_
        refine Sx.C.no (by kernel_rfl) (by kernel_rfl) ?_
        refine Sx.C.seq ?_
        refine Sx.C.region ?_
        refine Sx.G.pure (.bool false) (by kernel_rfl) (fun w => by kernel_rfl) ?_
        refine Sx.G.pure (.bool false) (by kernel_rfl) (fun w => by kernel_rfl) ?_
        refine Sx.G.skip (by kernel_rfl) ?_
        refine Sx.G.skip (by kernel_rfl) ?_
        refine Sx.G.skip (by kernel_rfl) ?_
        refine Sx.G.pure (.bool false) (by kernel_rfl) (fun w => by kernel_rfl) ?_
        refine Sx.G.pure (.bool false) (by kernel_rfl) (fun w => by kernel_rfl) ?_
        refine Sx.G.skip (by kernel_rfl) ?_
        refine Sx.G.skip (by kernel_rfl) ?_
        refine Sx.G.skip (by kernel_rfl) ?_
        refine Sx.G.pure (.bool false) (by kernel_rfl) (fun w => by kernel_rfl) ?_
        refine Sx.G.pure (.bool false) (by kernel_rfl) (fun w => by kernel_rfl) ?_
        refine Sx.G.nil ?_
        refine Sx.E.next ?_
        refine Sx.C.no (by kernel_rfl) (by kernel_rfl) ?_
        refine Sx.C.skip ?_
        refine Sx.E.block_normal ?_
        refine Sx.E.next ?_
        refine Sx.C.seq ?_
        refine Sx.C.region ?_
        refine Sx.G.ld 32 (.tmp 1) b1 0 2 [.slice PA0 g.prog.length Pc0, .int .i64 g.a, .int .i64 g.pc, .slice PA1 g.wr.length Pc1, .slice PA2 g.lv.length Pc2, .int .i64 g.t.1, .int .i64 g.t.2.1, .bool g.t.2.2, .int .i64 g.pd, .int .i64 g.x.1, .int .i64 g.x.2.1, .bool g.x.2.2.1, .int .i64 g.x.2.2.2, .bool g.hl, .slice PA3 g.seen.length Pc3] [.slice PA0 g.prog.length Pc0, .int .i64 g.a, .int .i64 g.pc, .slice PA1 g.wr.length Pc1, .slice PA2 g.lv.length Pc2, .int .i64 g.t.1, .int .i64 g.t.2.1, .bool g.t.2.2, .int .i64 g.pd, .int .i64 g.x.1, .int .i64 g.x.2.1, .bool g.x.2.2.1, .int .i64 g.x.2.2.2, .bool g.hl, .slice PA3 g.seen.length Pc3] rfl (by kernel_rfl) (by kernel_rfl) rfl (by kernel_rfl) (by kernel_rfl) (by kernel_rfl) ?_
        refine Sx.G.call 22 #[.agg #[.slice PA0 g.prog.length Pc0, .int .i64 g.a, .int .i64 g.pc, .slice PA1 g.wr.length Pc1, .slice PA2 g.lv.length Pc2, .int .i64 g.t.1, .int .i64 g.t.2.1, .bool g.t.2.2, .int .i64 g.pd, .int .i64 g.x.1, .int .i64 g.x.2.1, .bool g.x.2.2.1, .int .i64 g.x.2.2.2, .bool g.hl, .slice PA3 g.seen.length Pc3]] (by kernel_rfl) (fun w => by kernel_rfl) (fun w8 S => (specx_moved g _ _ (by exact hc) (St.old S hr)).mono fun e w8' hp => ?_)
        obtain ⟨cs, F, rfl, ho, hF, hb⟩ := hp
        obtain ⟨q8_0, q8_1, q8_2, q8_3, G8_0, G8_1, G8_2, G8_3, rfl, S'⟩ := rG_open (S.got hb ho hF)
        obtain ⟨q8A0, q8c0, e0, -⟩ := lst_val (S'.reads 0 rfl)
        subst e0
        obtain ⟨q8A1, q8c1, e1, -⟩ := lst_val (S'.reads 1 rfl)
        subst e1
        obtain ⟨q8A2, q8c2, e2, -⟩ := lst_val (S'.reads 2 rfl)
        subst e2
        obtain ⟨q8A3, q8c3, e3, -⟩ := lst_val (S'.reads 3 rfl)
        subst e3
        refine ⟨_, _, rfl, S', ?_⟩
        clear S S' ho hF hb
        refine Sx.G.sto 32 (.tmp 2) (.tmp 66) b2 0 5 [.slice none 0 0, .int .i64 0, .int .i64 0, .slice none 0 0, .slice none 0 0, .int .i64 0, .int .i64 0, .bool false, .int .i64 0, .int .i64 0, .int .i64 0, .bool false, .int .i64 0, .bool false, .slice none 0 0] [.slice q8A0 (movedG g).prog.length q8c0, .int .i64 (movedG g).a, .int .i64 (movedG g).pc, .slice q8A1 (movedG g).wr.length q8c1, .slice q8A2 (movedG g).lv.length q8c2, .int .i64 (movedG g).t.1, .int .i64 (movedG g).t.2.1, .bool (movedG g).t.2.2, .int .i64 (movedG g).pd, .int .i64 (movedG g).x.1, .int .i64 (movedG g).x.2.1, .bool (movedG g).x.2.2.1, .int .i64 (movedG g).x.2.2.2, .bool (movedG g).hl, .slice q8A3 (movedG g).seen.length q8c3] [.slice q8A0 (movedG g).prog.length q8c0, .int .i64 (movedG g).a, .int .i64 (movedG g).pc, .slice q8A1 (movedG g).wr.length q8c1, .slice q8A2 (movedG g).lv.length q8c2, .int .i64 (movedG g).t.1, .int .i64 (movedG g).t.2.1, .bool (movedG g).t.2.2, .int .i64 (movedG g).pd, .int .i64 (movedG g).x.1, .int .i64 (movedG g).x.2.1, .bool (movedG g).x.2.2.1, .int .i64 (movedG g).x.2.2.2, .bool (movedG g).hl, .slice q8A3 (movedG g).seen.length q8c3] [ow (rLst 42 (rPair rInt rInt)) w8.heap.size (w8'.heap.size) ((movedG g).prog) [.slice q8A0 (movedG g).prog.length q8c0] G8_0, ow (rLsw (rPair rInt rInt)) w8.heap.size w8'.heap.size (movedG g).wr [.slice q8A1 (movedG g).wr.length q8c1] G8_1, ow (rLsw (rPair rInt rInt)) w8.heap.size w8'.heap.size (movedG g).lv [.slice q8A2 (movedG g).lv.length q8c2] G8_2, ow (rLst 3 rInt) w8.heap.size (w8'.heap.size) ((movedG g).seen) [.slice q8A3 (movedG g).seen.length q8c3] G8_3, vr b4 [.int .i64 (insAt g.prog g.pc).1, .int .i64 (insAt g.prog g.pc).2], vr b2 [.slice q8A0 (movedG g).prog.length q8c0, .int .i64 (movedG g).a, .int .i64 (movedG g).pc, .slice q8A1 (movedG g).wr.length q8c1, .slice q8A2 (movedG g).lv.length q8c2, .int .i64 (movedG g).t.1, .int .i64 (movedG g).t.2.1, .bool (movedG g).t.2.2, .int .i64 (movedG g).pd, .int .i64 (movedG g).x.1, .int .i64 (movedG g).x.2.1, .bool (movedG g).x.2.2.1, .int .i64 (movedG g).x.2.2.2, .bool (movedG g).hl, .slice q8A3 (movedG g).seen.length q8c3], vr b1 [.slice PA0 g.prog.length Pc0, .int .i64 g.a, .int .i64 g.pc, .slice PA1 g.wr.length Pc1, .slice PA2 g.lv.length Pc2, .int .i64 g.t.1, .int .i64 g.t.2.1, .bool g.t.2.2, .int .i64 g.pd, .int .i64 g.x.1, .int .i64 g.x.2.1, .bool g.x.2.2.1, .int .i64 g.x.2.2.2, .bool g.hl, .slice PA3 g.seen.length Pc3]] rfl (by kernel_rfl) (by kernel_rfl) (by kernel_rfl) rfl (by kernel_rfl) rfl (by kernel_rfl) (by kernel_rfl) (by kernel_rfl) ?_
        refine Sx.G.nil ?_
        refine Sx.E.next ?_
        refine Sx.C.ret ?_
        refine Sx.E.retc b2 5 [.slice q8A0 (movedG g).prog.length q8c0, .int .i64 (movedG g).a, .int .i64 (movedG g).pc, .slice q8A1 (movedG g).wr.length q8c1, .slice q8A2 (movedG g).lv.length q8c2, .int .i64 (movedG g).t.1, .int .i64 (movedG g).t.2.1, .bool (movedG g).t.2.2, .int .i64 (movedG g).pd, .int .i64 (movedG g).x.1, .int .i64 (movedG g).x.2.1, .bool (movedG g).x.2.2.1, .int .i64 (movedG g).x.2.2.2, .bool (movedG g).hl, .slice q8A3 (movedG g).seen.length q8c3] rfl (by kernel_rfl) rfl (by kernel_rfl) (by kernel_rfl) (fun w S => ?_)
        have HW : plainG g = movedG g := by simp [plainG, hb3, hb5, hb7]
        obtain ⟨ho, hF⟩ := rG_shut (g := movedG g) S 0 rfl 1 rfl 2 rfl 3 rfl (by decide) (by decide) (by decide) (by decide) (by decide) (by decide)
        rw [HW]; exact ⟨_, _, rfl, ho, hF, S.below⟩
      · have hb7 := hc7
        refine Sx.G.pure (.pointer (some ⟨b4, 0, none⟩)) (by kernel_rfl) (fun w => by kernel_rfl) ?_
        refine Sx.G.ld1 3 (.tmp 26) b4 0 0 [.int .i64 (insAt g.prog g.pc).1, .int .i64 (insAt g.prog g.pc).2] (.int .i64 (insAt g.prog g.pc).1) rfl (by kernel_rfl) (by kernel_rfl) rfl (by kernel_rfl) (by kernel_rfl) ?_
        refine Sx.G.pure (.bool ((insAt g.prog g.pc).1 == 1)) (by kernel_rfl) (fun w => by kernel_rfl) ?_
        refine Sx.G.pure (.bool ((insAt g.prog g.pc).1 == 1)) (by kernel_rfl) (fun w => by kernel_rfl) ?_
        refine Sx.G.pure (.bool ((insAt g.prog g.pc).1 == 1)) (by kernel_rfl) (fun w => by kernel_rfl) ?_
        refine Sx.G.nil ?_
        refine Sx.E.next ?_
        cases hc9 : ((insAt g.prog g.pc).1 == 1)
        · have hb9 := hc9
          refine Sx.C.no (by kernel_rfl) (by kernel_rfl) ?_
          refine Sx.C.seq ?_
          refine Sx.C.region ?_
          refine Sx.G.pure (.bool true) (by kernel_rfl) (fun w => by kernel_rfl) ?_
          refine Sx.G.pure (.bool true) (by kernel_rfl) (fun w => by kernel_rfl) ?_
          refine Sx.G.pure (.pointer (some ⟨b4, 0, none⟩)) (by kernel_rfl) (fun w => by kernel_rfl) ?_
          refine Sx.G.ld1 3 (.tmp 36) b4 0 0 [.int .i64 (insAt g.prog g.pc).1, .int .i64 (insAt g.prog g.pc).2] (.int .i64 (insAt g.prog g.pc).1) rfl (by kernel_rfl) (by kernel_rfl) rfl (by kernel_rfl) (by kernel_rfl) ?_
          refine Sx.G.pure (.bool ((insAt g.prog g.pc).1 == 2)) (by kernel_rfl) (fun w => by kernel_rfl) ?_
          refine Sx.G.pure (.bool ((insAt g.prog g.pc).1 == 2)) (by kernel_rfl) (fun w => by kernel_rfl) ?_
          refine Sx.G.pure (.bool ((insAt g.prog g.pc).1 == 2)) (by kernel_rfl) (fun w => by kernel_rfl) ?_
          refine Sx.G.nil ?_
          refine Sx.E.next ?_
          cases hc10 : ((insAt g.prog g.pc).1 == 2)
          · have hb10 := hc10
            refine Sx.C.no (by kernel_rfl) (by kernel_rfl) ?_
            refine Sx.C.seq ?_
            refine Sx.C.region ?_
            refine Sx.G.pure (.bool true) (by kernel_rfl) (fun w => by kernel_rfl) ?_
            refine Sx.G.pure (.bool true) (by kernel_rfl) (fun w => by kernel_rfl) ?_
            refine Sx.G.pure (.pointer (some ⟨b4, 0, none⟩)) (by kernel_rfl) (fun w => by kernel_rfl) ?_
            refine Sx.G.ld1 3 (.tmp 50) b4 0 0 [.int .i64 (insAt g.prog g.pc).1, .int .i64 (insAt g.prog g.pc).2] (.int .i64 (insAt g.prog g.pc).1) rfl (by kernel_rfl) (by kernel_rfl) rfl (by kernel_rfl) (by kernel_rfl) ?_
            refine Sx.G.pure (.bool ((insAt g.prog g.pc).1 == 8)) (by kernel_rfl) (fun w => by kernel_rfl) ?_
            refine Sx.G.pure (.bool ((insAt g.prog g.pc).1 == 8)) (by kernel_rfl) (fun w => by kernel_rfl) ?_
            refine Sx.G.pure (.bool ((insAt g.prog g.pc).1 == 8)) (by kernel_rfl) (fun w => by kernel_rfl) ?_
            cases hc11 : ((insAt g.prog g.pc).1 == 8)
            · have hb11 := hc11
              refine Sx.G.skip (by kernel_rfl) ?_
              refine Sx.G.skip (by kernel_rfl) ?_
              refine Sx.G.skip (by kernel_rfl) ?_
              refine Sx.G.pure (.bool false) (by kernel_rfl) (fun w => by kernel_rfl) ?_
              refine Sx.G.pure (.bool false) (by kernel_rfl) (fun w => by kernel_rfl) ?_
              refine Sx.G.nil ?_
              refine Sx.E.next ?_
              refine Sx.C.no (by kernel_rfl) (by kernel_rfl) ?_
              refine Sx.C.skip ?_
              refine Sx.E.block_normal ?_
              refine Sx.E.next ?_
              refine Sx.C.seq ?_
              refine Sx.C.region ?_
              refine Sx.G.ld 32 (.tmp 1) b1 0 2 [.slice PA0 g.prog.length Pc0, .int .i64 g.a, .int .i64 g.pc, .slice PA1 g.wr.length Pc1, .slice PA2 g.lv.length Pc2, .int .i64 g.t.1, .int .i64 g.t.2.1, .bool g.t.2.2, .int .i64 g.pd, .int .i64 g.x.1, .int .i64 g.x.2.1, .bool g.x.2.2.1, .int .i64 g.x.2.2.2, .bool g.hl, .slice PA3 g.seen.length Pc3] [.slice PA0 g.prog.length Pc0, .int .i64 g.a, .int .i64 g.pc, .slice PA1 g.wr.length Pc1, .slice PA2 g.lv.length Pc2, .int .i64 g.t.1, .int .i64 g.t.2.1, .bool g.t.2.2, .int .i64 g.pd, .int .i64 g.x.1, .int .i64 g.x.2.1, .bool g.x.2.2.1, .int .i64 g.x.2.2.2, .bool g.hl, .slice PA3 g.seen.length Pc3] rfl (by kernel_rfl) (by kernel_rfl) rfl (by kernel_rfl) (by kernel_rfl) (by kernel_rfl) ?_
              refine Sx.G.call 22 #[.agg #[.slice PA0 g.prog.length Pc0, .int .i64 g.a, .int .i64 g.pc, .slice PA1 g.wr.length Pc1, .slice PA2 g.lv.length Pc2, .int .i64 g.t.1, .int .i64 g.t.2.1, .bool g.t.2.2, .int .i64 g.pd, .int .i64 g.x.1, .int .i64 g.x.2.1, .bool g.x.2.2.1, .int .i64 g.x.2.2.2, .bool g.hl, .slice PA3 g.seen.length Pc3]] (by kernel_rfl) (fun w => by kernel_rfl) (fun w12 S => (specx_moved g _ _ (by exact hc) (St.old S hr)).mono fun e w12' hp => ?_)
              obtain ⟨cs, F, rfl, ho, hF, hb⟩ := hp
              obtain ⟨q12_0, q12_1, q12_2, q12_3, G12_0, G12_1, G12_2, G12_3, rfl, S'⟩ := rG_open (S.got hb ho hF)
              obtain ⟨q12A0, q12c0, e0, -⟩ := lst_val (S'.reads 0 rfl)
              subst e0
              obtain ⟨q12A1, q12c1, e1, -⟩ := lst_val (S'.reads 1 rfl)
              subst e1
              obtain ⟨q12A2, q12c2, e2, -⟩ := lst_val (S'.reads 2 rfl)
              subst e2
              obtain ⟨q12A3, q12c3, e3, -⟩ := lst_val (S'.reads 3 rfl)
              subst e3
              refine ⟨_, _, rfl, S', ?_⟩
              clear S S' ho hF hb
              refine Sx.G.sto 32 (.tmp 2) (.tmp 66) b2 0 5 [.slice none 0 0, .int .i64 0, .int .i64 0, .slice none 0 0, .slice none 0 0, .int .i64 0, .int .i64 0, .bool false, .int .i64 0, .int .i64 0, .int .i64 0, .bool false, .int .i64 0, .bool false, .slice none 0 0] [.slice q12A0 (movedG g).prog.length q12c0, .int .i64 (movedG g).a, .int .i64 (movedG g).pc, .slice q12A1 (movedG g).wr.length q12c1, .slice q12A2 (movedG g).lv.length q12c2, .int .i64 (movedG g).t.1, .int .i64 (movedG g).t.2.1, .bool (movedG g).t.2.2, .int .i64 (movedG g).pd, .int .i64 (movedG g).x.1, .int .i64 (movedG g).x.2.1, .bool (movedG g).x.2.2.1, .int .i64 (movedG g).x.2.2.2, .bool (movedG g).hl, .slice q12A3 (movedG g).seen.length q12c3] [.slice q12A0 (movedG g).prog.length q12c0, .int .i64 (movedG g).a, .int .i64 (movedG g).pc, .slice q12A1 (movedG g).wr.length q12c1, .slice q12A2 (movedG g).lv.length q12c2, .int .i64 (movedG g).t.1, .int .i64 (movedG g).t.2.1, .bool (movedG g).t.2.2, .int .i64 (movedG g).pd, .int .i64 (movedG g).x.1, .int .i64 (movedG g).x.2.1, .bool (movedG g).x.2.2.1, .int .i64 (movedG g).x.2.2.2, .bool (movedG g).hl, .slice q12A3 (movedG g).seen.length q12c3] [ow (rLst 42 (rPair rInt rInt)) w12.heap.size (w12'.heap.size) ((movedG g).prog) [.slice q12A0 (movedG g).prog.length q12c0] G12_0, ow (rLsw (rPair rInt rInt)) w12.heap.size w12'.heap.size (movedG g).wr [.slice q12A1 (movedG g).wr.length q12c1] G12_1, ow (rLsw (rPair rInt rInt)) w12.heap.size w12'.heap.size (movedG g).lv [.slice q12A2 (movedG g).lv.length q12c2] G12_2, ow (rLst 3 rInt) w12.heap.size (w12'.heap.size) ((movedG g).seen) [.slice q12A3 (movedG g).seen.length q12c3] G12_3, vr b4 [.int .i64 (insAt g.prog g.pc).1, .int .i64 (insAt g.prog g.pc).2], vr b2 [.slice q12A0 (movedG g).prog.length q12c0, .int .i64 (movedG g).a, .int .i64 (movedG g).pc, .slice q12A1 (movedG g).wr.length q12c1, .slice q12A2 (movedG g).lv.length q12c2, .int .i64 (movedG g).t.1, .int .i64 (movedG g).t.2.1, .bool (movedG g).t.2.2, .int .i64 (movedG g).pd, .int .i64 (movedG g).x.1, .int .i64 (movedG g).x.2.1, .bool (movedG g).x.2.2.1, .int .i64 (movedG g).x.2.2.2, .bool (movedG g).hl, .slice q12A3 (movedG g).seen.length q12c3], vr b1 [.slice PA0 g.prog.length Pc0, .int .i64 g.a, .int .i64 g.pc, .slice PA1 g.wr.length Pc1, .slice PA2 g.lv.length Pc2, .int .i64 g.t.1, .int .i64 g.t.2.1, .bool g.t.2.2, .int .i64 g.pd, .int .i64 g.x.1, .int .i64 g.x.2.1, .bool g.x.2.2.1, .int .i64 g.x.2.2.2, .bool g.hl, .slice PA3 g.seen.length Pc3]] rfl (by kernel_rfl) (by kernel_rfl) (by kernel_rfl) rfl (by kernel_rfl) rfl (by kernel_rfl) (by kernel_rfl) (by kernel_rfl) ?_
              refine Sx.G.nil ?_
              refine Sx.E.next ?_
              refine Sx.C.ret ?_
              refine Sx.E.retc b2 5 [.slice q12A0 (movedG g).prog.length q12c0, .int .i64 (movedG g).a, .int .i64 (movedG g).pc, .slice q12A1 (movedG g).wr.length q12c1, .slice q12A2 (movedG g).lv.length q12c2, .int .i64 (movedG g).t.1, .int .i64 (movedG g).t.2.1, .bool (movedG g).t.2.2, .int .i64 (movedG g).pd, .int .i64 (movedG g).x.1, .int .i64 (movedG g).x.2.1, .bool (movedG g).x.2.2.1, .int .i64 (movedG g).x.2.2.2, .bool (movedG g).hl, .slice q12A3 (movedG g).seen.length q12c3] rfl (by kernel_rfl) rfl (by kernel_rfl) (by kernel_rfl) (fun w S => ?_)
              have HW : plainG g = movedG g := by simp [plainG, hb3, hb5, hb7, hb9, hb10, hb11]
              obtain ⟨ho, hF⟩ := rG_shut (g := movedG g) S 0 rfl 1 rfl 2 rfl 3 rfl (by decide) (by decide) (by decide) (by decide) (by decide) (by decide)
              rw [HW]; exact ⟨_, _, rfl, ho, hF, S.below⟩
            · have hb11 := hc11
              refine Sx.G.pure (.pointer (some ⟨b1, 1, none⟩)) (by kernel_rfl) (fun w => by kernel_rfl) ?_
              refine Sx.G.ld1 3 (.tmp 55) b1 1 2 [.slice PA0 g.prog.length Pc0, .int .i64 g.a, .int .i64 g.pc, .slice PA1 g.wr.length Pc1, .slice PA2 g.lv.length Pc2, .int .i64 g.t.1, .int .i64 g.t.2.1, .bool g.t.2.2, .int .i64 g.pd, .int .i64 g.x.1, .int .i64 g.x.2.1, .bool g.x.2.2.1, .int .i64 g.x.2.2.2, .bool g.hl, .slice PA3 g.seen.length Pc3] (.int .i64 g.a) rfl (by kernel_rfl) (by kernel_rfl) rfl (by kernel_rfl) (by kernel_rfl) ?_
              refine Sx.G.pure (.bool (g.a == 0)) (by kernel_rfl) (fun w => by kernel_rfl) ?_
              refine Sx.G.pure (.bool (g.a == 0)) (by kernel_rfl) (fun w => by kernel_rfl) ?_
              refine Sx.G.pure (.bool (g.a == 0)) (by kernel_rfl) (fun w => by kernel_rfl) ?_
              refine Sx.G.nil ?_
              refine Sx.E.next ?_
              cases hc13 : (g.a == 0)
              · have hb13 := hc13
                refine Sx.C.no (by kernel_rfl) (by kernel_rfl) ?_
                refine Sx.C.skip ?_
                refine Sx.E.block_normal ?_
                refine Sx.E.next ?_
                refine Sx.C.seq ?_
                refine Sx.C.region ?_
                refine Sx.G.ld 32 (.tmp 1) b1 0 2 [.slice PA0 g.prog.length Pc0, .int .i64 g.a, .int .i64 g.pc, .slice PA1 g.wr.length Pc1, .slice PA2 g.lv.length Pc2, .int .i64 g.t.1, .int .i64 g.t.2.1, .bool g.t.2.2, .int .i64 g.pd, .int .i64 g.x.1, .int .i64 g.x.2.1, .bool g.x.2.2.1, .int .i64 g.x.2.2.2, .bool g.hl, .slice PA3 g.seen.length Pc3] [.slice PA0 g.prog.length Pc0, .int .i64 g.a, .int .i64 g.pc, .slice PA1 g.wr.length Pc1, .slice PA2 g.lv.length Pc2, .int .i64 g.t.1, .int .i64 g.t.2.1, .bool g.t.2.2, .int .i64 g.pd, .int .i64 g.x.1, .int .i64 g.x.2.1, .bool g.x.2.2.1, .int .i64 g.x.2.2.2, .bool g.hl, .slice PA3 g.seen.length Pc3] rfl (by kernel_rfl) (by kernel_rfl) rfl (by kernel_rfl) (by kernel_rfl) (by kernel_rfl) ?_
                refine Sx.G.call 22 #[.agg #[.slice PA0 g.prog.length Pc0, .int .i64 g.a, .int .i64 g.pc, .slice PA1 g.wr.length Pc1, .slice PA2 g.lv.length Pc2, .int .i64 g.t.1, .int .i64 g.t.2.1, .bool g.t.2.2, .int .i64 g.pd, .int .i64 g.x.1, .int .i64 g.x.2.1, .bool g.x.2.2.1, .int .i64 g.x.2.2.2, .bool g.hl, .slice PA3 g.seen.length Pc3]] (by kernel_rfl) (fun w => by kernel_rfl) (fun w14 S => (specx_moved g _ _ (by exact hc) (St.old S hr)).mono fun e w14' hp => ?_)
                obtain ⟨cs, F, rfl, ho, hF, hb⟩ := hp
                obtain ⟨q14_0, q14_1, q14_2, q14_3, G14_0, G14_1, G14_2, G14_3, rfl, S'⟩ := rG_open (S.got hb ho hF)
                obtain ⟨q14A0, q14c0, e0, -⟩ := lst_val (S'.reads 0 rfl)
                subst e0
                obtain ⟨q14A1, q14c1, e1, -⟩ := lst_val (S'.reads 1 rfl)
                subst e1
                obtain ⟨q14A2, q14c2, e2, -⟩ := lst_val (S'.reads 2 rfl)
                subst e2
                obtain ⟨q14A3, q14c3, e3, -⟩ := lst_val (S'.reads 3 rfl)
                subst e3
                refine ⟨_, _, rfl, S', ?_⟩
                clear S S' ho hF hb
                refine Sx.G.sto 32 (.tmp 2) (.tmp 66) b2 0 5 [.slice none 0 0, .int .i64 0, .int .i64 0, .slice none 0 0, .slice none 0 0, .int .i64 0, .int .i64 0, .bool false, .int .i64 0, .int .i64 0, .int .i64 0, .bool false, .int .i64 0, .bool false, .slice none 0 0] [.slice q14A0 (movedG g).prog.length q14c0, .int .i64 (movedG g).a, .int .i64 (movedG g).pc, .slice q14A1 (movedG g).wr.length q14c1, .slice q14A2 (movedG g).lv.length q14c2, .int .i64 (movedG g).t.1, .int .i64 (movedG g).t.2.1, .bool (movedG g).t.2.2, .int .i64 (movedG g).pd, .int .i64 (movedG g).x.1, .int .i64 (movedG g).x.2.1, .bool (movedG g).x.2.2.1, .int .i64 (movedG g).x.2.2.2, .bool (movedG g).hl, .slice q14A3 (movedG g).seen.length q14c3] [.slice q14A0 (movedG g).prog.length q14c0, .int .i64 (movedG g).a, .int .i64 (movedG g).pc, .slice q14A1 (movedG g).wr.length q14c1, .slice q14A2 (movedG g).lv.length q14c2, .int .i64 (movedG g).t.1, .int .i64 (movedG g).t.2.1, .bool (movedG g).t.2.2, .int .i64 (movedG g).pd, .int .i64 (movedG g).x.1, .int .i64 (movedG g).x.2.1, .bool (movedG g).x.2.2.1, .int .i64 (movedG g).x.2.2.2, .bool (movedG g).hl, .slice q14A3 (movedG g).seen.length q14c3] [ow (rLst 42 (rPair rInt rInt)) w14.heap.size (w14'.heap.size) ((movedG g).prog) [.slice q14A0 (movedG g).prog.length q14c0] G14_0, ow (rLsw (rPair rInt rInt)) w14.heap.size w14'.heap.size (movedG g).wr [.slice q14A1 (movedG g).wr.length q14c1] G14_1, ow (rLsw (rPair rInt rInt)) w14.heap.size w14'.heap.size (movedG g).lv [.slice q14A2 (movedG g).lv.length q14c2] G14_2, ow (rLst 3 rInt) w14.heap.size (w14'.heap.size) ((movedG g).seen) [.slice q14A3 (movedG g).seen.length q14c3] G14_3, vr b4 [.int .i64 (insAt g.prog g.pc).1, .int .i64 (insAt g.prog g.pc).2], vr b2 [.slice q14A0 (movedG g).prog.length q14c0, .int .i64 (movedG g).a, .int .i64 (movedG g).pc, .slice q14A1 (movedG g).wr.length q14c1, .slice q14A2 (movedG g).lv.length q14c2, .int .i64 (movedG g).t.1, .int .i64 (movedG g).t.2.1, .bool (movedG g).t.2.2, .int .i64 (movedG g).pd, .int .i64 (movedG g).x.1, .int .i64 (movedG g).x.2.1, .bool (movedG g).x.2.2.1, .int .i64 (movedG g).x.2.2.2, .bool (movedG g).hl, .slice q14A3 (movedG g).seen.length q14c3], vr b1 [.slice PA0 g.prog.length Pc0, .int .i64 g.a, .int .i64 g.pc, .slice PA1 g.wr.length Pc1, .slice PA2 g.lv.length Pc2, .int .i64 g.t.1, .int .i64 g.t.2.1, .bool g.t.2.2, .int .i64 g.pd, .int .i64 g.x.1, .int .i64 g.x.2.1, .bool g.x.2.2.1, .int .i64 g.x.2.2.2, .bool g.hl, .slice PA3 g.seen.length Pc3]] rfl (by kernel_rfl) (by kernel_rfl) (by kernel_rfl) rfl (by kernel_rfl) rfl (by kernel_rfl) (by kernel_rfl) (by kernel_rfl) ?_
                refine Sx.G.nil ?_
                refine Sx.E.next ?_
                refine Sx.C.ret ?_
                refine Sx.E.retc b2 5 [.slice q14A0 (movedG g).prog.length q14c0, .int .i64 (movedG g).a, .int .i64 (movedG g).pc, .slice q14A1 (movedG g).wr.length q14c1, .slice q14A2 (movedG g).lv.length q14c2, .int .i64 (movedG g).t.1, .int .i64 (movedG g).t.2.1, .bool (movedG g).t.2.2, .int .i64 (movedG g).pd, .int .i64 (movedG g).x.1, .int .i64 (movedG g).x.2.1, .bool (movedG g).x.2.2.1, .int .i64 (movedG g).x.2.2.2, .bool (movedG g).hl, .slice q14A3 (movedG g).seen.length q14c3] rfl (by kernel_rfl) rfl (by kernel_rfl) (by kernel_rfl) (fun w S => ?_)
                have HW : plainG g = movedG g := by simp [plainG, hb3, hb5, hb7, hb9, hb10, hb11, hb13]
                obtain ⟨ho, hF⟩ := rG_shut (g := movedG g) S 0 rfl 1 rfl 2 rfl 3 rfl (by decide) (by decide) (by decide) (by decide) (by decide) (by decide)
                rw [HW]; exact ⟨_, _, rfl, ho, hF, S.below⟩
              · have hb13 := hc13
                refine Sx.C.yes (by kernel_rfl) (by kernel_rfl) ?_
                refine Sx.C.seq ?_
                refine Sx.C.region ?_
                refine Sx.G.ld 32 (.tmp 1) b1 0 2 [.slice PA0 g.prog.length Pc0, .int .i64 g.a, .int .i64 g.pc, .slice PA1 g.wr.length Pc1, .slice PA2 g.lv.length Pc2, .int .i64 g.t.1, .int .i64 g.t.2.1, .bool g.t.2.2, .int .i64 g.pd, .int .i64 g.x.1, .int .i64 g.x.2.1, .bool g.x.2.2.1, .int .i64 g.x.2.2.2, .bool g.hl, .slice PA3 g.seen.length Pc3] [.slice PA0 g.prog.length Pc0, .int .i64 g.a, .int .i64 g.pc, .slice PA1 g.wr.length Pc1, .slice PA2 g.lv.length Pc2, .int .i64 g.t.1, .int .i64 g.t.2.1, .bool g.t.2.2, .int .i64 g.pd, .int .i64 g.x.1, .int .i64 g.x.2.1, .bool g.x.2.2.1, .int .i64 g.x.2.2.2, .bool g.hl, .slice PA3 g.seen.length Pc3] rfl (by kernel_rfl) (by kernel_rfl) rfl (by kernel_rfl) (by kernel_rfl) (by kernel_rfl) ?_
                refine Sx.G.call 51 #[.agg #[.slice PA0 g.prog.length Pc0, .int .i64 g.a, .int .i64 g.pc, .slice PA1 g.wr.length Pc1, .slice PA2 g.lv.length Pc2, .int .i64 g.t.1, .int .i64 g.t.2.1, .bool g.t.2.2, .int .i64 g.pd, .int .i64 g.x.1, .int .i64 g.x.2.1, .bool g.x.2.2.1, .int .i64 g.x.2.2.2, .bool g.hl, .slice PA3 g.seen.length Pc3]] (by kernel_rfl) (fun w => by kernel_rfl) (fun w15 S => (specx_copy g _ _ (by exact hc) (St.old S hr)).mono fun e w15' hp => ?_)
                obtain ⟨cs, F, rfl, ho, hF, hb⟩ := hp
                obtain ⟨q15_0, q15_1, q15_2, q15_3, G15_0, G15_1, G15_2, G15_3, rfl, S'⟩ := rG_open (S.got hb ho hF)
                obtain ⟨q15A0, q15c0, e0, -⟩ := lst_val (S'.reads 0 rfl)
                subst e0
                obtain ⟨q15A1, q15c1, e1, -⟩ := lst_val (S'.reads 1 rfl)
                subst e1
                obtain ⟨q15A2, q15c2, e2, -⟩ := lst_val (S'.reads 2 rfl)
                subst e2
                obtain ⟨q15A3, q15c3, e3, -⟩ := lst_val (S'.reads 3 rfl)
                subst e3
                refine ⟨_, _, rfl, S', ?_⟩
                clear S S' ho hF hb
                refine Sx.G.sto 32 (.tmp 1) (.tmp 60) b1 0 6 [.slice PA0 g.prog.length Pc0, .int .i64 g.a, .int .i64 g.pc, .slice PA1 g.wr.length Pc1, .slice PA2 g.lv.length Pc2, .int .i64 g.t.1, .int .i64 g.t.2.1, .bool g.t.2.2, .int .i64 g.pd, .int .i64 g.x.1, .int .i64 g.x.2.1, .bool g.x.2.2.1, .int .i64 g.x.2.2.2, .bool g.hl, .slice PA3 g.seen.length Pc3] [.slice q15A0 g.prog.length q15c0, .int .i64 g.a, .int .i64 g.pc, .slice q15A1 g.wr.length q15c1, .slice q15A2 g.lv.length q15c2, .int .i64 g.t.1, .int .i64 g.t.2.1, .bool g.t.2.2, .int .i64 g.pd, .int .i64 g.x.1, .int .i64 g.x.2.1, .bool g.x.2.2.1, .int .i64 g.x.2.2.2, .bool g.hl, .slice q15A3 g.seen.length q15c3] [.slice q15A0 g.prog.length q15c0, .int .i64 g.a, .int .i64 g.pc, .slice q15A1 g.wr.length q15c1, .slice q15A2 g.lv.length q15c2, .int .i64 g.t.1, .int .i64 g.t.2.1, .bool g.t.2.2, .int .i64 g.pd, .int .i64 g.x.1, .int .i64 g.x.2.1, .bool g.x.2.2.1, .int .i64 g.x.2.2.2, .bool g.hl, .slice q15A3 g.seen.length q15c3] [ow (rLst 42 (rPair rInt rInt)) w15.heap.size (w15'.heap.size) g.prog [.slice q15A0 g.prog.length q15c0] G15_0, ow (rLsw (rPair rInt rInt)) w15.heap.size w15'.heap.size g.wr [.slice q15A1 g.wr.length q15c1] G15_1, ow (rLsw (rPair rInt rInt)) w15.heap.size w15'.heap.size g.lv [.slice q15A2 g.lv.length q15c2] G15_2, ow (rLst 3 rInt) w15.heap.size (w15'.heap.size) g.seen [.slice q15A3 g.seen.length q15c3] G15_3, vr b4 [.int .i64 (insAt g.prog g.pc).1, .int .i64 (insAt g.prog g.pc).2], vr b2 [.slice none 0 0, .int .i64 0, .int .i64 0, .slice none 0 0, .slice none 0 0, .int .i64 0, .int .i64 0, .bool false, .int .i64 0, .int .i64 0, .int .i64 0, .bool false, .int .i64 0, .bool false, .slice none 0 0], vr b1 [.slice q15A0 g.prog.length q15c0, .int .i64 g.a, .int .i64 g.pc, .slice q15A1 g.wr.length q15c1, .slice q15A2 g.lv.length q15c2, .int .i64 g.t.1, .int .i64 g.t.2.1, .bool g.t.2.2, .int .i64 g.pd, .int .i64 g.x.1, .int .i64 g.x.2.1, .bool g.x.2.2.1, .int .i64 g.x.2.2.2, .bool g.hl, .slice q15A3 g.seen.length q15c3]] rfl (by kernel_rfl) (by kernel_rfl) (by kernel_rfl) rfl (by kernel_rfl) rfl (by kernel_rfl) (by kernel_rfl) (by kernel_rfl) ?_
                refine Sx.G.nil ?_
                refine Sx.E.next ?_
                refine Sx.C.seq ?_
                refine Sx.C.region ?_
                refine Sx.G.pure (.pointer (some ⟨b4, 1, none⟩)) (by kernel_rfl) (fun w => by kernel_rfl) ?_
                refine Sx.G.ld1 3 (.tmp 61) b4 1 4 [.int .i64 (insAt g.prog g.pc).1, .int .i64 (insAt g.prog g.pc).2] (.int .i64 (insAt g.prog g.pc).2) rfl (by kernel_rfl) (by kernel_rfl) rfl (by kernel_rfl) (by kernel_rfl) ?_
                refine Sx.G.pure (.pointer (some ⟨b1, 2, none⟩)) (by kernel_rfl) (fun w => by kernel_rfl) ?_
                refine Sx.G.sto 3 (.tmp 63) (.tmp 62) b1 2 6 [.slice q15A0 g.prog.length q15c0, .int .i64 g.a, .int .i64 g.pc, .slice q15A1 g.wr.length q15c1, .slice q15A2 g.lv.length q15c2, .int .i64 g.t.1, .int .i64 g.t.2.1, .bool g.t.2.2, .int .i64 g.pd, .int .i64 g.x.1, .int .i64 g.x.2.1, .bool g.x.2.2.1, .int .i64 g.x.2.2.2, .bool g.hl, .slice q15A3 g.seen.length q15c3] [.int .i64 (insAt g.prog g.pc).2] [.slice q15A0 g.prog.length q15c0, .int .i64 g.a, .int .i64 (insAt g.prog g.pc).2, .slice q15A1 g.wr.length q15c1, .slice q15A2 g.lv.length q15c2, .int .i64 g.t.1, .int .i64 g.t.2.1, .bool g.t.2.2, .int .i64 g.pd, .int .i64 g.x.1, .int .i64 g.x.2.1, .bool g.x.2.2.1, .int .i64 g.x.2.2.2, .bool g.hl, .slice q15A3 g.seen.length q15c3] [ow (rLst 42 (rPair rInt rInt)) w15.heap.size (w15'.heap.size) g.prog [.slice q15A0 g.prog.length q15c0] G15_0, ow (rLsw (rPair rInt rInt)) w15.heap.size w15'.heap.size g.wr [.slice q15A1 g.wr.length q15c1] G15_1, ow (rLsw (rPair rInt rInt)) w15.heap.size w15'.heap.size g.lv [.slice q15A2 g.lv.length q15c2] G15_2, ow (rLst 3 rInt) w15.heap.size (w15'.heap.size) g.seen [.slice q15A3 g.seen.length q15c3] G15_3, vr b4 [.int .i64 (insAt g.prog g.pc).1, .int .i64 (insAt g.prog g.pc).2], vr b2 [.slice none 0 0, .int .i64 0, .int .i64 0, .slice none 0 0, .slice none 0 0, .int .i64 0, .int .i64 0, .bool false, .int .i64 0, .int .i64 0, .int .i64 0, .bool false, .int .i64 0, .bool false, .slice none 0 0], vr b1 [.slice q15A0 g.prog.length q15c0, .int .i64 g.a, .int .i64 (insAt g.prog g.pc).2, .slice q15A1 g.wr.length q15c1, .slice q15A2 g.lv.length q15c2, .int .i64 g.t.1, .int .i64 g.t.2.1, .bool g.t.2.2, .int .i64 g.pd, .int .i64 g.x.1, .int .i64 g.x.2.1, .bool g.x.2.2.1, .int .i64 g.x.2.2.2, .bool g.hl, .slice q15A3 g.seen.length q15c3]] rfl (by kernel_rfl) (by kernel_rfl) (by kernel_rfl) rfl (by kernel_rfl) rfl (by kernel_rfl) (by kernel_rfl) (by kernel_rfl) ?_
                refine Sx.G.nil ?_
                refine Sx.E.next ?_
                refine Sx.C.seq ?_
                refine Sx.C.region ?_
                refine Sx.G.ld 32 (.tmp 1) b1 0 6 [.slice q15A0 g.prog.length q15c0, .int .i64 g.a, .int .i64 (insAt g.prog g.pc).2, .slice q15A1 g.wr.length q15c1, .slice q15A2 g.lv.length q15c2, .int .i64 g.t.1, .int .i64 g.t.2.1, .bool g.t.2.2, .int .i64 g.pd, .int .i64 g.x.1, .int .i64 g.x.2.1, .bool g.x.2.2.1, .int .i64 g.x.2.2.2, .bool g.hl, .slice q15A3 g.seen.length q15c3] [.slice q15A0 g.prog.length q15c0, .int .i64 g.a, .int .i64 (insAt g.prog g.pc).2, .slice q15A1 g.wr.length q15c1, .slice q15A2 g.lv.length q15c2, .int .i64 g.t.1, .int .i64 g.t.2.1, .bool g.t.2.2, .int .i64 g.pd, .int .i64 g.x.1, .int .i64 g.x.2.1, .bool g.x.2.2.1, .int .i64 g.x.2.2.2, .bool g.hl, .slice q15A3 g.seen.length q15c3] rfl (by kernel_rfl) (by kernel_rfl) rfl (by kernel_rfl) (by kernel_rfl) (by kernel_rfl) ?_
                refine Sx.G.sto 32 (.tmp 2) (.tmp 64) b2 0 5 [.slice none 0 0, .int .i64 0, .int .i64 0, .slice none 0 0, .slice none 0 0, .int .i64 0, .int .i64 0, .bool false, .int .i64 0, .int .i64 0, .int .i64 0, .bool false, .int .i64 0, .bool false, .slice none 0 0] [.slice q15A0 g.prog.length q15c0, .int .i64 g.a, .int .i64 (insAt g.prog g.pc).2, .slice q15A1 g.wr.length q15c1, .slice q15A2 g.lv.length q15c2, .int .i64 g.t.1, .int .i64 g.t.2.1, .bool g.t.2.2, .int .i64 g.pd, .int .i64 g.x.1, .int .i64 g.x.2.1, .bool g.x.2.2.1, .int .i64 g.x.2.2.2, .bool g.hl, .slice q15A3 g.seen.length q15c3] [.slice q15A0 g.prog.length q15c0, .int .i64 g.a, .int .i64 (insAt g.prog g.pc).2, .slice q15A1 g.wr.length q15c1, .slice q15A2 g.lv.length q15c2, .int .i64 g.t.1, .int .i64 g.t.2.1, .bool g.t.2.2, .int .i64 g.pd, .int .i64 g.x.1, .int .i64 g.x.2.1, .bool g.x.2.2.1, .int .i64 g.x.2.2.2, .bool g.hl, .slice q15A3 g.seen.length q15c3] [ow (rLst 42 (rPair rInt rInt)) w15.heap.size (w15'.heap.size) g.prog [.slice q15A0 g.prog.length q15c0] G15_0, ow (rLsw (rPair rInt rInt)) w15.heap.size w15'.heap.size g.wr [.slice q15A1 g.wr.length q15c1] G15_1, ow (rLsw (rPair rInt rInt)) w15.heap.size w15'.heap.size g.lv [.slice q15A2 g.lv.length q15c2] G15_2, ow (rLst 3 rInt) w15.heap.size (w15'.heap.size) g.seen [.slice q15A3 g.seen.length q15c3] G15_3, vr b4 [.int .i64 (insAt g.prog g.pc).1, .int .i64 (insAt g.prog g.pc).2], vr b2 [.slice q15A0 g.prog.length q15c0, .int .i64 g.a, .int .i64 (insAt g.prog g.pc).2, .slice q15A1 g.wr.length q15c1, .slice q15A2 g.lv.length q15c2, .int .i64 g.t.1, .int .i64 g.t.2.1, .bool g.t.2.2, .int .i64 g.pd, .int .i64 g.x.1, .int .i64 g.x.2.1, .bool g.x.2.2.1, .int .i64 g.x.2.2.2, .bool g.hl, .slice q15A3 g.seen.length q15c3], vr b1 [.slice q15A0 g.prog.length q15c0, .int .i64 g.a, .int .i64 (insAt g.prog g.pc).2, .slice q15A1 g.wr.length q15c1, .slice q15A2 g.lv.length q15c2, .int .i64 g.t.1, .int .i64 g.t.2.1, .bool g.t.2.2, .int .i64 g.pd, .int .i64 g.x.1, .int .i64 g.x.2.1, .bool g.x.2.2.1, .int .i64 g.x.2.2.2, .bool g.hl, .slice q15A3 g.seen.length q15c3]] rfl (by kernel_rfl) (by kernel_rfl) (by kernel_rfl) rfl (by kernel_rfl) rfl (by kernel_rfl) (by kernel_rfl) (by kernel_rfl) ?_
                refine Sx.G.nil ?_
                refine Sx.E.next ?_
                refine Sx.C.ret ?_
                refine Sx.E.block_ret ?_
                refine Sx.E.then_ret ?_
                refine Sx.E.retc b2 5 [.slice q15A0 g.prog.length q15c0, .int .i64 g.a, .int .i64 (insAt g.prog g.pc).2, .slice q15A1 g.wr.length q15c1, .slice q15A2 g.lv.length q15c2, .int .i64 g.t.1, .int .i64 g.t.2.1, .bool g.t.2.2, .int .i64 g.pd, .int .i64 g.x.1, .int .i64 g.x.2.1, .bool g.x.2.2.1, .int .i64 g.x.2.2.2, .bool g.hl, .slice q15A3 g.seen.length q15c3] rfl (by kernel_rfl) rfl (by kernel_rfl) (by kernel_rfl) (fun w S => ?_)
                have HW : plainG g = { g with pc := (insAt g.prog g.pc).2 } := by simp [plainG, hb3, hb5, hb7, hb9, hb10, hb11, hb13]
                obtain ⟨ho, hF⟩ := rG_shut (g := { g with pc := (insAt g.prog g.pc).2 }) S 0 rfl 1 rfl 2 rfl 3 rfl (by decide) (by decide) (by decide) (by decide) (by decide) (by decide)
                rw [HW]; exact ⟨_, _, rfl, ho, hF, S.below⟩
          · have hb10 := hc10
            refine Sx.C.yes (by kernel_rfl) (by kernel_rfl) ?_
            refine Sx.C.region ?_
            refine Sx.G.pure (.pointer (some ⟨b1, 1, none⟩)) (by kernel_rfl) (fun w => by kernel_rfl) ?_
            refine Sx.G.ld1 3 (.tmp 40) b1 1 2 [.slice PA0 g.prog.length Pc0, .int .i64 g.a, .int .i64 g.pc, .slice PA1 g.wr.length Pc1, .slice PA2 g.lv.length Pc2, .int .i64 g.t.1, .int .i64 g.t.2.1, .bool g.t.2.2, .int .i64 g.pd, .int .i64 g.x.1, .int .i64 g.x.2.1, .bool g.x.2.2.1, .int .i64 g.x.2.2.2, .bool g.hl, .slice PA3 g.seen.length Pc3] (.int .i64 g.a) rfl (by kernel_rfl) (by kernel_rfl) rfl (by kernel_rfl) (by kernel_rfl) ?_
            refine Sx.G.pure (.pointer (some ⟨b4, 1, none⟩)) (by kernel_rfl) (fun w => by kernel_rfl) ?_
            refine Sx.G.ld1 3 (.tmp 42) b4 1 0 [.int .i64 (insAt g.prog g.pc).1, .int .i64 (insAt g.prog g.pc).2] (.int .i64 (insAt g.prog g.pc).2) rfl (by kernel_rfl) (by kernel_rfl) rfl (by kernel_rfl) (by kernel_rfl) ?_
            refine Sx.G.pure (.int .i64 (IntKind.i64.wrap (g.a + (insAt g.prog g.pc).2))) (by kernel_rfl) (fun w => by kernel_rfl) ?_
            refine Sx.G.pure (.int .i64 ((IntKind.i64.wrap (g.a + (insAt g.prog g.pc).2)).tmod 100)) (by kernel_rfl) (fun w => by kernel_rfl) ?_
            refine Sx.G.pure (.pointer (some ⟨b1, 1, none⟩)) (by kernel_rfl) (fun w => by kernel_rfl) ?_
            refine Sx.G.sto 3 (.tmp 46) (.tmp 45) b1 1 2 [.slice PA0 g.prog.length Pc0, .int .i64 g.a, .int .i64 g.pc, .slice PA1 g.wr.length Pc1, .slice PA2 g.lv.length Pc2, .int .i64 g.t.1, .int .i64 g.t.2.1, .bool g.t.2.2, .int .i64 g.pd, .int .i64 g.x.1, .int .i64 g.x.2.1, .bool g.x.2.2.1, .int .i64 g.x.2.2.2, .bool g.hl, .slice PA3 g.seen.length Pc3] [.int .i64 ((IntKind.i64.wrap (g.a + (insAt g.prog g.pc).2)).tmod 100)] [.slice PA0 g.prog.length Pc0, .int .i64 ((IntKind.i64.wrap (g.a + (insAt g.prog g.pc).2)).tmod 100), .int .i64 g.pc, .slice PA1 g.wr.length Pc1, .slice PA2 g.lv.length Pc2, .int .i64 g.t.1, .int .i64 g.t.2.1, .bool g.t.2.2, .int .i64 g.pd, .int .i64 g.x.1, .int .i64 g.x.2.1, .bool g.x.2.2.1, .int .i64 g.x.2.2.2, .bool g.hl, .slice PA3 g.seen.length Pc3] [vr b4 [.int .i64 (insAt g.prog g.pc).1, .int .i64 (insAt g.prog g.pc).2], vr b2 [.slice none 0 0, .int .i64 0, .int .i64 0, .slice none 0 0, .slice none 0 0, .int .i64 0, .int .i64 0, .bool false, .int .i64 0, .int .i64 0, .int .i64 0, .bool false, .int .i64 0, .bool false, .slice none 0 0], vr b1 [.slice PA0 g.prog.length Pc0, .int .i64 ((IntKind.i64.wrap (g.a + (insAt g.prog g.pc).2)).tmod 100), .int .i64 g.pc, .slice PA1 g.wr.length Pc1, .slice PA2 g.lv.length Pc2, .int .i64 g.t.1, .int .i64 g.t.2.1, .bool g.t.2.2, .int .i64 g.pd, .int .i64 g.x.1, .int .i64 g.x.2.1, .bool g.x.2.2.1, .int .i64 g.x.2.2.2, .bool g.hl, .slice PA3 g.seen.length Pc3]] rfl (by kernel_rfl) (by kernel_rfl) (by kernel_rfl) rfl (by kernel_rfl) rfl (by kernel_rfl) (by kernel_rfl) (by kernel_rfl) ?_
            refine Sx.G.nil ?_
            refine Sx.E.block_normal ?_
            refine Sx.E.next ?_
            refine Sx.C.seq ?_
            refine Sx.C.region ?_
            refine Sx.G.ld 32 (.tmp 1) b1 0 2 [.slice PA0 g.prog.length Pc0, .int .i64 ((IntKind.i64.wrap (g.a + (insAt g.prog g.pc).2)).tmod 100), .int .i64 g.pc, .slice PA1 g.wr.length Pc1, .slice PA2 g.lv.length Pc2, .int .i64 g.t.1, .int .i64 g.t.2.1, .bool g.t.2.2, .int .i64 g.pd, .int .i64 g.x.1, .int .i64 g.x.2.1, .bool g.x.2.2.1, .int .i64 g.x.2.2.2, .bool g.hl, .slice PA3 g.seen.length Pc3] [.slice PA0 g.prog.length Pc0, .int .i64 ((IntKind.i64.wrap (g.a + (insAt g.prog g.pc).2)).tmod 100), .int .i64 g.pc, .slice PA1 g.wr.length Pc1, .slice PA2 g.lv.length Pc2, .int .i64 g.t.1, .int .i64 g.t.2.1, .bool g.t.2.2, .int .i64 g.pd, .int .i64 g.x.1, .int .i64 g.x.2.1, .bool g.x.2.2.1, .int .i64 g.x.2.2.2, .bool g.hl, .slice PA3 g.seen.length Pc3] rfl (by kernel_rfl) (by kernel_rfl) rfl (by kernel_rfl) (by kernel_rfl) (by kernel_rfl) ?_
            refine Sx.G.call 22 #[.agg #[.slice PA0 g.prog.length Pc0, .int .i64 ((IntKind.i64.wrap (g.a + (insAt g.prog g.pc).2)).tmod 100), .int .i64 g.pc, .slice PA1 g.wr.length Pc1, .slice PA2 g.lv.length Pc2, .int .i64 g.t.1, .int .i64 g.t.2.1, .bool g.t.2.2, .int .i64 g.pd, .int .i64 g.x.1, .int .i64 g.x.2.1, .bool g.x.2.2.1, .int .i64 g.x.2.2.2, .bool g.hl, .slice PA3 g.seen.length Pc3]] (by kernel_rfl) (fun w => by kernel_rfl) (fun w16 S => (specx_moved ({ g with a := ((IntKind.i64.wrap (g.a + (insAt g.prog g.pc).2)).tmod 100) }) _ _ (by exact hc) (rG_rd_mk (g := { g with a := ((IntKind.i64.wrap (g.a + (insAt g.prog g.pc).2)).tmod 100) }) (St.old S h0) (St.old S h1) (St.old S h2) (St.old S h3))).mono fun e w16' hp => ?_)
            obtain ⟨cs, F, rfl, ho, hF, hb⟩ := hp
            obtain ⟨q16_0, q16_1, q16_2, q16_3, G16_0, G16_1, G16_2, G16_3, rfl, S'⟩ := rG_open (S.got hb ho hF)
            obtain ⟨q16A0, q16c0, e0, -⟩ := lst_val (S'.reads 0 rfl)
            subst e0
            obtain ⟨q16A1, q16c1, e1, -⟩ := lst_val (S'.reads 1 rfl)
            subst e1
            obtain ⟨q16A2, q16c2, e2, -⟩ := lst_val (S'.reads 2 rfl)
            subst e2
            obtain ⟨q16A3, q16c3, e3, -⟩ := lst_val (S'.reads 3 rfl)
            subst e3
            refine ⟨_, _, rfl, S', ?_⟩
            clear S S' ho hF hb
            refine Sx.G.sto 32 (.tmp 2) (.tmp 66) b2 0 5 [.slice none 0 0, .int .i64 0, .int .i64 0, .slice none 0 0, .slice none 0 0, .int .i64 0, .int .i64 0, .bool false, .int .i64 0, .int .i64 0, .int .i64 0, .bool false, .int .i64 0, .bool false, .slice none 0 0] [.slice q16A0 (movedG ({ g with a := ((IntKind.i64.wrap (g.a + (insAt g.prog g.pc).2)).tmod 100) })).prog.length q16c0, .int .i64 (movedG ({ g with a := ((IntKind.i64.wrap (g.a + (insAt g.prog g.pc).2)).tmod 100) })).a, .int .i64 (movedG ({ g with a := ((IntKind.i64.wrap (g.a + (insAt g.prog g.pc).2)).tmod 100) })).pc, .slice q16A1 (movedG ({ g with a := ((IntKind.i64.wrap (g.a + (insAt g.prog g.pc).2)).tmod 100) })).wr.length q16c1, .slice q16A2 (movedG ({ g with a := ((IntKind.i64.wrap (g.a + (insAt g.prog g.pc).2)).tmod 100) })).lv.length q16c2, .int .i64 (movedG ({ g with a := ((IntKind.i64.wrap (g.a + (insAt g.prog g.pc).2)).tmod 100) })).t.1, .int .i64 (movedG ({ g with a := ((IntKind.i64.wrap (g.a + (insAt g.prog g.pc).2)).tmod 100) })).t.2.1, .bool (movedG ({ g with a := ((IntKind.i64.wrap (g.a + (insAt g.prog g.pc).2)).tmod 100) })).t.2.2, .int .i64 (movedG ({ g with a := ((IntKind.i64.wrap (g.a + (insAt g.prog g.pc).2)).tmod 100) })).pd, .int .i64 (movedG ({ g with a := ((IntKind.i64.wrap (g.a + (insAt g.prog g.pc).2)).tmod 100) })).x.1, .int .i64 (movedG ({ g with a := ((IntKind.i64.wrap (g.a + (insAt g.prog g.pc).2)).tmod 100) })).x.2.1, .bool (movedG ({ g with a := ((IntKind.i64.wrap (g.a + (insAt g.prog g.pc).2)).tmod 100) })).x.2.2.1, .int .i64 (movedG ({ g with a := ((IntKind.i64.wrap (g.a + (insAt g.prog g.pc).2)).tmod 100) })).x.2.2.2, .bool (movedG ({ g with a := ((IntKind.i64.wrap (g.a + (insAt g.prog g.pc).2)).tmod 100) })).hl, .slice q16A3 (movedG ({ g with a := ((IntKind.i64.wrap (g.a + (insAt g.prog g.pc).2)).tmod 100) })).seen.length q16c3] [.slice q16A0 (movedG ({ g with a := ((IntKind.i64.wrap (g.a + (insAt g.prog g.pc).2)).tmod 100) })).prog.length q16c0, .int .i64 (movedG ({ g with a := ((IntKind.i64.wrap (g.a + (insAt g.prog g.pc).2)).tmod 100) })).a, .int .i64 (movedG ({ g with a := ((IntKind.i64.wrap (g.a + (insAt g.prog g.pc).2)).tmod 100) })).pc, .slice q16A1 (movedG ({ g with a := ((IntKind.i64.wrap (g.a + (insAt g.prog g.pc).2)).tmod 100) })).wr.length q16c1, .slice q16A2 (movedG ({ g with a := ((IntKind.i64.wrap (g.a + (insAt g.prog g.pc).2)).tmod 100) })).lv.length q16c2, .int .i64 (movedG ({ g with a := ((IntKind.i64.wrap (g.a + (insAt g.prog g.pc).2)).tmod 100) })).t.1, .int .i64 (movedG ({ g with a := ((IntKind.i64.wrap (g.a + (insAt g.prog g.pc).2)).tmod 100) })).t.2.1, .bool (movedG ({ g with a := ((IntKind.i64.wrap (g.a + (insAt g.prog g.pc).2)).tmod 100) })).t.2.2, .int .i64 (movedG ({ g with a := ((IntKind.i64.wrap (g.a + (insAt g.prog g.pc).2)).tmod 100) })).pd, .int .i64 (movedG ({ g with a := ((IntKind.i64.wrap (g.a + (insAt g.prog g.pc).2)).tmod 100) })).x.1, .int .i64 (movedG ({ g with a := ((IntKind.i64.wrap (g.a + (insAt g.prog g.pc).2)).tmod 100) })).x.2.1, .bool (movedG ({ g with a := ((IntKind.i64.wrap (g.a + (insAt g.prog g.pc).2)).tmod 100) })).x.2.2.1, .int .i64 (movedG ({ g with a := ((IntKind.i64.wrap (g.a + (insAt g.prog g.pc).2)).tmod 100) })).x.2.2.2, .bool (movedG ({ g with a := ((IntKind.i64.wrap (g.a + (insAt g.prog g.pc).2)).tmod 100) })).hl, .slice q16A3 (movedG ({ g with a := ((IntKind.i64.wrap (g.a + (insAt g.prog g.pc).2)).tmod 100) })).seen.length q16c3] [ow (rLst 42 (rPair rInt rInt)) w16.heap.size (w16'.heap.size) ((movedG ({ g with a := ((IntKind.i64.wrap (g.a + (insAt g.prog g.pc).2)).tmod 100) })).prog) [.slice q16A0 (movedG ({ g with a := ((IntKind.i64.wrap (g.a + (insAt g.prog g.pc).2)).tmod 100) })).prog.length q16c0] G16_0, ow (rLsw (rPair rInt rInt)) w16.heap.size w16'.heap.size (movedG ({ g with a := ((IntKind.i64.wrap (g.a + (insAt g.prog g.pc).2)).tmod 100) })).wr [.slice q16A1 (movedG ({ g with a := ((IntKind.i64.wrap (g.a + (insAt g.prog g.pc).2)).tmod 100) })).wr.length q16c1] G16_1, ow (rLsw (rPair rInt rInt)) w16.heap.size w16'.heap.size (movedG ({ g with a := ((IntKind.i64.wrap (g.a + (insAt g.prog g.pc).2)).tmod 100) })).lv [.slice q16A2 (movedG ({ g with a := ((IntKind.i64.wrap (g.a + (insAt g.prog g.pc).2)).tmod 100) })).lv.length q16c2] G16_2, ow (rLst 3 rInt) w16.heap.size (w16'.heap.size) ((movedG ({ g with a := ((IntKind.i64.wrap (g.a + (insAt g.prog g.pc).2)).tmod 100) })).seen) [.slice q16A3 (movedG ({ g with a := ((IntKind.i64.wrap (g.a + (insAt g.prog g.pc).2)).tmod 100) })).seen.length q16c3] G16_3, vr b4 [.int .i64 (insAt g.prog g.pc).1, .int .i64 (insAt g.prog g.pc).2], vr b2 [.slice q16A0 (movedG ({ g with a := ((IntKind.i64.wrap (g.a + (insAt g.prog g.pc).2)).tmod 100) })).prog.length q16c0, .int .i64 (movedG ({ g with a := ((IntKind.i64.wrap (g.a + (insAt g.prog g.pc).2)).tmod 100) })).a, .int .i64 (movedG ({ g with a := ((IntKind.i64.wrap (g.a + (insAt g.prog g.pc).2)).tmod 100) })).pc, .slice q16A1 (movedG ({ g with a := ((IntKind.i64.wrap (g.a + (insAt g.prog g.pc).2)).tmod 100) })).wr.length q16c1, .slice q16A2 (movedG ({ g with a := ((IntKind.i64.wrap (g.a + (insAt g.prog g.pc).2)).tmod 100) })).lv.length q16c2, .int .i64 (movedG ({ g with a := ((IntKind.i64.wrap (g.a + (insAt g.prog g.pc).2)).tmod 100) })).t.1, .int .i64 (movedG ({ g with a := ((IntKind.i64.wrap (g.a + (insAt g.prog g.pc).2)).tmod 100) })).t.2.1, .bool (movedG ({ g with a := ((IntKind.i64.wrap (g.a + (insAt g.prog g.pc).2)).tmod 100) })).t.2.2, .int .i64 (movedG ({ g with a := ((IntKind.i64.wrap (g.a + (insAt g.prog g.pc).2)).tmod 100) })).pd, .int .i64 (movedG ({ g with a := ((IntKind.i64.wrap (g.a + (insAt g.prog g.pc).2)).tmod 100) })).x.1, .int .i64 (movedG ({ g with a := ((IntKind.i64.wrap (g.a + (insAt g.prog g.pc).2)).tmod 100) })).x.2.1, .bool (movedG ({ g with a := ((IntKind.i64.wrap (g.a + (insAt g.prog g.pc).2)).tmod 100) })).x.2.2.1, .int .i64 (movedG ({ g with a := ((IntKind.i64.wrap (g.a + (insAt g.prog g.pc).2)).tmod 100) })).x.2.2.2, .bool (movedG ({ g with a := ((IntKind.i64.wrap (g.a + (insAt g.prog g.pc).2)).tmod 100) })).hl, .slice q16A3 (movedG ({ g with a := ((IntKind.i64.wrap (g.a + (insAt g.prog g.pc).2)).tmod 100) })).seen.length q16c3], vr b1 [.slice PA0 g.prog.length Pc0, .int .i64 ((IntKind.i64.wrap (g.a + (insAt g.prog g.pc).2)).tmod 100), .int .i64 g.pc, .slice PA1 g.wr.length Pc1, .slice PA2 g.lv.length Pc2, .int .i64 g.t.1, .int .i64 g.t.2.1, .bool g.t.2.2, .int .i64 g.pd, .int .i64 g.x.1, .int .i64 g.x.2.1, .bool g.x.2.2.1, .int .i64 g.x.2.2.2, .bool g.hl, .slice PA3 g.seen.length Pc3]] rfl (by kernel_rfl) (by kernel_rfl) (by kernel_rfl) rfl (by kernel_rfl) rfl (by kernel_rfl) (by kernel_rfl) (by kernel_rfl) ?_
            refine Sx.G.nil ?_
            refine Sx.E.next ?_
            refine Sx.C.ret ?_
            refine Sx.E.retc b2 5 [.slice q16A0 (movedG ({ g with a := ((IntKind.i64.wrap (g.a + (insAt g.prog g.pc).2)).tmod 100) })).prog.length q16c0, .int .i64 (movedG ({ g with a := ((IntKind.i64.wrap (g.a + (insAt g.prog g.pc).2)).tmod 100) })).a, .int .i64 (movedG ({ g with a := ((IntKind.i64.wrap (g.a + (insAt g.prog g.pc).2)).tmod 100) })).pc, .slice q16A1 (movedG ({ g with a := ((IntKind.i64.wrap (g.a + (insAt g.prog g.pc).2)).tmod 100) })).wr.length q16c1, .slice q16A2 (movedG ({ g with a := ((IntKind.i64.wrap (g.a + (insAt g.prog g.pc).2)).tmod 100) })).lv.length q16c2, .int .i64 (movedG ({ g with a := ((IntKind.i64.wrap (g.a + (insAt g.prog g.pc).2)).tmod 100) })).t.1, .int .i64 (movedG ({ g with a := ((IntKind.i64.wrap (g.a + (insAt g.prog g.pc).2)).tmod 100) })).t.2.1, .bool (movedG ({ g with a := ((IntKind.i64.wrap (g.a + (insAt g.prog g.pc).2)).tmod 100) })).t.2.2, .int .i64 (movedG ({ g with a := ((IntKind.i64.wrap (g.a + (insAt g.prog g.pc).2)).tmod 100) })).pd, .int .i64 (movedG ({ g with a := ((IntKind.i64.wrap (g.a + (insAt g.prog g.pc).2)).tmod 100) })).x.1, .int .i64 (movedG ({ g with a := ((IntKind.i64.wrap (g.a + (insAt g.prog g.pc).2)).tmod 100) })).x.2.1, .bool (movedG ({ g with a := ((IntKind.i64.wrap (g.a + (insAt g.prog g.pc).2)).tmod 100) })).x.2.2.1, .int .i64 (movedG ({ g with a := ((IntKind.i64.wrap (g.a + (insAt g.prog g.pc).2)).tmod 100) })).x.2.2.2, .bool (movedG ({ g with a := ((IntKind.i64.wrap (g.a + (insAt g.prog g.pc).2)).tmod 100) })).hl, .slice q16A3 (movedG ({ g with a := ((IntKind.i64.wrap (g.a + (insAt g.prog g.pc).2)).tmod 100) })).seen.length q16c3] rfl (by kernel_rfl) rfl (by kernel_rfl) (by kernel_rfl) (fun w S => ?_)
            have HW : plainG g = movedG ({ g with a := ((IntKind.i64.wrap (g.a + (insAt g.prog g.pc).2)).tmod 100) }) := by simp [plainG, hb3, hb5, hb7, hb9, hb10]
            obtain ⟨ho, hF⟩ := rG_shut (g := movedG ({ g with a := ((IntKind.i64.wrap (g.a + (insAt g.prog g.pc).2)).tmod 100) })) S 0 rfl 1 rfl 2 rfl 3 rfl (by decide) (by decide) (by decide) (by decide) (by decide) (by decide)
            rw [HW]; exact ⟨_, _, rfl, ho, hF, S.below⟩
        · have hb9 := hc9
          refine Sx.C.yes (by kernel_rfl) (by kernel_rfl) ?_
          refine Sx.C.region ?_
          refine Sx.G.pure (.pointer (some ⟨b4, 1, none⟩)) (by kernel_rfl) (fun w => by kernel_rfl) ?_
          refine Sx.G.ld1 3 (.tmp 30) b4 1 0 [.int .i64 (insAt g.prog g.pc).1, .int .i64 (insAt g.prog g.pc).2] (.int .i64 (insAt g.prog g.pc).2) rfl (by kernel_rfl) (by kernel_rfl) rfl (by kernel_rfl) (by kernel_rfl) ?_
          refine Sx.G.pure (.pointer (some ⟨b1, 1, none⟩)) (by kernel_rfl) (fun w => by kernel_rfl) ?_
          refine Sx.G.sto 3 (.tmp 32) (.tmp 31) b1 1 2 [.slice PA0 g.prog.length Pc0, .int .i64 g.a, .int .i64 g.pc, .slice PA1 g.wr.length Pc1, .slice PA2 g.lv.length Pc2, .int .i64 g.t.1, .int .i64 g.t.2.1, .bool g.t.2.2, .int .i64 g.pd, .int .i64 g.x.1, .int .i64 g.x.2.1, .bool g.x.2.2.1, .int .i64 g.x.2.2.2, .bool g.hl, .slice PA3 g.seen.length Pc3] [.int .i64 (insAt g.prog g.pc).2] [.slice PA0 g.prog.length Pc0, .int .i64 (insAt g.prog g.pc).2, .int .i64 g.pc, .slice PA1 g.wr.length Pc1, .slice PA2 g.lv.length Pc2, .int .i64 g.t.1, .int .i64 g.t.2.1, .bool g.t.2.2, .int .i64 g.pd, .int .i64 g.x.1, .int .i64 g.x.2.1, .bool g.x.2.2.1, .int .i64 g.x.2.2.2, .bool g.hl, .slice PA3 g.seen.length Pc3] [vr b4 [.int .i64 (insAt g.prog g.pc).1, .int .i64 (insAt g.prog g.pc).2], vr b2 [.slice none 0 0, .int .i64 0, .int .i64 0, .slice none 0 0, .slice none 0 0, .int .i64 0, .int .i64 0, .bool false, .int .i64 0, .int .i64 0, .int .i64 0, .bool false, .int .i64 0, .bool false, .slice none 0 0], vr b1 [.slice PA0 g.prog.length Pc0, .int .i64 (insAt g.prog g.pc).2, .int .i64 g.pc, .slice PA1 g.wr.length Pc1, .slice PA2 g.lv.length Pc2, .int .i64 g.t.1, .int .i64 g.t.2.1, .bool g.t.2.2, .int .i64 g.pd, .int .i64 g.x.1, .int .i64 g.x.2.1, .bool g.x.2.2.1, .int .i64 g.x.2.2.2, .bool g.hl, .slice PA3 g.seen.length Pc3]] rfl (by kernel_rfl) (by kernel_rfl) (by kernel_rfl) rfl (by kernel_rfl) rfl (by kernel_rfl) (by kernel_rfl) (by kernel_rfl) ?_
          refine Sx.G.nil ?_
          refine Sx.E.block_normal ?_
          refine Sx.E.next ?_
          refine Sx.C.seq ?_
          refine Sx.C.region ?_
          refine Sx.G.ld 32 (.tmp 1) b1 0 2 [.slice PA0 g.prog.length Pc0, .int .i64 (insAt g.prog g.pc).2, .int .i64 g.pc, .slice PA1 g.wr.length Pc1, .slice PA2 g.lv.length Pc2, .int .i64 g.t.1, .int .i64 g.t.2.1, .bool g.t.2.2, .int .i64 g.pd, .int .i64 g.x.1, .int .i64 g.x.2.1, .bool g.x.2.2.1, .int .i64 g.x.2.2.2, .bool g.hl, .slice PA3 g.seen.length Pc3] [.slice PA0 g.prog.length Pc0, .int .i64 (insAt g.prog g.pc).2, .int .i64 g.pc, .slice PA1 g.wr.length Pc1, .slice PA2 g.lv.length Pc2, .int .i64 g.t.1, .int .i64 g.t.2.1, .bool g.t.2.2, .int .i64 g.pd, .int .i64 g.x.1, .int .i64 g.x.2.1, .bool g.x.2.2.1, .int .i64 g.x.2.2.2, .bool g.hl, .slice PA3 g.seen.length Pc3] rfl (by kernel_rfl) (by kernel_rfl) rfl (by kernel_rfl) (by kernel_rfl) (by kernel_rfl) ?_
          refine Sx.G.call 22 #[.agg #[.slice PA0 g.prog.length Pc0, .int .i64 (insAt g.prog g.pc).2, .int .i64 g.pc, .slice PA1 g.wr.length Pc1, .slice PA2 g.lv.length Pc2, .int .i64 g.t.1, .int .i64 g.t.2.1, .bool g.t.2.2, .int .i64 g.pd, .int .i64 g.x.1, .int .i64 g.x.2.1, .bool g.x.2.2.1, .int .i64 g.x.2.2.2, .bool g.hl, .slice PA3 g.seen.length Pc3]] (by kernel_rfl) (fun w => by kernel_rfl) (fun w17 S => (specx_moved ({ g with a := (insAt g.prog g.pc).2 }) _ _ (by exact hc) (rG_rd_mk (g := { g with a := (insAt g.prog g.pc).2 }) (St.old S h0) (St.old S h1) (St.old S h2) (St.old S h3))).mono fun e w17' hp => ?_)
          obtain ⟨cs, F, rfl, ho, hF, hb⟩ := hp
          obtain ⟨q17_0, q17_1, q17_2, q17_3, G17_0, G17_1, G17_2, G17_3, rfl, S'⟩ := rG_open (S.got hb ho hF)
          obtain ⟨q17A0, q17c0, e0, -⟩ := lst_val (S'.reads 0 rfl)
          subst e0
          obtain ⟨q17A1, q17c1, e1, -⟩ := lst_val (S'.reads 1 rfl)
          subst e1
          obtain ⟨q17A2, q17c2, e2, -⟩ := lst_val (S'.reads 2 rfl)
          subst e2
          obtain ⟨q17A3, q17c3, e3, -⟩ := lst_val (S'.reads 3 rfl)
          subst e3
          refine ⟨_, _, rfl, S', ?_⟩
          clear S S' ho hF hb
          refine Sx.G.sto 32 (.tmp 2) (.tmp 66) b2 0 5 [.slice none 0 0, .int .i64 0, .int .i64 0, .slice none 0 0, .slice none 0 0, .int .i64 0, .int .i64 0, .bool false, .int .i64 0, .int .i64 0, .int .i64 0, .bool false, .int .i64 0, .bool false, .slice none 0 0] [.slice q17A0 (movedG ({ g with a := (insAt g.prog g.pc).2 })).prog.length q17c0, .int .i64 (movedG ({ g with a := (insAt g.prog g.pc).2 })).a, .int .i64 (movedG ({ g with a := (insAt g.prog g.pc).2 })).pc, .slice q17A1 (movedG ({ g with a := (insAt g.prog g.pc).2 })).wr.length q17c1, .slice q17A2 (movedG ({ g with a := (insAt g.prog g.pc).2 })).lv.length q17c2, .int .i64 (movedG ({ g with a := (insAt g.prog g.pc).2 })).t.1, .int .i64 (movedG ({ g with a := (insAt g.prog g.pc).2 })).t.2.1, .bool (movedG ({ g with a := (insAt g.prog g.pc).2 })).t.2.2, .int .i64 (movedG ({ g with a := (insAt g.prog g.pc).2 })).pd, .int .i64 (movedG ({ g with a := (insAt g.prog g.pc).2 })).x.1, .int .i64 (movedG ({ g with a := (insAt g.prog g.pc).2 })).x.2.1, .bool (movedG ({ g with a := (insAt g.prog g.pc).2 })).x.2.2.1, .int .i64 (movedG ({ g with a := (insAt g.prog g.pc).2 })).x.2.2.2, .bool (movedG ({ g with a := (insAt g.prog g.pc).2 })).hl, .slice q17A3 (movedG ({ g with a := (insAt g.prog g.pc).2 })).seen.length q17c3] [.slice q17A0 (movedG ({ g with a := (insAt g.prog g.pc).2 })).prog.length q17c0, .int .i64 (movedG ({ g with a := (insAt g.prog g.pc).2 })).a, .int .i64 (movedG ({ g with a := (insAt g.prog g.pc).2 })).pc, .slice q17A1 (movedG ({ g with a := (insAt g.prog g.pc).2 })).wr.length q17c1, .slice q17A2 (movedG ({ g with a := (insAt g.prog g.pc).2 })).lv.length q17c2, .int .i64 (movedG ({ g with a := (insAt g.prog g.pc).2 })).t.1, .int .i64 (movedG ({ g with a := (insAt g.prog g.pc).2 })).t.2.1, .bool (movedG ({ g with a := (insAt g.prog g.pc).2 })).t.2.2, .int .i64 (movedG ({ g with a := (insAt g.prog g.pc).2 })).pd, .int .i64 (movedG ({ g with a := (insAt g.prog g.pc).2 })).x.1, .int .i64 (movedG ({ g with a := (insAt g.prog g.pc).2 })).x.2.1, .bool (movedG ({ g with a := (insAt g.prog g.pc).2 })).x.2.2.1, .int .i64 (movedG ({ g with a := (insAt g.prog g.pc).2 })).x.2.2.2, .bool (movedG ({ g with a := (insAt g.prog g.pc).2 })).hl, .slice q17A3 (movedG ({ g with a := (insAt g.prog g.pc).2 })).seen.length q17c3] [ow (rLst 42 (rPair rInt rInt)) w17.heap.size (w17'.heap.size) ((movedG ({ g with a := (insAt g.prog g.pc).2 })).prog) [.slice q17A0 (movedG ({ g with a := (insAt g.prog g.pc).2 })).prog.length q17c0] G17_0, ow (rLsw (rPair rInt rInt)) w17.heap.size w17'.heap.size (movedG ({ g with a := (insAt g.prog g.pc).2 })).wr [.slice q17A1 (movedG ({ g with a := (insAt g.prog g.pc).2 })).wr.length q17c1] G17_1, ow (rLsw (rPair rInt rInt)) w17.heap.size w17'.heap.size (movedG ({ g with a := (insAt g.prog g.pc).2 })).lv [.slice q17A2 (movedG ({ g with a := (insAt g.prog g.pc).2 })).lv.length q17c2] G17_2, ow (rLst 3 rInt) w17.heap.size (w17'.heap.size) ((movedG ({ g with a := (insAt g.prog g.pc).2 })).seen) [.slice q17A3 (movedG ({ g with a := (insAt g.prog g.pc).2 })).seen.length q17c3] G17_3, vr b4 [.int .i64 (insAt g.prog g.pc).1, .int .i64 (insAt g.prog g.pc).2], vr b2 [.slice q17A0 (movedG ({ g with a := (insAt g.prog g.pc).2 })).prog.length q17c0, .int .i64 (movedG ({ g with a := (insAt g.prog g.pc).2 })).a, .int .i64 (movedG ({ g with a := (insAt g.prog g.pc).2 })).pc, .slice q17A1 (movedG ({ g with a := (insAt g.prog g.pc).2 })).wr.length q17c1, .slice q17A2 (movedG ({ g with a := (insAt g.prog g.pc).2 })).lv.length q17c2, .int .i64 (movedG ({ g with a := (insAt g.prog g.pc).2 })).t.1, .int .i64 (movedG ({ g with a := (insAt g.prog g.pc).2 })).t.2.1, .bool (movedG ({ g with a := (insAt g.prog g.pc).2 })).t.2.2, .int .i64 (movedG ({ g with a := (insAt g.prog g.pc).2 })).pd, .int .i64 (movedG ({ g with a := (insAt g.prog g.pc).2 })).x.1, .int .i64 (movedG ({ g with a := (insAt g.prog g.pc).2 })).x.2.1, .bool (movedG ({ g with a := (insAt g.prog g.pc).2 })).x.2.2.1, .int .i64 (movedG ({ g with a := (insAt g.prog g.pc).2 })).x.2.2.2, .bool (movedG ({ g with a := (insAt g.prog g.pc).2 })).hl, .slice q17A3 (movedG ({ g with a := (insAt g.prog g.pc).2 })).seen.length q17c3], vr b1 [.slice PA0 g.prog.length Pc0, .int .i64 (insAt g.prog g.pc).2, .int .i64 g.pc, .slice PA1 g.wr.length Pc1, .slice PA2 g.lv.length Pc2, .int .i64 g.t.1, .int .i64 g.t.2.1, .bool g.t.2.2, .int .i64 g.pd, .int .i64 g.x.1, .int .i64 g.x.2.1, .bool g.x.2.2.1, .int .i64 g.x.2.2.2, .bool g.hl, .slice PA3 g.seen.length Pc3]] rfl (by kernel_rfl) (by kernel_rfl) (by kernel_rfl) rfl (by kernel_rfl) rfl (by kernel_rfl) (by kernel_rfl) (by kernel_rfl) ?_
          refine Sx.G.nil ?_
          refine Sx.E.next ?_
          refine Sx.C.ret ?_
          refine Sx.E.retc b2 5 [.slice q17A0 (movedG ({ g with a := (insAt g.prog g.pc).2 })).prog.length q17c0, .int .i64 (movedG ({ g with a := (insAt g.prog g.pc).2 })).a, .int .i64 (movedG ({ g with a := (insAt g.prog g.pc).2 })).pc, .slice q17A1 (movedG ({ g with a := (insAt g.prog g.pc).2 })).wr.length q17c1, .slice q17A2 (movedG ({ g with a := (insAt g.prog g.pc).2 })).lv.length q17c2, .int .i64 (movedG ({ g with a := (insAt g.prog g.pc).2 })).t.1, .int .i64 (movedG ({ g with a := (insAt g.prog g.pc).2 })).t.2.1, .bool (movedG ({ g with a := (insAt g.prog g.pc).2 })).t.2.2, .int .i64 (movedG ({ g with a := (insAt g.prog g.pc).2 })).pd, .int .i64 (movedG ({ g with a := (insAt g.prog g.pc).2 })).x.1, .int .i64 (movedG ({ g with a := (insAt g.prog g.pc).2 })).x.2.1, .bool (movedG ({ g with a := (insAt g.prog g.pc).2 })).x.2.2.1, .int .i64 (movedG ({ g with a := (insAt g.prog g.pc).2 })).x.2.2.2, .bool (movedG ({ g with a := (insAt g.prog g.pc).2 })).hl, .slice q17A3 (movedG ({ g with a := (insAt g.prog g.pc).2 })).seen.length q17c3] rfl (by kernel_rfl) rfl (by kernel_rfl) (by kernel_rfl) (fun w S => ?_)
          have HW : plainG g = movedG ({ g with a := (insAt g.prog g.pc).2 }) := by simp [plainG, hb3, hb5, hb7, hb9]
          obtain ⟨ho, hF⟩ := rG_shut (g := movedG ({ g with a := (insAt g.prog g.pc).2 })) S 0 rfl 1 rfl 2 rfl 3 rfl (by decide) (by decide) (by decide) (by decide) (by decide) (by decide)
          rw [HW]; exact ⟨_, _, rfl, ho, hF, S.below⟩
  · have hb3 := hc3
    refine Sx.C.yes (by kernel_rfl) (by kernel_rfl) ?_
    refine Sx.C.seq ?_
    refine Sx.C.region ?_
    refine Sx.G.ld 32 (.tmp 1) b1 0 1 [.slice PA0 g.prog.length Pc0, .int .i64 g.a, .int .i64 g.pc, .slice PA1 g.wr.length Pc1, .slice PA2 g.lv.length Pc2, .int .i64 g.t.1, .int .i64 g.t.2.1, .bool g.t.2.2, .int .i64 g.pd, .int .i64 g.x.1, .int .i64 g.x.2.1, .bool g.x.2.2.1, .int .i64 g.x.2.2.2, .bool g.hl, .slice PA3 g.seen.length Pc3] [.slice PA0 g.prog.length Pc0, .int .i64 g.a, .int .i64 g.pc, .slice PA1 g.wr.length Pc1, .slice PA2 g.lv.length Pc2, .int .i64 g.t.1, .int .i64 g.t.2.1, .bool g.t.2.2, .int .i64 g.pd, .int .i64 g.x.1, .int .i64 g.x.2.1, .bool g.x.2.2.1, .int .i64 g.x.2.2.2, .bool g.hl, .slice PA3 g.seen.length Pc3] rfl (by kernel_rfl) (by kernel_rfl) rfl (by kernel_rfl) (by kernel_rfl) (by kernel_rfl) ?_
    refine Sx.G.call 51 #[.agg #[.slice PA0 g.prog.length Pc0, .int .i64 g.a, .int .i64 g.pc, .slice PA1 g.wr.length Pc1, .slice PA2 g.lv.length Pc2, .int .i64 g.t.1, .int .i64 g.t.2.1, .bool g.t.2.2, .int .i64 g.pd, .int .i64 g.x.1, .int .i64 g.x.2.1, .bool g.x.2.2.1, .int .i64 g.x.2.2.2, .bool g.hl, .slice PA3 g.seen.length Pc3]] (by kernel_rfl) (fun w => by kernel_rfl) (fun w18 S => (specx_copy g _ _ (by exact hc) (St.old S hr)).mono fun e w18' hp => ?_)
    obtain ⟨cs, F, rfl, ho, hF, hb⟩ := hp
    obtain ⟨q18_0, q18_1, q18_2, q18_3, G18_0, G18_1, G18_2, G18_3, rfl, S'⟩ := rG_open (S.got hb ho hF)
    obtain ⟨q18A0, q18c0, e0, -⟩ := lst_val (S'.reads 0 rfl)
    subst e0
    obtain ⟨q18A1, q18c1, e1, -⟩ := lst_val (S'.reads 1 rfl)
    subst e1
    obtain ⟨q18A2, q18c2, e2, -⟩ := lst_val (S'.reads 2 rfl)
    subst e2
    obtain ⟨q18A3, q18c3, e3, -⟩ := lst_val (S'.reads 3 rfl)
    subst e3
    refine ⟨_, _, rfl, S', ?_⟩
    clear S S' ho hF hb
    refine Sx.G.sto 32 (.tmp 2) (.tmp 9) b2 0 4 [.slice none 0 0, .int .i64 0, .int .i64 0, .slice none 0 0, .slice none 0 0, .int .i64 0, .int .i64 0, .bool false, .int .i64 0, .int .i64 0, .int .i64 0, .bool false, .int .i64 0, .bool false, .slice none 0 0] [.slice q18A0 g.prog.length q18c0, .int .i64 g.a, .int .i64 g.pc, .slice q18A1 g.wr.length q18c1, .slice q18A2 g.lv.length q18c2, .int .i64 g.t.1, .int .i64 g.t.2.1, .bool g.t.2.2, .int .i64 g.pd, .int .i64 g.x.1, .int .i64 g.x.2.1, .bool g.x.2.2.1, .int .i64 g.x.2.2.2, .bool g.hl, .slice q18A3 g.seen.length q18c3] [.slice q18A0 g.prog.length q18c0, .int .i64 g.a, .int .i64 g.pc, .slice q18A1 g.wr.length q18c1, .slice q18A2 g.lv.length q18c2, .int .i64 g.t.1, .int .i64 g.t.2.1, .bool g.t.2.2, .int .i64 g.pd, .int .i64 g.x.1, .int .i64 g.x.2.1, .bool g.x.2.2.1, .int .i64 g.x.2.2.2, .bool g.hl, .slice q18A3 g.seen.length q18c3] [ow (rLst 42 (rPair rInt rInt)) w18.heap.size (w18'.heap.size) g.prog [.slice q18A0 g.prog.length q18c0] G18_0, ow (rLsw (rPair rInt rInt)) w18.heap.size w18'.heap.size g.wr [.slice q18A1 g.wr.length q18c1] G18_1, ow (rLsw (rPair rInt rInt)) w18.heap.size w18'.heap.size g.lv [.slice q18A2 g.lv.length q18c2] G18_2, ow (rLst 3 rInt) w18.heap.size (w18'.heap.size) g.seen [.slice q18A3 g.seen.length q18c3] G18_3, vr b2 [.slice q18A0 g.prog.length q18c0, .int .i64 g.a, .int .i64 g.pc, .slice q18A1 g.wr.length q18c1, .slice q18A2 g.lv.length q18c2, .int .i64 g.t.1, .int .i64 g.t.2.1, .bool g.t.2.2, .int .i64 g.pd, .int .i64 g.x.1, .int .i64 g.x.2.1, .bool g.x.2.2.1, .int .i64 g.x.2.2.2, .bool g.hl, .slice q18A3 g.seen.length q18c3], vr b1 [.slice PA0 g.prog.length Pc0, .int .i64 g.a, .int .i64 g.pc, .slice PA1 g.wr.length Pc1, .slice PA2 g.lv.length Pc2, .int .i64 g.t.1, .int .i64 g.t.2.1, .bool g.t.2.2, .int .i64 g.pd, .int .i64 g.x.1, .int .i64 g.x.2.1, .bool g.x.2.2.1, .int .i64 g.x.2.2.2, .bool g.hl, .slice PA3 g.seen.length Pc3]] rfl (by kernel_rfl) (by kernel_rfl) (by kernel_rfl) rfl (by kernel_rfl) rfl (by kernel_rfl) (by kernel_rfl) (by kernel_rfl) ?_
    refine Sx.G.nil ?_
    refine Sx.E.next ?_
    refine Sx.C.ret ?_
    refine Sx.E.then_ret ?_
    refine Sx.E.retc b2 4 [.slice q18A0 g.prog.length q18c0, .int .i64 g.a, .int .i64 g.pc, .slice q18A1 g.wr.length q18c1, .slice q18A2 g.lv.length q18c2, .int .i64 g.t.1, .int .i64 g.t.2.1, .bool g.t.2.2, .int .i64 g.pd, .int .i64 g.x.1, .int .i64 g.x.2.1, .bool g.x.2.2.1, .int .i64 g.x.2.2.2, .bool g.hl, .slice q18A3 g.seen.length q18c3] rfl (by kernel_rfl) rfl (by kernel_rfl) (by kernel_rfl) (fun w S => ?_)
    have HW : plainG g = g := by simp [plainG, hb3]
    obtain ⟨ho, hF⟩ := rG_shut (g := g) S 0 rfl 1 rfl 2 rfl 3 rfl (by decide) (by decide) (by decide) (by decide) (by decide) (by decide)
    rw [HW]; exact ⟨_, _, rfl, ho, hF, S.below⟩
set_option maxRecDepth 100000 in
set_option maxHeartbeats 4000000 in
theorem specx_loaded (g : gT) (cs : List Value) (v : Int) (w : World) (hc : rG.cap g) (h : rG.rd w 0 w.heap.size g cs) (hcs : rG.cap (sawG { g with a := v } v)) : Calls Try.prog 20 #[.agg cs.toArray, .int .i64 v] w (Gives rG w (loadedG g v)) := by
  obtain ⟨q0, q1, q2, q3⟩ := rG_len hc
  have hr := h
  obtain ⟨P0, P1, P2, P3, rfl, h0, h1, h2, h3⟩ := rG_rd h
  obtain ⟨PA0, Pc0, e0, hP0⟩ := lst_val h0
  subst e0
  obtain ⟨PA1, Pc1, e1, hP1⟩ := lst_val h1
  subst e1
  obtain ⟨PA2, Pc2, e2, hP2⟩ := lst_val h2
  subst e2
  obtain ⟨PA3, Pc3, e3, hP3⟩ := lst_val h3
  subst e3
  refine Sx.enter (args := [.agg #[.slice PA0 g.prog.length Pc0, .int .i64 g.a, .int .i64 g.pc, .slice PA1 g.wr.length Pc1, .slice PA2 g.lv.length Pc2, .int .i64 g.t.1, .int .i64 g.t.2.1, .bool g.t.2.2, .int .i64 g.pd, .int .i64 g.x.1, .int .i64 g.x.2.1, .bool g.x.2.2.1, .int .i64 g.x.2.2.2, .bool g.hl, .slice PA3 g.seen.length Pc3], .int .i64 v]) Try.func20 rfl Try.ntmps20 rfl ?_
  refine Sx.C.seq ?_
  refine Sx.C.region ?_
  refine Sx.G.box 32 (.tmp 0) [.slice PA0 g.prog.length Pc0, .int .i64 g.a, .int .i64 g.pc, .slice PA1 g.wr.length Pc1, .slice PA2 g.lv.length Pc2, .int .i64 g.t.1, .int .i64 g.t.2.1, .bool g.t.2.2, .int .i64 g.pd, .int .i64 g.x.1, .int .i64 g.x.2.1, .bool g.x.2.2.1, .int .i64 g.x.2.2.2, .bool g.hl, .slice PA3 g.seen.length Pc3] rfl (by kernel_rfl) (by kernel_rfl) (fun b1 => ?_)
  refine Sx.G.alloc 32 (.agg #[.slice none 0 0, .int .i64 0, .int .i64 0, .slice none 0 0, .slice none 0 0, .int .i64 0, .int .i64 0, .bool false, .int .i64 0, .int .i64 0, .int .i64 0, .bool false, .int .i64 0, .bool false, .slice none 0 0]) [.slice none 0 0, .int .i64 0, .int .i64 0, .slice none 0 0, .slice none 0 0, .int .i64 0, .int .i64 0, .bool false, .int .i64 0, .int .i64 0, .int .i64 0, .bool false, .int .i64 0, .bool false, .slice none 0 0] rfl (by kernel_rfl) (fun w => by kernel_rfl) (by kernel_rfl) (fun b2 => ?_)
  refine Sx.G.nil ?_
  refine Sx.E.next ?_
  refine Sx.C.seq ?_
  refine Sx.C.region ?_
  refine Sx.G.pure (.int .i64 v) (by kernel_rfl) (fun w => by kernel_rfl) ?_
  refine Sx.G.pure (.pointer (some ⟨b1, 1, none⟩)) (by kernel_rfl) (fun w => by kernel_rfl) ?_
  refine Sx.G.sto 3 (.tmp 6) (.tmp 5) b1 1 1 [.slice PA0 g.prog.length Pc0, .int .i64 g.a, .int .i64 g.pc, .slice PA1 g.wr.length Pc1, .slice PA2 g.lv.length Pc2, .int .i64 g.t.1, .int .i64 g.t.2.1, .bool g.t.2.2, .int .i64 g.pd, .int .i64 g.x.1, .int .i64 g.x.2.1, .bool g.x.2.2.1, .int .i64 g.x.2.2.2, .bool g.hl, .slice PA3 g.seen.length Pc3] [.int .i64 v] [.slice PA0 g.prog.length Pc0, .int .i64 v, .int .i64 g.pc, .slice PA1 g.wr.length Pc1, .slice PA2 g.lv.length Pc2, .int .i64 g.t.1, .int .i64 g.t.2.1, .bool g.t.2.2, .int .i64 g.pd, .int .i64 g.x.1, .int .i64 g.x.2.1, .bool g.x.2.2.1, .int .i64 g.x.2.2.2, .bool g.hl, .slice PA3 g.seen.length Pc3] [vr b2 [.slice none 0 0, .int .i64 0, .int .i64 0, .slice none 0 0, .slice none 0 0, .int .i64 0, .int .i64 0, .bool false, .int .i64 0, .int .i64 0, .int .i64 0, .bool false, .int .i64 0, .bool false, .slice none 0 0], vr b1 [.slice PA0 g.prog.length Pc0, .int .i64 v, .int .i64 g.pc, .slice PA1 g.wr.length Pc1, .slice PA2 g.lv.length Pc2, .int .i64 g.t.1, .int .i64 g.t.2.1, .bool g.t.2.2, .int .i64 g.pd, .int .i64 g.x.1, .int .i64 g.x.2.1, .bool g.x.2.2.1, .int .i64 g.x.2.2.2, .bool g.hl, .slice PA3 g.seen.length Pc3]] rfl (by kernel_rfl) (by kernel_rfl) (by kernel_rfl) rfl (by kernel_rfl) rfl (by kernel_rfl) (by kernel_rfl) (by kernel_rfl) ?_
  refine Sx.G.nil ?_
  refine Sx.E.next ?_
  refine Sx.C.seq ?_
  refine Sx.C.region ?_
  refine Sx.G.ld 32 (.tmp 2) b1 0 1 [.slice PA0 g.prog.length Pc0, .int .i64 v, .int .i64 g.pc, .slice PA1 g.wr.length Pc1, .slice PA2 g.lv.length Pc2, .int .i64 g.t.1, .int .i64 g.t.2.1, .bool g.t.2.2, .int .i64 g.pd, .int .i64 g.x.1, .int .i64 g.x.2.1, .bool g.x.2.2.1, .int .i64 g.x.2.2.2, .bool g.hl, .slice PA3 g.seen.length Pc3] [.slice PA0 g.prog.length Pc0, .int .i64 v, .int .i64 g.pc, .slice PA1 g.wr.length Pc1, .slice PA2 g.lv.length Pc2, .int .i64 g.t.1, .int .i64 g.t.2.1, .bool g.t.2.2, .int .i64 g.pd, .int .i64 g.x.1, .int .i64 g.x.2.1, .bool g.x.2.2.1, .int .i64 g.x.2.2.2, .bool g.hl, .slice PA3 g.seen.length Pc3] rfl (by kernel_rfl) (by kernel_rfl) rfl (by kernel_rfl) (by kernel_rfl) (by kernel_rfl) ?_
  refine Sx.G.pure (.int .i64 v) (by kernel_rfl) (fun w => by kernel_rfl) ?_
  refine Sx.G.call 55 #[.agg #[.slice PA0 g.prog.length Pc0, .int .i64 v, .int .i64 g.pc, .slice PA1 g.wr.length Pc1, .slice PA2 g.lv.length Pc2, .int .i64 g.t.1, .int .i64 g.t.2.1, .bool g.t.2.2, .int .i64 g.pd, .int .i64 g.x.1, .int .i64 g.x.2.1, .bool g.x.2.2.1, .int .i64 g.x.2.2.2, .bool g.hl, .slice PA3 g.seen.length Pc3], .int .i64 v] (by kernel_rfl) (fun w => by kernel_rfl) (fun w3 S => (specx_saw ({ g with a := v }) _ v _ (by exact hc) (rG_rd_mk (g := { g with a := v }) (St.old S h0) (St.old S h1) (St.old S h2) (St.old S h3))).mono fun e w3' hp => ?_)
  obtain ⟨cs, F, rfl, ho, hF, hb⟩ := hp
  obtain ⟨q3_0, q3_1, q3_2, q3_3, G3_0, G3_1, G3_2, G3_3, rfl, S'⟩ := rG_open (S.got hb ho hF)
  obtain ⟨q3A0, q3c0, e0, -⟩ := lst_val (S'.reads 0 rfl)
  subst e0
  obtain ⟨q3A1, q3c1, e1, -⟩ := lst_val (S'.reads 1 rfl)
  subst e1
  obtain ⟨q3A2, q3c2, e2, -⟩ := lst_val (S'.reads 2 rfl)
  subst e2
  obtain ⟨q3A3, q3c3, e3, -⟩ := lst_val (S'.reads 3 rfl)
  subst e3
  refine ⟨_, _, rfl, S', ?_⟩
  clear S S' ho hF hb
  refine Sx.G.call 22 #[.agg #[.slice q3A0 (sawG ({ g with a := v }) v).prog.length q3c0, .int .i64 (sawG ({ g with a := v }) v).a, .int .i64 (sawG ({ g with a := v }) v).pc, .slice q3A1 (sawG ({ g with a := v }) v).wr.length q3c1, .slice q3A2 (sawG ({ g with a := v }) v).lv.length q3c2, .int .i64 (sawG ({ g with a := v }) v).t.1, .int .i64 (sawG ({ g with a := v }) v).t.2.1, .bool (sawG ({ g with a := v }) v).t.2.2, .int .i64 (sawG ({ g with a := v }) v).pd, .int .i64 (sawG ({ g with a := v }) v).x.1, .int .i64 (sawG ({ g with a := v }) v).x.2.1, .bool (sawG ({ g with a := v }) v).x.2.2.1, .int .i64 (sawG ({ g with a := v }) v).x.2.2.2, .bool (sawG ({ g with a := v }) v).hl, .slice q3A3 (sawG ({ g with a := v }) v).seen.length q3c3]] (by kernel_rfl) (fun w => by kernel_rfl) (fun w4 S => (specx_moved (sawG ({ g with a := v }) v) _ _ hcs (rG_rd_mk (g := sawG ({ g with a := v }) v) (St.reads S 0 rfl) (St.reads S 1 rfl) (St.reads S 2 rfl) (St.reads S 3 rfl))).mono fun e w4' hp => ?_)
  obtain ⟨cs, F, rfl, ho, hF, hb⟩ := hp
  obtain ⟨q4_0, q4_1, q4_2, q4_3, G4_0, G4_1, G4_2, G4_3, rfl, S'⟩ := rG_open (S.got hb ho hF)
  obtain ⟨q4A0, q4c0, e0, -⟩ := lst_val (S'.reads 0 rfl)
  subst e0
  obtain ⟨q4A1, q4c1, e1, -⟩ := lst_val (S'.reads 1 rfl)
  subst e1
  obtain ⟨q4A2, q4c2, e2, -⟩ := lst_val (S'.reads 2 rfl)
  subst e2
  obtain ⟨q4A3, q4c3, e3, -⟩ := lst_val (S'.reads 3 rfl)
  subst e3
  refine ⟨_, _, rfl, S', ?_⟩
  clear S S' ho hF hb
  refine Sx.G.sto 32 (.tmp 4) (.tmp 10) b2 0 8 [.slice none 0 0, .int .i64 0, .int .i64 0, .slice none 0 0, .slice none 0 0, .int .i64 0, .int .i64 0, .bool false, .int .i64 0, .int .i64 0, .int .i64 0, .bool false, .int .i64 0, .bool false, .slice none 0 0] [.slice q4A0 (movedG (sawG ({ g with a := v }) v)).prog.length q4c0, .int .i64 (movedG (sawG ({ g with a := v }) v)).a, .int .i64 (movedG (sawG ({ g with a := v }) v)).pc, .slice q4A1 (movedG (sawG ({ g with a := v }) v)).wr.length q4c1, .slice q4A2 (movedG (sawG ({ g with a := v }) v)).lv.length q4c2, .int .i64 (movedG (sawG ({ g with a := v }) v)).t.1, .int .i64 (movedG (sawG ({ g with a := v }) v)).t.2.1, .bool (movedG (sawG ({ g with a := v }) v)).t.2.2, .int .i64 (movedG (sawG ({ g with a := v }) v)).pd, .int .i64 (movedG (sawG ({ g with a := v }) v)).x.1, .int .i64 (movedG (sawG ({ g with a := v }) v)).x.2.1, .bool (movedG (sawG ({ g with a := v }) v)).x.2.2.1, .int .i64 (movedG (sawG ({ g with a := v }) v)).x.2.2.2, .bool (movedG (sawG ({ g with a := v }) v)).hl, .slice q4A3 (movedG (sawG ({ g with a := v }) v)).seen.length q4c3] [.slice q4A0 (movedG (sawG ({ g with a := v }) v)).prog.length q4c0, .int .i64 (movedG (sawG ({ g with a := v }) v)).a, .int .i64 (movedG (sawG ({ g with a := v }) v)).pc, .slice q4A1 (movedG (sawG ({ g with a := v }) v)).wr.length q4c1, .slice q4A2 (movedG (sawG ({ g with a := v }) v)).lv.length q4c2, .int .i64 (movedG (sawG ({ g with a := v }) v)).t.1, .int .i64 (movedG (sawG ({ g with a := v }) v)).t.2.1, .bool (movedG (sawG ({ g with a := v }) v)).t.2.2, .int .i64 (movedG (sawG ({ g with a := v }) v)).pd, .int .i64 (movedG (sawG ({ g with a := v }) v)).x.1, .int .i64 (movedG (sawG ({ g with a := v }) v)).x.2.1, .bool (movedG (sawG ({ g with a := v }) v)).x.2.2.1, .int .i64 (movedG (sawG ({ g with a := v }) v)).x.2.2.2, .bool (movedG (sawG ({ g with a := v }) v)).hl, .slice q4A3 (movedG (sawG ({ g with a := v }) v)).seen.length q4c3] [ow (rLst 42 (rPair rInt rInt)) w4.heap.size (w4'.heap.size) ((movedG (sawG ({ g with a := v }) v)).prog) [.slice q4A0 (movedG (sawG ({ g with a := v }) v)).prog.length q4c0] G4_0, ow (rLsw (rPair rInt rInt)) w4.heap.size w4'.heap.size (movedG (sawG ({ g with a := v }) v)).wr [.slice q4A1 (movedG (sawG ({ g with a := v }) v)).wr.length q4c1] G4_1, ow (rLsw (rPair rInt rInt)) w4.heap.size w4'.heap.size (movedG (sawG ({ g with a := v }) v)).lv [.slice q4A2 (movedG (sawG ({ g with a := v }) v)).lv.length q4c2] G4_2, ow (rLst 3 rInt) w4.heap.size (w4'.heap.size) ((movedG (sawG ({ g with a := v }) v)).seen) [.slice q4A3 (movedG (sawG ({ g with a := v }) v)).seen.length q4c3] G4_3, ow (rLst 42 (rPair rInt rInt)) w3.heap.size (w3'.heap.size) ((sawG ({ g with a := v }) v).prog) [.slice q3A0 (sawG ({ g with a := v }) v).prog.length q3c0] G3_0, ow (rLsw (rPair rInt rInt)) w3.heap.size w3'.heap.size (sawG ({ g with a := v }) v).wr [.slice q3A1 (sawG ({ g with a := v }) v).wr.length q3c1] G3_1, ow (rLsw (rPair rInt rInt)) w3.heap.size w3'.heap.size (sawG ({ g with a := v }) v).lv [.slice q3A2 (sawG ({ g with a := v }) v).lv.length q3c2] G3_2, ow (rLst 3 rInt) w3.heap.size (w3'.heap.size) ((sawG ({ g with a := v }) v).seen) [.slice q3A3 (sawG ({ g with a := v }) v).seen.length q3c3] G3_3, vr b2 [.slice q4A0 (movedG (sawG ({ g with a := v }) v)).prog.length q4c0, .int .i64 (movedG (sawG ({ g with a := v }) v)).a, .int .i64 (movedG (sawG ({ g with a := v }) v)).pc, .slice q4A1 (movedG (sawG ({ g with a := v }) v)).wr.length q4c1, .slice q4A2 (movedG (sawG ({ g with a := v }) v)).lv.length q4c2, .int .i64 (movedG (sawG ({ g with a := v }) v)).t.1, .int .i64 (movedG (sawG ({ g with a := v }) v)).t.2.1, .bool (movedG (sawG ({ g with a := v }) v)).t.2.2, .int .i64 (movedG (sawG ({ g with a := v }) v)).pd, .int .i64 (movedG (sawG ({ g with a := v }) v)).x.1, .int .i64 (movedG (sawG ({ g with a := v }) v)).x.2.1, .bool (movedG (sawG ({ g with a := v }) v)).x.2.2.1, .int .i64 (movedG (sawG ({ g with a := v }) v)).x.2.2.2, .bool (movedG (sawG ({ g with a := v }) v)).hl, .slice q4A3 (movedG (sawG ({ g with a := v }) v)).seen.length q4c3], vr b1 [.slice PA0 g.prog.length Pc0, .int .i64 v, .int .i64 g.pc, .slice PA1 g.wr.length Pc1, .slice PA2 g.lv.length Pc2, .int .i64 g.t.1, .int .i64 g.t.2.1, .bool g.t.2.2, .int .i64 g.pd, .int .i64 g.x.1, .int .i64 g.x.2.1, .bool g.x.2.2.1, .int .i64 g.x.2.2.2, .bool g.hl, .slice PA3 g.seen.length Pc3]] rfl (by kernel_rfl) (by kernel_rfl) (by kernel_rfl) rfl (by kernel_rfl) rfl (by kernel_rfl) (by kernel_rfl) (by kernel_rfl) ?_
  refine Sx.G.nil ?_
  refine Sx.E.next ?_
  refine Sx.C.ret ?_
  refine Sx.E.retc b2 8 [.slice q4A0 (movedG (sawG ({ g with a := v }) v)).prog.length q4c0, .int .i64 (movedG (sawG ({ g with a := v }) v)).a, .int .i64 (movedG (sawG ({ g with a := v }) v)).pc, .slice q4A1 (movedG (sawG ({ g with a := v }) v)).wr.length q4c1, .slice q4A2 (movedG (sawG ({ g with a := v }) v)).lv.length q4c2, .int .i64 (movedG (sawG ({ g with a := v }) v)).t.1, .int .i64 (movedG (sawG ({ g with a := v }) v)).t.2.1, .bool (movedG (sawG ({ g with a := v }) v)).t.2.2, .int .i64 (movedG (sawG ({ g with a := v }) v)).pd, .int .i64 (movedG (sawG ({ g with a := v }) v)).x.1, .int .i64 (movedG (sawG ({ g with a := v }) v)).x.2.1, .bool (movedG (sawG ({ g with a := v }) v)).x.2.2.1, .int .i64 (movedG (sawG ({ g with a := v }) v)).x.2.2.2, .bool (movedG (sawG ({ g with a := v }) v)).hl, .slice q4A3 (movedG (sawG ({ g with a := v }) v)).seen.length q4c3] rfl (by kernel_rfl) rfl (by kernel_rfl) (by kernel_rfl) (fun w S => ?_)
  obtain ⟨ho, hF⟩ := rG_shut (g := loadedG g v) S 0 rfl 1 rfl 2 rfl 3 rfl (by decide) (by decide) (by decide) (by decide) (by decide) (by decide)
  exact ⟨_, _, rfl, ho, hF, S.below⟩
set_option maxRecDepth 100000 in
set_option maxHeartbeats 4000000 in
theorem specx_stored (g : gT) (cs : List Value) (w : World) (hc : rG.cap g) (h : rG.rd w 0 w.heap.size g cs) : Calls Try.prog 24 #[.agg cs.toArray] w (Gives rG w (movedG g)) := by
  obtain ⟨q0, q1, q2, q3⟩ := rG_len hc
  have hr := h
  obtain ⟨P0, P1, P2, P3, rfl, h0, h1, h2, h3⟩ := rG_rd h
  obtain ⟨PA0, Pc0, e0, hP0⟩ := lst_val h0
  subst e0
  obtain ⟨PA1, Pc1, e1, hP1⟩ := lst_val h1
  subst e1
  obtain ⟨PA2, Pc2, e2, hP2⟩ := lst_val h2
  subst e2
  obtain ⟨PA3, Pc3, e3, hP3⟩ := lst_val h3
  subst e3
  refine Sx.enter (args := [.agg #[.slice PA0 g.prog.length Pc0, .int .i64 g.a, .int .i64 g.pc, .slice PA1 g.wr.length Pc1, .slice PA2 g.lv.length Pc2, .int .i64 g.t.1, .int .i64 g.t.2.1, .bool g.t.2.2, .int .i64 g.pd, .int .i64 g.x.1, .int .i64 g.x.2.1, .bool g.x.2.2.1, .int .i64 g.x.2.2.2, .bool g.hl, .slice PA3 g.seen.length Pc3]]) Try.func24 rfl Try.ntmps24 rfl ?_
  refine Sx.C.seq ?_
  refine Sx.C.region ?_
  refine Sx.G.box 32 (.tmp 0) [.slice PA0 g.prog.length Pc0, .int .i64 g.a, .int .i64 g.pc, .slice PA1 g.wr.length Pc1, .slice PA2 g.lv.length Pc2, .int .i64 g.t.1, .int .i64 g.t.2.1, .bool g.t.2.2, .int .i64 g.pd, .int .i64 g.x.1, .int .i64 g.x.2.1, .bool g.x.2.2.1, .int .i64 g.x.2.2.2, .bool g.hl, .slice PA3 g.seen.length Pc3] rfl (by kernel_rfl) (by kernel_rfl) (fun b1 => ?_)
  refine Sx.G.alloc 32 (.agg #[.slice none 0 0, .int .i64 0, .int .i64 0, .slice none 0 0, .slice none 0 0, .int .i64 0, .int .i64 0, .bool false, .int .i64 0, .int .i64 0, .int .i64 0, .bool false, .int .i64 0, .bool false, .slice none 0 0]) [.slice none 0 0, .int .i64 0, .int .i64 0, .slice none 0 0, .slice none 0 0, .int .i64 0, .int .i64 0, .bool false, .int .i64 0, .int .i64 0, .int .i64 0, .bool false, .int .i64 0, .bool false, .slice none 0 0] rfl (by kernel_rfl) (fun w => by kernel_rfl) (by kernel_rfl) (fun b2 => ?_)
  refine Sx.G.nil ?_
  refine Sx.E.next ?_
  refine Sx.C.seq ?_
  refine Sx.C.region ?_
  refine Sx.G.ld 32 (.tmp 1) b1 0 1 [.slice PA0 g.prog.length Pc0, .int .i64 g.a, .int .i64 g.pc, .slice PA1 g.wr.length Pc1, .slice PA2 g.lv.length Pc2, .int .i64 g.t.1, .int .i64 g.t.2.1, .bool g.t.2.2, .int .i64 g.pd, .int .i64 g.x.1, .int .i64 g.x.2.1, .bool g.x.2.2.1, .int .i64 g.x.2.2.2, .bool g.hl, .slice PA3 g.seen.length Pc3] [.slice PA0 g.prog.length Pc0, .int .i64 g.a, .int .i64 g.pc, .slice PA1 g.wr.length Pc1, .slice PA2 g.lv.length Pc2, .int .i64 g.t.1, .int .i64 g.t.2.1, .bool g.t.2.2, .int .i64 g.pd, .int .i64 g.x.1, .int .i64 g.x.2.1, .bool g.x.2.2.1, .int .i64 g.x.2.2.2, .bool g.hl, .slice PA3 g.seen.length Pc3] rfl (by kernel_rfl) (by kernel_rfl) rfl (by kernel_rfl) (by kernel_rfl) (by kernel_rfl) ?_
  refine Sx.G.call 22 #[.agg #[.slice PA0 g.prog.length Pc0, .int .i64 g.a, .int .i64 g.pc, .slice PA1 g.wr.length Pc1, .slice PA2 g.lv.length Pc2, .int .i64 g.t.1, .int .i64 g.t.2.1, .bool g.t.2.2, .int .i64 g.pd, .int .i64 g.x.1, .int .i64 g.x.2.1, .bool g.x.2.2.1, .int .i64 g.x.2.2.2, .bool g.hl, .slice PA3 g.seen.length Pc3]] (by kernel_rfl) (fun w => by kernel_rfl) (fun w3 S => (specx_moved g _ _ (by exact hc) (St.old S hr)).mono fun e w3' hp => ?_)
  obtain ⟨cs, F, rfl, ho, hF, hb⟩ := hp
  obtain ⟨q3_0, q3_1, q3_2, q3_3, G3_0, G3_1, G3_2, G3_3, rfl, S'⟩ := rG_open (S.got hb ho hF)
  obtain ⟨q3A0, q3c0, e0, -⟩ := lst_val (S'.reads 0 rfl)
  subst e0
  obtain ⟨q3A1, q3c1, e1, -⟩ := lst_val (S'.reads 1 rfl)
  subst e1
  obtain ⟨q3A2, q3c2, e2, -⟩ := lst_val (S'.reads 2 rfl)
  subst e2
  obtain ⟨q3A3, q3c3, e3, -⟩ := lst_val (S'.reads 3 rfl)
  subst e3
  refine ⟨_, _, rfl, S', ?_⟩
  clear S S' ho hF hb
  refine Sx.G.sto 32 (.tmp 2) (.tmp 4) b2 0 4 [.slice none 0 0, .int .i64 0, .int .i64 0, .slice none 0 0, .slice none 0 0, .int .i64 0, .int .i64 0, .bool false, .int .i64 0, .int .i64 0, .int .i64 0, .bool false, .int .i64 0, .bool false, .slice none 0 0] [.slice q3A0 (movedG g).prog.length q3c0, .int .i64 (movedG g).a, .int .i64 (movedG g).pc, .slice q3A1 (movedG g).wr.length q3c1, .slice q3A2 (movedG g).lv.length q3c2, .int .i64 (movedG g).t.1, .int .i64 (movedG g).t.2.1, .bool (movedG g).t.2.2, .int .i64 (movedG g).pd, .int .i64 (movedG g).x.1, .int .i64 (movedG g).x.2.1, .bool (movedG g).x.2.2.1, .int .i64 (movedG g).x.2.2.2, .bool (movedG g).hl, .slice q3A3 (movedG g).seen.length q3c3] [.slice q3A0 (movedG g).prog.length q3c0, .int .i64 (movedG g).a, .int .i64 (movedG g).pc, .slice q3A1 (movedG g).wr.length q3c1, .slice q3A2 (movedG g).lv.length q3c2, .int .i64 (movedG g).t.1, .int .i64 (movedG g).t.2.1, .bool (movedG g).t.2.2, .int .i64 (movedG g).pd, .int .i64 (movedG g).x.1, .int .i64 (movedG g).x.2.1, .bool (movedG g).x.2.2.1, .int .i64 (movedG g).x.2.2.2, .bool (movedG g).hl, .slice q3A3 (movedG g).seen.length q3c3] [ow (rLst 42 (rPair rInt rInt)) w3.heap.size (w3'.heap.size) ((movedG g).prog) [.slice q3A0 (movedG g).prog.length q3c0] G3_0, ow (rLsw (rPair rInt rInt)) w3.heap.size w3'.heap.size (movedG g).wr [.slice q3A1 (movedG g).wr.length q3c1] G3_1, ow (rLsw (rPair rInt rInt)) w3.heap.size w3'.heap.size (movedG g).lv [.slice q3A2 (movedG g).lv.length q3c2] G3_2, ow (rLst 3 rInt) w3.heap.size (w3'.heap.size) ((movedG g).seen) [.slice q3A3 (movedG g).seen.length q3c3] G3_3, vr b2 [.slice q3A0 (movedG g).prog.length q3c0, .int .i64 (movedG g).a, .int .i64 (movedG g).pc, .slice q3A1 (movedG g).wr.length q3c1, .slice q3A2 (movedG g).lv.length q3c2, .int .i64 (movedG g).t.1, .int .i64 (movedG g).t.2.1, .bool (movedG g).t.2.2, .int .i64 (movedG g).pd, .int .i64 (movedG g).x.1, .int .i64 (movedG g).x.2.1, .bool (movedG g).x.2.2.1, .int .i64 (movedG g).x.2.2.2, .bool (movedG g).hl, .slice q3A3 (movedG g).seen.length q3c3], vr b1 [.slice PA0 g.prog.length Pc0, .int .i64 g.a, .int .i64 g.pc, .slice PA1 g.wr.length Pc1, .slice PA2 g.lv.length Pc2, .int .i64 g.t.1, .int .i64 g.t.2.1, .bool g.t.2.2, .int .i64 g.pd, .int .i64 g.x.1, .int .i64 g.x.2.1, .bool g.x.2.2.1, .int .i64 g.x.2.2.2, .bool g.hl, .slice PA3 g.seen.length Pc3]] rfl (by kernel_rfl) (by kernel_rfl) (by kernel_rfl) rfl (by kernel_rfl) rfl (by kernel_rfl) (by kernel_rfl) (by kernel_rfl) ?_
  refine Sx.G.nil ?_
  refine Sx.E.next ?_
  refine Sx.C.ret ?_
  refine Sx.E.retc b2 4 [.slice q3A0 (movedG g).prog.length q3c0, .int .i64 (movedG g).a, .int .i64 (movedG g).pc, .slice q3A1 (movedG g).wr.length q3c1, .slice q3A2 (movedG g).lv.length q3c2, .int .i64 (movedG g).t.1, .int .i64 (movedG g).t.2.1, .bool (movedG g).t.2.2, .int .i64 (movedG g).pd, .int .i64 (movedG g).x.1, .int .i64 (movedG g).x.2.1, .bool (movedG g).x.2.2.1, .int .i64 (movedG g).x.2.2.2, .bool (movedG g).hl, .slice q3A3 (movedG g).seen.length q3c3] rfl (by kernel_rfl) rfl (by kernel_rfl) (by kernel_rfl) (fun w S => ?_)
  obtain ⟨ho, hF⟩ := rG_shut (g := movedG g) S 0 rfl 1 rfl 2 rfl 3 rfl (by decide) (by decide) (by decide) (by decide) (by decide) (by decide)
  exact ⟨_, _, rfl, ho, hF, S.below⟩
set_option maxRecDepth 100000 in
set_option maxHeartbeats 4000000 in
theorem specx_held (g : gT) (cs : List Value) (w : World) (hc : rG.cap g) (h : rG.rd w 0 w.heap.size g cs) : Calls Try.prog 26 #[.agg cs.toArray] w (Gives rG w (heldG g)) := by
  obtain ⟨q0, q1, q2, q3⟩ := rG_len hc
  have hr := h
  obtain ⟨P0, P1, P2, P3, rfl, h0, h1, h2, h3⟩ := rG_rd h
  obtain ⟨PA0, Pc0, e0, hP0⟩ := lst_val h0
  subst e0
  obtain ⟨PA1, Pc1, e1, hP1⟩ := lst_val h1
  subst e1
  obtain ⟨PA2, Pc2, e2, hP2⟩ := lst_val h2
  subst e2
  obtain ⟨PA3, Pc3, e3, hP3⟩ := lst_val h3
  subst e3
  refine Sx.enter (args := [.agg #[.slice PA0 g.prog.length Pc0, .int .i64 g.a, .int .i64 g.pc, .slice PA1 g.wr.length Pc1, .slice PA2 g.lv.length Pc2, .int .i64 g.t.1, .int .i64 g.t.2.1, .bool g.t.2.2, .int .i64 g.pd, .int .i64 g.x.1, .int .i64 g.x.2.1, .bool g.x.2.2.1, .int .i64 g.x.2.2.2, .bool g.hl, .slice PA3 g.seen.length Pc3]]) Try.func26 rfl Try.ntmps26 rfl ?_
  refine Sx.C.seq ?_
  refine Sx.C.region ?_
  refine Sx.G.box 32 (.tmp 0) [.slice PA0 g.prog.length Pc0, .int .i64 g.a, .int .i64 g.pc, .slice PA1 g.wr.length Pc1, .slice PA2 g.lv.length Pc2, .int .i64 g.t.1, .int .i64 g.t.2.1, .bool g.t.2.2, .int .i64 g.pd, .int .i64 g.x.1, .int .i64 g.x.2.1, .bool g.x.2.2.1, .int .i64 g.x.2.2.2, .bool g.hl, .slice PA3 g.seen.length Pc3] rfl (by kernel_rfl) (by kernel_rfl) (fun b1 => ?_)
  refine Sx.G.alloc 32 (.agg #[.slice none 0 0, .int .i64 0, .int .i64 0, .slice none 0 0, .slice none 0 0, .int .i64 0, .int .i64 0, .bool false, .int .i64 0, .int .i64 0, .int .i64 0, .bool false, .int .i64 0, .bool false, .slice none 0 0]) [.slice none 0 0, .int .i64 0, .int .i64 0, .slice none 0 0, .slice none 0 0, .int .i64 0, .int .i64 0, .bool false, .int .i64 0, .int .i64 0, .int .i64 0, .bool false, .int .i64 0, .bool false, .slice none 0 0] rfl (by kernel_rfl) (fun w => by kernel_rfl) (by kernel_rfl) (fun b2 => ?_)
  refine Sx.G.nil ?_
  refine Sx.E.next ?_
  refine Sx.C.seq ?_
  refine Sx.C.region ?_
  refine Sx.G.pure (.pointer (some ⟨b1, 13, none⟩)) (by kernel_rfl) (fun w => by kernel_rfl) ?_
  refine Sx.G.sto 4 (.tmp 3) (.const (.bool true)) b1 13 1 [.slice PA0 g.prog.length Pc0, .int .i64 g.a, .int .i64 g.pc, .slice PA1 g.wr.length Pc1, .slice PA2 g.lv.length Pc2, .int .i64 g.t.1, .int .i64 g.t.2.1, .bool g.t.2.2, .int .i64 g.pd, .int .i64 g.x.1, .int .i64 g.x.2.1, .bool g.x.2.2.1, .int .i64 g.x.2.2.2, .bool g.hl, .slice PA3 g.seen.length Pc3] [.bool true] [.slice PA0 g.prog.length Pc0, .int .i64 g.a, .int .i64 g.pc, .slice PA1 g.wr.length Pc1, .slice PA2 g.lv.length Pc2, .int .i64 g.t.1, .int .i64 g.t.2.1, .bool g.t.2.2, .int .i64 g.pd, .int .i64 g.x.1, .int .i64 g.x.2.1, .bool g.x.2.2.1, .int .i64 g.x.2.2.2, .bool true, .slice PA3 g.seen.length Pc3] [vr b2 [.slice none 0 0, .int .i64 0, .int .i64 0, .slice none 0 0, .slice none 0 0, .int .i64 0, .int .i64 0, .bool false, .int .i64 0, .int .i64 0, .int .i64 0, .bool false, .int .i64 0, .bool false, .slice none 0 0], vr b1 [.slice PA0 g.prog.length Pc0, .int .i64 g.a, .int .i64 g.pc, .slice PA1 g.wr.length Pc1, .slice PA2 g.lv.length Pc2, .int .i64 g.t.1, .int .i64 g.t.2.1, .bool g.t.2.2, .int .i64 g.pd, .int .i64 g.x.1, .int .i64 g.x.2.1, .bool g.x.2.2.1, .int .i64 g.x.2.2.2, .bool true, .slice PA3 g.seen.length Pc3]] rfl (by kernel_rfl) (by kernel_rfl) (by kernel_rfl) rfl (by kernel_rfl) rfl (by kernel_rfl) (by kernel_rfl) (by kernel_rfl) ?_
  refine Sx.G.nil ?_
  refine Sx.E.next ?_
  refine Sx.C.seq ?_
  refine Sx.C.region ?_
  refine Sx.G.ld 32 (.tmp 1) b1 0 1 [.slice PA0 g.prog.length Pc0, .int .i64 g.a, .int .i64 g.pc, .slice PA1 g.wr.length Pc1, .slice PA2 g.lv.length Pc2, .int .i64 g.t.1, .int .i64 g.t.2.1, .bool g.t.2.2, .int .i64 g.pd, .int .i64 g.x.1, .int .i64 g.x.2.1, .bool g.x.2.2.1, .int .i64 g.x.2.2.2, .bool true, .slice PA3 g.seen.length Pc3] [.slice PA0 g.prog.length Pc0, .int .i64 g.a, .int .i64 g.pc, .slice PA1 g.wr.length Pc1, .slice PA2 g.lv.length Pc2, .int .i64 g.t.1, .int .i64 g.t.2.1, .bool g.t.2.2, .int .i64 g.pd, .int .i64 g.x.1, .int .i64 g.x.2.1, .bool g.x.2.2.1, .int .i64 g.x.2.2.2, .bool true, .slice PA3 g.seen.length Pc3] rfl (by kernel_rfl) (by kernel_rfl) rfl (by kernel_rfl) (by kernel_rfl) (by kernel_rfl) ?_
  refine Sx.G.call 22 #[.agg #[.slice PA0 g.prog.length Pc0, .int .i64 g.a, .int .i64 g.pc, .slice PA1 g.wr.length Pc1, .slice PA2 g.lv.length Pc2, .int .i64 g.t.1, .int .i64 g.t.2.1, .bool g.t.2.2, .int .i64 g.pd, .int .i64 g.x.1, .int .i64 g.x.2.1, .bool g.x.2.2.1, .int .i64 g.x.2.2.2, .bool true, .slice PA3 g.seen.length Pc3]] (by kernel_rfl) (fun w => by kernel_rfl) (fun w3 S => (specx_moved ({ g with hl := true }) _ _ (by exact hc) (rG_rd_mk (g := { g with hl := true }) (St.old S h0) (St.old S h1) (St.old S h2) (St.old S h3))).mono fun e w3' hp => ?_)
  obtain ⟨cs, F, rfl, ho, hF, hb⟩ := hp
  obtain ⟨q3_0, q3_1, q3_2, q3_3, G3_0, G3_1, G3_2, G3_3, rfl, S'⟩ := rG_open (S.got hb ho hF)
  obtain ⟨q3A0, q3c0, e0, -⟩ := lst_val (S'.reads 0 rfl)
  subst e0
  obtain ⟨q3A1, q3c1, e1, -⟩ := lst_val (S'.reads 1 rfl)
  subst e1
  obtain ⟨q3A2, q3c2, e2, -⟩ := lst_val (S'.reads 2 rfl)
  subst e2
  obtain ⟨q3A3, q3c3, e3, -⟩ := lst_val (S'.reads 3 rfl)
  subst e3
  refine ⟨_, _, rfl, S', ?_⟩
  clear S S' ho hF hb
  refine Sx.G.sto 32 (.tmp 2) (.tmp 5) b2 0 4 [.slice none 0 0, .int .i64 0, .int .i64 0, .slice none 0 0, .slice none 0 0, .int .i64 0, .int .i64 0, .bool false, .int .i64 0, .int .i64 0, .int .i64 0, .bool false, .int .i64 0, .bool false, .slice none 0 0] [.slice q3A0 (movedG ({ g with hl := true })).prog.length q3c0, .int .i64 (movedG ({ g with hl := true })).a, .int .i64 (movedG ({ g with hl := true })).pc, .slice q3A1 (movedG ({ g with hl := true })).wr.length q3c1, .slice q3A2 (movedG ({ g with hl := true })).lv.length q3c2, .int .i64 (movedG ({ g with hl := true })).t.1, .int .i64 (movedG ({ g with hl := true })).t.2.1, .bool (movedG ({ g with hl := true })).t.2.2, .int .i64 (movedG ({ g with hl := true })).pd, .int .i64 (movedG ({ g with hl := true })).x.1, .int .i64 (movedG ({ g with hl := true })).x.2.1, .bool (movedG ({ g with hl := true })).x.2.2.1, .int .i64 (movedG ({ g with hl := true })).x.2.2.2, .bool (movedG ({ g with hl := true })).hl, .slice q3A3 (movedG ({ g with hl := true })).seen.length q3c3] [.slice q3A0 (movedG ({ g with hl := true })).prog.length q3c0, .int .i64 (movedG ({ g with hl := true })).a, .int .i64 (movedG ({ g with hl := true })).pc, .slice q3A1 (movedG ({ g with hl := true })).wr.length q3c1, .slice q3A2 (movedG ({ g with hl := true })).lv.length q3c2, .int .i64 (movedG ({ g with hl := true })).t.1, .int .i64 (movedG ({ g with hl := true })).t.2.1, .bool (movedG ({ g with hl := true })).t.2.2, .int .i64 (movedG ({ g with hl := true })).pd, .int .i64 (movedG ({ g with hl := true })).x.1, .int .i64 (movedG ({ g with hl := true })).x.2.1, .bool (movedG ({ g with hl := true })).x.2.2.1, .int .i64 (movedG ({ g with hl := true })).x.2.2.2, .bool (movedG ({ g with hl := true })).hl, .slice q3A3 (movedG ({ g with hl := true })).seen.length q3c3] [ow (rLst 42 (rPair rInt rInt)) w3.heap.size (w3'.heap.size) ((movedG ({ g with hl := true })).prog) [.slice q3A0 (movedG ({ g with hl := true })).prog.length q3c0] G3_0, ow (rLsw (rPair rInt rInt)) w3.heap.size w3'.heap.size (movedG ({ g with hl := true })).wr [.slice q3A1 (movedG ({ g with hl := true })).wr.length q3c1] G3_1, ow (rLsw (rPair rInt rInt)) w3.heap.size w3'.heap.size (movedG ({ g with hl := true })).lv [.slice q3A2 (movedG ({ g with hl := true })).lv.length q3c2] G3_2, ow (rLst 3 rInt) w3.heap.size (w3'.heap.size) ((movedG ({ g with hl := true })).seen) [.slice q3A3 (movedG ({ g with hl := true })).seen.length q3c3] G3_3, vr b2 [.slice q3A0 (movedG ({ g with hl := true })).prog.length q3c0, .int .i64 (movedG ({ g with hl := true })).a, .int .i64 (movedG ({ g with hl := true })).pc, .slice q3A1 (movedG ({ g with hl := true })).wr.length q3c1, .slice q3A2 (movedG ({ g with hl := true })).lv.length q3c2, .int .i64 (movedG ({ g with hl := true })).t.1, .int .i64 (movedG ({ g with hl := true })).t.2.1, .bool (movedG ({ g with hl := true })).t.2.2, .int .i64 (movedG ({ g with hl := true })).pd, .int .i64 (movedG ({ g with hl := true })).x.1, .int .i64 (movedG ({ g with hl := true })).x.2.1, .bool (movedG ({ g with hl := true })).x.2.2.1, .int .i64 (movedG ({ g with hl := true })).x.2.2.2, .bool (movedG ({ g with hl := true })).hl, .slice q3A3 (movedG ({ g with hl := true })).seen.length q3c3], vr b1 [.slice PA0 g.prog.length Pc0, .int .i64 g.a, .int .i64 g.pc, .slice PA1 g.wr.length Pc1, .slice PA2 g.lv.length Pc2, .int .i64 g.t.1, .int .i64 g.t.2.1, .bool g.t.2.2, .int .i64 g.pd, .int .i64 g.x.1, .int .i64 g.x.2.1, .bool g.x.2.2.1, .int .i64 g.x.2.2.2, .bool true, .slice PA3 g.seen.length Pc3]] rfl (by kernel_rfl) (by kernel_rfl) (by kernel_rfl) rfl (by kernel_rfl) rfl (by kernel_rfl) (by kernel_rfl) (by kernel_rfl) ?_
  refine Sx.G.nil ?_
  refine Sx.E.next ?_
  refine Sx.C.ret ?_
  refine Sx.E.retc b2 4 [.slice q3A0 (movedG ({ g with hl := true })).prog.length q3c0, .int .i64 (movedG ({ g with hl := true })).a, .int .i64 (movedG ({ g with hl := true })).pc, .slice q3A1 (movedG ({ g with hl := true })).wr.length q3c1, .slice q3A2 (movedG ({ g with hl := true })).lv.length q3c2, .int .i64 (movedG ({ g with hl := true })).t.1, .int .i64 (movedG ({ g with hl := true })).t.2.1, .bool (movedG ({ g with hl := true })).t.2.2, .int .i64 (movedG ({ g with hl := true })).pd, .int .i64 (movedG ({ g with hl := true })).x.1, .int .i64 (movedG ({ g with hl := true })).x.2.1, .bool (movedG ({ g with hl := true })).x.2.2.1, .int .i64 (movedG ({ g with hl := true })).x.2.2.2, .bool (movedG ({ g with hl := true })).hl, .slice q3A3 (movedG ({ g with hl := true })).seen.length q3c3] rfl (by kernel_rfl) rfl (by kernel_rfl) (by kernel_rfl) (fun w S => ?_)
  obtain ⟨ho, hF⟩ := rG_shut (g := heldG g) S 0 rfl 1 rfl 2 rfl 3 rfl (by decide) (by decide) (by decide) (by decide) (by decide) (by decide)
  exact ⟨_, _, rfl, ho, hF, S.below⟩
set_option maxRecDepth 100000 in
set_option maxHeartbeats 4000000 in
theorem specx_addr (g : gT) (cs : List Value) (w : World) (hc : rG.cap g) (h : rG.rd w 0 w.heap.size g cs) : Calls Try.prog 30 #[.agg cs.toArray] w (fun e w' => e = .returned (.int .i64 (addrG g)) ∧ Below w.heap.size w w') := by
  obtain ⟨q0, q1, q2, q3⟩ := rG_len hc
  have hr := h
  obtain ⟨P0, P1, P2, P3, rfl, h0, h1, h2, h3⟩ := rG_rd h
  obtain ⟨PA0, Pc0, e0, hP0⟩ := lst_val h0
  subst e0
  obtain ⟨PA1, Pc1, e1, hP1⟩ := lst_val h1
  subst e1
  obtain ⟨PA2, Pc2, e2, hP2⟩ := lst_val h2
  subst e2
  obtain ⟨PA3, Pc3, e3, hP3⟩ := lst_val h3
  subst e3
  refine Sx.enter (args := [.agg #[.slice PA0 g.prog.length Pc0, .int .i64 g.a, .int .i64 g.pc, .slice PA1 g.wr.length Pc1, .slice PA2 g.lv.length Pc2, .int .i64 g.t.1, .int .i64 g.t.2.1, .bool g.t.2.2, .int .i64 g.pd, .int .i64 g.x.1, .int .i64 g.x.2.1, .bool g.x.2.2.1, .int .i64 g.x.2.2.2, .bool g.hl, .slice PA3 g.seen.length Pc3]]) Try.func30 rfl Try.ntmps30 rfl ?_
  refine Sx.C.seq ?_
  refine Sx.C.region ?_
  refine Sx.G.box 32 (.tmp 0) [.slice PA0 g.prog.length Pc0, .int .i64 g.a, .int .i64 g.pc, .slice PA1 g.wr.length Pc1, .slice PA2 g.lv.length Pc2, .int .i64 g.t.1, .int .i64 g.t.2.1, .bool g.t.2.2, .int .i64 g.pd, .int .i64 g.x.1, .int .i64 g.x.2.1, .bool g.x.2.2.1, .int .i64 g.x.2.2.2, .bool g.hl, .slice PA3 g.seen.length Pc3] rfl (by kernel_rfl) (by kernel_rfl) (fun b1 => ?_)
  refine Sx.G.pure (.int .i64 0) (by kernel_rfl) (fun w => by kernel_rfl) ?_
  refine Sx.G.nil ?_
  refine Sx.E.next ?_
  refine Sx.C.seq ?_
  refine Sx.C.region ?_
  refine Sx.G.ld 32 (.tmp 1) b1 0 0 [.slice PA0 g.prog.length Pc0, .int .i64 g.a, .int .i64 g.pc, .slice PA1 g.wr.length Pc1, .slice PA2 g.lv.length Pc2, .int .i64 g.t.1, .int .i64 g.t.2.1, .bool g.t.2.2, .int .i64 g.pd, .int .i64 g.x.1, .int .i64 g.x.2.1, .bool g.x.2.2.1, .int .i64 g.x.2.2.2, .bool g.hl, .slice PA3 g.seen.length Pc3] [.slice PA0 g.prog.length Pc0, .int .i64 g.a, .int .i64 g.pc, .slice PA1 g.wr.length Pc1, .slice PA2 g.lv.length Pc2, .int .i64 g.t.1, .int .i64 g.t.2.1, .bool g.t.2.2, .int .i64 g.pd, .int .i64 g.x.1, .int .i64 g.x.2.1, .bool g.x.2.2.1, .int .i64 g.x.2.2.2, .bool g.hl, .slice PA3 g.seen.length Pc3] rfl (by kernel_rfl) (by kernel_rfl) rfl (by kernel_rfl) (by kernel_rfl) (by kernel_rfl) ?_
  refine Sx.G.plain 28 #[.agg #[.slice PA0 g.prog.length Pc0, .int .i64 g.a, .int .i64 g.pc, .slice PA1 g.wr.length Pc1, .slice PA2 g.lv.length Pc2, .int .i64 g.t.1, .int .i64 g.t.2.1, .bool g.t.2.2, .int .i64 g.pd, .int .i64 g.x.1, .int .i64 g.x.2.1, .bool g.x.2.2.1, .int .i64 g.x.2.2.2, .bool g.hl, .slice PA3 g.seen.length Pc3]] (.int .i64 (wantG g)) (by kernel_rfl) (fun w => by kernel_rfl) (fun w S => by exact specx_want g _ _ (by exact hc) (St.old S hr)) ?_
  refine Sx.G.pure (.int .i64 (wantG g)) (by kernel_rfl) (fun w => by kernel_rfl) ?_
  refine Sx.G.nil ?_
  refine Sx.E.next ?_
  refine Sx.C.seq ?_
  refine Sx.C.seq ?_
  refine Sx.C.region ?_
  refine Sx.G.pure (.int .i64 (wantG g)) (by kernel_rfl) (fun w => by kernel_rfl) ?_
  refine Sx.G.pure (.bool ((wantG g) != 3)) (by kernel_rfl) (fun w => by kernel_rfl) ?_
  refine Sx.G.pure (.bool ((wantG g) != 3)) (by kernel_rfl) (fun w => by kernel_rfl) ?_
  cases hc2 : ((wantG g) != 3)
  · have hb2 := hc2
    refine Sx.G.skip (by kernel_rfl) ?_
    refine Sx.G.skip (by kernel_rfl) ?_
    refine Sx.G.pure (.bool false) (by kernel_rfl) (fun w => by kernel_rfl) ?_
    refine Sx.G.nil ?_
    refine Sx.E.next ?_
    refine Sx.C.no (by kernel_rfl) (by kernel_rfl) ?_
    refine Sx.C.skip ?_
    refine Sx.E.next ?_
    refine Sx.C.seq ?_
    refine Sx.C.region ?_
    refine Sx.G.pure (.pointer (some ⟨b1, 0, none⟩)) (by kernel_rfl) (fun w => by kernel_rfl) ?_
    refine Sx.G.ld1 24 (.tmp 12) b1 0 0 [.slice PA0 g.prog.length Pc0, .int .i64 g.a, .int .i64 g.pc, .slice PA1 g.wr.length Pc1, .slice PA2 g.lv.length Pc2, .int .i64 g.t.1, .int .i64 g.t.2.1, .bool g.t.2.2, .int .i64 g.pd, .int .i64 g.x.1, .int .i64 g.x.2.1, .bool g.x.2.2.1, .int .i64 g.x.2.2.2, .bool g.hl, .slice PA3 g.seen.length Pc3] (.slice PA0 g.prog.length Pc0) rfl (by kernel_rfl) (by kernel_rfl) rfl (by kernel_rfl) (by kernel_rfl) ?_
    refine Sx.G.pure (.pointer (some ⟨b1, 2, none⟩)) (by kernel_rfl) (fun w => by kernel_rfl) ?_
    refine Sx.G.ld1 3 (.tmp 14) b1 2 0 [.slice PA0 g.prog.length Pc0, .int .i64 g.a, .int .i64 g.pc, .slice PA1 g.wr.length Pc1, .slice PA2 g.lv.length Pc2, .int .i64 g.t.1, .int .i64 g.t.2.1, .bool g.t.2.2, .int .i64 g.pd, .int .i64 g.x.1, .int .i64 g.x.2.1, .bool g.x.2.2.1, .int .i64 g.x.2.2.2, .bool g.hl, .slice PA3 g.seen.length Pc3] (.int .i64 g.pc) rfl (by kernel_rfl) (by kernel_rfl) rfl (by kernel_rfl) (by kernel_rfl) ?_
    refine Sx.G.plain 52 #[.slice PA0 g.prog.length Pc0, .int .i64 g.pc] (.agg #[.int .i64 (insAt g.prog g.pc).1, .int .i64 (insAt g.prog g.pc).2]) (by kernel_rfl) (fun w => by kernel_rfl) (fun w S => by exact spec_insAt PA0 g.prog.length Pc0 0 g.pc g.prog _ q0 rfl (by rw [← pcells_j]; exact p2_lies (St.old S h0))) ?_
    refine Sx.G.pure (.int .i64 (insAt g.prog g.pc).2) (by kernel_rfl) (fun w => by kernel_rfl) ?_
    refine Sx.G.pure (.int .i64 (insAt g.prog g.pc).2) (by kernel_rfl) (fun w => by kernel_rfl) ?_
    refine Sx.G.nil ?_
    refine Sx.E.next ?_
    refine Sx.C.ret ?_
    refine Sx.E.ret1 (.int .i64 (insAt g.prog g.pc).2) rfl (by kernel_rfl) (fun w S => ?_)
    exact ⟨congrArg Ending.returned (congrArg (Value.int .i64) (by simp only [addrG, hb2, Bool.and_true, Bool.and_false, Bool.false_and, Bool.true_and, Bool.false_eq_true, if_true, if_false, reduceIte])), S.below⟩
  · have hb2 := hc2
    refine Sx.G.pure (.int .i64 (wantG g)) (by kernel_rfl) (fun w => by kernel_rfl) ?_
    refine Sx.G.pure (.bool ((wantG g) != 4)) (by kernel_rfl) (fun w => by kernel_rfl) ?_
    refine Sx.G.pure (.bool ((wantG g) != 4)) (by kernel_rfl) (fun w => by kernel_rfl) ?_
    refine Sx.G.nil ?_
    refine Sx.E.next ?_
    cases hc3 : ((wantG g) != 4)
    · have hb3 := hc3
      refine Sx.C.no (by kernel_rfl) (by kernel_rfl) ?_
      refine Sx.C.skip ?_
      refine Sx.E.next ?_
      refine Sx.C.seq ?_
      refine Sx.C.region ?_
      refine Sx.G.pure (.pointer (some ⟨b1, 0, none⟩)) (by kernel_rfl) (fun w => by kernel_rfl) ?_
      refine Sx.G.ld1 24 (.tmp 12) b1 0 0 [.slice PA0 g.prog.length Pc0, .int .i64 g.a, .int .i64 g.pc, .slice PA1 g.wr.length Pc1, .slice PA2 g.lv.length Pc2, .int .i64 g.t.1, .int .i64 g.t.2.1, .bool g.t.2.2, .int .i64 g.pd, .int .i64 g.x.1, .int .i64 g.x.2.1, .bool g.x.2.2.1, .int .i64 g.x.2.2.2, .bool g.hl, .slice PA3 g.seen.length Pc3] (.slice PA0 g.prog.length Pc0) rfl (by kernel_rfl) (by kernel_rfl) rfl (by kernel_rfl) (by kernel_rfl) ?_
      refine Sx.G.pure (.pointer (some ⟨b1, 2, none⟩)) (by kernel_rfl) (fun w => by kernel_rfl) ?_
      refine Sx.G.ld1 3 (.tmp 14) b1 2 0 [.slice PA0 g.prog.length Pc0, .int .i64 g.a, .int .i64 g.pc, .slice PA1 g.wr.length Pc1, .slice PA2 g.lv.length Pc2, .int .i64 g.t.1, .int .i64 g.t.2.1, .bool g.t.2.2, .int .i64 g.pd, .int .i64 g.x.1, .int .i64 g.x.2.1, .bool g.x.2.2.1, .int .i64 g.x.2.2.2, .bool g.hl, .slice PA3 g.seen.length Pc3] (.int .i64 g.pc) rfl (by kernel_rfl) (by kernel_rfl) rfl (by kernel_rfl) (by kernel_rfl) ?_
      refine Sx.G.plain 52 #[.slice PA0 g.prog.length Pc0, .int .i64 g.pc] (.agg #[.int .i64 (insAt g.prog g.pc).1, .int .i64 (insAt g.prog g.pc).2]) (by kernel_rfl) (fun w => by kernel_rfl) (fun w S => by exact spec_insAt PA0 g.prog.length Pc0 0 g.pc g.prog _ q0 rfl (by rw [← pcells_j]; exact p2_lies (St.old S h0))) ?_
      refine Sx.G.pure (.int .i64 (insAt g.prog g.pc).2) (by kernel_rfl) (fun w => by kernel_rfl) ?_
      refine Sx.G.pure (.int .i64 (insAt g.prog g.pc).2) (by kernel_rfl) (fun w => by kernel_rfl) ?_
      refine Sx.G.nil ?_
      refine Sx.E.next ?_
      refine Sx.C.ret ?_
      refine Sx.E.ret1 (.int .i64 (insAt g.prog g.pc).2) rfl (by kernel_rfl) (fun w S => ?_)
      exact ⟨congrArg Ending.returned (congrArg (Value.int .i64) (by simp only [addrG, hb2, hb3, Bool.and_true, Bool.and_false, Bool.false_and, Bool.true_and, Bool.false_eq_true, if_true, if_false, reduceIte])), S.below⟩
    · have hb3 := hc3
      refine Sx.C.yes (by kernel_rfl) (by kernel_rfl) ?_
      refine Sx.C.seq ?_
      refine Sx.C.region ?_
      refine Sx.G.pure (.int .i64 (-1)) (by kernel_rfl) (fun w => by kernel_rfl) ?_
      refine Sx.G.nil ?_
      refine Sx.E.next ?_
      refine Sx.C.ret ?_
      refine Sx.E.then_ret ?_
      refine Sx.E.ret1 (.int .i64 (-1)) rfl (by kernel_rfl) (fun w S => ?_)
      exact ⟨congrArg Ending.returned (congrArg (Value.int .i64) (by simp only [addrG, hb2, hb3, Bool.and_true, Bool.and_false, Bool.false_and, Bool.true_and, Bool.false_eq_true, if_true, if_false, reduceIte])), S.below⟩
end Go.Proofs.Ytdbhfadiinmgiaa.Guests
namespace Go.Proofs.Ytdbhfadiinmgiaa.Guests
set_option maxRecDepth 100000
open Go.ChangeShapes Go.WideShapes Go.ChangeAt Go.RowKit
open Go.Proofs.Ytdbhfadiinmgiaa.Base Go.Proofs.Ytdbhfadiinmgiaa.Mem Go.Proofs.Ytdbhfadiinmgiaa.Data Go.Proofs.Ytdbhfadiinmgiaa.Slots Go.Proofs.Ytdbhfadiinmgiaa.Ints Go.Proofs.Ytdbhfadiinmgiaa.Ctls Go.Proofs.Ytdbhfadiinmgiaa.Exits Go.Proofs.Ytdbhfadiinmgiaa.Stt Go.Proofs.Ytdbhfadiinmgiaa.Irqs Go.Proofs.Ytdbhfadiinmgiaa.Inss
set_option linter.unusedVariables false
set_option linter.unusedSimpArgs false
theorem small_saw {x : gT} {n : Int} (h : x.prog.length ≤ 20 ∧ x.wr.length ≤ 4 ∧ x.lv.length ≤ 4 ∧ x.seen.length ≤ 46) : rG.cap (sawG x n) := gcap_rg (by unfold sawG; split; exact ⟨by show x.prog.length ≤ _; omega, by show x.wr.length ≤ _; omega, by show x.lv.length ≤ _; omega, by simp; omega⟩; exact ⟨by omega, by omega, by omega, by omega⟩)
theorem new_cap {l : List (Int × Int)} (h : l.length ≤ 20) : rG.cap (newG l) := gcap_rg ⟨by show l.length ≤ _; omega, by simp [newG, Slots.nosL], by simp [newG, Slots.nosL], by simp [newG]⟩
theorem new_wf {l : List (Int × Int)} (h : l.length ≤ 20) (hw : Inss.wfJL l) : wfGuest (newG l) :=
  ⟨⟨Nat.le_trans h (by decide), hw⟩, (show (Lit.int .i64 0).wf = true by decide), (show (Lit.int .i64 0).wf = true by decide), ⟨(by simp [newG, Slots.nosL]), fun s hs => by have : s = (-1, 0) := (List.mem_replicate.1 hs).2; subst this; decide⟩, ⟨(by simp [newG, Slots.nosL]), fun s hs => by have : s = (-1, 0) := (List.mem_replicate.1 hs).2; subst this; decide⟩,
    ⟨(show (Lit.int .i64 0).wf = true by decide), (show (Lit.int .i64 0).wf = true by decide), trivial⟩, (show (Lit.int .i64 0).wf = true by decide), ⟨(show (Lit.int .i64 0).wf = true by decide), (show (Lit.int .i64 0).wf = true by decide), trivial, (show (Lit.int .i64 0).wf = true by decide)⟩, trivial, ⟨(by simp [newG]), fun s hs => by cases hs⟩⟩
end Go.Proofs.Ytdbhfadiinmgiaa.Guests
namespace Go.Proofs.Ytdbhfadiinmgiaa.Guests
set_option maxRecDepth 100000
open Go.ChangeShapes Go.WideShapes Go.ChangeAt Go.RowKit
open Go.Proofs.Ytdbhfadiinmgiaa.Base Go.Proofs.Ytdbhfadiinmgiaa.Mem Go.Proofs.Ytdbhfadiinmgiaa.Data Go.Proofs.Ytdbhfadiinmgiaa.Slots Go.Proofs.Ytdbhfadiinmgiaa.Ints Go.Proofs.Ytdbhfadiinmgiaa.Ctls Go.Proofs.Ytdbhfadiinmgiaa.Exits Go.Proofs.Ytdbhfadiinmgiaa.Stt Go.Proofs.Ytdbhfadiinmgiaa.Irqs Go.Proofs.Ytdbhfadiinmgiaa.Inss
set_option linter.unusedVariables false
set_option linter.unusedSimpArgs false
theorem small_plain {x : gT} (h : x.prog.length ≤ 20 ∧ x.wr.length ≤ 4 ∧ x.lv.length ≤ 4 ∧ x.seen.length ≤ 46) : rG.cap (plainG x) := gcap_rg (by unfold plainG; (repeat' split) <;> exact ⟨by show x.prog.length ≤ _; omega, by show x.wr.length ≤ _; omega, by show x.lv.length ≤ _; omega, by show x.seen.length ≤ _; omega⟩)
theorem small_moved {x : gT} (h : x.prog.length ≤ 20 ∧ x.wr.length ≤ 4 ∧ x.lv.length ≤ 4 ∧ x.seen.length ≤ 46) : rG.cap (movedG x) := gcap_rg ⟨by show x.prog.length ≤ _; omega, by show x.wr.length ≤ _; omega, by show x.lv.length ≤ _; omega, by show x.seen.length ≤ _; omega⟩
theorem small_held {x : gT} (h : x.prog.length ≤ 20 ∧ x.wr.length ≤ 4 ∧ x.lv.length ≤ 4 ∧ x.seen.length ≤ 46) : rG.cap (heldG x) := small_moved (x := { x with hl := true }) h
theorem small_loaded {x : gT} {v : Int} (h : x.prog.length ≤ 20 ∧ x.wr.length ≤ 4 ∧ x.lv.length ≤ 4 ∧ x.seen.length ≤ 46) : rG.cap (loadedG x v) := by have := small_saw (x := { x with a := v }) (n := v) h; exact this
theorem plain_wr (x : gT) : (plainG x).wr = x.wr := by unfold plainG; (repeat' split) <;> rfl
theorem plain_lv (x : gT) : (plainG x).lv = x.lv := by unfold plainG; (repeat' split) <;> rfl
theorem plain_no {x : gT} (h : (wantG x == 2) = false) : plainG x = x := by
  unfold plainG
  rw [if_pos (by simp only [bne, h]; rfl)]
theorem opWant_ne (o : Int) : (opWant o == 0) = false := by unfold opWant; (repeat' split) <;> rfl
theorem want_none (x : gT) : (wantG x == 0) = !canRun x := by
  unfold wantG
  cases hc : canRun x
  · rfl
  · simp only [if_true]
    cases ht : takesI x
    · simpa using opWant_ne _
    · rfl
theorem rG_p {w : World} {lo hi : Nat} {g : gT} {P0 P1 P2 : Value} {l : List Value} (h : rG.rd w lo hi g (P0 :: .int .i64 g.a :: .int .i64 g.pc :: P1 :: P2 :: l)) : rdLst (rPair rInt rInt) w lo hi g.prog [P0] ∧ rdLst (rPair rInt rInt) w lo hi g.wr [P1] ∧ rdLst (rPair rInt rInt) w lo hi g.lv [P2] := by
  obtain ⟨Q0, Q1, Q2, Q3, e, r0, r1, r2, r3⟩ := rG_rd h
  simp only [List.cons.injEq] at e
  obtain ⟨rfl, -, -, rfl, rfl, -⟩ := e
  exact ⟨r0, r1, r2⟩
theorem one_wf : wfGuest (newG [(1, 7)]) := by
  refine new_wf (by decide) fun s hs => ?_
  obtain rfl : s = (1, 7) := by simpa using hs
  exact ⟨by decide, by decide⟩
theorem one_cap : rG.cap (newG [(1, 7)]) := new_cap (by decide)
theorem one_set : (plainG (newG [(1, 7)])).a = 7 ∧ (plainG (newG [(1, 7)])).pc = 1 := by decide +kernel
end Go.Proofs.Ytdbhfadiinmgiaa.Guests
namespace Go.Proofs.Ytdbhfadiinmgiaa.Sx
set_option maxRecDepth 100000
open Go.ChangeShapes Go.WideShapes Go.ChangeAt Go.RowKit Go.Deep
open Go.Proofs.Ytdbhfadiinmgiaa.Base Go.Proofs.Ytdbhfadiinmgiaa.Mem Go.Proofs.Ytdbhfadiinmgiaa.Data Go.Proofs.Ytdbhfadiinmgiaa.Stt
set_option linter.unusedVariables false
section
variable {P : Program} {n : Nat} {w0 : World} {T : Tl} {L : List Res} {fn : Func} {R : Ending → World → Prop}
theorem results_none {tmps : Array Value} {w : World} (hr : fn.results = #[]) : (results fn tmps).run P w = .ok (.tuple #[]) w := by
  rw [results_map, hr]; simp
theorem E.ret0 (hr : fn.results = #[]) (h : ∀ w, St w0 w L → R (.returned (.tuple #[])) w) : E n (bodyPost P fn R) w0 T L .ret := fun a w hA S =>
  bodyPost_ret (results_none hr) hA.defers (h w S)
end
section
variable {P : Program} {n : Nat} {Q : Exit → Act → World → Prop} {Z : World → Prop} {w0 : World} {T : Tl} {L : List Res} {l : List Oper} {o : Oper} {r : Ord.Ot}
theorem Alone.box {i : Nat} (t : TypeId) (x : Operand) (vs : List Value) (ho : l[i]? = some o) (hop : o.op = .box t x) (hc : chk n T l.toArray o = true) (hx : (ev T x).cells = vs.toArray) (hZ : ∀ w, St w0 w L → Z w)
    (k : ∀ b, GT P n l.toArray Q Z w0 (up o.dst (.pointer (some ⟨b, 0, none⟩)) T) (vr b vs :: L) r) : Alone P n l.toArray Q Z w0 T L i r :=
  Alone.turns ho hc fun w S => ⟨_, _, _, by
    unfold execOp
    simp only [hop, Sem.run_bind, Instr.box, newVar, newRow, run_newObj_alloc, Sem.run_pure, Result.andThen_ok, hx], S.alloc vs t, fun w S => hZ w (St.tail S), k _⟩
end
theorem lies_nothing {w : World} {lo hi : Nat} {cs : List Value} (h : Lies w lo hi none cs) : cs = [] := by
  rcases cs with _ | ⟨u, r⟩
  · rfl
  · obtain ⟨b, off, e, _⟩ := h 0 u rfl
    cases e
theorem p2_nothing {w : World} {lo hi n c : Nat} {l : List (Int × Int)} (h : rdLst (rPair rInt rInt) w lo hi l [.slice none n c]) : l = [] := by
  have := lies_nothing (p2_lies h)
  cases l with
  | nil => rfl
  | cons s l => simp [pcells] at this
theorem i1_nothing {w : World} {lo hi n c : Nat} {l : List Int} (h : rdLst rInt w lo hi l [.slice none n c]) : l = [] := by
  have := lies_nothing (i1_lies h)
  cases l with
  | nil => rfl
  | cons s l => simp [icells] at this
end Go.Proofs.Ytdbhfadiinmgiaa.Sx
namespace Go.Proofs.Ytdbhfadiinmgiaa.Irqs
set_option maxRecDepth 100000
open Go.ChangeShapes Go.WideShapes Go.ChangeAt Go.RowKit
open Go.Proofs.Ytdbhfadiinmgiaa.Base Go.Proofs.Ytdbhfadiinmgiaa.Mem
set_option linter.unusedVariables false
set_option linter.unusedSimpArgs false
attribute [local go_sem] Oper.semAt_some
/-- The interrupts of p below k, the greatest first. -/
def descI (p : Int) : Nat → List Int
  | 0 => []
  | k + 1 => if bitN p k = 1 then (k : Int) :: descI p k else descI p k
def listI (p : Int) : List Int := if pend p = true then descI p 8 else []
theorem descI_top (p : Int) : ∀ k : Nat, topTo p k = (descI p k).headD (-1)
  | 0 => rfl
  | k + 1 => by
    have h := descI_top p k
    unfold descI topTo
    split
    · rfl
    · exact h
theorem listI_top (p : Int) : topI p = (listI p).headD (-1) := by
  unfold topI listI
  split
  · exact descI_top p 8
  · rfl
section
variable (p n : Int) (w : World)
theorem impl_postOk' : Calls Try.prog 133 #[.int .i64 n] w fun e w' => e = .returned (.bool (pend n)) ∧ w = w' := by
  have hv : pend n = (decide (n ≥ 0) && decide (n ≤ 255)) := rfl
  cases h1 : decide (n ≥ 0)
  all_goals
    cases h2 : decide (n ≤ 255)
    all_goals
      rw [h1, h2] at hv
      simp only [Bool.and_false, Bool.and_true] at hv
      rw [hv]; clear hv
      go_enter Try.func133, Try.ntmps133
      go_wp2
      go_ret
      exact ⟨rfl, rfl⟩
theorem impl_pend' : Calls Try.prog 132 #[.int .i64 p] w fun e w' => e = .returned (.bool (pend p)) ∧ w = w' := by
  have K := Lib.hid (fun V : World => impl_postOk' p V)
  generalize pend p = x at K ⊢
  go_enter Try.func132, Try.ntmps132
  go_wp2_with fail
  refine (K.out _).mono ?_
  rintro e w' ⟨rfl, rfl⟩
  go_wp2_with fail
  go_ret
  exact ⟨rfl, rfl⟩
end
/-- What a round keeps: the cell in which p lies. -/
def KpI (Bn : Nat) (A B : World) : Prop := B.cell? ⟨Bn, 0, none⟩ = A.cell? ⟨Bn, 0, none⟩
set_option maxRecDepth 100000 in
set_option maxHeartbeats 2000000 in
/-- The iterator, over whatever the rounds do. -/
theorem irqs_in (n l Bn : Nat) (p : Int) (J Jx : List Int → World → Prop)
    (hY : ∀ pre x W, J pre W → pre.length < (listI p).length → YieldAt Fence.wide (n - 1) Try.prog l #[.int .i64 x] W fun e W' =>
      (e = .returned (.bool true) ∧ J (pre ++ [x]) W' ∧ KpI Bn W W') ∨ (e = .returned (.bool false) ∧ Jx (pre ++ [x]) W'))
    (W : World) (hBn : W.cell? ⟨Bn, 0, none⟩ = some (.int .i64 p)) (h0 : J [] W) :
    CallsIn Fence.wide n Try.prog 131 #[.func (.yield l) #[] #[], .pointer (some ⟨Bn, 0, none⟩)] W fun e W' => (∃ v, e = .returned v) ∧
      ((∃ ys, ys = listI p ∧ J ys W') ∨ (∃ pre, pre <+: listI p ∧ Jx pre W')) := by
  have K := Lib.hid (fun V : World => impl_pend' p V)
  have hv : listI p = if pend p = true then descI p 8 else [] := rfl
  have hp : pend p = true → 0 ≤ p ∧ p ≤ 255 := pend_iff.1
  generalize listI p = L at hY hv ⊢
  generalize pend p = x at K hv hp
  cases x
  · rw [if_neg (Bool.false_ne_true)] at hv
    subst hv
    refine callsIn_of_wp Try.func131 rfl trivial ?_ rfl
    simp only [Try.ntmps131, List.size_toArray, List.length_cons, List.length_nil, Nat.reduceAdd, Nat.reduceSub, Array.replicate_succ, Array.replicate_zero, List.push_toArray, List.append_toArray, List.nil_append, List.cons_append]
    gi_wp2_with (refine ⟨trivial, fun h => (by cases h), ?_⟩; gi_at_call 132; refine (callsIn_wide.2 (K.out _)).mono ?_; rintro e w' ⟨rfl, rfl⟩)
    refine bodyPost_ret (results_none rfl _ _ _) rfl ?_
    exact ⟨⟨_, rfl⟩, .inl ⟨[], rfl, h0⟩⟩
  · rw [if_pos rfl] at hv
    obtain ⟨p0, p1⟩ := hp rfl
    clear hp
    have hv' := Lib.hid hv
    clear hv
    refine callsIn_of_wp Try.func131 rfl trivial ?_ rfl
    simp only [Try.ntmps131, List.size_toArray, List.length_cons, List.length_nil, Nat.reduceAdd, Nat.reduceSub, Array.replicate_succ, Array.replicate_zero, List.push_toArray, List.append_toArray, List.nil_append, List.cons_append]
    gi_wp2_with (refine ⟨trivial, fun h => (by cases h), ?_⟩; gi_at_call 132; refine (callsIn_wide.2 (K.out _)).mono ?_; rintro e w' ⟨rfl, rfl⟩)
    gi_loopw [3] (fun i wr => ∃ (k : Nat) (pre : List Int), k ≤ 8 ∧ i = .int .i64 ((k : Int) - 1) ∧ L = pre ++ descI p k ∧ wr.cell? ⟨Bn, 0, none⟩ = some (.int .i64 p) ∧ J pre wr)
      (fun i wr => (intOf i + 1).toNat)
    case atStart => exact ⟨8, [], by omega, rfl, hv'.out, hBn, h0⟩
    case round =>
      obtain ⟨k, pre, hk, rfl, hL, hc, hJ⟩ := hrel
      rcases k with _ | k
      · have HL := Lib.hid hL
        clear hL
        gi_wp2
        go_end0
        exact ⟨⟨_, rfl⟩, .inl ⟨pre, by rw [HL.out]; simp [descI], hJ⟩⟩
      · have hL' : L = pre ++ (if bitN p k = 1 then (k : Int) :: descI p k else descI p k) := hL
        rw [show ((k + 1 : Nat) : Int) - 1 = (k : Int) by omega]
        have hk0 : (k : Int) ≥ 0 := by omega
        clear hL
        by_cases hb : bitN p k = 1
        · rw [if_pos hb] at hL'
          obtain ⟨fn, tmps, assign, body, hy, hR⟩ := hY pre (k : Int) wr hJ (by rw [hL']; simp)
          have HL := Lib.hid hL'
          unfold bitN at hb
          clear hL'
          gi_wp2
          refine ⟨fun h => (by cases h), ?_⟩
          refine hR.mono ?_
          rintro e W3 (⟨rfl, hJ3, hk3⟩ | ⟨rfl, hJx3⟩)
          · skip
            gi_wp2
            go_roundw
            case rel => exact ⟨k, pre ++ [(k : Int)], by omega, by go_num, by rw [HL.out]; simp, hk3.trans hc, hJ3⟩
            case measure => simp [intOf]
          · gi_wp2
            refine bodyPost_ret (results_none rfl _ _ _) rfl ?_
            exact ⟨⟨_, rfl⟩, .inr ⟨pre ++ [(k : Int)], ⟨descI p k, by rw [HL.out]; simp⟩, hJx3⟩⟩
        · rw [if_neg hb] at hL'
          have HL := Lib.hid hL'
          have hb' : (bits .and .i64 (p / 2 ^ k) 1 == 1) = false := by unfold bitN at hb; simpa using hb
          clear hL' hb
          gi_wp2
          refine ⟨fun _ h => (by cases h), ?_⟩
          gi_wp2
          go_roundw
          case rel => exact ⟨k, pre, by omega, by go_num, HL.out, hc, hJ⟩
          case measure => simp [intOf]
theorem irqs_of (F : Fence) (hF : F = Fence.wide) (n : Nat) (p : Int) (w : World) :
    CallsIn F n Try.prog 130 #[.int .i64 p] w fun e w' => e = .returned (.func (.func 131) #[] #[.pointer (some ⟨w.heap.size, 0, none⟩)]) ∧ w' = w.alloc (.cells #[.int .i64 p] 3) := by
  subst hF
  refine callsIn_of_wp Try.func130 rfl trivial ?_ rfl
  simp only [Try.ntmps130, List.size_toArray, List.length_cons, List.length_nil, Nat.reduceAdd, Nat.reduceSub, Array.replicate_succ, Array.replicate_zero, List.push_toArray, List.append_toArray, List.nil_append, List.cons_append]
  gi_wp2
  go_ret
  exact ⟨rfl, rfl⟩
theorem irqs_stop (n Bn : Nat) (p : Int) (w : World) (hBn : Bn < w.heap.size) (hc : w.cell? ⟨Bn, 0, none⟩ = some (.int .i64 p)) :
    SeqStopsK Fence.wide n Try.prog 131 #[.pointer (some ⟨Bn, 0, none⟩)] (fun x : Int => #[Value.int .i64 x]) (KpI Bn) (fun ys => ys = listI p) (fun pre => pre <+: listI p) (listI p).length w := fun l J Jx W hW _ _ hY h0 =>
  irqs_in n l Bn p J Jx hY W ((hW.cell (p := ⟨Bn, 0, none⟩) hBn).trans hc) h0
theorem KpI_t {Bn : Nat} {A B C : World} (h : KpI Bn A B) (k : KpI Bn B C) : KpI Bn A C := k.trans h
theorem KpI_b {Bn : Nat} {w : World} (hn : Bn < w.heap.size) (W : World) (l : Nat) (o o' : Obj) (hl : w.heap.size ≤ l) (h : W.heap[l]? = some o) (k1 : o.isCells = false) (k2 : o.isWalk = false) : KpI Bn W (W.putObj l o') :=
  (belowK_b (n₀ := Bn + 1) (w := w) (by omega) W l o o' hl h k1 k2).cell (p := ⟨Bn, 0, none⟩) (by simp)
theorem cell_of_box_l {W : World} {B : Nat} {v : Value} {t : TypeId} (h : W.heap[B]? = some (.cells #[v] t (0, 0))) : W.cell? ⟨B, 0, none⟩ = some v ∧ W.frozen? ⟨B, 0, none⟩ = false := by
  constructor <;> simp [World.cell?, World.frozen?, h]
theorem cell_new_l (W : World) (v : Value) (t : TypeId) : (W.alloc (.cells #[v] t)).cell? ⟨W.heap.size, 0, none⟩ = some v ∧ (W.alloc (.cells #[v] t)).frozen? ⟨W.heap.size, 0, none⟩ = false :=
  cell_of_box_l (World.alloc_heap_new W _)
theorem cell_alloc_l {W : World} {a : Addr} {v : Value} (o : Obj) (h : W.cell? a = some v) : (W.alloc o).cell? a = some v := cell_kept h (World.grownBy_alloc W o none) (fun r e => by cases e)
theorem frozen_alloc_l {W : World} {a : Addr} {v : Value} (o : Obj) (h : W.cell? a = some v) (hf : W.frozen? a = false) : (W.alloc o).frozen? a = false := (frozen_kept h (World.grownBy_alloc W o none) (fun r e => by cases e)).trans hf
set_option maxRecDepth 100000 in
set_option maxHeartbeats 2000000 in
theorem impl_top (p : Int) (w : World) (wp : (Lit.int .i64 p).wf = true) : Calls Try.prog 122 #[.int .i64 p] w fun e w' => e = .returned (.int .i64 (topI p)) ∧ Below w.heap.size w w' := by
  refine (callsIn_wide (n := 3)).1 ?_
  rw [listI_top]
  refine callsIn_of_wp_marks Try.func122 rfl trivial ?_ rfl
  simp only [Try.ntmps122, List.size_toArray, List.length_cons, List.length_nil, Nat.reduceAdd, Nat.reduceSub, Array.replicate_succ, Array.replicate_zero, List.push_toArray, List.append_toArray, List.nil_append, List.cons_append]
  gi_wp2_with (refine ⟨trivial, ?_⟩; gi_at_call 130; refine (irqs_of _ rfl _ _ _).mono ?_; rintro e w' ⟨rfl, rfl⟩)
  have hs := cell_new_l w (.int .i64 0) 3
  have hb := cell_new_l (w.alloc (.cells #[.int .i64 0] 3)) (.int .i64 p) 3
  rw [World.size_alloc] at hb
  have hB0 : Below w.heap.size w ((w.alloc (.cells #[.int .i64 0] 3)).alloc (.cells #[.int .i64 p] 3)) := ((Below.refl _ w).alloc (Nat.le_refl _) _).alloc (by simp) _
  refine wpIn_rangeFunc_ownF rfl (show 1 ≤ 3 by omega) (gf := 131) (lb := #[.pointer (some ⟨w.heap.size + 1, 0, none⟩)]) rfl trivial (enters_of Try.func131 (by kernel_rfl) rfl)
    (irqs_stop _ (w.heap.size + 1) p _ (by simp) hb.1) KpI_t (KpI_b (by simp)) (Below.refl _ _) (fun _ => rfl)
    (fun pre W => (pre = [] ∧ W.cell? ⟨w.heap.size, 0, none⟩ = some (.int .i64 0) ∧ W.frozen? ⟨w.heap.size, 0, none⟩ = false) ∧ Below w.heap.size w W)
    (fun c pre W => (c = .ret ∧ ∃ x : Int, pre = [x] ∧ W.cell? ⟨w.heap.size, 0, none⟩ = some (.int .i64 x)) ∧ Below w.heap.size w W)
    (OwnFrom.and (Own.from (fun s A B row hs hg hr => ⟨hs.1, cell_kept hs.2.1 hg hr, (frozen_kept hs.2.1 hg hr).trans hs.2.2⟩) _) (ownFrom_below (Nat.le_refl _) (by simp; omega)))
    (fun c => OwnFrom.and (Own.from (fun s A B row hs hg hr => by obtain ⟨hc, x, hx, h⟩ := hs; exact ⟨hc, x, hx, cell_kept h hg hr⟩) _) (ownFrom_below (Nat.le_refl _) (by simp; omega)))
    ⟨⟨rfl, cell_alloc_l _ hs.1, frozen_alloc_l _ hs.1 hs.2⟩, hB0⟩
    (fun x => { tmps := #[.int .i64 p, undef, .pointer (some ⟨w.heap.size, 0, none⟩), .int .i64 x, .int .i64 p, .func (.func 131) #[] #[.pointer (some ⟨w.heap.size + 1, 0, none⟩)], .int .i64 x, undef], defers := [] }) ?assign ?body ?done ?stop
  case assign =>
    intro l x W K hK
    gi_wp2
    exact hK
  case body =>
    rintro l pre x W ⟨⟨rfl, hc, hf⟩, hB⟩ _
    gi_wp2
    exact ⟨KeepsOthers.setCell _ _ _, ⟨rfl, x, rfl, World.cell?_setCell_same' _ _ _ (by rw [hc]; rfl)⟩, hB.setCell (p := ⟨w.heap.size, 0, none⟩) (Nat.le_refl _) _⟩
  case done =>
    rintro D ys W hD hys ⟨⟨rfl, hc, hf⟩, hB⟩ hK
    gi_wp2
    have hK' := (KeepsOthers.setCell W ⟨w.heap.size, 0, none⟩ (.int .i64 (-1))).same D _ hK rfl
    refine ⟨by simp, .inl ⟨_, _, rfl, run_takeDeferred hK', ?_⟩⟩
    have hc5 := cell_kept (World.cell?_setCell_same' W ⟨w.heap.size, 0, none⟩ (.int .i64 (-1)) (by rw [hc]; rfl)) (grownBy_putObj' _ D (.deferred none)) (fun r e => by cases e; exact ⟨_, hK', rfl⟩)
    refine ⟨.int .i64 (-1), ?_, by rw [← hys]; rfl, (hB.setCell (p := ⟨w.heap.size, 0, none⟩) (by simp) _).trans (belowK_b (w := w) (Nat.le_refl _) _ D _ _ (by simp at hD; omega) hK' rfl rfl)⟩
    simp [results, Try.f122, go_sem, hc5]
  case stop =>
    rintro D c pre W hD hpre ⟨⟨rfl, x, rfl, hc⟩, hB⟩ hK
    obtain ⟨t, ht⟩ := hpre
    gi_wp2
    refine ⟨by simp, .inl ⟨_, _, rfl, run_takeDeferred hK, ?_⟩⟩
    have hc5 := cell_kept hc (grownBy_putObj' _ D (.deferred none)) (fun r e => by cases e; exact ⟨_, hK, rfl⟩)
    refine ⟨.int .i64 x, ?_, by rw [← ht]; rfl, hB.trans (belowK_b (w := w) (Nat.le_refl _) W D _ _ (by simp at hD; omega) hK rfl rfl)⟩
    simp [results, Try.f122, go_sem, hc5]
end Go.Proofs.Ytdbhfadiinmgiaa.Irqs
namespace Go.Proofs.Ytdbhfadiinmgiaa.Exits
set_option maxRecDepth 100000
open Go.ChangeShapes Go.WideShapes Go.ChangeAt Go.RowKit
open Go.Proofs.Ytdbhfadiinmgiaa.Base Go.Proofs.Ytdbhfadiinmgiaa.Mem Go.Proofs.Ytdbhfadiinmgiaa.Data
set_option linter.unusedVariables false
set_option linter.unusedSimpArgs false
theorem impl_cellOkE (v : Int) (w : World) :
    Calls Try.prog 95 #[.int .i64 v] w fun e w' => e = .returned (.bool (inB v 0 99)) ∧ Below w.heap.size w w' := by
  by_cases h0 : v < 0
  · have HV := Lib.hid (inB_false.2 (show v < 0 ∨ 99 < v from .inl h0))
    have h1 : ¬ v ≥ 0 := by omega
    clear h0
    go_enter Try.func95, Try.ntmps95
    go_wp2_with fail
    go_ret
    exact ⟨by rw [HV.out]; rfl, Below.refl _ _⟩
  · have h1 : v ≥ 0 := by omega
    by_cases h2 : v ≤ 99
    · have HV := Lib.hid (inB_iff.2 (show 0 ≤ v ∧ v ≤ 99 from ⟨h1, h2⟩))
      clear h0
      go_enter Try.func95, Try.ntmps95
      go_wp2_with fail
      go_ret
      exact ⟨by rw [HV.out]; rfl, Below.refl _ _⟩
    · have HV := Lib.hid (inB_false.2 (show v < 0 ∨ 99 < v from .inr (by omega)))
      clear h0
      go_enter Try.func95, Try.ntmps95
      go_wp2_with fail
      go_ret
      exact ⟨by rw [HV.out]; rfl, Below.refl _ _⟩
end Go.Proofs.Ytdbhfadiinmgiaa.Exits
namespace Go.Proofs.Ytdbhfadiinmgiaa.Ctls
set_option maxRecDepth 100000
open Go.ChangeShapes Go.WideShapes Go.ChangeAt Go.RowKit
open Go.Proofs.Ytdbhfadiinmgiaa.Base Go.Proofs.Ytdbhfadiinmgiaa.Mem Go.Proofs.Ytdbhfadiinmgiaa.Data Go.Proofs.Ytdbhfadiinmgiaa.Ints Go.Proofs.Ytdbhfadiinmgiaa.Slots
set_option linter.unusedVariables false
set_option linter.unusedSimpArgs false
def p1 (s : CT) : Bool := !inB s.1 0 3
def p2 (s : CT) : Bool := !inB s.2.1 0 255
def p3 (s : CT) : Bool := (s.2.1 != 0) && !s.2.2
end Go.Proofs.Ytdbhfadiinmgiaa.Ctls
namespace Go.Proofs.Ytdbhfadiinmgiaa.Inss
set_option maxRecDepth 100000
open Go.ChangeShapes Go.WideShapes Go.ChangeAt Go.RowKit
open Go.Proofs.Ytdbhfadiinmgiaa.Base Go.Proofs.Ytdbhfadiinmgiaa.Mem Go.Proofs.Ytdbhfadiinmgiaa.Data Go.Proofs.Ytdbhfadiinmgiaa.Addrs Go.Proofs.Ytdbhfadiinmgiaa.Rights
set_option linter.unusedVariables false
set_option linter.unusedSimpArgs false
set_option maxHeartbeats 2000000 in
theorem impl_insAt (A : Option Addr) (n c : Nat) (pc : Int) (l : List JT) (w : World) (hn : n ≤ 1048576) (hl : l.length = n) (h1 : Lies w 0 w.heap.size A (jcells l)) (wl : wfJL l) (wp : (Lit.int .i64 pc).wf = true) :
    Calls Try.prog 94 #[.slice A n c, .int .i64 pc] w (OneIns w (insAt l pc)) := by
  have H1 := Lib.hid h1
  have HL := Lib.hid hl
  clear h1 hl wp wl
  by_cases h : 0 ≤ pc ∧ pc < n
  · obtain ⟨h0, h1⟩ := h
    obtain ⟨k, rfl⟩ := Int.eq_ofNat_of_zero_le h0
    have hkl : k < l.length := by have := HL.out; omega
    rw [show insAt l (k : Int) = l[k] from insAt_in (pc := (k : Int)) h0 (by simpa using hkl), show l[k] = (l[k].1, l[k].2) from rfl]
    obtain ⟨b, off, rfl, _, hbw, c1, c2⟩ := j_at H1.out k hkl
    have hne : b ≠ w.heap.size := by omega
    have hd1 : decide ((k : Int) < 0) = false := decide_eq_false (by omega)
    have hd2 : decide ((k : Int) ≥ (n : Int)) = false := decide_eq_false (by omega)
    generalize l[k].1 = x at c1 ⊢
    generalize l[k].2 = y at c2 ⊢
    go_enter Try.func94, Try.ntmps94
    go_wp2_with fail
    exact bodyPost_ret (v := .agg #[.int .i64 x, .int .i64 y]) (by simp [results, Try.results94, go_sem]) rfl ⟨rfl, (Below.refl _ _).alloc (Nat.le_refl _) _⟩
  · have HA := Lib.hid (insAt_out (l := l) (pc := pc) (by rw [HL.out]; omega))
    by_cases hlo : pc < 0
    · have hd1 : decide (pc < 0) = true := decide_eq_true hlo
      clear h hlo
      go_enter Try.func94, Try.ntmps94
      go_wp2_with fail
      exact bodyPost_ret (v := .agg #[.int .i64 7, .int .i64 0]) (by simp [results, Try.results94, go_sem]) rfl ⟨by rw [HA.out]; rfl, (Below.refl _ _).alloc (Nat.le_refl _) _⟩
    · have hd1 : decide (pc < 0) = false := decide_eq_false hlo
      have hd2 : decide (pc ≥ (n : Int)) = true := decide_eq_true (by omega)
      clear h hlo
      go_enter Try.func94, Try.ntmps94
      go_wp2_with fail
      exact bodyPost_ret (v := .agg #[.int .i64 7, .int .i64 0]) (by simp [results, Try.results94, go_sem]) rfl ⟨by rw [HA.out]; rfl, (Below.refl _ _).alloc (Nat.le_refl _) _⟩
end Go.Proofs.Ytdbhfadiinmgiaa.Inss
