/-
  The texts that KSameBare wants, part 1: GuestH GuestR KitG KitL KitB Guest BroughtImpl GuestX SxA BareR KitO KitA Addrs InsSame Same MemMake MemPut MemPutS SxEq. No condition.
-/
import Derived.Test.YtldgadmpclgfhaaKSameBareB0
import Derived.Deep.Cut
import Derived.Test.YtldgadmpclgfhaaRows
import Derived.WalkKit
import Derived.ProofKit
import Derived.OpenShut
import Derived.BigQuiet
import Derived.Laws.CopyOwn
import Derived.Maps.AppendAt
import Derived.Laws.StructEq
namespace Go.Proofs.Ytldgadmpclgfhaa.Guests
set_option maxRecDepth 100000
open Go.ChangeShapes Go.WideShapes Go.ChangeAt Go.RowKit
open Go.Proofs.Ytldgadmpclgfhaa.Base Go.Proofs.Ytldgadmpclgfhaa.Mem Go.Proofs.Ytldgadmpclgfhaa.Slots Go.Proofs.Ytldgadmpclgfhaa.Data Go.Proofs.Ytldgadmpclgfhaa.Ints Go.Proofs.Ytldgadmpclgfhaa.Inss Go.Proofs.Ytldgadmpclgfhaa.Ctls Go.Proofs.Ytldgadmpclgfhaa.Exits Go.Proofs.Ytldgadmpclgfhaa.Part
set_option linter.unusedVariables false
set_option linter.unusedSimpArgs false
structure gT where
  prog : List JT
  a : Int
  pc : Int
  wr : List Sl
  lv : List Sl
  t : CT
  pd : Int
  x : QT
  hl : Bool
  seen : List Int
/-- The slices are read only. -/
structure gR (w : World) (lo hi : Nat) (g : gT) (P0 P1 P2 P3 : Value) : Prop where
  r0 : SR w lo hi (jcells g.prog) g.prog.length P0
  r1 : SR w lo hi (scells g.wr) g.wr.length P1
  r2 : SR w lo hi (scells g.lv) g.lv.length P2
  r3 : SR w lo hi (ncells g.seen) g.seen.length P3
/-- .. in memory of their own: no two share a block. -/
structure gO (w : World) (lo hi : Nat) (g : gT) (P0 P1 P2 P3 : Value) : Prop where
  r0 : SO w lo hi (jcells g.prog) g.prog.length P0
  r1 : SO w lo hi (scells g.wr) g.wr.length P1
  r2 : SO w lo hi (scells g.lv) g.lv.length P2
  r3 : SO w lo hi (ncells g.seen) g.seen.length P3
  d01 : ∀ k ∈ bl P0, k ∉ bl P1
  d02 : ∀ k ∈ bl P0, k ∉ bl P2
  d03 : ∀ k ∈ bl P0, k ∉ bl P3
  d12 : ∀ k ∈ bl P1, k ∉ bl P2
  d13 : ∀ k ∈ bl P1, k ∉ bl P3
  d23 : ∀ k ∈ bl P2, k ∉ bl P3
section
variable {w w' : World} {lo hi lo' hi' : Nat} {g : gT} {P0 P1 P2 P3 : Value}
theorem gO.reads (h : gO w lo hi g P0 P1 P2 P3) : gR w lo hi g P0 P1 P2 P3 := ⟨h.r0.reads, h.r1.reads, h.r2.reads, h.r3.reads⟩
theorem gR.kept (h : gR w lo hi g P0 P1 P2 P3) (hb : ∀ k, lo ≤ k → k < hi → w'.heap[k]? = w.heap[k]?) : gR w' lo hi g P0 P1 P2 P3 := ⟨h.r0.kept hb, h.r1.kept hb, h.r2.kept hb, h.r3.kept hb⟩
theorem gR.wide (h : gR w lo hi g P0 P1 P2 P3) (a : lo' ≤ lo) (b : hi ≤ hi') : gR w lo' hi' g P0 P1 P2 P3 := ⟨h.r0.wide a b, h.r1.wide a b, h.r2.wide a b, h.r3.wide a b⟩
theorem gR.below {B : Nat} (h : gR w lo hi g P0 P1 P2 P3) (hb : Below B w w') (hB : hi ≤ B) : gR w' lo hi g P0 P1 P2 P3 := h.kept fun k _ h2 => hb.block k (by omega)
theorem gR.turned {lo2 hi2 : Nat} (h : gR w lo hi g P0 P1 P2 P3) (hb : ∀ k, k < w.heap.size → (k < lo2 ∨ hi2 ≤ k) → w'.heap[k]? = w.heap[k]?) (hh : hi ≤ w.heap.size) (hd : hi ≤ lo2 ∨ hi2 ≤ lo) : gR w' lo hi g P0 P1 P2 P3 := h.kept fun k h1 h2 => hb k (by omega) (by omega)
theorem gO.kept (h : gO w lo hi g P0 P1 P2 P3) (hb : ∀ k, lo ≤ k → k < hi → w'.heap[k]? = w.heap[k]?) : gO w' lo hi g P0 P1 P2 P3 := ⟨h.r0.kept hb, h.r1.kept hb, h.r2.kept hb, h.r3.kept hb, h.d01, h.d02, h.d03, h.d12, h.d13, h.d23⟩
theorem gO.wide (h : gO w lo hi g P0 P1 P2 P3) (a : lo' ≤ lo) (b : hi ≤ hi') : gO w lo' hi' g P0 P1 P2 P3 := ⟨h.r0.wide a b, h.r1.wide a b, h.r2.wide a b, h.r3.wide a b, h.d01, h.d02, h.d03, h.d12, h.d13, h.d23⟩
theorem gO.below {B : Nat} (h : gO w lo hi g P0 P1 P2 P3) (hb : Below B w w') (hB : hi ≤ B) : gO w' lo hi g P0 P1 P2 P3 := h.kept fun k _ h2 => hb.block k (by omega)
theorem gO.turned {lo2 hi2 : Nat} (h : gO w lo hi g P0 P1 P2 P3) (hb : ∀ k, k < w.heap.size → (k < lo2 ∨ hi2 ≤ k) → w'.heap[k]? = w.heap[k]?) (hh : hi ≤ w.heap.size) (hd : hi ≤ lo2 ∨ hi2 ≤ lo) : gO w' lo hi g P0 P1 P2 P3 := h.kept fun k h1 h2 => hb k (by omega) (by omega)
end
section
variable {w : World} {lo hi : Nat}
end
/-- Every number is of an int's range, every slice of a length that a machine holds. -/
def wfGuest (g : gT) : Prop := (g.prog.length ≤ 9223372036854775807 ∧ wfJL g.prog) ∧ (Lit.int .i64 g.a).wf = true ∧ (Lit.int .i64 g.pc).wf = true ∧ (g.wr.length ≤ 9223372036854775807 ∧ ∀ s ∈ g.wr, (Lit.int .i64 s.1).wf = true ∧ (Lit.int .i64 s.2).wf = true) ∧ (g.lv.length ≤ 9223372036854775807 ∧ ∀ s ∈ g.lv, (Lit.int .i64 s.1).wf = true ∧ (Lit.int .i64 s.2).wf = true) ∧ wfC g.t ∧ (Lit.int .i64 g.pd).wf = true ∧ wfQ g.x ∧ True ∧ (g.seen.length ≤ 9223372036854775807 ∧ ∀ s ∈ g.seen, (Lit.int .i64 s).wf = true)
section
variable {H : Type} {enc : TypeId × Value → H}
end
end Go.Proofs.Ytldgadmpclgfhaa.Guests
namespace Go.Proofs.Ytldgadmpclgfhaa.Guests
set_option maxRecDepth 100000
open Go.ChangeShapes Go.WideShapes Go.ChangeAt Go.RowKit
open Go.Proofs.Ytldgadmpclgfhaa.Base Go.Proofs.Ytldgadmpclgfhaa.Mem Go.Proofs.Ytldgadmpclgfhaa.Data Go.Proofs.Ytldgadmpclgfhaa.Ctls Go.Proofs.Ytldgadmpclgfhaa.Exits Go.Proofs.Ytldgadmpclgfhaa.Stt
set_option linter.unusedVariables false
set_option linter.unusedSimpArgs false
/-- How a gT lies in memory. -/
def rG : Rp gT := rVia (rPair ((rLst 111 (rPair rInt rInt))) (rPair rInt (rPair rInt (rPair ((rLsw (rPair rInt rInt))) (rPair ((rLsw (rPair rInt rInt))) (rPair rCtl (rPair rInt (rPair rExit (rPair rBool ((rLst 3 rInt))))))))))) (fun g => (g.prog, g.a, g.pc, g.wr, g.lv, g.t, g.pd, g.x, g.hl, g.seen)) (fun k => ⟨k.1, k.2.1, k.2.2.1, k.2.2.2.1, k.2.2.2.2.1, k.2.2.2.2.2.1, k.2.2.2.2.2.2.1, k.2.2.2.2.2.2.2.1, k.2.2.2.2.2.2.2.2.1, k.2.2.2.2.2.2.2.2.2⟩)
theorem rG_len {g : gT} (h : rG.cap g) : g.prog.length ≤ 1048576 ∧ g.wr.length ≤ 1048576 ∧ g.lv.length ≤ 1048576 ∧ g.seen.length ≤ 1048576 := ⟨h.1.1, h.2.2.2.1.1, h.2.2.2.2.1.1, h.2.2.2.2.2.2.2.2.2.1⟩
theorem rG_rd {w : World} {lo hi : Nat} {g : gT} {cs : List Value} (h : rG.rd w lo hi g cs) : ∃ P0 P1 P2 P3, cs = [P0, .int .i64 g.a, .int .i64 g.pc, P1, P2, .int .i64 g.t.1, .int .i64 g.t.2.1, .bool g.t.2.2, .int .i64 g.pd, .int .i64 g.x.1, .int .i64 g.x.2.1, .bool g.x.2.2.1, .int .i64 g.x.2.2.2, .bool g.hl, P3] ∧ ((rLst 111 (rPair rInt rInt))).rd w lo hi g.prog [P0] ∧ ((rLsw (rPair rInt rInt))).rd w lo hi g.wr [P1] ∧ ((rLsw (rPair rInt rInt))).rd w lo hi g.lv [P2] ∧ ((rLst 3 rInt)).rd w lo hi g.seen [P3] := by
  obtain ⟨c0, s0, rfl, h0, g0⟩ := h
  obtain ⟨P0, rfl⟩ := lst_rd h0
  obtain ⟨c1, s1, rfl, h1, g1⟩ := g0
  obtain rfl := show _ = _ from h1
  obtain ⟨c2, s2, rfl, h2, g2⟩ := g1
  obtain rfl := show _ = _ from h2
  obtain ⟨c3, s3, rfl, h3, g3⟩ := g2
  obtain ⟨P1, rfl⟩ := lst_rd h3
  obtain ⟨c4, s4, rfl, h4, g4⟩ := g3
  obtain ⟨P2, rfl⟩ := lst_rd h4
  obtain ⟨c5, s5, rfl, h5, g5⟩ := g4
  obtain ⟨u5_0, v5_0, rfl, x5_0, q5_0⟩ := h5
  obtain rfl := show _ = _ from x5_0
  obtain ⟨u5_1, v5_1, rfl, x5_1, q5_1⟩ := q5_0
  obtain rfl := show _ = _ from x5_1
  obtain rfl := show _ = _ from q5_1
  obtain ⟨c6, s6, rfl, h6, g6⟩ := g5
  obtain rfl := show _ = _ from h6
  obtain ⟨c7, s7, rfl, h7, g7⟩ := g6
  obtain ⟨u7_0, v7_0, rfl, x7_0, q7_0⟩ := h7
  obtain rfl := show _ = _ from x7_0
  obtain ⟨u7_1, v7_1, rfl, x7_1, q7_1⟩ := q7_0
  obtain rfl := show _ = _ from x7_1
  obtain ⟨u7_2, v7_2, rfl, x7_2, q7_2⟩ := q7_1
  obtain rfl := show _ = _ from x7_2
  obtain rfl := show _ = _ from q7_2
  obtain ⟨c8, s8, rfl, h8, g8⟩ := g7
  obtain rfl := show _ = _ from h8
  obtain ⟨P3, rfl⟩ := lst_rd g8
  exact ⟨P0, P1, P2, P3, by simp, h0, h3, h4, g8⟩
end Go.Proofs.Ytldgadmpclgfhaa.Guests
namespace Go.Proofs.Ytldgadmpclgfhaa.Kit
set_option maxRecDepth 100000
open Go.ChangeShapes Go.WideShapes Go.ChangeAt Go.RowKit Go.Deep
open Go.Proofs.Ytldgadmpclgfhaa.Base Go.Proofs.Ytldgadmpclgfhaa.Mem Go.Proofs.Ytldgadmpclgfhaa.Data Go.Proofs.Ytldgadmpclgfhaa.Stt Go.Proofs.Ytldgadmpclgfhaa.Guests Go.Proofs.Ytldgadmpclgfhaa.Ctls Go.Proofs.Ytldgadmpclgfhaa.Exits
set_option linter.unusedVariables false
set_option linter.unusedSimpArgs false
set_option maxRecDepth 100000 in
set_option maxHeartbeats 4000000 in
theorem keq_Ctl (x : CT) (w : World)  : Calls Try.prog 71 #[.agg #[.int .i64 x.1, .int .i64 x.2.1, .bool x.2.2], .agg #[.int .i64 x.1, .int .i64 x.2.1, .bool x.2.2]] w (fun e w' => e = .returned (.bool true) ∧ Below w.heap.size w w') := by
  refine Sx.enter (args := [.agg #[.int .i64 x.1, .int .i64 x.2.1, .bool x.2.2], .agg #[.int .i64 x.1, .int .i64 x.2.1, .bool x.2.2]]) Try.func71 rfl Try.ntmps71 rfl ?_
  refine Sx.C.seq ?_
  refine Sx.C.region ?_
  refine Sx.G.box 47 (.tmp 0) [.int .i64 x.1, .int .i64 x.2.1, .bool x.2.2] rfl (by kernel_rfl) (by kernel_rfl) (fun b1 => ?_)
  refine Sx.G.box 47 (.tmp 1) [.int .i64 x.1, .int .i64 x.2.1, .bool x.2.2] rfl (by kernel_rfl) (by kernel_rfl) (fun b2 => ?_)
  refine Sx.G.pure (.bool false) (by kernel_rfl) (fun w => by kernel_rfl) ?_
  refine Sx.G.nil ?_
  refine Sx.E.next ?_
  refine Sx.C.seq ?_
  refine Sx.C.seq ?_
  refine Sx.C.region ?_
  refine Sx.G.pure (.pointer (some ⟨b1, 0, none⟩)) (by kernel_rfl) (fun w => by kernel_rfl) ?_
  refine Sx.G.ld1 3 (.tmp 5) b1 0 1 [.int .i64 x.1, .int .i64 x.2.1, .bool x.2.2] (.int .i64 x.1) rfl (by kernel_rfl) (by kernel_rfl) rfl (by kernel_rfl) (by kernel_rfl) ?_
  refine Sx.G.pure (.pointer (some ⟨b2, 0, none⟩)) (by kernel_rfl) (fun w => by kernel_rfl) ?_
  refine Sx.G.ld1 3 (.tmp 7) b2 0 0 [.int .i64 x.1, .int .i64 x.2.1, .bool x.2.2] (.int .i64 x.1) rfl (by kernel_rfl) (by kernel_rfl) rfl (by kernel_rfl) (by kernel_rfl) ?_
  refine Sx.G.pureq (.bool (x.1 != x.1)) (.bool false) (by kernel_rfl) (fun w => by kernel_rfl) (congrArg Value.bool (bne_self_eq_false _)) ?_
  refine Sx.G.nil ?_
  refine Sx.E.next ?_
  refine Sx.C.no (by kernel_rfl) (by kernel_rfl) ?_
  refine Sx.C.skip ?_
  refine Sx.E.next ?_
  refine Sx.C.seq ?_
  refine Sx.C.seq ?_
  refine Sx.C.region ?_
  refine Sx.G.pure (.pointer (some ⟨b1, 1, none⟩)) (by kernel_rfl) (fun w => by kernel_rfl) ?_
  refine Sx.G.ld1 3 (.tmp 10) b1 1 1 [.int .i64 x.1, .int .i64 x.2.1, .bool x.2.2] (.int .i64 x.2.1) rfl (by kernel_rfl) (by kernel_rfl) rfl (by kernel_rfl) (by kernel_rfl) ?_
  refine Sx.G.pure (.pointer (some ⟨b2, 1, none⟩)) (by kernel_rfl) (fun w => by kernel_rfl) ?_
  refine Sx.G.ld1 3 (.tmp 12) b2 1 0 [.int .i64 x.1, .int .i64 x.2.1, .bool x.2.2] (.int .i64 x.2.1) rfl (by kernel_rfl) (by kernel_rfl) rfl (by kernel_rfl) (by kernel_rfl) ?_
  refine Sx.G.pureq (.bool (x.2.1 != x.2.1)) (.bool false) (by kernel_rfl) (fun w => by kernel_rfl) (congrArg Value.bool (bne_self_eq_false _)) ?_
  refine Sx.G.nil ?_
  refine Sx.E.next ?_
  refine Sx.C.no (by kernel_rfl) (by kernel_rfl) ?_
  refine Sx.C.skip ?_
  refine Sx.E.next ?_
  refine Sx.C.seq ?_
  refine Sx.C.seq ?_
  refine Sx.C.region ?_
  refine Sx.G.pure (.pointer (some ⟨b1, 2, none⟩)) (by kernel_rfl) (fun w => by kernel_rfl) ?_
  refine Sx.G.ld1 4 (.tmp 15) b1 2 1 [.int .i64 x.1, .int .i64 x.2.1, .bool x.2.2] (.bool x.2.2) rfl (by kernel_rfl) (by kernel_rfl) rfl (by kernel_rfl) (by kernel_rfl) ?_
  refine Sx.G.pure (.pointer (some ⟨b2, 2, none⟩)) (by kernel_rfl) (fun w => by kernel_rfl) ?_
  refine Sx.G.ld1 4 (.tmp 17) b2 2 0 [.int .i64 x.1, .int .i64 x.2.1, .bool x.2.2] (.bool x.2.2) rfl (by kernel_rfl) (by kernel_rfl) rfl (by kernel_rfl) (by kernel_rfl) ?_
  refine Sx.G.pureq (.bool (x.2.2 != x.2.2)) (.bool false) (by kernel_rfl) (fun w => by kernel_rfl) (congrArg Value.bool (bne_self_eq_false _)) ?_
  refine Sx.G.nil ?_
  refine Sx.E.next ?_
  refine Sx.C.no (by kernel_rfl) (by kernel_rfl) ?_
  refine Sx.C.skip ?_
  refine Sx.E.next ?_
  refine Sx.C.seq ?_
  refine Sx.C.region ?_
  refine Sx.G.pure (.bool true) (by kernel_rfl) (fun w => by kernel_rfl) ?_
  refine Sx.G.nil ?_
  refine Sx.E.next ?_
  refine Sx.C.ret ?_
  refine Sx.E.ret1 (.bool true) rfl (by kernel_rfl) (fun w S => ?_)
  exact ⟨rfl, S.below⟩
set_option maxRecDepth 100000 in
set_option maxHeartbeats 4000000 in
theorem kto_Ctl (x : CT) (w : World)  : Calls Try.prog 79 #[.agg #[.int .i64 x.1, .int .i64 x.2.1, .bool x.2.2]] w (fun e w' => e = .returned (.agg #[.int .i64 x.1, .int .i64 x.2.1, .bool x.2.2]) ∧ Below w.heap.size w w') := by
  refine Sx.enter (args := [.agg #[.int .i64 x.1, .int .i64 x.2.1, .bool x.2.2]]) Try.func79 rfl Try.ntmps79 rfl ?_
  refine Sx.C.seq ?_
  refine Sx.C.region ?_
  refine Sx.G.box 59 (.tmp 0) [.int .i64 x.1, .int .i64 x.2.1, .bool x.2.2] rfl (by kernel_rfl) (by kernel_rfl) (fun b1 => ?_)
  refine Sx.G.alloc 47 (.agg #[.int .i64 0, .int .i64 0, .bool false]) [.int .i64 0, .int .i64 0, .bool false] rfl (by kernel_rfl) (fun w => by kernel_rfl) (by kernel_rfl) (fun b2 => ?_)
  refine Sx.G.nil ?_
  refine Sx.E.next ?_
  refine Sx.C.seq ?_
  refine Sx.C.region ?_
  refine Sx.G.alloc 47 (.agg #[.int .i64 0, .int .i64 0, .bool false]) [.int .i64 0, .int .i64 0, .bool false] rfl (by kernel_rfl) (fun w => by kernel_rfl) (by kernel_rfl) (fun b3 => ?_)
  refine Sx.G.nil ?_
  refine Sx.E.next ?_
  refine Sx.C.seq ?_
  refine Sx.C.region ?_
  refine Sx.G.pure (.pointer (some ⟨b1, 0, none⟩)) (by kernel_rfl) (fun w => by kernel_rfl) ?_
  refine Sx.G.ld1 3 (.tmp 4) b1 0 2 [.int .i64 x.1, .int .i64 x.2.1, .bool x.2.2] (.int .i64 x.1) rfl (by kernel_rfl) (by kernel_rfl) rfl (by kernel_rfl) (by kernel_rfl) ?_
  refine Sx.G.pure (.pointer (some ⟨b3, 0, none⟩)) (by kernel_rfl) (fun w => by kernel_rfl) ?_
  refine Sx.G.sto 3 (.tmp 6) (.tmp 5) b3 0 0 [.int .i64 0, .int .i64 0, .bool false] [.int .i64 x.1] [.int .i64 x.1, .int .i64 0, .bool false] [vr b3 [.int .i64 x.1, .int .i64 0, .bool false], vr b2 [.int .i64 0, .int .i64 0, .bool false], vr b1 [.int .i64 x.1, .int .i64 x.2.1, .bool x.2.2]] rfl (by kernel_rfl) (by kernel_rfl) (by kernel_rfl) rfl (by kernel_rfl) rfl (by kernel_rfl) (by kernel_rfl) (by kernel_rfl) ?_
  refine Sx.G.nil ?_
  refine Sx.E.next ?_
  refine Sx.C.seq ?_
  refine Sx.C.region ?_
  refine Sx.G.pure (.pointer (some ⟨b1, 1, none⟩)) (by kernel_rfl) (fun w => by kernel_rfl) ?_
  refine Sx.G.ld1 3 (.tmp 7) b1 1 2 [.int .i64 x.1, .int .i64 x.2.1, .bool x.2.2] (.int .i64 x.2.1) rfl (by kernel_rfl) (by kernel_rfl) rfl (by kernel_rfl) (by kernel_rfl) ?_
  refine Sx.G.pure (.pointer (some ⟨b3, 1, none⟩)) (by kernel_rfl) (fun w => by kernel_rfl) ?_
  refine Sx.G.sto 3 (.tmp 9) (.tmp 8) b3 1 0 [.int .i64 x.1, .int .i64 0, .bool false] [.int .i64 x.2.1] [.int .i64 x.1, .int .i64 x.2.1, .bool false] [vr b3 [.int .i64 x.1, .int .i64 x.2.1, .bool false], vr b2 [.int .i64 0, .int .i64 0, .bool false], vr b1 [.int .i64 x.1, .int .i64 x.2.1, .bool x.2.2]] rfl (by kernel_rfl) (by kernel_rfl) (by kernel_rfl) rfl (by kernel_rfl) rfl (by kernel_rfl) (by kernel_rfl) (by kernel_rfl) ?_
  refine Sx.G.nil ?_
  refine Sx.E.next ?_
  refine Sx.C.seq ?_
  refine Sx.C.region ?_
  refine Sx.G.pure (.pointer (some ⟨b1, 2, none⟩)) (by kernel_rfl) (fun w => by kernel_rfl) ?_
  refine Sx.G.ld1 4 (.tmp 10) b1 2 2 [.int .i64 x.1, .int .i64 x.2.1, .bool x.2.2] (.bool x.2.2) rfl (by kernel_rfl) (by kernel_rfl) rfl (by kernel_rfl) (by kernel_rfl) ?_
  refine Sx.G.pure (.pointer (some ⟨b3, 2, none⟩)) (by kernel_rfl) (fun w => by kernel_rfl) ?_
  refine Sx.G.sto 4 (.tmp 12) (.tmp 11) b3 2 0 [.int .i64 x.1, .int .i64 x.2.1, .bool false] [.bool x.2.2] [.int .i64 x.1, .int .i64 x.2.1, .bool x.2.2] [vr b3 [.int .i64 x.1, .int .i64 x.2.1, .bool x.2.2], vr b2 [.int .i64 0, .int .i64 0, .bool false], vr b1 [.int .i64 x.1, .int .i64 x.2.1, .bool x.2.2]] rfl (by kernel_rfl) (by kernel_rfl) (by kernel_rfl) rfl (by kernel_rfl) rfl (by kernel_rfl) (by kernel_rfl) (by kernel_rfl) ?_
  refine Sx.G.nil ?_
  refine Sx.E.next ?_
  refine Sx.C.seq ?_
  refine Sx.C.region ?_
  refine Sx.G.ld 47 (.tmp 3) b3 0 0 [.int .i64 x.1, .int .i64 x.2.1, .bool x.2.2] [.int .i64 x.1, .int .i64 x.2.1, .bool x.2.2] rfl (by kernel_rfl) (by kernel_rfl) rfl (by kernel_rfl) (by kernel_rfl) (by kernel_rfl) ?_
  refine Sx.G.sto 47 (.tmp 2) (.tmp 13) b2 0 1 [.int .i64 0, .int .i64 0, .bool false] [.int .i64 x.1, .int .i64 x.2.1, .bool x.2.2] [.int .i64 x.1, .int .i64 x.2.1, .bool x.2.2] [vr b3 [.int .i64 x.1, .int .i64 x.2.1, .bool x.2.2], vr b2 [.int .i64 x.1, .int .i64 x.2.1, .bool x.2.2], vr b1 [.int .i64 x.1, .int .i64 x.2.1, .bool x.2.2]] rfl (by kernel_rfl) (by kernel_rfl) (by kernel_rfl) rfl (by kernel_rfl) rfl (by kernel_rfl) (by kernel_rfl) (by kernel_rfl) ?_
  refine Sx.G.nil ?_
  refine Sx.E.next ?_
  refine Sx.C.ret ?_
  refine Sx.E.retc b2 1 [.int .i64 x.1, .int .i64 x.2.1, .bool x.2.2] rfl (by kernel_rfl) rfl (by kernel_rfl) (by kernel_rfl) (fun w S => ?_)
  exact ⟨rfl, S.below⟩
set_option maxRecDepth 100000 in
set_option maxHeartbeats 4000000 in
theorem keq_Exit (x : QT) (w : World)  : Calls Try.prog 72 #[.agg #[.int .i64 x.1, .int .i64 x.2.1, .bool x.2.2.1, .int .i64 x.2.2.2], .agg #[.int .i64 x.1, .int .i64 x.2.1, .bool x.2.2.1, .int .i64 x.2.2.2]] w (fun e w' => e = .returned (.bool true) ∧ Below w.heap.size w w') := by
  refine Sx.enter (args := [.agg #[.int .i64 x.1, .int .i64 x.2.1, .bool x.2.2.1, .int .i64 x.2.2.2], .agg #[.int .i64 x.1, .int .i64 x.2.1, .bool x.2.2.1, .int .i64 x.2.2.2]]) Try.func72 rfl Try.ntmps72 rfl ?_
  refine Sx.C.seq ?_
  refine Sx.C.region ?_
  refine Sx.G.box 49 (.tmp 0) [.int .i64 x.1, .int .i64 x.2.1, .bool x.2.2.1, .int .i64 x.2.2.2] rfl (by kernel_rfl) (by kernel_rfl) (fun b1 => ?_)
  refine Sx.G.box 49 (.tmp 1) [.int .i64 x.1, .int .i64 x.2.1, .bool x.2.2.1, .int .i64 x.2.2.2] rfl (by kernel_rfl) (by kernel_rfl) (fun b2 => ?_)
  refine Sx.G.pure (.bool false) (by kernel_rfl) (fun w => by kernel_rfl) ?_
  refine Sx.G.nil ?_
  refine Sx.E.next ?_
  refine Sx.C.seq ?_
  refine Sx.C.seq ?_
  refine Sx.C.region ?_
  refine Sx.G.pure (.pointer (some ⟨b1, 0, none⟩)) (by kernel_rfl) (fun w => by kernel_rfl) ?_
  refine Sx.G.ld1 3 (.tmp 5) b1 0 1 [.int .i64 x.1, .int .i64 x.2.1, .bool x.2.2.1, .int .i64 x.2.2.2] (.int .i64 x.1) rfl (by kernel_rfl) (by kernel_rfl) rfl (by kernel_rfl) (by kernel_rfl) ?_
  refine Sx.G.pure (.pointer (some ⟨b2, 0, none⟩)) (by kernel_rfl) (fun w => by kernel_rfl) ?_
  refine Sx.G.ld1 3 (.tmp 7) b2 0 0 [.int .i64 x.1, .int .i64 x.2.1, .bool x.2.2.1, .int .i64 x.2.2.2] (.int .i64 x.1) rfl (by kernel_rfl) (by kernel_rfl) rfl (by kernel_rfl) (by kernel_rfl) ?_
  refine Sx.G.pureq (.bool (x.1 != x.1)) (.bool false) (by kernel_rfl) (fun w => by kernel_rfl) (congrArg Value.bool (bne_self_eq_false _)) ?_
  refine Sx.G.nil ?_
  refine Sx.E.next ?_
  refine Sx.C.no (by kernel_rfl) (by kernel_rfl) ?_
  refine Sx.C.skip ?_
  refine Sx.E.next ?_
  refine Sx.C.seq ?_
  refine Sx.C.seq ?_
  refine Sx.C.region ?_
  refine Sx.G.pure (.pointer (some ⟨b1, 1, none⟩)) (by kernel_rfl) (fun w => by kernel_rfl) ?_
  refine Sx.G.ld1 3 (.tmp 10) b1 1 1 [.int .i64 x.1, .int .i64 x.2.1, .bool x.2.2.1, .int .i64 x.2.2.2] (.int .i64 x.2.1) rfl (by kernel_rfl) (by kernel_rfl) rfl (by kernel_rfl) (by kernel_rfl) ?_
  refine Sx.G.pure (.pointer (some ⟨b2, 1, none⟩)) (by kernel_rfl) (fun w => by kernel_rfl) ?_
  refine Sx.G.ld1 3 (.tmp 12) b2 1 0 [.int .i64 x.1, .int .i64 x.2.1, .bool x.2.2.1, .int .i64 x.2.2.2] (.int .i64 x.2.1) rfl (by kernel_rfl) (by kernel_rfl) rfl (by kernel_rfl) (by kernel_rfl) ?_
  refine Sx.G.pureq (.bool (x.2.1 != x.2.1)) (.bool false) (by kernel_rfl) (fun w => by kernel_rfl) (congrArg Value.bool (bne_self_eq_false _)) ?_
  refine Sx.G.nil ?_
  refine Sx.E.next ?_
  refine Sx.C.no (by kernel_rfl) (by kernel_rfl) ?_
  refine Sx.C.skip ?_
  refine Sx.E.next ?_
  refine Sx.C.seq ?_
  refine Sx.C.seq ?_
  refine Sx.C.region ?_
  refine Sx.G.pure (.pointer (some ⟨b1, 2, none⟩)) (by kernel_rfl) (fun w => by kernel_rfl) ?_
  refine Sx.G.ld1 4 (.tmp 15) b1 2 1 [.int .i64 x.1, .int .i64 x.2.1, .bool x.2.2.1, .int .i64 x.2.2.2] (.bool x.2.2.1) rfl (by kernel_rfl) (by kernel_rfl) rfl (by kernel_rfl) (by kernel_rfl) ?_
  refine Sx.G.pure (.pointer (some ⟨b2, 2, none⟩)) (by kernel_rfl) (fun w => by kernel_rfl) ?_
  refine Sx.G.ld1 4 (.tmp 17) b2 2 0 [.int .i64 x.1, .int .i64 x.2.1, .bool x.2.2.1, .int .i64 x.2.2.2] (.bool x.2.2.1) rfl (by kernel_rfl) (by kernel_rfl) rfl (by kernel_rfl) (by kernel_rfl) ?_
  refine Sx.G.pureq (.bool (x.2.2.1 != x.2.2.1)) (.bool false) (by kernel_rfl) (fun w => by kernel_rfl) (congrArg Value.bool (bne_self_eq_false _)) ?_
  refine Sx.G.nil ?_
  refine Sx.E.next ?_
  refine Sx.C.no (by kernel_rfl) (by kernel_rfl) ?_
  refine Sx.C.skip ?_
  refine Sx.E.next ?_
  refine Sx.C.seq ?_
  refine Sx.C.seq ?_
  refine Sx.C.region ?_
  refine Sx.G.pure (.pointer (some ⟨b1, 3, none⟩)) (by kernel_rfl) (fun w => by kernel_rfl) ?_
  refine Sx.G.ld1 3 (.tmp 20) b1 3 1 [.int .i64 x.1, .int .i64 x.2.1, .bool x.2.2.1, .int .i64 x.2.2.2] (.int .i64 x.2.2.2) rfl (by kernel_rfl) (by kernel_rfl) rfl (by kernel_rfl) (by kernel_rfl) ?_
  refine Sx.G.pure (.pointer (some ⟨b2, 3, none⟩)) (by kernel_rfl) (fun w => by kernel_rfl) ?_
  refine Sx.G.ld1 3 (.tmp 22) b2 3 0 [.int .i64 x.1, .int .i64 x.2.1, .bool x.2.2.1, .int .i64 x.2.2.2] (.int .i64 x.2.2.2) rfl (by kernel_rfl) (by kernel_rfl) rfl (by kernel_rfl) (by kernel_rfl) ?_
  refine Sx.G.pureq (.bool (x.2.2.2 != x.2.2.2)) (.bool false) (by kernel_rfl) (fun w => by kernel_rfl) (congrArg Value.bool (bne_self_eq_false _)) ?_
  refine Sx.G.nil ?_
  refine Sx.E.next ?_
  refine Sx.C.no (by kernel_rfl) (by kernel_rfl) ?_
  refine Sx.C.skip ?_
  refine Sx.E.next ?_
  refine Sx.C.seq ?_
  refine Sx.C.region ?_
  refine Sx.G.pure (.bool true) (by kernel_rfl) (fun w => by kernel_rfl) ?_
  refine Sx.G.nil ?_
  refine Sx.E.next ?_
  refine Sx.C.ret ?_
  refine Sx.E.ret1 (.bool true) rfl (by kernel_rfl) (fun w S => ?_)
  exact ⟨rfl, S.below⟩
set_option maxRecDepth 100000 in
set_option maxHeartbeats 4000000 in
theorem kto_Exit (x : QT) (w : World)  : Calls Try.prog 80 #[.agg #[.int .i64 x.1, .int .i64 x.2.1, .bool x.2.2.1, .int .i64 x.2.2.2]] w (fun e w' => e = .returned (.agg #[.int .i64 x.1, .int .i64 x.2.1, .bool x.2.2.1, .int .i64 x.2.2.2]) ∧ Below w.heap.size w w') := by
  refine Sx.enter (args := [.agg #[.int .i64 x.1, .int .i64 x.2.1, .bool x.2.2.1, .int .i64 x.2.2.2]]) Try.func80 rfl Try.ntmps80 rfl ?_
  refine Sx.C.seq ?_
  refine Sx.C.region ?_
  refine Sx.G.box 60 (.tmp 0) [.int .i64 x.1, .int .i64 x.2.1, .bool x.2.2.1, .int .i64 x.2.2.2] rfl (by kernel_rfl) (by kernel_rfl) (fun b1 => ?_)
  refine Sx.G.alloc 49 (.agg #[.int .i64 0, .int .i64 0, .bool false, .int .i64 0]) [.int .i64 0, .int .i64 0, .bool false, .int .i64 0] rfl (by kernel_rfl) (fun w => by kernel_rfl) (by kernel_rfl) (fun b2 => ?_)
  refine Sx.G.nil ?_
  refine Sx.E.next ?_
  refine Sx.C.seq ?_
  refine Sx.C.region ?_
  refine Sx.G.alloc 49 (.agg #[.int .i64 0, .int .i64 0, .bool false, .int .i64 0]) [.int .i64 0, .int .i64 0, .bool false, .int .i64 0] rfl (by kernel_rfl) (fun w => by kernel_rfl) (by kernel_rfl) (fun b3 => ?_)
  refine Sx.G.nil ?_
  refine Sx.E.next ?_
  refine Sx.C.seq ?_
  refine Sx.C.region ?_
  refine Sx.G.pure (.pointer (some ⟨b1, 0, none⟩)) (by kernel_rfl) (fun w => by kernel_rfl) ?_
  refine Sx.G.ld1 3 (.tmp 4) b1 0 2 [.int .i64 x.1, .int .i64 x.2.1, .bool x.2.2.1, .int .i64 x.2.2.2] (.int .i64 x.1) rfl (by kernel_rfl) (by kernel_rfl) rfl (by kernel_rfl) (by kernel_rfl) ?_
  refine Sx.G.pure (.pointer (some ⟨b3, 0, none⟩)) (by kernel_rfl) (fun w => by kernel_rfl) ?_
  refine Sx.G.sto 3 (.tmp 6) (.tmp 5) b3 0 0 [.int .i64 0, .int .i64 0, .bool false, .int .i64 0] [.int .i64 x.1] [.int .i64 x.1, .int .i64 0, .bool false, .int .i64 0] [vr b3 [.int .i64 x.1, .int .i64 0, .bool false, .int .i64 0], vr b2 [.int .i64 0, .int .i64 0, .bool false, .int .i64 0], vr b1 [.int .i64 x.1, .int .i64 x.2.1, .bool x.2.2.1, .int .i64 x.2.2.2]] rfl (by kernel_rfl) (by kernel_rfl) (by kernel_rfl) rfl (by kernel_rfl) rfl (by kernel_rfl) (by kernel_rfl) (by kernel_rfl) ?_
  refine Sx.G.nil ?_
  refine Sx.E.next ?_
  refine Sx.C.seq ?_
  refine Sx.C.region ?_
  refine Sx.G.pure (.pointer (some ⟨b1, 1, none⟩)) (by kernel_rfl) (fun w => by kernel_rfl) ?_
  refine Sx.G.ld1 3 (.tmp 7) b1 1 2 [.int .i64 x.1, .int .i64 x.2.1, .bool x.2.2.1, .int .i64 x.2.2.2] (.int .i64 x.2.1) rfl (by kernel_rfl) (by kernel_rfl) rfl (by kernel_rfl) (by kernel_rfl) ?_
  refine Sx.G.pure (.pointer (some ⟨b3, 1, none⟩)) (by kernel_rfl) (fun w => by kernel_rfl) ?_
  refine Sx.G.sto 3 (.tmp 9) (.tmp 8) b3 1 0 [.int .i64 x.1, .int .i64 0, .bool false, .int .i64 0] [.int .i64 x.2.1] [.int .i64 x.1, .int .i64 x.2.1, .bool false, .int .i64 0] [vr b3 [.int .i64 x.1, .int .i64 x.2.1, .bool false, .int .i64 0], vr b2 [.int .i64 0, .int .i64 0, .bool false, .int .i64 0], vr b1 [.int .i64 x.1, .int .i64 x.2.1, .bool x.2.2.1, .int .i64 x.2.2.2]] rfl (by kernel_rfl) (by kernel_rfl) (by kernel_rfl) rfl (by kernel_rfl) rfl (by kernel_rfl) (by kernel_rfl) (by kernel_rfl) ?_
  refine Sx.G.nil ?_
  refine Sx.E.next ?_
  refine Sx.C.seq ?_
  refine Sx.C.region ?_
  refine Sx.G.pure (.pointer (some ⟨b1, 2, none⟩)) (by kernel_rfl) (fun w => by kernel_rfl) ?_
  refine Sx.G.ld1 4 (.tmp 10) b1 2 2 [.int .i64 x.1, .int .i64 x.2.1, .bool x.2.2.1, .int .i64 x.2.2.2] (.bool x.2.2.1) rfl (by kernel_rfl) (by kernel_rfl) rfl (by kernel_rfl) (by kernel_rfl) ?_
  refine Sx.G.pure (.pointer (some ⟨b3, 2, none⟩)) (by kernel_rfl) (fun w => by kernel_rfl) ?_
  refine Sx.G.sto 4 (.tmp 12) (.tmp 11) b3 2 0 [.int .i64 x.1, .int .i64 x.2.1, .bool false, .int .i64 0] [.bool x.2.2.1] [.int .i64 x.1, .int .i64 x.2.1, .bool x.2.2.1, .int .i64 0] [vr b3 [.int .i64 x.1, .int .i64 x.2.1, .bool x.2.2.1, .int .i64 0], vr b2 [.int .i64 0, .int .i64 0, .bool false, .int .i64 0], vr b1 [.int .i64 x.1, .int .i64 x.2.1, .bool x.2.2.1, .int .i64 x.2.2.2]] rfl (by kernel_rfl) (by kernel_rfl) (by kernel_rfl) rfl (by kernel_rfl) rfl (by kernel_rfl) (by kernel_rfl) (by kernel_rfl) ?_
  refine Sx.G.nil ?_
  refine Sx.E.next ?_
  refine Sx.C.seq ?_
  refine Sx.C.region ?_
  refine Sx.G.pure (.pointer (some ⟨b1, 3, none⟩)) (by kernel_rfl) (fun w => by kernel_rfl) ?_
  refine Sx.G.ld1 3 (.tmp 13) b1 3 2 [.int .i64 x.1, .int .i64 x.2.1, .bool x.2.2.1, .int .i64 x.2.2.2] (.int .i64 x.2.2.2) rfl (by kernel_rfl) (by kernel_rfl) rfl (by kernel_rfl) (by kernel_rfl) ?_
  refine Sx.G.pure (.pointer (some ⟨b3, 3, none⟩)) (by kernel_rfl) (fun w => by kernel_rfl) ?_
  refine Sx.G.sto 3 (.tmp 15) (.tmp 14) b3 3 0 [.int .i64 x.1, .int .i64 x.2.1, .bool x.2.2.1, .int .i64 0] [.int .i64 x.2.2.2] [.int .i64 x.1, .int .i64 x.2.1, .bool x.2.2.1, .int .i64 x.2.2.2] [vr b3 [.int .i64 x.1, .int .i64 x.2.1, .bool x.2.2.1, .int .i64 x.2.2.2], vr b2 [.int .i64 0, .int .i64 0, .bool false, .int .i64 0], vr b1 [.int .i64 x.1, .int .i64 x.2.1, .bool x.2.2.1, .int .i64 x.2.2.2]] rfl (by kernel_rfl) (by kernel_rfl) (by kernel_rfl) rfl (by kernel_rfl) rfl (by kernel_rfl) (by kernel_rfl) (by kernel_rfl) ?_
  refine Sx.G.nil ?_
  refine Sx.E.next ?_
  refine Sx.C.seq ?_
  refine Sx.C.region ?_
  refine Sx.G.ld 49 (.tmp 3) b3 0 0 [.int .i64 x.1, .int .i64 x.2.1, .bool x.2.2.1, .int .i64 x.2.2.2] [.int .i64 x.1, .int .i64 x.2.1, .bool x.2.2.1, .int .i64 x.2.2.2] rfl (by kernel_rfl) (by kernel_rfl) rfl (by kernel_rfl) (by kernel_rfl) (by kernel_rfl) ?_
  refine Sx.G.sto 49 (.tmp 2) (.tmp 16) b2 0 1 [.int .i64 0, .int .i64 0, .bool false, .int .i64 0] [.int .i64 x.1, .int .i64 x.2.1, .bool x.2.2.1, .int .i64 x.2.2.2] [.int .i64 x.1, .int .i64 x.2.1, .bool x.2.2.1, .int .i64 x.2.2.2] [vr b3 [.int .i64 x.1, .int .i64 x.2.1, .bool x.2.2.1, .int .i64 x.2.2.2], vr b2 [.int .i64 x.1, .int .i64 x.2.1, .bool x.2.2.1, .int .i64 x.2.2.2], vr b1 [.int .i64 x.1, .int .i64 x.2.1, .bool x.2.2.1, .int .i64 x.2.2.2]] rfl (by kernel_rfl) (by kernel_rfl) (by kernel_rfl) rfl (by kernel_rfl) rfl (by kernel_rfl) (by kernel_rfl) (by kernel_rfl) ?_
  refine Sx.G.nil ?_
  refine Sx.E.next ?_
  refine Sx.C.ret ?_
  refine Sx.E.retc b2 1 [.int .i64 x.1, .int .i64 x.2.1, .bool x.2.2.1, .int .i64 x.2.2.2] rfl (by kernel_rfl) rfl (by kernel_rfl) (by kernel_rfl) (fun w S => ?_)
  exact ⟨rfl, S.below⟩
/-- How a gT lies in memory. -/
def wG : Rp gT := rVia (rPair ((rLsw (rPair rInt rInt))) (rPair rInt (rPair rInt (rPair ((rLsw (rPair rInt rInt))) (rPair ((rLsw (rPair rInt rInt))) (rPair rCtl (rPair rInt (rPair rExit (rPair rBool ((rLsw rInt))))))))))) (fun g => (g.prog, g.a, g.pc, g.wr, g.lv, g.t, g.pd, g.x, g.hl, g.seen)) (fun k => ⟨k.1, k.2.1, k.2.2.1, k.2.2.2.1, k.2.2.2.2.1, k.2.2.2.2.2.1, k.2.2.2.2.2.2.1, k.2.2.2.2.2.2.2.1, k.2.2.2.2.2.2.2.2.1, k.2.2.2.2.2.2.2.2.2⟩)
theorem wG_rd {w : World} {lo hi : Nat} {g : gT} {cs : List Value} (h : wG.rd w lo hi g cs) : ∃ P0 P1 P2 P3, cs = [P0, .int .i64 g.a, .int .i64 g.pc, P1, P2, .int .i64 g.t.1, .int .i64 g.t.2.1, .bool g.t.2.2, .int .i64 g.pd, .int .i64 g.x.1, .int .i64 g.x.2.1, .bool g.x.2.2.1, .int .i64 g.x.2.2.2, .bool g.hl, P3] ∧ ((rLsw (rPair rInt rInt))).rd w lo hi g.prog [P0] ∧ ((rLsw (rPair rInt rInt))).rd w lo hi g.wr [P1] ∧ ((rLsw (rPair rInt rInt))).rd w lo hi g.lv [P2] ∧ ((rLsw rInt)).rd w lo hi g.seen [P3] := by
  obtain ⟨c0, s0, rfl, h0, g0⟩ := h
  obtain ⟨P0, rfl⟩ := lst_rd h0
  obtain ⟨c1, s1, rfl, h1, g1⟩ := g0
  obtain rfl := show _ = _ from h1
  obtain ⟨c2, s2, rfl, h2, g2⟩ := g1
  obtain rfl := show _ = _ from h2
  obtain ⟨c3, s3, rfl, h3, g3⟩ := g2
  obtain ⟨P1, rfl⟩ := lst_rd h3
  obtain ⟨c4, s4, rfl, h4, g4⟩ := g3
  obtain ⟨P2, rfl⟩ := lst_rd h4
  obtain ⟨c5, s5, rfl, h5, g5⟩ := g4
  obtain ⟨u5_0, v5_0, rfl, x5_0, q5_0⟩ := h5
  obtain rfl := show _ = _ from x5_0
  obtain ⟨u5_1, v5_1, rfl, x5_1, q5_1⟩ := q5_0
  obtain rfl := show _ = _ from x5_1
  obtain rfl := show _ = _ from q5_1
  obtain ⟨c6, s6, rfl, h6, g6⟩ := g5
  obtain rfl := show _ = _ from h6
  obtain ⟨c7, s7, rfl, h7, g7⟩ := g6
  obtain ⟨u7_0, v7_0, rfl, x7_0, q7_0⟩ := h7
  obtain rfl := show _ = _ from x7_0
  obtain ⟨u7_1, v7_1, rfl, x7_1, q7_1⟩ := q7_0
  obtain rfl := show _ = _ from x7_1
  obtain ⟨u7_2, v7_2, rfl, x7_2, q7_2⟩ := q7_1
  obtain rfl := show _ = _ from x7_2
  obtain rfl := show _ = _ from q7_2
  obtain ⟨c8, s8, rfl, h8, g8⟩ := g7
  obtain rfl := show _ = _ from h8
  obtain ⟨P3, rfl⟩ := lst_rd g8
  exact ⟨P0, P1, P2, P3, by simp, h0, h3, h4, g8⟩
theorem wG_own {w : World} {lo hi : Nat} {g : gT} {cs : List Value} {F : List Nat} (h : wG.own w lo hi g cs F) : ∃ P0 P1 P2 P3 F0 F1 F2 F3, cs = [P0, .int .i64 g.a, .int .i64 g.pc, P1, P2, .int .i64 g.t.1, .int .i64 g.t.2.1, .bool g.t.2.2, .int .i64 g.pd, .int .i64 g.x.1, .int .i64 g.x.2.1, .bool g.x.2.2.1, .int .i64 g.x.2.2.2, .bool g.hl, P3] ∧ F = F0 ++ (F1 ++ (F2 ++ F3)) ∧ ((rLsw (rPair rInt rInt))).own w lo hi g.prog [P0] F0 ∧ ((rLsw (rPair rInt rInt))).own w lo hi g.wr [P1] F1 ∧ ((rLsw (rPair rInt rInt))).own w lo hi g.lv [P2] F2 ∧ ((rLsw rInt)).own w lo hi g.seen [P3] F3 := by
  obtain ⟨c0, s0, G0, H0, rfl, rfl, h0, g0⟩ := h
  obtain ⟨P0, rfl⟩ := lsw_own h0
  obtain ⟨c1, s1, G1, H1, rfl, rfl, h1, g1⟩ := g0
  obtain ⟨rfl, rfl⟩ := h1
  obtain ⟨c2, s2, G2, H2, rfl, rfl, h2, g2⟩ := g1
  obtain ⟨rfl, rfl⟩ := h2
  obtain ⟨c3, s3, G3, H3, rfl, rfl, h3, g3⟩ := g2
  obtain ⟨P1, rfl⟩ := lsw_own h3
  obtain ⟨c4, s4, G4, H4, rfl, rfl, h4, g4⟩ := g3
  obtain ⟨P2, rfl⟩ := lsw_own h4
  obtain ⟨c5, s5, G5, H5, rfl, rfl, h5, g5⟩ := g4
  obtain ⟨u5_0, v5_0, U5_0, V5_0, rfl, rfl, ⟨rfl, rfl⟩, q5_0⟩ := h5
  obtain ⟨u5_1, v5_1, U5_1, V5_1, rfl, rfl, ⟨rfl, rfl⟩, q5_1⟩ := q5_0
  obtain ⟨rfl, rfl⟩ := q5_1
  obtain ⟨c6, s6, G6, H6, rfl, rfl, h6, g6⟩ := g5
  obtain ⟨rfl, rfl⟩ := h6
  obtain ⟨c7, s7, G7, H7, rfl, rfl, h7, g7⟩ := g6
  obtain ⟨u7_0, v7_0, U7_0, V7_0, rfl, rfl, ⟨rfl, rfl⟩, q7_0⟩ := h7
  obtain ⟨u7_1, v7_1, U7_1, V7_1, rfl, rfl, ⟨rfl, rfl⟩, q7_1⟩ := q7_0
  obtain ⟨u7_2, v7_2, U7_2, V7_2, rfl, rfl, ⟨rfl, rfl⟩, q7_2⟩ := q7_1
  obtain ⟨rfl, rfl⟩ := q7_2
  obtain ⟨c8, s8, G8, H8, rfl, rfl, h8, g8⟩ := g7
  obtain ⟨rfl, rfl⟩ := h8
  obtain ⟨P3, rfl⟩ := lsw_own g8
  exact ⟨P0, P1, P2, P3, G0, G3, G4, H8, by simp, by simp, h0, h3, h4, g8⟩
theorem wG_own_mk {w : World} {lo hi : Nat} {g : gT} {P0 P1 P2 P3 : Value} {F0 F1 F2 F3 : List Nat} (h0 : ((rLsw (rPair rInt rInt))).own w lo hi g.prog [P0] F0) (h1 : ((rLsw (rPair rInt rInt))).own w lo hi g.wr [P1] F1) (h2 : ((rLsw (rPair rInt rInt))).own w lo hi g.lv [P2] F2) (h3 : ((rLsw rInt)).own w lo hi g.seen [P3] F3) : wG.own w lo hi g [P0, .int .i64 g.a, .int .i64 g.pc, P1, P2, .int .i64 g.t.1, .int .i64 g.t.2.1, .bool g.t.2.2, .int .i64 g.pd, .int .i64 g.x.1, .int .i64 g.x.2.1, .bool g.x.2.2.1, .int .i64 g.x.2.2.2, .bool g.hl, P3] (F0 ++ (F1 ++ (F2 ++ F3))) := by
  have h : wG.own w lo hi g [P0, .int .i64 g.a, .int .i64 g.pc, P1, P2, .int .i64 g.t.1, .int .i64 g.t.2.1, .bool g.t.2.2, .int .i64 g.pd, .int .i64 g.x.1, .int .i64 g.x.2.1, .bool g.x.2.2.1, .int .i64 g.x.2.2.2, .bool g.hl, P3] _ := ⟨[_], _, F0, _, rfl, rfl, h0, ⟨[_], _, [], _, rfl, rfl, ⟨rfl, rfl⟩, ⟨[_], _, [], _, rfl, rfl, ⟨rfl, rfl⟩, ⟨[_], _, F1, _, rfl, rfl, h1, ⟨[_], _, F2, _, rfl, rfl, h2, ⟨[_, _, _], _, [], _, rfl, rfl, ⟨[_], _, [], [], rfl, rfl, ⟨rfl, rfl⟩, ⟨[_], _, [], [], rfl, rfl, ⟨rfl, rfl⟩, ⟨rfl, rfl⟩⟩⟩, ⟨[_], _, [], _, rfl, rfl, ⟨rfl, rfl⟩, ⟨[_, _, _, _], _, [], _, rfl, rfl, ⟨[_], _, [], [], rfl, rfl, ⟨rfl, rfl⟩, ⟨[_], _, [], [], rfl, rfl, ⟨rfl, rfl⟩, ⟨[_], _, [], [], rfl, rfl, ⟨rfl, rfl⟩, ⟨rfl, rfl⟩⟩⟩⟩, ⟨[_], _, [], _, rfl, rfl, ⟨rfl, rfl⟩, h3⟩⟩⟩⟩⟩⟩⟩⟩⟩
  simpa using h
theorem wG_shut {w0 w : World} {g : gT} {L : List Res} {P0 P1 P2 P3 : Value} {F0 F1 F2 F3 : List Nat} {l0 k0 l1 k1 l2 k2 l3 k3 : Nat} (S : St w0 w L) (i0 : Nat) (e0 : L[i0]? = some (ow (rLsw (rPair rInt rInt)) l0 k0 g.prog [P0] F0)) (i1 : Nat) (e1 : L[i1]? = some (ow (rLsw (rPair rInt rInt)) l1 k1 g.wr [P1] F1)) (i2 : Nat) (e2 : L[i2]? = some (ow (rLsw (rPair rInt rInt)) l2 k2 g.lv [P2] F2)) (i3 : Nat) (e3 : L[i3]? = some (ow (rLsw rInt) l3 k3 g.seen [P3] F3)) (n01 : i0 ≠ i1) (n02 : i0 ≠ i2) (n03 : i0 ≠ i3) (n12 : i1 ≠ i2) (n13 : i1 ≠ i3) (n23 : i2 ≠ i3) : wG.own w w0.heap.size w.heap.size g [P0, .int .i64 g.a, .int .i64 g.pc, P1, P2, .int .i64 g.t.1, .int .i64 g.t.2.1, .bool g.t.2.2, .int .i64 g.pd, .int .i64 g.x.1, .int .i64 g.x.2.1, .bool g.x.2.2.1, .int .i64 g.x.2.2.2, .bool g.hl, P3] (F0 ++ (F1 ++ (F2 ++ F3))) ∧ (F0 ++ (F1 ++ (F2 ++ F3))).Nodup := by
  refine ⟨wG_own_mk (S.own i0 e0) (S.own i1 e1) (S.own i2 e2) (S.own i3 e3), ?_⟩
  exact (nodup_app (S.nodup i0 e0) (nodup_app (S.nodup i1 e1) (nodup_app (S.nodup i2 e2) (S.nodup i3 e3) (fun k hk => (S.disj i2 i3 e2 e3 n23 k hk))) (fun k hk => (not_app (S.disj i1 i2 e1 e2 n12 k hk) (S.disj i1 i3 e1 e3 n13 k hk)))) (fun k hk => (not_app (S.disj i0 i1 e0 e1 n01 k hk) (not_app (S.disj i0 i2 e0 e2 n02 k hk) (S.disj i0 i3 e0 e3 n03 k hk)))))
theorem wG_open2 {w0 w : World} {lo hi : Nat} {g : gT} {cs : List Value} {F : List Nat} {T : List Res} (S : St w0 w (ow wG lo hi g cs F :: T)) : ∃ P0 P1 P2 P3 F0 F1 F2 F3, cs = [P0, .int .i64 g.a, .int .i64 g.pc, P1, P2, .int .i64 g.t.1, .int .i64 g.t.2.1, .bool g.t.2.2, .int .i64 g.pd, .int .i64 g.x.1, .int .i64 g.x.2.1, .bool g.x.2.2.1, .int .i64 g.x.2.2.2, .bool g.hl, P3] ∧ F = F0 ++ (F1 ++ (F2 ++ F3)) ∧ St w0 w (ow (rLsw (rPair rInt rInt)) lo hi g.prog [P0] F0 :: ow (rLsw (rPair rInt rInt)) lo hi g.wr [P1] F1 :: ow (rLsw (rPair rInt rInt)) lo hi g.lv [P2] F2 :: ow (rLsw rInt) lo hi g.seen [P3] F3 :: T) := by
  obtain ⟨hown, hnd⟩ := S.at_ 0 rfl
  have hl := S.lo 0 _ rfl
  have hh := S.hi 0 _ rfl
  obtain ⟨P0, P1, P2, P3, F0, F1, F2, F3, rfl, rfl, q0, q1, q2, q3⟩ := wG_own hown
  obtain ⟨m0, n0, d0⟩ := List.nodup_append.1 hnd
  obtain ⟨m1, n1, d1⟩ := List.nodup_append.1 n0
  obtain ⟨m2, n2, d2⟩ := List.nodup_append.1 n1
  have m3 := n2
  refine ⟨P0, P1, P2, P3, F0, F1, F2, F3, rfl, rfl, S.parts [ow (rLsw (rPair rInt rInt)) lo hi g.prog [P0] F0, ow (rLsw (rPair rInt rInt)) lo hi g.wr [P1] F1, ow (rLsw (rPair rInt rInt)) lo hi g.lv [P2] F2, ow (rLsw rInt) lo hi g.seen [P3] F3] ?_ ?_⟩
  · intro s hs
    simp only [List.mem_cons, List.not_mem_nil, or_false] at hs
    rcases hs with rfl | rfl | rfl | rfl
    · exact ⟨⟨q0, m0⟩, fun k hk => ⟨by simp [hk.1], hk.2⟩, hl, hh⟩
    · exact ⟨⟨q1, m1⟩, fun k hk => ⟨by simp [hk.1], hk.2⟩, hl, hh⟩
    · exact ⟨⟨q2, m2⟩, fun k hk => ⟨by simp [hk.1], hk.2⟩, hl, hh⟩
    · exact ⟨⟨q3, m3⟩, fun k hk => ⟨by simp [hk.1], hk.2⟩, hl, hh⟩
  · simp only [List.pairwise_cons, List.mem_cons, List.not_mem_nil, or_false, forall_eq_or_imp, forall_eq, List.Pairwise.nil, and_true, false_implies, implies_true, ow]
    exact ⟨⟨(fun k hk hk' => d0 k hk.1 k (by simp [hk'.1]) rfl), (fun k hk hk' => d0 k hk.1 k (by simp [hk'.1]) rfl), (fun k hk hk' => d0 k hk.1 k (by simp [hk'.1]) rfl)⟩, ⟨(fun k hk hk' => d1 k hk.1 k (by simp [hk'.1]) rfl), (fun k hk hk' => d1 k hk.1 k (by simp [hk'.1]) rfl)⟩, (fun k hk hk' => d2 k hk.1 k (by simp [hk'.1]) rfl)⟩
theorem wG_shut2 {w0 w : World} {lo hi : Nat} {g : gT} {P0 P1 P2 P3 : Value} {F0 F1 F2 F3 : List Nat} {T : List Res} (S : St w0 w (ow (rLsw (rPair rInt rInt)) lo hi g.prog [P0] F0 :: ow (rLsw (rPair rInt rInt)) lo hi g.wr [P1] F1 :: ow (rLsw (rPair rInt rInt)) lo hi g.lv [P2] F2 :: ow (rLsw rInt) lo hi g.seen [P3] F3 :: T)) : St w0 w (ow wG lo hi g [P0, .int .i64 g.a, .int .i64 g.pc, P1, P2, .int .i64 g.t.1, .int .i64 g.t.2.1, .bool g.t.2.2, .int .i64 g.pd, .int .i64 g.x.1, .int .i64 g.x.2.1, .bool g.x.2.2.1, .int .i64 g.x.2.2.2, .bool g.hl, P3] (F0 ++ (F1 ++ (F2 ++ F3))) :: T) := by
  have hnd := (wG_shut (g := g) S 0 rfl 1 rfl 2 rfl 3 rfl (by decide) (by decide) (by decide) (by decide) (by decide) (by decide)).2
  refine Sx.St.merge (rs := [ow (rLsw (rPair rInt rInt)) lo hi g.prog [P0] F0, ow (rLsw (rPair rInt rInt)) lo hi g.wr [P1] F1, ow (rLsw (rPair rInt rInt)) lo hi g.lv [P2] F2, ow (rLsw rInt) lo hi g.seen [P3] F3]) S (ow wG lo hi g [P0, .int .i64 g.a, .int .i64 g.pc, P1, P2, .int .i64 g.t.1, .int .i64 g.t.2.1, .bool g.t.2.2, .int .i64 g.pd, .int .i64 g.x.1, .int .i64 g.x.2.1, .bool g.x.2.2.1, .int .i64 g.x.2.2.2, .bool g.hl, P3] (F0 ++ (F1 ++ (F2 ++ F3)))) ⟨wG_own_mk (S.at_ 0 rfl).1 (S.at_ 1 rfl).1 (S.at_ 2 rfl).1 (S.at_ 3 rfl).1, hnd⟩ (fun k hk => ?_) (S.lo 0 _ rfl : w0.heap.size ≤ lo) (S.hi 0 _ rfl : hi ≤ w.heap.size)
  obtain ⟨hk, hb⟩ := hk
  simp only [List.mem_append] at hk
  rcases hk with h | h | h | h
  · exact ⟨_, List.mem_cons_self, h, hb⟩
  · exact ⟨_, List.mem_cons_of_mem _ (List.mem_cons_self), h, hb⟩
  · exact ⟨_, List.mem_cons_of_mem _ (List.mem_cons_of_mem _ (List.mem_cons_self)), h, hb⟩
  · exact ⟨_, List.mem_cons_of_mem _ (List.mem_cons_of_mem _ (List.mem_cons_of_mem _ (List.mem_cons_self))), h, hb⟩
theorem size_Guest (g : gT) : wG.size g = (g.prog.length + sizeAll (rPair rInt rInt) g.prog) + (g.wr.length + sizeAll (rPair rInt rInt) g.wr) + (g.lv.length + sizeAll (rPair rInt rInt) g.lv) + (g.seen.length + sizeAll rInt g.seen) := by simp only [wG, rVia, rPair, rInt, rBool, rLsw, rCtl, rExit]; omega
theorem cnt_Guest (g : gT) : wG.cnt g = cntAll (rPair rInt rInt) g.prog + cntAll (rPair rInt rInt) g.wr + cntAll (rPair rInt rInt) g.lv + cntAll rInt g.seen + 11 := by simp only [wG, rVia, rPair, rInt, rBool, rLsw, rCtl, rExit]; omega
theorem own_zero_Guest (w : World) (lo hi : Nat) : wG.own w lo hi ({ prog := [], a := 0, pc := 0, wr := [], lv := [], t := (0, 0, false), pd := 0, x := (0, 0, false, 0), hl := false, seen := [] } : gT) [.slice none 0 0, .int .i64 0, .int .i64 0, .slice none 0 0, .slice none 0 0, .int .i64 0, .int .i64 0, .bool false, .int .i64 0, .int .i64 0, .int .i64 0, .bool false, .int .i64 0, .bool false, .slice none 0 0] [] := by
  have h := wG_own_mk (w := w) (lo := lo) (hi := hi) (g := ({ prog := [], a := 0, pc := 0, wr := [], lv := [], t := (0, 0, false), pd := 0, x := (0, 0, false, 0), hl := false, seen := [] } : gT)) (P0 := .slice none 0 0) (F0 := []) (P1 := .slice none 0 0) (F1 := []) (P2 := .slice none 0 0) (F2 := []) (P3 := .slice none 0 0) (F3 := []) (own_nil _ _ _) (own_nil _ _ _) (own_nil _ _ _) (own_nil _ _ _)
  exact h
theorem open_zero_Guest {w : World} {lo hi : Nat} {es : List Value} {F : List Nat} (h : wG.own w lo hi ({ prog := [], a := 0, pc := 0, wr := [], lv := [], t := (0, 0, false), pd := 0, x := (0, 0, false, 0), hl := false, seen := [] } : gT) es F) : ∃ A0 A1 A2 A3 c0 c1 c2 c3, es = [.slice A0 0 c0, .int .i64 ({ prog := [], a := 0, pc := 0, wr := [], lv := [], t := (0, 0, false), pd := 0, x := (0, 0, false, 0), hl := false, seen := [] } : gT).a, .int .i64 ({ prog := [], a := 0, pc := 0, wr := [], lv := [], t := (0, 0, false), pd := 0, x := (0, 0, false, 0), hl := false, seen := [] } : gT).pc, .slice A1 0 c1, .slice A2 0 c2, .int .i64 ({ prog := [], a := 0, pc := 0, wr := [], lv := [], t := (0, 0, false), pd := 0, x := (0, 0, false, 0), hl := false, seen := [] } : gT).t.1, .int .i64 ({ prog := [], a := 0, pc := 0, wr := [], lv := [], t := (0, 0, false), pd := 0, x := (0, 0, false, 0), hl := false, seen := [] } : gT).t.2.1, .bool ({ prog := [], a := 0, pc := 0, wr := [], lv := [], t := (0, 0, false), pd := 0, x := (0, 0, false, 0), hl := false, seen := [] } : gT).t.2.2, .int .i64 ({ prog := [], a := 0, pc := 0, wr := [], lv := [], t := (0, 0, false), pd := 0, x := (0, 0, false, 0), hl := false, seen := [] } : gT).pd, .int .i64 ({ prog := [], a := 0, pc := 0, wr := [], lv := [], t := (0, 0, false), pd := 0, x := (0, 0, false, 0), hl := false, seen := [] } : gT).x.1, .int .i64 ({ prog := [], a := 0, pc := 0, wr := [], lv := [], t := (0, 0, false), pd := 0, x := (0, 0, false, 0), hl := false, seen := [] } : gT).x.2.1, .bool ({ prog := [], a := 0, pc := 0, wr := [], lv := [], t := (0, 0, false), pd := 0, x := (0, 0, false, 0), hl := false, seen := [] } : gT).x.2.2.1, .int .i64 ({ prog := [], a := 0, pc := 0, wr := [], lv := [], t := (0, 0, false), pd := 0, x := (0, 0, false, 0), hl := false, seen := [] } : gT).x.2.2.2, .bool ({ prog := [], a := 0, pc := 0, wr := [], lv := [], t := (0, 0, false), pd := 0, x := (0, 0, false, 0), hl := false, seen := [] } : gT).hl, .slice A3 0 c3] := by
  obtain ⟨P0, P1, P2, P3, F0, F1, F2, F3, rfl, -, q0, q1, q2, q3⟩ := wG_own h
  obtain ⟨A0, c0, e0, -⟩ := lst_val ((rLsw _).reads q0)
  subst e0
  obtain ⟨A1, c1, e1, -⟩ := lst_val ((rLsw _).reads q1)
  subst e1
  obtain ⟨A2, c2, e2, -⟩ := lst_val ((rLsw _).reads q2)
  subst e2
  obtain ⟨A3, c3, e3, -⟩ := lst_val ((rLsw _).reads q3)
  subst e3
  exact ⟨A0, A1, A2, A3, c0, c1, c2, c3, rfl⟩
set_option maxRecDepth 100000 in
set_option maxHeartbeats 4000000 in
theorem keq_Guest (x : gT) (cs ds : List Value) (w : World) (hc : wG.cap x) (h : wG.rd w 0 w.heap.size x cs) (j : wG.rd w 0 w.heap.size x ds) : Calls Try.prog 24 #[.agg cs.toArray, .agg ds.toArray] w (fun e w' => e = .returned (.bool true) ∧ Below w.heap.size w w') := by
  obtain ⟨hcap0, hcap1, hcap2, hcap3, hcap4, hcap5, hcap6, hcap7, hcap8, hcap9⟩ := hc
  have hR := h
  obtain ⟨hP0, hP1, hP2, hP3, rfl, hf0, hf1, hf2, hf3⟩ := wG_rd h
  obtain ⟨hA0, hK0, he0, -⟩ := lst_val hf0
  subst he0
  obtain ⟨hA1, hK1, he1, -⟩ := lst_val hf1
  subst he1
  obtain ⟨hA2, hK2, he2, -⟩ := lst_val hf2
  subst he2
  obtain ⟨hA3, hK3, he3, -⟩ := lst_val hf3
  subst he3
  have jR := j
  obtain ⟨jP0, jP1, jP2, jP3, rfl, jf0, jf1, jf2, jf3⟩ := wG_rd j
  obtain ⟨jA0, jK0, je0, -⟩ := lst_val jf0
  subst je0
  obtain ⟨jA1, jK1, je1, -⟩ := lst_val jf1
  subst je1
  obtain ⟨jA2, jK2, je2, -⟩ := lst_val jf2
  subst je2
  obtain ⟨jA3, jK3, je3, -⟩ := lst_val jf3
  subst je3
  refine Sx.enter (args := [.agg #[.slice hA0 x.prog.length hK0, .int .i64 x.a, .int .i64 x.pc, .slice hA1 x.wr.length hK1, .slice hA2 x.lv.length hK2, .int .i64 x.t.1, .int .i64 x.t.2.1, .bool x.t.2.2, .int .i64 x.pd, .int .i64 x.x.1, .int .i64 x.x.2.1, .bool x.x.2.2.1, .int .i64 x.x.2.2.2, .bool x.hl, .slice hA3 x.seen.length hK3], .agg #[.slice jA0 x.prog.length jK0, .int .i64 x.a, .int .i64 x.pc, .slice jA1 x.wr.length jK1, .slice jA2 x.lv.length jK2, .int .i64 x.t.1, .int .i64 x.t.2.1, .bool x.t.2.2, .int .i64 x.pd, .int .i64 x.x.1, .int .i64 x.x.2.1, .bool x.x.2.2.1, .int .i64 x.x.2.2.2, .bool x.hl, .slice jA3 x.seen.length jK3]]) Try.func24 rfl Try.ntmps24 rfl ?_
  refine Sx.C.seq ?_
  refine Sx.C.region ?_
  refine Sx.G.box 51 (.tmp 0) [.slice hA0 x.prog.length hK0, .int .i64 x.a, .int .i64 x.pc, .slice hA1 x.wr.length hK1, .slice hA2 x.lv.length hK2, .int .i64 x.t.1, .int .i64 x.t.2.1, .bool x.t.2.2, .int .i64 x.pd, .int .i64 x.x.1, .int .i64 x.x.2.1, .bool x.x.2.2.1, .int .i64 x.x.2.2.2, .bool x.hl, .slice hA3 x.seen.length hK3] rfl (by kernel_rfl) (by kernel_rfl) (fun b1 => ?_)
  refine Sx.G.box 51 (.tmp 1) [.slice jA0 x.prog.length jK0, .int .i64 x.a, .int .i64 x.pc, .slice jA1 x.wr.length jK1, .slice jA2 x.lv.length jK2, .int .i64 x.t.1, .int .i64 x.t.2.1, .bool x.t.2.2, .int .i64 x.pd, .int .i64 x.x.1, .int .i64 x.x.2.1, .bool x.x.2.2.1, .int .i64 x.x.2.2.2, .bool x.hl, .slice jA3 x.seen.length jK3] rfl (by kernel_rfl) (by kernel_rfl) (fun b2 => ?_)
  refine Sx.G.pure (.bool false) (by kernel_rfl) (fun w => by kernel_rfl) ?_
  refine Sx.G.nil ?_
  refine Sx.E.next ?_
  refine Sx.C.seq ?_
  refine Sx.C.seq ?_
  refine Sx.C.region ?_
  refine Sx.G.pure (.pointer (some ⟨b1, 0, none⟩)) (by kernel_rfl) (fun w => by kernel_rfl) ?_
  refine Sx.G.ld1 44 (.tmp 5) b1 0 1 [.slice hA0 x.prog.length hK0, .int .i64 x.a, .int .i64 x.pc, .slice hA1 x.wr.length hK1, .slice hA2 x.lv.length hK2, .int .i64 x.t.1, .int .i64 x.t.2.1, .bool x.t.2.2, .int .i64 x.pd, .int .i64 x.x.1, .int .i64 x.x.2.1, .bool x.x.2.2.1, .int .i64 x.x.2.2.2, .bool x.hl, .slice hA3 x.seen.length hK3] (.slice hA0 x.prog.length hK0) rfl (by kernel_rfl) (by kernel_rfl) rfl (by kernel_rfl) (by kernel_rfl) ?_
  refine Sx.G.pure (.pointer (some ⟨b2, 0, none⟩)) (by kernel_rfl) (fun w => by kernel_rfl) ?_
  refine Sx.G.ld1 44 (.tmp 7) b2 0 0 [.slice jA0 x.prog.length jK0, .int .i64 x.a, .int .i64 x.pc, .slice jA1 x.wr.length jK1, .slice jA2 x.lv.length jK2, .int .i64 x.t.1, .int .i64 x.t.2.1, .bool x.t.2.2, .int .i64 x.pd, .int .i64 x.x.1, .int .i64 x.x.2.1, .bool x.x.2.2.1, .int .i64 x.x.2.2.2, .bool x.hl, .slice jA3 x.seen.length jK3] (.slice jA0 x.prog.length jK0) rfl (by kernel_rfl) (by kernel_rfl) rfl (by kernel_rfl) (by kernel_rfl) ?_
  refine Sx.G.plain 44 #[.slice hA0 x.prog.length hK0, .slice jA0 x.prog.length jK0] (.bool true) (by kernel_rfl) (fun w => by kernel_rfl) (fun w S => by exact Kit.keq_InsS x.prog hA0 hK0 jA0 jK0 _ hcap0 (St.old (r := (rLsw (rPair rInt rInt))) S hf0) (St.old (r := (rLsw (rPair rInt rInt))) S jf0)) ?_
  refine Sx.G.pure (.bool false) (by kernel_rfl) (fun w => by kernel_rfl) ?_
  refine Sx.G.nil ?_
  refine Sx.E.next ?_
  refine Sx.C.no (by kernel_rfl) (by kernel_rfl) ?_
  refine Sx.C.skip ?_
  refine Sx.E.next ?_
  refine Sx.C.seq ?_
  refine Sx.C.seq ?_
  refine Sx.C.region ?_
  refine Sx.G.pure (.pointer (some ⟨b1, 1, none⟩)) (by kernel_rfl) (fun w => by kernel_rfl) ?_
  refine Sx.G.ld1 3 (.tmp 11) b1 1 1 [.slice hA0 x.prog.length hK0, .int .i64 x.a, .int .i64 x.pc, .slice hA1 x.wr.length hK1, .slice hA2 x.lv.length hK2, .int .i64 x.t.1, .int .i64 x.t.2.1, .bool x.t.2.2, .int .i64 x.pd, .int .i64 x.x.1, .int .i64 x.x.2.1, .bool x.x.2.2.1, .int .i64 x.x.2.2.2, .bool x.hl, .slice hA3 x.seen.length hK3] (.int .i64 x.a) rfl (by kernel_rfl) (by kernel_rfl) rfl (by kernel_rfl) (by kernel_rfl) ?_
  refine Sx.G.pure (.pointer (some ⟨b2, 1, none⟩)) (by kernel_rfl) (fun w => by kernel_rfl) ?_
  refine Sx.G.ld1 3 (.tmp 13) b2 1 0 [.slice jA0 x.prog.length jK0, .int .i64 x.a, .int .i64 x.pc, .slice jA1 x.wr.length jK1, .slice jA2 x.lv.length jK2, .int .i64 x.t.1, .int .i64 x.t.2.1, .bool x.t.2.2, .int .i64 x.pd, .int .i64 x.x.1, .int .i64 x.x.2.1, .bool x.x.2.2.1, .int .i64 x.x.2.2.2, .bool x.hl, .slice jA3 x.seen.length jK3] (.int .i64 x.a) rfl (by kernel_rfl) (by kernel_rfl) rfl (by kernel_rfl) (by kernel_rfl) ?_
  refine Sx.G.pureq (.bool (x.a != x.a)) (.bool false) (by kernel_rfl) (fun w => by kernel_rfl) (congrArg Value.bool (bne_self_eq_false _)) ?_
  refine Sx.G.nil ?_
  refine Sx.E.next ?_
  refine Sx.C.no (by kernel_rfl) (by kernel_rfl) ?_
  refine Sx.C.skip ?_
  refine Sx.E.next ?_
  refine Sx.C.seq ?_
  refine Sx.C.seq ?_
  refine Sx.C.region ?_
  refine Sx.G.pure (.pointer (some ⟨b1, 2, none⟩)) (by kernel_rfl) (fun w => by kernel_rfl) ?_
  refine Sx.G.ld1 3 (.tmp 16) b1 2 1 [.slice hA0 x.prog.length hK0, .int .i64 x.a, .int .i64 x.pc, .slice hA1 x.wr.length hK1, .slice hA2 x.lv.length hK2, .int .i64 x.t.1, .int .i64 x.t.2.1, .bool x.t.2.2, .int .i64 x.pd, .int .i64 x.x.1, .int .i64 x.x.2.1, .bool x.x.2.2.1, .int .i64 x.x.2.2.2, .bool x.hl, .slice hA3 x.seen.length hK3] (.int .i64 x.pc) rfl (by kernel_rfl) (by kernel_rfl) rfl (by kernel_rfl) (by kernel_rfl) ?_
  refine Sx.G.pure (.pointer (some ⟨b2, 2, none⟩)) (by kernel_rfl) (fun w => by kernel_rfl) ?_
  refine Sx.G.ld1 3 (.tmp 18) b2 2 0 [.slice jA0 x.prog.length jK0, .int .i64 x.a, .int .i64 x.pc, .slice jA1 x.wr.length jK1, .slice jA2 x.lv.length jK2, .int .i64 x.t.1, .int .i64 x.t.2.1, .bool x.t.2.2, .int .i64 x.pd, .int .i64 x.x.1, .int .i64 x.x.2.1, .bool x.x.2.2.1, .int .i64 x.x.2.2.2, .bool x.hl, .slice jA3 x.seen.length jK3] (.int .i64 x.pc) rfl (by kernel_rfl) (by kernel_rfl) rfl (by kernel_rfl) (by kernel_rfl) ?_
  refine Sx.G.pureq (.bool (x.pc != x.pc)) (.bool false) (by kernel_rfl) (fun w => by kernel_rfl) (congrArg Value.bool (bne_self_eq_false _)) ?_
  refine Sx.G.nil ?_
  refine Sx.E.next ?_
  refine Sx.C.no (by kernel_rfl) (by kernel_rfl) ?_
  refine Sx.C.skip ?_
  refine Sx.E.next ?_
  refine Sx.C.seq ?_
  refine Sx.C.seq ?_
  refine Sx.C.region ?_
  refine Sx.G.pure (.pointer (some ⟨b1, 3, none⟩)) (by kernel_rfl) (fun w => by kernel_rfl) ?_
  refine Sx.G.ld1 45 (.tmp 21) b1 3 1 [.slice hA0 x.prog.length hK0, .int .i64 x.a, .int .i64 x.pc, .slice hA1 x.wr.length hK1, .slice hA2 x.lv.length hK2, .int .i64 x.t.1, .int .i64 x.t.2.1, .bool x.t.2.2, .int .i64 x.pd, .int .i64 x.x.1, .int .i64 x.x.2.1, .bool x.x.2.2.1, .int .i64 x.x.2.2.2, .bool x.hl, .slice hA3 x.seen.length hK3] (.slice hA1 x.wr.length hK1) rfl (by kernel_rfl) (by kernel_rfl) rfl (by kernel_rfl) (by kernel_rfl) ?_
  refine Sx.G.pure (.pointer (some ⟨b2, 3, none⟩)) (by kernel_rfl) (fun w => by kernel_rfl) ?_
  refine Sx.G.ld1 45 (.tmp 23) b2 3 0 [.slice jA0 x.prog.length jK0, .int .i64 x.a, .int .i64 x.pc, .slice jA1 x.wr.length jK1, .slice jA2 x.lv.length jK2, .int .i64 x.t.1, .int .i64 x.t.2.1, .bool x.t.2.2, .int .i64 x.pd, .int .i64 x.x.1, .int .i64 x.x.2.1, .bool x.x.2.2.1, .int .i64 x.x.2.2.2, .bool x.hl, .slice jA3 x.seen.length jK3] (.slice jA1 x.wr.length jK1) rfl (by kernel_rfl) (by kernel_rfl) rfl (by kernel_rfl) (by kernel_rfl) ?_
  refine Sx.G.plain 70 #[.slice hA1 x.wr.length hK1, .slice jA1 x.wr.length jK1] (.bool true) (by kernel_rfl) (fun w => by kernel_rfl) (fun w S => by exact Kit.keq_SlotS x.wr hA1 hK1 jA1 jK1 _ hcap3 (St.old (r := (rLsw (rPair rInt rInt))) S hf1) (St.old (r := (rLsw (rPair rInt rInt))) S jf1)) ?_
  refine Sx.G.pure (.bool false) (by kernel_rfl) (fun w => by kernel_rfl) ?_
  refine Sx.G.nil ?_
  refine Sx.E.next ?_
  refine Sx.C.no (by kernel_rfl) (by kernel_rfl) ?_
  refine Sx.C.skip ?_
  refine Sx.E.next ?_
  refine Sx.C.seq ?_
  refine Sx.C.seq ?_
  refine Sx.C.region ?_
  refine Sx.G.pure (.pointer (some ⟨b1, 4, none⟩)) (by kernel_rfl) (fun w => by kernel_rfl) ?_
  refine Sx.G.ld1 45 (.tmp 27) b1 4 1 [.slice hA0 x.prog.length hK0, .int .i64 x.a, .int .i64 x.pc, .slice hA1 x.wr.length hK1, .slice hA2 x.lv.length hK2, .int .i64 x.t.1, .int .i64 x.t.2.1, .bool x.t.2.2, .int .i64 x.pd, .int .i64 x.x.1, .int .i64 x.x.2.1, .bool x.x.2.2.1, .int .i64 x.x.2.2.2, .bool x.hl, .slice hA3 x.seen.length hK3] (.slice hA2 x.lv.length hK2) rfl (by kernel_rfl) (by kernel_rfl) rfl (by kernel_rfl) (by kernel_rfl) ?_
  refine Sx.G.pure (.pointer (some ⟨b2, 4, none⟩)) (by kernel_rfl) (fun w => by kernel_rfl) ?_
  refine Sx.G.ld1 45 (.tmp 29) b2 4 0 [.slice jA0 x.prog.length jK0, .int .i64 x.a, .int .i64 x.pc, .slice jA1 x.wr.length jK1, .slice jA2 x.lv.length jK2, .int .i64 x.t.1, .int .i64 x.t.2.1, .bool x.t.2.2, .int .i64 x.pd, .int .i64 x.x.1, .int .i64 x.x.2.1, .bool x.x.2.2.1, .int .i64 x.x.2.2.2, .bool x.hl, .slice jA3 x.seen.length jK3] (.slice jA2 x.lv.length jK2) rfl (by kernel_rfl) (by kernel_rfl) rfl (by kernel_rfl) (by kernel_rfl) ?_
  refine Sx.G.plain 70 #[.slice hA2 x.lv.length hK2, .slice jA2 x.lv.length jK2] (.bool true) (by kernel_rfl) (fun w => by kernel_rfl) (fun w S => by exact Kit.keq_SlotS x.lv hA2 hK2 jA2 jK2 _ hcap4 (St.old (r := (rLsw (rPair rInt rInt))) S hf2) (St.old (r := (rLsw (rPair rInt rInt))) S jf2)) ?_
  refine Sx.G.pure (.bool false) (by kernel_rfl) (fun w => by kernel_rfl) ?_
  refine Sx.G.nil ?_
  refine Sx.E.next ?_
  refine Sx.C.no (by kernel_rfl) (by kernel_rfl) ?_
  refine Sx.C.skip ?_
  refine Sx.E.next ?_
  refine Sx.C.seq ?_
  refine Sx.C.seq ?_
  refine Sx.C.region ?_
  refine Sx.G.pure (.pointer (some ⟨b1, 5, none⟩)) (by kernel_rfl) (fun w => by kernel_rfl) ?_
  refine Sx.G.ld 47 (.tmp 33) b1 5 1 [.slice hA0 x.prog.length hK0, .int .i64 x.a, .int .i64 x.pc, .slice hA1 x.wr.length hK1, .slice hA2 x.lv.length hK2, .int .i64 x.t.1, .int .i64 x.t.2.1, .bool x.t.2.2, .int .i64 x.pd, .int .i64 x.x.1, .int .i64 x.x.2.1, .bool x.x.2.2.1, .int .i64 x.x.2.2.2, .bool x.hl, .slice hA3 x.seen.length hK3] [.int .i64 x.t.1, .int .i64 x.t.2.1, .bool x.t.2.2] rfl (by kernel_rfl) (by kernel_rfl) rfl (by kernel_rfl) (by kernel_rfl) (by kernel_rfl) ?_
  refine Sx.G.pure (.pointer (some ⟨b2, 5, none⟩)) (by kernel_rfl) (fun w => by kernel_rfl) ?_
  refine Sx.G.ld 47 (.tmp 35) b2 5 0 [.slice jA0 x.prog.length jK0, .int .i64 x.a, .int .i64 x.pc, .slice jA1 x.wr.length jK1, .slice jA2 x.lv.length jK2, .int .i64 x.t.1, .int .i64 x.t.2.1, .bool x.t.2.2, .int .i64 x.pd, .int .i64 x.x.1, .int .i64 x.x.2.1, .bool x.x.2.2.1, .int .i64 x.x.2.2.2, .bool x.hl, .slice jA3 x.seen.length jK3] [.int .i64 x.t.1, .int .i64 x.t.2.1, .bool x.t.2.2] rfl (by kernel_rfl) (by kernel_rfl) rfl (by kernel_rfl) (by kernel_rfl) (by kernel_rfl) ?_
  refine Sx.G.plain 71 #[.agg #[.int .i64 x.t.1, .int .i64 x.t.2.1, .bool x.t.2.2], .agg #[.int .i64 x.t.1, .int .i64 x.t.2.1, .bool x.t.2.2]] (.bool true) (by kernel_rfl) (fun w => by kernel_rfl) (fun w S => by exact Kit.keq_Ctl x.t _) ?_
  refine Sx.G.pure (.bool false) (by kernel_rfl) (fun w => by kernel_rfl) ?_
  refine Sx.G.nil ?_
  refine Sx.E.next ?_
  refine Sx.C.no (by kernel_rfl) (by kernel_rfl) ?_
  refine Sx.C.skip ?_
  refine Sx.E.next ?_
  refine Sx.C.seq ?_
  refine Sx.C.seq ?_
  refine Sx.C.region ?_
  refine Sx.G.pure (.pointer (some ⟨b1, 8, none⟩)) (by kernel_rfl) (fun w => by kernel_rfl) ?_
  refine Sx.G.ld1 3 (.tmp 39) b1 8 1 [.slice hA0 x.prog.length hK0, .int .i64 x.a, .int .i64 x.pc, .slice hA1 x.wr.length hK1, .slice hA2 x.lv.length hK2, .int .i64 x.t.1, .int .i64 x.t.2.1, .bool x.t.2.2, .int .i64 x.pd, .int .i64 x.x.1, .int .i64 x.x.2.1, .bool x.x.2.2.1, .int .i64 x.x.2.2.2, .bool x.hl, .slice hA3 x.seen.length hK3] (.int .i64 x.pd) rfl (by kernel_rfl) (by kernel_rfl) rfl (by kernel_rfl) (by kernel_rfl) ?_
  refine Sx.G.pure (.pointer (some ⟨b2, 8, none⟩)) (by kernel_rfl) (fun w => by kernel_rfl) ?_
  refine Sx.G.ld1 3 (.tmp 41) b2 8 0 [.slice jA0 x.prog.length jK0, .int .i64 x.a, .int .i64 x.pc, .slice jA1 x.wr.length jK1, .slice jA2 x.lv.length jK2, .int .i64 x.t.1, .int .i64 x.t.2.1, .bool x.t.2.2, .int .i64 x.pd, .int .i64 x.x.1, .int .i64 x.x.2.1, .bool x.x.2.2.1, .int .i64 x.x.2.2.2, .bool x.hl, .slice jA3 x.seen.length jK3] (.int .i64 x.pd) rfl (by kernel_rfl) (by kernel_rfl) rfl (by kernel_rfl) (by kernel_rfl) ?_
  refine Sx.G.pureq (.bool (x.pd != x.pd)) (.bool false) (by kernel_rfl) (fun w => by kernel_rfl) (congrArg Value.bool (bne_self_eq_false _)) ?_
  refine Sx.G.nil ?_
  refine Sx.E.next ?_
  refine Sx.C.no (by kernel_rfl) (by kernel_rfl) ?_
  refine Sx.C.skip ?_
  refine Sx.E.next ?_
  refine Sx.C.seq ?_
  refine Sx.C.seq ?_
  refine Sx.C.region ?_
  refine Sx.G.pure (.pointer (some ⟨b1, 9, none⟩)) (by kernel_rfl) (fun w => by kernel_rfl) ?_
  refine Sx.G.ld 49 (.tmp 44) b1 9 1 [.slice hA0 x.prog.length hK0, .int .i64 x.a, .int .i64 x.pc, .slice hA1 x.wr.length hK1, .slice hA2 x.lv.length hK2, .int .i64 x.t.1, .int .i64 x.t.2.1, .bool x.t.2.2, .int .i64 x.pd, .int .i64 x.x.1, .int .i64 x.x.2.1, .bool x.x.2.2.1, .int .i64 x.x.2.2.2, .bool x.hl, .slice hA3 x.seen.length hK3] [.int .i64 x.x.1, .int .i64 x.x.2.1, .bool x.x.2.2.1, .int .i64 x.x.2.2.2] rfl (by kernel_rfl) (by kernel_rfl) rfl (by kernel_rfl) (by kernel_rfl) (by kernel_rfl) ?_
  refine Sx.G.pure (.pointer (some ⟨b2, 9, none⟩)) (by kernel_rfl) (fun w => by kernel_rfl) ?_
  refine Sx.G.ld 49 (.tmp 46) b2 9 0 [.slice jA0 x.prog.length jK0, .int .i64 x.a, .int .i64 x.pc, .slice jA1 x.wr.length jK1, .slice jA2 x.lv.length jK2, .int .i64 x.t.1, .int .i64 x.t.2.1, .bool x.t.2.2, .int .i64 x.pd, .int .i64 x.x.1, .int .i64 x.x.2.1, .bool x.x.2.2.1, .int .i64 x.x.2.2.2, .bool x.hl, .slice jA3 x.seen.length jK3] [.int .i64 x.x.1, .int .i64 x.x.2.1, .bool x.x.2.2.1, .int .i64 x.x.2.2.2] rfl (by kernel_rfl) (by kernel_rfl) rfl (by kernel_rfl) (by kernel_rfl) (by kernel_rfl) ?_
  refine Sx.G.plain 72 #[.agg #[.int .i64 x.x.1, .int .i64 x.x.2.1, .bool x.x.2.2.1, .int .i64 x.x.2.2.2], .agg #[.int .i64 x.x.1, .int .i64 x.x.2.1, .bool x.x.2.2.1, .int .i64 x.x.2.2.2]] (.bool true) (by kernel_rfl) (fun w => by kernel_rfl) (fun w S => by exact Kit.keq_Exit x.x _) ?_
  refine Sx.G.pure (.bool false) (by kernel_rfl) (fun w => by kernel_rfl) ?_
  refine Sx.G.nil ?_
  refine Sx.E.next ?_
  refine Sx.C.no (by kernel_rfl) (by kernel_rfl) ?_
  refine Sx.C.skip ?_
  refine Sx.E.next ?_
  refine Sx.C.seq ?_
  refine Sx.C.seq ?_
  refine Sx.C.region ?_
  refine Sx.G.pure (.pointer (some ⟨b1, 13, none⟩)) (by kernel_rfl) (fun w => by kernel_rfl) ?_
  refine Sx.G.ld1 4 (.tmp 50) b1 13 1 [.slice hA0 x.prog.length hK0, .int .i64 x.a, .int .i64 x.pc, .slice hA1 x.wr.length hK1, .slice hA2 x.lv.length hK2, .int .i64 x.t.1, .int .i64 x.t.2.1, .bool x.t.2.2, .int .i64 x.pd, .int .i64 x.x.1, .int .i64 x.x.2.1, .bool x.x.2.2.1, .int .i64 x.x.2.2.2, .bool x.hl, .slice hA3 x.seen.length hK3] (.bool x.hl) rfl (by kernel_rfl) (by kernel_rfl) rfl (by kernel_rfl) (by kernel_rfl) ?_
  refine Sx.G.pure (.pointer (some ⟨b2, 13, none⟩)) (by kernel_rfl) (fun w => by kernel_rfl) ?_
  refine Sx.G.ld1 4 (.tmp 52) b2 13 0 [.slice jA0 x.prog.length jK0, .int .i64 x.a, .int .i64 x.pc, .slice jA1 x.wr.length jK1, .slice jA2 x.lv.length jK2, .int .i64 x.t.1, .int .i64 x.t.2.1, .bool x.t.2.2, .int .i64 x.pd, .int .i64 x.x.1, .int .i64 x.x.2.1, .bool x.x.2.2.1, .int .i64 x.x.2.2.2, .bool x.hl, .slice jA3 x.seen.length jK3] (.bool x.hl) rfl (by kernel_rfl) (by kernel_rfl) rfl (by kernel_rfl) (by kernel_rfl) ?_
  refine Sx.G.pureq (.bool (x.hl != x.hl)) (.bool false) (by kernel_rfl) (fun w => by kernel_rfl) (congrArg Value.bool (bne_self_eq_false _)) ?_
  refine Sx.G.nil ?_
  refine Sx.E.next ?_
  refine Sx.C.no (by kernel_rfl) (by kernel_rfl) ?_
  refine Sx.C.skip ?_
  refine Sx.E.next ?_
  refine Sx.C.seq ?_
  refine Sx.C.seq ?_
  refine Sx.C.region ?_
  refine Sx.G.pure (.pointer (some ⟨b1, 14, none⟩)) (by kernel_rfl) (fun w => by kernel_rfl) ?_
  refine Sx.G.ld1 26 (.tmp 55) b1 14 1 [.slice hA0 x.prog.length hK0, .int .i64 x.a, .int .i64 x.pc, .slice hA1 x.wr.length hK1, .slice hA2 x.lv.length hK2, .int .i64 x.t.1, .int .i64 x.t.2.1, .bool x.t.2.2, .int .i64 x.pd, .int .i64 x.x.1, .int .i64 x.x.2.1, .bool x.x.2.2.1, .int .i64 x.x.2.2.2, .bool x.hl, .slice hA3 x.seen.length hK3] (.slice hA3 x.seen.length hK3) rfl (by kernel_rfl) (by kernel_rfl) rfl (by kernel_rfl) (by kernel_rfl) ?_
  refine Sx.G.pure (.pointer (some ⟨b2, 14, none⟩)) (by kernel_rfl) (fun w => by kernel_rfl) ?_
  refine Sx.G.ld1 26 (.tmp 57) b2 14 0 [.slice jA0 x.prog.length jK0, .int .i64 x.a, .int .i64 x.pc, .slice jA1 x.wr.length jK1, .slice jA2 x.lv.length jK2, .int .i64 x.t.1, .int .i64 x.t.2.1, .bool x.t.2.2, .int .i64 x.pd, .int .i64 x.x.1, .int .i64 x.x.2.1, .bool x.x.2.2.1, .int .i64 x.x.2.2.2, .bool x.hl, .slice jA3 x.seen.length jK3] (.slice jA3 x.seen.length jK3) rfl (by kernel_rfl) (by kernel_rfl) rfl (by kernel_rfl) (by kernel_rfl) ?_
  refine Sx.G.plain 43 #[.slice hA3 x.seen.length hK3, .slice jA3 x.seen.length jK3] (.bool true) (by kernel_rfl) (fun w => by kernel_rfl) (fun w S => by exact Kit.keq_IntS x.seen hA3 hK3 jA3 jK3 _ hcap9 (St.old (r := (rLsw rInt)) S hf3) (St.old (r := (rLsw rInt)) S jf3)) ?_
  refine Sx.G.pure (.bool false) (by kernel_rfl) (fun w => by kernel_rfl) ?_
  refine Sx.G.nil ?_
  refine Sx.E.next ?_
  refine Sx.C.no (by kernel_rfl) (by kernel_rfl) ?_
  refine Sx.C.skip ?_
  refine Sx.E.next ?_
  refine Sx.C.seq ?_
  refine Sx.C.region ?_
  refine Sx.G.pure (.bool true) (by kernel_rfl) (fun w => by kernel_rfl) ?_
  refine Sx.G.nil ?_
  refine Sx.E.next ?_
  refine Sx.C.ret ?_
  refine Sx.E.ret1 (.bool true) rfl (by kernel_rfl) (fun w S => ?_)
  exact ⟨rfl, S.below⟩
set_option maxRecDepth 100000 in
set_option maxHeartbeats 4000000 in
theorem ksz_Guest (x : gT) (cs : List Value) (left : Int) (w : World) (hw : wG.wf x) (h0 : 0 ≤ left) (h1 : left ≤ 1048576) (h : wG.rd w 0 w.heap.size x cs) : Calls Try.prog 27 #[.agg cs.toArray, .int .i64 left] w (fun e w' => ∃ l, e = .returned (.int .i64 l) ∧ Kit.Sz left (wG.size x) l ∧ Below w.heap.size w w') := by
  obtain ⟨hwf0, hwf1, hwf2, hwf3, hwf4, hwf5, hwf6, hwf7, hwf8, hwf9⟩ := hw
  have hR := h
  obtain ⟨hP0, hP1, hP2, hP3, rfl, hf0, hf1, hf2, hf3⟩ := wG_rd h
  obtain ⟨hA0, hK0, he0, -⟩ := lst_val hf0
  subst he0
  obtain ⟨hA1, hK1, he1, -⟩ := lst_val hf1
  subst he1
  obtain ⟨hA2, hK2, he2, -⟩ := lst_val hf2
  subst he2
  obtain ⟨hA3, hK3, he3, -⟩ := lst_val hf3
  subst he3
  refine Sx.enter (args := [.agg #[.slice hA0 x.prog.length hK0, .int .i64 x.a, .int .i64 x.pc, .slice hA1 x.wr.length hK1, .slice hA2 x.lv.length hK2, .int .i64 x.t.1, .int .i64 x.t.2.1, .bool x.t.2.2, .int .i64 x.pd, .int .i64 x.x.1, .int .i64 x.x.2.1, .bool x.x.2.2.1, .int .i64 x.x.2.2.2, .bool x.hl, .slice hA3 x.seen.length hK3], .int .i64 left]) Try.func27 rfl Try.ntmps27 rfl ?_
  refine Sx.C.seq ?_
  refine Sx.C.region ?_
  refine Sx.G.box 62 (.tmp 0) [.slice hA0 x.prog.length hK0, .int .i64 x.a, .int .i64 x.pc, .slice hA1 x.wr.length hK1, .slice hA2 x.lv.length hK2, .int .i64 x.t.1, .int .i64 x.t.2.1, .bool x.t.2.2, .int .i64 x.pd, .int .i64 x.x.1, .int .i64 x.x.2.1, .bool x.x.2.2.1, .int .i64 x.x.2.2.2, .bool x.hl, .slice hA3 x.seen.length hK3] rfl (by kernel_rfl) (by kernel_rfl) (fun b1 => ?_)
  refine Sx.G.pure (.int .i64 0) (by kernel_rfl) (fun w => by kernel_rfl) ?_
  refine Sx.G.nil ?_
  refine Sx.E.next ?_
  refine Sx.C.seq ?_
  refine Sx.C.region ?_
  refine Sx.G.pure (.pointer (some ⟨b1, 0, none⟩)) (by kernel_rfl) (fun w => by kernel_rfl) ?_
  refine Sx.G.ld1 57 (.tmp 5) b1 0 0 [.slice hA0 x.prog.length hK0, .int .i64 x.a, .int .i64 x.pc, .slice hA1 x.wr.length hK1, .slice hA2 x.lv.length hK2, .int .i64 x.t.1, .int .i64 x.t.2.1, .bool x.t.2.2, .int .i64 x.pd, .int .i64 x.x.1, .int .i64 x.x.2.1, .bool x.x.2.2.1, .int .i64 x.x.2.2.2, .bool x.hl, .slice hA3 x.seen.length hK3] (.slice hA0 x.prog.length hK0) rfl (by kernel_rfl) (by kernel_rfl) rfl (by kernel_rfl) (by kernel_rfl) ?_
  refine Sx.G.pure (.int .i64 left) (by kernel_rfl) (fun w => by kernel_rfl) ?_
  refine Sx.G.call 35 #[.slice hA0 x.prog.length hK0, .int .i64 left] (by kernel_rfl) (fun w => by kernel_rfl) (fun w2 S => (Kit.ksz_InsS x.prog hA0 hK0 left _ hwf0 (by omega) (by omega) (St.old (r := (rLsw (rPair rInt rInt))) S hf0)).mono fun e w2' hp => ?_)
  obtain ⟨l2, rfl, hz2, hb⟩ := hp
  replace hz2 : Kit.Sz left (x.prog.length + sizeAll (rPair rInt rInt) x.prog) l2 := hz2
  unfold Kit.Sz at hz2
  refine ⟨_, _, rfl, (S.call hb), ?_⟩
  clear S hb
  refine Sx.G.pure (.int .i64 l2) (by kernel_rfl) (fun w => by kernel_rfl) ?_
  refine Sx.G.nil ?_
  refine Sx.E.next ?_
  refine Sx.C.seq ?_
  refine Sx.C.seq ?_
  refine Sx.C.region ?_
  refine Sx.G.pure (.int .i64 l2) (by kernel_rfl) (fun w => by kernel_rfl) ?_
  refine Sx.G.pure (.bool (decide (l2 < 0))) (by kernel_rfl) (fun w => by kernel_rfl) ?_
  refine Sx.G.nil ?_
  refine Sx.E.next ?_
  cases hc3 : (decide (l2 < 0))
  · have hb3 := hc3
    replace hc3 := of_decide_eq_false hc3
    refine Sx.C.no (by kernel_rfl) (by kernel_rfl) ?_
    refine Sx.C.skip ?_
    refine Sx.E.next ?_
    refine Sx.C.seq ?_
    refine Sx.C.region ?_
    refine Sx.G.pure (.pointer (some ⟨b1, 3, none⟩)) (by kernel_rfl) (fun w => by kernel_rfl) ?_
    refine Sx.G.ld1 58 (.tmp 11) b1 3 0 [.slice hA0 x.prog.length hK0, .int .i64 x.a, .int .i64 x.pc, .slice hA1 x.wr.length hK1, .slice hA2 x.lv.length hK2, .int .i64 x.t.1, .int .i64 x.t.2.1, .bool x.t.2.2, .int .i64 x.pd, .int .i64 x.x.1, .int .i64 x.x.2.1, .bool x.x.2.2.1, .int .i64 x.x.2.2.2, .bool x.hl, .slice hA3 x.seen.length hK3] (.slice hA1 x.wr.length hK1) rfl (by kernel_rfl) (by kernel_rfl) rfl (by kernel_rfl) (by kernel_rfl) ?_
    refine Sx.G.pure (.int .i64 l2) (by kernel_rfl) (fun w => by kernel_rfl) ?_
    refine Sx.G.call 76 #[.slice hA1 x.wr.length hK1, .int .i64 l2] (by kernel_rfl) (fun w => by kernel_rfl) (fun w4 S => (Kit.ksz_SlotS x.wr hA1 hK1 l2 _ hwf3 (by omega) (by omega) (St.old (r := (rLsw (rPair rInt rInt))) S hf1)).mono fun e w4' hp => ?_)
    obtain ⟨l4, rfl, hz4, hb⟩ := hp
    replace hz4 : Kit.Sz l2 (x.wr.length + sizeAll (rPair rInt rInt) x.wr) l4 := hz4
    unfold Kit.Sz at hz4
    refine ⟨_, _, rfl, (S.call hb), ?_⟩
    clear S hb
    refine Sx.G.pure (.int .i64 l4) (by kernel_rfl) (fun w => by kernel_rfl) ?_
    refine Sx.G.nil ?_
    refine Sx.E.next ?_
    refine Sx.C.seq ?_
    refine Sx.C.seq ?_
    refine Sx.C.region ?_
    refine Sx.G.pure (.int .i64 l4) (by kernel_rfl) (fun w => by kernel_rfl) ?_
    refine Sx.G.pure (.bool (decide (l4 < 0))) (by kernel_rfl) (fun w => by kernel_rfl) ?_
    refine Sx.G.nil ?_
    refine Sx.E.next ?_
    cases hc5 : (decide (l4 < 0))
    · have hb5 := hc5
      replace hc5 := of_decide_eq_false hc5
      refine Sx.C.no (by kernel_rfl) (by kernel_rfl) ?_
      refine Sx.C.skip ?_
      refine Sx.E.next ?_
      refine Sx.C.seq ?_
      refine Sx.C.region ?_
      refine Sx.G.pure (.pointer (some ⟨b1, 4, none⟩)) (by kernel_rfl) (fun w => by kernel_rfl) ?_
      refine Sx.G.ld1 58 (.tmp 17) b1 4 0 [.slice hA0 x.prog.length hK0, .int .i64 x.a, .int .i64 x.pc, .slice hA1 x.wr.length hK1, .slice hA2 x.lv.length hK2, .int .i64 x.t.1, .int .i64 x.t.2.1, .bool x.t.2.2, .int .i64 x.pd, .int .i64 x.x.1, .int .i64 x.x.2.1, .bool x.x.2.2.1, .int .i64 x.x.2.2.2, .bool x.hl, .slice hA3 x.seen.length hK3] (.slice hA2 x.lv.length hK2) rfl (by kernel_rfl) (by kernel_rfl) rfl (by kernel_rfl) (by kernel_rfl) ?_
      refine Sx.G.pure (.int .i64 l4) (by kernel_rfl) (fun w => by kernel_rfl) ?_
      refine Sx.G.call 76 #[.slice hA2 x.lv.length hK2, .int .i64 l4] (by kernel_rfl) (fun w => by kernel_rfl) (fun w6 S => (Kit.ksz_SlotS x.lv hA2 hK2 l4 _ hwf4 (by omega) (by omega) (St.old (r := (rLsw (rPair rInt rInt))) S hf2)).mono fun e w6' hp => ?_)
      obtain ⟨l6, rfl, hz6, hb⟩ := hp
      replace hz6 : Kit.Sz l4 (x.lv.length + sizeAll (rPair rInt rInt) x.lv) l6 := hz6
      unfold Kit.Sz at hz6
      refine ⟨_, _, rfl, (S.call hb), ?_⟩
      clear S hb
      refine Sx.G.pure (.int .i64 l6) (by kernel_rfl) (fun w => by kernel_rfl) ?_
      refine Sx.G.nil ?_
      refine Sx.E.next ?_
      refine Sx.C.seq ?_
      refine Sx.C.seq ?_
      refine Sx.C.region ?_
      refine Sx.G.pure (.int .i64 l6) (by kernel_rfl) (fun w => by kernel_rfl) ?_
      refine Sx.G.pure (.bool (decide (l6 < 0))) (by kernel_rfl) (fun w => by kernel_rfl) ?_
      refine Sx.G.nil ?_
      refine Sx.E.next ?_
      cases hc7 : (decide (l6 < 0))
      · have hb7 := hc7
        replace hc7 := of_decide_eq_false hc7
        refine Sx.C.no (by kernel_rfl) (by kernel_rfl) ?_
        refine Sx.C.skip ?_
        refine Sx.E.next ?_
        refine Sx.C.seq ?_
        refine Sx.C.region ?_
        refine Sx.G.pure (.pointer (some ⟨b1, 14, none⟩)) (by kernel_rfl) (fun w => by kernel_rfl) ?_
        refine Sx.G.ld1 26 (.tmp 23) b1 14 0 [.slice hA0 x.prog.length hK0, .int .i64 x.a, .int .i64 x.pc, .slice hA1 x.wr.length hK1, .slice hA2 x.lv.length hK2, .int .i64 x.t.1, .int .i64 x.t.2.1, .bool x.t.2.2, .int .i64 x.pd, .int .i64 x.x.1, .int .i64 x.x.2.1, .bool x.x.2.2.1, .int .i64 x.x.2.2.2, .bool x.hl, .slice hA3 x.seen.length hK3] (.slice hA3 x.seen.length hK3) rfl (by kernel_rfl) (by kernel_rfl) rfl (by kernel_rfl) (by kernel_rfl) ?_
        refine Sx.G.pure (.int .i64 l6) (by kernel_rfl) (fun w => by kernel_rfl) ?_
        refine Sx.G.call 54 #[.slice hA3 x.seen.length hK3, .int .i64 l6] (by kernel_rfl) (fun w => by kernel_rfl) (fun w8 S => (Kit.ksz_IntS x.seen hA3 hK3 l6 _ hwf9 (by omega) (by omega) (St.old (r := (rLsw rInt)) S hf3)).mono fun e w8' hp => ?_)
        obtain ⟨l8, rfl, hz8, hb⟩ := hp
        replace hz8 : Kit.Sz l6 (x.seen.length + sizeAll rInt x.seen) l8 := hz8
        unfold Kit.Sz at hz8
        refine ⟨_, _, rfl, (S.call hb), ?_⟩
        clear S hb
        refine Sx.G.pure (.int .i64 l8) (by kernel_rfl) (fun w => by kernel_rfl) ?_
        refine Sx.G.nil ?_
        refine Sx.E.next ?_
        refine Sx.C.seq ?_
        refine Sx.C.seq ?_
        refine Sx.C.region ?_
        refine Sx.G.pure (.int .i64 l8) (by kernel_rfl) (fun w => by kernel_rfl) ?_
        refine Sx.G.pure (.bool (decide (l8 < 0))) (by kernel_rfl) (fun w => by kernel_rfl) ?_
        refine Sx.G.nil ?_
        refine Sx.E.next ?_
        cases hc9 : (decide (l8 < 0))
        · have hb9 := hc9
          replace hc9 := of_decide_eq_false hc9
          refine Sx.C.no (by kernel_rfl) (by kernel_rfl) ?_
          refine Sx.C.skip ?_
          refine Sx.E.next ?_
          refine Sx.C.seq ?_
          refine Sx.C.region ?_
          refine Sx.G.pure (.int .i64 l8) (by kernel_rfl) (fun w => by kernel_rfl) ?_
          refine Sx.G.pure (.int .i64 l8) (by kernel_rfl) (fun w => by kernel_rfl) ?_
          refine Sx.G.nil ?_
          refine Sx.E.next ?_
          refine Sx.C.ret ?_
          refine Sx.E.ret1 (.int .i64 l8) rfl (by kernel_rfl) (fun w S => ?_)
          exact ⟨_, rfl, by unfold Kit.Sz; rw [size_Guest]; omega, S.below⟩
        · have hb9 := hc9
          replace hc9 := of_decide_eq_true hc9
          refine Sx.C.yes (by kernel_rfl) (by kernel_rfl) ?_
          refine Sx.C.seq ?_
          refine Sx.C.region ?_
          refine Sx.G.pure (.int .i64 (-1)) (by kernel_rfl) (fun w => by kernel_rfl) ?_
          refine Sx.G.nil ?_
          refine Sx.E.next ?_
          refine Sx.C.ret ?_
          refine Sx.E.then_ret ?_
          refine Sx.E.ret1 (.int .i64 (-1)) rfl (by kernel_rfl) (fun w S => ?_)
          exact ⟨_, rfl, by unfold Kit.Sz; rw [size_Guest]; omega, S.below⟩
      · have hb7 := hc7
        replace hc7 := of_decide_eq_true hc7
        refine Sx.C.yes (by kernel_rfl) (by kernel_rfl) ?_
        refine Sx.C.seq ?_
        refine Sx.C.region ?_
        refine Sx.G.pure (.int .i64 (-1)) (by kernel_rfl) (fun w => by kernel_rfl) ?_
        refine Sx.G.nil ?_
        refine Sx.E.next ?_
        refine Sx.C.ret ?_
        refine Sx.E.then_ret ?_
        refine Sx.E.ret1 (.int .i64 (-1)) rfl (by kernel_rfl) (fun w S => ?_)
        exact ⟨_, rfl, by unfold Kit.Sz; rw [size_Guest]; omega, S.below⟩
    · have hb5 := hc5
      replace hc5 := of_decide_eq_true hc5
      refine Sx.C.yes (by kernel_rfl) (by kernel_rfl) ?_
      refine Sx.C.seq ?_
      refine Sx.C.region ?_
      refine Sx.G.pure (.int .i64 (-1)) (by kernel_rfl) (fun w => by kernel_rfl) ?_
      refine Sx.G.nil ?_
      refine Sx.E.next ?_
      refine Sx.C.ret ?_
      refine Sx.E.then_ret ?_
      refine Sx.E.ret1 (.int .i64 (-1)) rfl (by kernel_rfl) (fun w S => ?_)
      exact ⟨_, rfl, by unfold Kit.Sz; rw [size_Guest]; omega, S.below⟩
  · have hb3 := hc3
    replace hc3 := of_decide_eq_true hc3
    refine Sx.C.yes (by kernel_rfl) (by kernel_rfl) ?_
    refine Sx.C.seq ?_
    refine Sx.C.region ?_
    refine Sx.G.pure (.int .i64 (-1)) (by kernel_rfl) (fun w => by kernel_rfl) ?_
    refine Sx.G.nil ?_
    refine Sx.E.next ?_
    refine Sx.C.ret ?_
    refine Sx.E.then_ret ?_
    refine Sx.E.ret1 (.int .i64 (-1)) rfl (by kernel_rfl) (fun w S => ?_)
    exact ⟨_, rfl, by unfold Kit.Sz; rw [size_Guest]; omega, S.below⟩
set_option maxRecDepth 100000 in
set_option maxHeartbeats 4000000 in
theorem kto_Guest (x : gT) (cs : List Value) (w : World) (hc : wG.cap x) (h : wG.rd w 0 w.heap.size x cs) : Calls Try.prog 29 #[.agg cs.toArray] w (Gives wG w x) := by
  obtain ⟨hcap0, hcap1, hcap2, hcap3, hcap4, hcap5, hcap6, hcap7, hcap8, hcap9⟩ := hc
  have hR := h
  obtain ⟨hP0, hP1, hP2, hP3, rfl, hf0, hf1, hf2, hf3⟩ := wG_rd h
  obtain ⟨hA0, hK0, he0, -⟩ := lst_val hf0
  subst he0
  obtain ⟨hA1, hK1, he1, -⟩ := lst_val hf1
  subst he1
  obtain ⟨hA2, hK2, he2, -⟩ := lst_val hf2
  subst he2
  obtain ⟨hA3, hK3, he3, -⟩ := lst_val hf3
  subst he3
  refine Sx.enter (args := [.agg #[.slice hA0 x.prog.length hK0, .int .i64 x.a, .int .i64 x.pc, .slice hA1 x.wr.length hK1, .slice hA2 x.lv.length hK2, .int .i64 x.t.1, .int .i64 x.t.2.1, .bool x.t.2.2, .int .i64 x.pd, .int .i64 x.x.1, .int .i64 x.x.2.1, .bool x.x.2.2.1, .int .i64 x.x.2.2.2, .bool x.hl, .slice hA3 x.seen.length hK3]]) Try.func29 rfl Try.ntmps29 rfl ?_
  refine Sx.C.seq ?_
  refine Sx.C.region ?_
  refine Sx.G.box 62 (.tmp 0) [.slice hA0 x.prog.length hK0, .int .i64 x.a, .int .i64 x.pc, .slice hA1 x.wr.length hK1, .slice hA2 x.lv.length hK2, .int .i64 x.t.1, .int .i64 x.t.2.1, .bool x.t.2.2, .int .i64 x.pd, .int .i64 x.x.1, .int .i64 x.x.2.1, .bool x.x.2.2.1, .int .i64 x.x.2.2.2, .bool x.hl, .slice hA3 x.seen.length hK3] rfl (by kernel_rfl) (by kernel_rfl) (fun b1 => ?_)
  refine Sx.G.alloc 51 (.agg #[.slice none 0 0, .int .i64 0, .int .i64 0, .slice none 0 0, .slice none 0 0, .int .i64 0, .int .i64 0, .bool false, .int .i64 0, .int .i64 0, .int .i64 0, .bool false, .int .i64 0, .bool false, .slice none 0 0]) [.slice none 0 0, .int .i64 0, .int .i64 0, .slice none 0 0, .slice none 0 0, .int .i64 0, .int .i64 0, .bool false, .int .i64 0, .int .i64 0, .int .i64 0, .bool false, .int .i64 0, .bool false, .slice none 0 0] rfl (by kernel_rfl) (fun w => by kernel_rfl) (by kernel_rfl) (fun b2 => ?_)
  refine Sx.G.nil ?_
  refine Sx.E.next ?_
  refine Sx.C.seq ?_
  refine Sx.C.region ?_
  refine Sx.G.alloc 51 (.agg #[.slice none 0 0, .int .i64 0, .int .i64 0, .slice none 0 0, .slice none 0 0, .int .i64 0, .int .i64 0, .bool false, .int .i64 0, .int .i64 0, .int .i64 0, .bool false, .int .i64 0, .bool false, .slice none 0 0]) [.slice none 0 0, .int .i64 0, .int .i64 0, .slice none 0 0, .slice none 0 0, .int .i64 0, .int .i64 0, .bool false, .int .i64 0, .int .i64 0, .int .i64 0, .bool false, .int .i64 0, .bool false, .slice none 0 0] rfl (by kernel_rfl) (fun w => by kernel_rfl) (by kernel_rfl) (fun b3 => ?_)
  refine Sx.G.nil ?_
  refine Sx.E.next ?_
  refine Sx.C.seq ?_
  refine Sx.C.region ?_
  refine Sx.G.pure (.pointer (some ⟨b1, 0, none⟩)) (by kernel_rfl) (fun w => by kernel_rfl) ?_
  refine Sx.G.ld1 57 (.tmp 4) b1 0 2 [.slice hA0 x.prog.length hK0, .int .i64 x.a, .int .i64 x.pc, .slice hA1 x.wr.length hK1, .slice hA2 x.lv.length hK2, .int .i64 x.t.1, .int .i64 x.t.2.1, .bool x.t.2.2, .int .i64 x.pd, .int .i64 x.x.1, .int .i64 x.x.2.1, .bool x.x.2.2.1, .int .i64 x.x.2.2.2, .bool x.hl, .slice hA3 x.seen.length hK3] (.slice hA0 x.prog.length hK0) rfl (by kernel_rfl) (by kernel_rfl) rfl (by kernel_rfl) (by kernel_rfl) ?_
  refine Sx.G.call 38 #[.slice hA0 x.prog.length hK0] (by kernel_rfl) (fun w => by kernel_rfl) (fun w4 S => (Kit.kto_InsS x.prog hA0 hK0 _ hcap0 (St.old (r := (rLsw (rPair rInt rInt))) S hf0)).mono fun e w4' hp => ?_)
  obtain ⟨cs, F, rfl, ho, hF, hb⟩ := hp
  obtain ⟨u4, rfl⟩ := lsw_own ho
  obtain ⟨A4, c4, e4, -⟩ := lst_val ((St.got S hb ho hF).reads 0 rfl)
  subst e4
  generalize F = F4 at ho hF
  refine ⟨_, _, rfl, (St.got S hb ho hF), ?_⟩
  clear S hb ho hF
  refine Sx.G.pure (.pointer (some ⟨b3, 0, none⟩)) (by kernel_rfl) (fun w => by kernel_rfl) ?_
  refine Sx.G.sto 44 (.tmp 7) (.tmp 6) b3 0 1 [.slice none 0 0, .int .i64 0, .int .i64 0, .slice none 0 0, .slice none 0 0, .int .i64 0, .int .i64 0, .bool false, .int .i64 0, .int .i64 0, .int .i64 0, .bool false, .int .i64 0, .bool false, .slice none 0 0] [.slice A4 x.prog.length c4] [.slice A4 x.prog.length c4, .int .i64 0, .int .i64 0, .slice none 0 0, .slice none 0 0, .int .i64 0, .int .i64 0, .bool false, .int .i64 0, .int .i64 0, .int .i64 0, .bool false, .int .i64 0, .bool false, .slice none 0 0] [ow (rLsw (rPair rInt rInt)) w4.heap.size w4'.heap.size x.prog [.slice A4 x.prog.length c4] F4, vr b3 [.slice A4 x.prog.length c4, .int .i64 0, .int .i64 0, .slice none 0 0, .slice none 0 0, .int .i64 0, .int .i64 0, .bool false, .int .i64 0, .int .i64 0, .int .i64 0, .bool false, .int .i64 0, .bool false, .slice none 0 0], vr b2 [.slice none 0 0, .int .i64 0, .int .i64 0, .slice none 0 0, .slice none 0 0, .int .i64 0, .int .i64 0, .bool false, .int .i64 0, .int .i64 0, .int .i64 0, .bool false, .int .i64 0, .bool false, .slice none 0 0], vr b1 [.slice hA0 x.prog.length hK0, .int .i64 x.a, .int .i64 x.pc, .slice hA1 x.wr.length hK1, .slice hA2 x.lv.length hK2, .int .i64 x.t.1, .int .i64 x.t.2.1, .bool x.t.2.2, .int .i64 x.pd, .int .i64 x.x.1, .int .i64 x.x.2.1, .bool x.x.2.2.1, .int .i64 x.x.2.2.2, .bool x.hl, .slice hA3 x.seen.length hK3]] rfl (by kernel_rfl) (by kernel_rfl) (by kernel_rfl) rfl (by kernel_rfl) rfl (by kernel_rfl) (by kernel_rfl) (by kernel_rfl) ?_
  refine Sx.G.nil ?_
  refine Sx.E.next ?_
  refine Sx.C.seq ?_
  refine Sx.C.region ?_
  refine Sx.G.pure (.pointer (some ⟨b1, 1, none⟩)) (by kernel_rfl) (fun w => by kernel_rfl) ?_
  refine Sx.G.ld1 3 (.tmp 8) b1 1 3 [.slice hA0 x.prog.length hK0, .int .i64 x.a, .int .i64 x.pc, .slice hA1 x.wr.length hK1, .slice hA2 x.lv.length hK2, .int .i64 x.t.1, .int .i64 x.t.2.1, .bool x.t.2.2, .int .i64 x.pd, .int .i64 x.x.1, .int .i64 x.x.2.1, .bool x.x.2.2.1, .int .i64 x.x.2.2.2, .bool x.hl, .slice hA3 x.seen.length hK3] (.int .i64 x.a) rfl (by kernel_rfl) (by kernel_rfl) rfl (by kernel_rfl) (by kernel_rfl) ?_
  refine Sx.G.pure (.pointer (some ⟨b3, 1, none⟩)) (by kernel_rfl) (fun w => by kernel_rfl) ?_
  refine Sx.G.sto 3 (.tmp 10) (.tmp 9) b3 1 1 [.slice A4 x.prog.length c4, .int .i64 0, .int .i64 0, .slice none 0 0, .slice none 0 0, .int .i64 0, .int .i64 0, .bool false, .int .i64 0, .int .i64 0, .int .i64 0, .bool false, .int .i64 0, .bool false, .slice none 0 0] [.int .i64 x.a] [.slice A4 x.prog.length c4, .int .i64 x.a, .int .i64 0, .slice none 0 0, .slice none 0 0, .int .i64 0, .int .i64 0, .bool false, .int .i64 0, .int .i64 0, .int .i64 0, .bool false, .int .i64 0, .bool false, .slice none 0 0] [ow (rLsw (rPair rInt rInt)) w4.heap.size w4'.heap.size x.prog [.slice A4 x.prog.length c4] F4, vr b3 [.slice A4 x.prog.length c4, .int .i64 x.a, .int .i64 0, .slice none 0 0, .slice none 0 0, .int .i64 0, .int .i64 0, .bool false, .int .i64 0, .int .i64 0, .int .i64 0, .bool false, .int .i64 0, .bool false, .slice none 0 0], vr b2 [.slice none 0 0, .int .i64 0, .int .i64 0, .slice none 0 0, .slice none 0 0, .int .i64 0, .int .i64 0, .bool false, .int .i64 0, .int .i64 0, .int .i64 0, .bool false, .int .i64 0, .bool false, .slice none 0 0], vr b1 [.slice hA0 x.prog.length hK0, .int .i64 x.a, .int .i64 x.pc, .slice hA1 x.wr.length hK1, .slice hA2 x.lv.length hK2, .int .i64 x.t.1, .int .i64 x.t.2.1, .bool x.t.2.2, .int .i64 x.pd, .int .i64 x.x.1, .int .i64 x.x.2.1, .bool x.x.2.2.1, .int .i64 x.x.2.2.2, .bool x.hl, .slice hA3 x.seen.length hK3]] rfl (by kernel_rfl) (by kernel_rfl) (by kernel_rfl) rfl (by kernel_rfl) rfl (by kernel_rfl) (by kernel_rfl) (by kernel_rfl) ?_
  refine Sx.G.nil ?_
  refine Sx.E.next ?_
  refine Sx.C.seq ?_
  refine Sx.C.region ?_
  refine Sx.G.pure (.pointer (some ⟨b1, 2, none⟩)) (by kernel_rfl) (fun w => by kernel_rfl) ?_
  refine Sx.G.ld1 3 (.tmp 11) b1 2 3 [.slice hA0 x.prog.length hK0, .int .i64 x.a, .int .i64 x.pc, .slice hA1 x.wr.length hK1, .slice hA2 x.lv.length hK2, .int .i64 x.t.1, .int .i64 x.t.2.1, .bool x.t.2.2, .int .i64 x.pd, .int .i64 x.x.1, .int .i64 x.x.2.1, .bool x.x.2.2.1, .int .i64 x.x.2.2.2, .bool x.hl, .slice hA3 x.seen.length hK3] (.int .i64 x.pc) rfl (by kernel_rfl) (by kernel_rfl) rfl (by kernel_rfl) (by kernel_rfl) ?_
  refine Sx.G.pure (.pointer (some ⟨b3, 2, none⟩)) (by kernel_rfl) (fun w => by kernel_rfl) ?_
  refine Sx.G.sto 3 (.tmp 13) (.tmp 12) b3 2 1 [.slice A4 x.prog.length c4, .int .i64 x.a, .int .i64 0, .slice none 0 0, .slice none 0 0, .int .i64 0, .int .i64 0, .bool false, .int .i64 0, .int .i64 0, .int .i64 0, .bool false, .int .i64 0, .bool false, .slice none 0 0] [.int .i64 x.pc] [.slice A4 x.prog.length c4, .int .i64 x.a, .int .i64 x.pc, .slice none 0 0, .slice none 0 0, .int .i64 0, .int .i64 0, .bool false, .int .i64 0, .int .i64 0, .int .i64 0, .bool false, .int .i64 0, .bool false, .slice none 0 0] [ow (rLsw (rPair rInt rInt)) w4.heap.size w4'.heap.size x.prog [.slice A4 x.prog.length c4] F4, vr b3 [.slice A4 x.prog.length c4, .int .i64 x.a, .int .i64 x.pc, .slice none 0 0, .slice none 0 0, .int .i64 0, .int .i64 0, .bool false, .int .i64 0, .int .i64 0, .int .i64 0, .bool false, .int .i64 0, .bool false, .slice none 0 0], vr b2 [.slice none 0 0, .int .i64 0, .int .i64 0, .slice none 0 0, .slice none 0 0, .int .i64 0, .int .i64 0, .bool false, .int .i64 0, .int .i64 0, .int .i64 0, .bool false, .int .i64 0, .bool false, .slice none 0 0], vr b1 [.slice hA0 x.prog.length hK0, .int .i64 x.a, .int .i64 x.pc, .slice hA1 x.wr.length hK1, .slice hA2 x.lv.length hK2, .int .i64 x.t.1, .int .i64 x.t.2.1, .bool x.t.2.2, .int .i64 x.pd, .int .i64 x.x.1, .int .i64 x.x.2.1, .bool x.x.2.2.1, .int .i64 x.x.2.2.2, .bool x.hl, .slice hA3 x.seen.length hK3]] rfl (by kernel_rfl) (by kernel_rfl) (by kernel_rfl) rfl (by kernel_rfl) rfl (by kernel_rfl) (by kernel_rfl) (by kernel_rfl) ?_
  refine Sx.G.nil ?_
  refine Sx.E.next ?_
  refine Sx.C.seq ?_
  refine Sx.C.region ?_
  refine Sx.G.pure (.pointer (some ⟨b1, 3, none⟩)) (by kernel_rfl) (fun w => by kernel_rfl) ?_
  refine Sx.G.ld1 58 (.tmp 14) b1 3 3 [.slice hA0 x.prog.length hK0, .int .i64 x.a, .int .i64 x.pc, .slice hA1 x.wr.length hK1, .slice hA2 x.lv.length hK2, .int .i64 x.t.1, .int .i64 x.t.2.1, .bool x.t.2.2, .int .i64 x.pd, .int .i64 x.x.1, .int .i64 x.x.2.1, .bool x.x.2.2.1, .int .i64 x.x.2.2.2, .bool x.hl, .slice hA3 x.seen.length hK3] (.slice hA1 x.wr.length hK1) rfl (by kernel_rfl) (by kernel_rfl) rfl (by kernel_rfl) (by kernel_rfl) ?_
  refine Sx.G.call 78 #[.slice hA1 x.wr.length hK1] (by kernel_rfl) (fun w => by kernel_rfl) (fun w5 S => (Kit.kto_SlotS x.wr hA1 hK1 _ hcap3 (St.old (r := (rLsw (rPair rInt rInt))) S hf1)).mono fun e w5' hp => ?_)
  obtain ⟨cs, F, rfl, ho, hF, hb⟩ := hp
  obtain ⟨u5, rfl⟩ := lsw_own ho
  obtain ⟨A5, c5, e5, -⟩ := lst_val ((St.got S hb ho hF).reads 0 rfl)
  subst e5
  generalize F = F5 at ho hF
  refine ⟨_, _, rfl, (St.got S hb ho hF), ?_⟩
  clear S hb ho hF
  refine Sx.G.pure (.pointer (some ⟨b3, 3, none⟩)) (by kernel_rfl) (fun w => by kernel_rfl) ?_
  refine Sx.G.sto 45 (.tmp 17) (.tmp 16) b3 3 2 [.slice A4 x.prog.length c4, .int .i64 x.a, .int .i64 x.pc, .slice none 0 0, .slice none 0 0, .int .i64 0, .int .i64 0, .bool false, .int .i64 0, .int .i64 0, .int .i64 0, .bool false, .int .i64 0, .bool false, .slice none 0 0] [.slice A5 x.wr.length c5] [.slice A4 x.prog.length c4, .int .i64 x.a, .int .i64 x.pc, .slice A5 x.wr.length c5, .slice none 0 0, .int .i64 0, .int .i64 0, .bool false, .int .i64 0, .int .i64 0, .int .i64 0, .bool false, .int .i64 0, .bool false, .slice none 0 0] [ow (rLsw (rPair rInt rInt)) w5.heap.size w5'.heap.size x.wr [.slice A5 x.wr.length c5] F5, ow (rLsw (rPair rInt rInt)) w4.heap.size w4'.heap.size x.prog [.slice A4 x.prog.length c4] F4, vr b3 [.slice A4 x.prog.length c4, .int .i64 x.a, .int .i64 x.pc, .slice A5 x.wr.length c5, .slice none 0 0, .int .i64 0, .int .i64 0, .bool false, .int .i64 0, .int .i64 0, .int .i64 0, .bool false, .int .i64 0, .bool false, .slice none 0 0], vr b2 [.slice none 0 0, .int .i64 0, .int .i64 0, .slice none 0 0, .slice none 0 0, .int .i64 0, .int .i64 0, .bool false, .int .i64 0, .int .i64 0, .int .i64 0, .bool false, .int .i64 0, .bool false, .slice none 0 0], vr b1 [.slice hA0 x.prog.length hK0, .int .i64 x.a, .int .i64 x.pc, .slice hA1 x.wr.length hK1, .slice hA2 x.lv.length hK2, .int .i64 x.t.1, .int .i64 x.t.2.1, .bool x.t.2.2, .int .i64 x.pd, .int .i64 x.x.1, .int .i64 x.x.2.1, .bool x.x.2.2.1, .int .i64 x.x.2.2.2, .bool x.hl, .slice hA3 x.seen.length hK3]] rfl (by kernel_rfl) (by kernel_rfl) (by kernel_rfl) rfl (by kernel_rfl) rfl (by kernel_rfl) (by kernel_rfl) (by kernel_rfl) ?_
  refine Sx.G.nil ?_
  refine Sx.E.next ?_
  refine Sx.C.seq ?_
  refine Sx.C.region ?_
  refine Sx.G.pure (.pointer (some ⟨b1, 4, none⟩)) (by kernel_rfl) (fun w => by kernel_rfl) ?_
  refine Sx.G.ld1 58 (.tmp 18) b1 4 4 [.slice hA0 x.prog.length hK0, .int .i64 x.a, .int .i64 x.pc, .slice hA1 x.wr.length hK1, .slice hA2 x.lv.length hK2, .int .i64 x.t.1, .int .i64 x.t.2.1, .bool x.t.2.2, .int .i64 x.pd, .int .i64 x.x.1, .int .i64 x.x.2.1, .bool x.x.2.2.1, .int .i64 x.x.2.2.2, .bool x.hl, .slice hA3 x.seen.length hK3] (.slice hA2 x.lv.length hK2) rfl (by kernel_rfl) (by kernel_rfl) rfl (by kernel_rfl) (by kernel_rfl) ?_
  refine Sx.G.call 78 #[.slice hA2 x.lv.length hK2] (by kernel_rfl) (fun w => by kernel_rfl) (fun w6 S => (Kit.kto_SlotS x.lv hA2 hK2 _ hcap4 (St.old (r := (rLsw (rPair rInt rInt))) S hf2)).mono fun e w6' hp => ?_)
  obtain ⟨cs, F, rfl, ho, hF, hb⟩ := hp
  obtain ⟨u6, rfl⟩ := lsw_own ho
  obtain ⟨A6, c6, e6, -⟩ := lst_val ((St.got S hb ho hF).reads 0 rfl)
  subst e6
  generalize F = F6 at ho hF
  refine ⟨_, _, rfl, (St.got S hb ho hF), ?_⟩
  clear S hb ho hF
  refine Sx.G.pure (.pointer (some ⟨b3, 4, none⟩)) (by kernel_rfl) (fun w => by kernel_rfl) ?_
  refine Sx.G.sto 45 (.tmp 21) (.tmp 20) b3 4 3 [.slice A4 x.prog.length c4, .int .i64 x.a, .int .i64 x.pc, .slice A5 x.wr.length c5, .slice none 0 0, .int .i64 0, .int .i64 0, .bool false, .int .i64 0, .int .i64 0, .int .i64 0, .bool false, .int .i64 0, .bool false, .slice none 0 0] [.slice A6 x.lv.length c6] [.slice A4 x.prog.length c4, .int .i64 x.a, .int .i64 x.pc, .slice A5 x.wr.length c5, .slice A6 x.lv.length c6, .int .i64 0, .int .i64 0, .bool false, .int .i64 0, .int .i64 0, .int .i64 0, .bool false, .int .i64 0, .bool false, .slice none 0 0] [ow (rLsw (rPair rInt rInt)) w6.heap.size w6'.heap.size x.lv [.slice A6 x.lv.length c6] F6, ow (rLsw (rPair rInt rInt)) w5.heap.size w5'.heap.size x.wr [.slice A5 x.wr.length c5] F5, ow (rLsw (rPair rInt rInt)) w4.heap.size w4'.heap.size x.prog [.slice A4 x.prog.length c4] F4, vr b3 [.slice A4 x.prog.length c4, .int .i64 x.a, .int .i64 x.pc, .slice A5 x.wr.length c5, .slice A6 x.lv.length c6, .int .i64 0, .int .i64 0, .bool false, .int .i64 0, .int .i64 0, .int .i64 0, .bool false, .int .i64 0, .bool false, .slice none 0 0], vr b2 [.slice none 0 0, .int .i64 0, .int .i64 0, .slice none 0 0, .slice none 0 0, .int .i64 0, .int .i64 0, .bool false, .int .i64 0, .int .i64 0, .int .i64 0, .bool false, .int .i64 0, .bool false, .slice none 0 0], vr b1 [.slice hA0 x.prog.length hK0, .int .i64 x.a, .int .i64 x.pc, .slice hA1 x.wr.length hK1, .slice hA2 x.lv.length hK2, .int .i64 x.t.1, .int .i64 x.t.2.1, .bool x.t.2.2, .int .i64 x.pd, .int .i64 x.x.1, .int .i64 x.x.2.1, .bool x.x.2.2.1, .int .i64 x.x.2.2.2, .bool x.hl, .slice hA3 x.seen.length hK3]] rfl (by kernel_rfl) (by kernel_rfl) (by kernel_rfl) rfl (by kernel_rfl) rfl (by kernel_rfl) (by kernel_rfl) (by kernel_rfl) ?_
  refine Sx.G.nil ?_
  refine Sx.E.next ?_
  refine Sx.C.seq ?_
  refine Sx.C.region ?_
  refine Sx.G.pure (.pointer (some ⟨b1, 5, none⟩)) (by kernel_rfl) (fun w => by kernel_rfl) ?_
  refine Sx.G.ld 59 (.tmp 22) b1 5 5 [.slice hA0 x.prog.length hK0, .int .i64 x.a, .int .i64 x.pc, .slice hA1 x.wr.length hK1, .slice hA2 x.lv.length hK2, .int .i64 x.t.1, .int .i64 x.t.2.1, .bool x.t.2.2, .int .i64 x.pd, .int .i64 x.x.1, .int .i64 x.x.2.1, .bool x.x.2.2.1, .int .i64 x.x.2.2.2, .bool x.hl, .slice hA3 x.seen.length hK3] [.int .i64 x.t.1, .int .i64 x.t.2.1, .bool x.t.2.2] rfl (by kernel_rfl) (by kernel_rfl) rfl (by kernel_rfl) (by kernel_rfl) (by kernel_rfl) ?_
  refine Sx.G.plain 79 #[.agg #[.int .i64 x.t.1, .int .i64 x.t.2.1, .bool x.t.2.2]] (.agg #[.int .i64 x.t.1, .int .i64 x.t.2.1, .bool x.t.2.2]) (by kernel_rfl) (fun w => by kernel_rfl) (fun w S => by exact Kit.kto_Ctl x.t _) ?_
  refine Sx.G.pure (.pointer (some ⟨b3, 5, none⟩)) (by kernel_rfl) (fun w => by kernel_rfl) ?_
  refine Sx.G.sto 47 (.tmp 25) (.tmp 24) b3 5 3 [.slice A4 x.prog.length c4, .int .i64 x.a, .int .i64 x.pc, .slice A5 x.wr.length c5, .slice A6 x.lv.length c6, .int .i64 0, .int .i64 0, .bool false, .int .i64 0, .int .i64 0, .int .i64 0, .bool false, .int .i64 0, .bool false, .slice none 0 0] [.int .i64 x.t.1, .int .i64 x.t.2.1, .bool x.t.2.2] [.slice A4 x.prog.length c4, .int .i64 x.a, .int .i64 x.pc, .slice A5 x.wr.length c5, .slice A6 x.lv.length c6, .int .i64 x.t.1, .int .i64 x.t.2.1, .bool x.t.2.2, .int .i64 0, .int .i64 0, .int .i64 0, .bool false, .int .i64 0, .bool false, .slice none 0 0] [ow (rLsw (rPair rInt rInt)) w6.heap.size w6'.heap.size x.lv [.slice A6 x.lv.length c6] F6, ow (rLsw (rPair rInt rInt)) w5.heap.size w5'.heap.size x.wr [.slice A5 x.wr.length c5] F5, ow (rLsw (rPair rInt rInt)) w4.heap.size w4'.heap.size x.prog [.slice A4 x.prog.length c4] F4, vr b3 [.slice A4 x.prog.length c4, .int .i64 x.a, .int .i64 x.pc, .slice A5 x.wr.length c5, .slice A6 x.lv.length c6, .int .i64 x.t.1, .int .i64 x.t.2.1, .bool x.t.2.2, .int .i64 0, .int .i64 0, .int .i64 0, .bool false, .int .i64 0, .bool false, .slice none 0 0], vr b2 [.slice none 0 0, .int .i64 0, .int .i64 0, .slice none 0 0, .slice none 0 0, .int .i64 0, .int .i64 0, .bool false, .int .i64 0, .int .i64 0, .int .i64 0, .bool false, .int .i64 0, .bool false, .slice none 0 0], vr b1 [.slice hA0 x.prog.length hK0, .int .i64 x.a, .int .i64 x.pc, .slice hA1 x.wr.length hK1, .slice hA2 x.lv.length hK2, .int .i64 x.t.1, .int .i64 x.t.2.1, .bool x.t.2.2, .int .i64 x.pd, .int .i64 x.x.1, .int .i64 x.x.2.1, .bool x.x.2.2.1, .int .i64 x.x.2.2.2, .bool x.hl, .slice hA3 x.seen.length hK3]] rfl (by kernel_rfl) (by kernel_rfl) (by kernel_rfl) rfl (by kernel_rfl) rfl (by kernel_rfl) (by kernel_rfl) (by kernel_rfl) ?_
  refine Sx.G.nil ?_
  refine Sx.E.next ?_
  refine Sx.C.seq ?_
  refine Sx.C.region ?_
  refine Sx.G.pure (.pointer (some ⟨b1, 8, none⟩)) (by kernel_rfl) (fun w => by kernel_rfl) ?_
  refine Sx.G.ld1 3 (.tmp 26) b1 8 5 [.slice hA0 x.prog.length hK0, .int .i64 x.a, .int .i64 x.pc, .slice hA1 x.wr.length hK1, .slice hA2 x.lv.length hK2, .int .i64 x.t.1, .int .i64 x.t.2.1, .bool x.t.2.2, .int .i64 x.pd, .int .i64 x.x.1, .int .i64 x.x.2.1, .bool x.x.2.2.1, .int .i64 x.x.2.2.2, .bool x.hl, .slice hA3 x.seen.length hK3] (.int .i64 x.pd) rfl (by kernel_rfl) (by kernel_rfl) rfl (by kernel_rfl) (by kernel_rfl) ?_
  refine Sx.G.pure (.pointer (some ⟨b3, 8, none⟩)) (by kernel_rfl) (fun w => by kernel_rfl) ?_
  refine Sx.G.sto 3 (.tmp 28) (.tmp 27) b3 8 3 [.slice A4 x.prog.length c4, .int .i64 x.a, .int .i64 x.pc, .slice A5 x.wr.length c5, .slice A6 x.lv.length c6, .int .i64 x.t.1, .int .i64 x.t.2.1, .bool x.t.2.2, .int .i64 0, .int .i64 0, .int .i64 0, .bool false, .int .i64 0, .bool false, .slice none 0 0] [.int .i64 x.pd] [.slice A4 x.prog.length c4, .int .i64 x.a, .int .i64 x.pc, .slice A5 x.wr.length c5, .slice A6 x.lv.length c6, .int .i64 x.t.1, .int .i64 x.t.2.1, .bool x.t.2.2, .int .i64 x.pd, .int .i64 0, .int .i64 0, .bool false, .int .i64 0, .bool false, .slice none 0 0] [ow (rLsw (rPair rInt rInt)) w6.heap.size w6'.heap.size x.lv [.slice A6 x.lv.length c6] F6, ow (rLsw (rPair rInt rInt)) w5.heap.size w5'.heap.size x.wr [.slice A5 x.wr.length c5] F5, ow (rLsw (rPair rInt rInt)) w4.heap.size w4'.heap.size x.prog [.slice A4 x.prog.length c4] F4, vr b3 [.slice A4 x.prog.length c4, .int .i64 x.a, .int .i64 x.pc, .slice A5 x.wr.length c5, .slice A6 x.lv.length c6, .int .i64 x.t.1, .int .i64 x.t.2.1, .bool x.t.2.2, .int .i64 x.pd, .int .i64 0, .int .i64 0, .bool false, .int .i64 0, .bool false, .slice none 0 0], vr b2 [.slice none 0 0, .int .i64 0, .int .i64 0, .slice none 0 0, .slice none 0 0, .int .i64 0, .int .i64 0, .bool false, .int .i64 0, .int .i64 0, .int .i64 0, .bool false, .int .i64 0, .bool false, .slice none 0 0], vr b1 [.slice hA0 x.prog.length hK0, .int .i64 x.a, .int .i64 x.pc, .slice hA1 x.wr.length hK1, .slice hA2 x.lv.length hK2, .int .i64 x.t.1, .int .i64 x.t.2.1, .bool x.t.2.2, .int .i64 x.pd, .int .i64 x.x.1, .int .i64 x.x.2.1, .bool x.x.2.2.1, .int .i64 x.x.2.2.2, .bool x.hl, .slice hA3 x.seen.length hK3]] rfl (by kernel_rfl) (by kernel_rfl) (by kernel_rfl) rfl (by kernel_rfl) rfl (by kernel_rfl) (by kernel_rfl) (by kernel_rfl) ?_
  refine Sx.G.nil ?_
  refine Sx.E.next ?_
  refine Sx.C.seq ?_
  refine Sx.C.region ?_
  refine Sx.G.pure (.pointer (some ⟨b1, 9, none⟩)) (by kernel_rfl) (fun w => by kernel_rfl) ?_
  refine Sx.G.ld 60 (.tmp 29) b1 9 5 [.slice hA0 x.prog.length hK0, .int .i64 x.a, .int .i64 x.pc, .slice hA1 x.wr.length hK1, .slice hA2 x.lv.length hK2, .int .i64 x.t.1, .int .i64 x.t.2.1, .bool x.t.2.2, .int .i64 x.pd, .int .i64 x.x.1, .int .i64 x.x.2.1, .bool x.x.2.2.1, .int .i64 x.x.2.2.2, .bool x.hl, .slice hA3 x.seen.length hK3] [.int .i64 x.x.1, .int .i64 x.x.2.1, .bool x.x.2.2.1, .int .i64 x.x.2.2.2] rfl (by kernel_rfl) (by kernel_rfl) rfl (by kernel_rfl) (by kernel_rfl) (by kernel_rfl) ?_
  refine Sx.G.plain 80 #[.agg #[.int .i64 x.x.1, .int .i64 x.x.2.1, .bool x.x.2.2.1, .int .i64 x.x.2.2.2]] (.agg #[.int .i64 x.x.1, .int .i64 x.x.2.1, .bool x.x.2.2.1, .int .i64 x.x.2.2.2]) (by kernel_rfl) (fun w => by kernel_rfl) (fun w S => by exact Kit.kto_Exit x.x _) ?_
  refine Sx.G.pure (.pointer (some ⟨b3, 9, none⟩)) (by kernel_rfl) (fun w => by kernel_rfl) ?_
  refine Sx.G.sto 49 (.tmp 32) (.tmp 31) b3 9 3 [.slice A4 x.prog.length c4, .int .i64 x.a, .int .i64 x.pc, .slice A5 x.wr.length c5, .slice A6 x.lv.length c6, .int .i64 x.t.1, .int .i64 x.t.2.1, .bool x.t.2.2, .int .i64 x.pd, .int .i64 0, .int .i64 0, .bool false, .int .i64 0, .bool false, .slice none 0 0] [.int .i64 x.x.1, .int .i64 x.x.2.1, .bool x.x.2.2.1, .int .i64 x.x.2.2.2] [.slice A4 x.prog.length c4, .int .i64 x.a, .int .i64 x.pc, .slice A5 x.wr.length c5, .slice A6 x.lv.length c6, .int .i64 x.t.1, .int .i64 x.t.2.1, .bool x.t.2.2, .int .i64 x.pd, .int .i64 x.x.1, .int .i64 x.x.2.1, .bool x.x.2.2.1, .int .i64 x.x.2.2.2, .bool false, .slice none 0 0] [ow (rLsw (rPair rInt rInt)) w6.heap.size w6'.heap.size x.lv [.slice A6 x.lv.length c6] F6, ow (rLsw (rPair rInt rInt)) w5.heap.size w5'.heap.size x.wr [.slice A5 x.wr.length c5] F5, ow (rLsw (rPair rInt rInt)) w4.heap.size w4'.heap.size x.prog [.slice A4 x.prog.length c4] F4, vr b3 [.slice A4 x.prog.length c4, .int .i64 x.a, .int .i64 x.pc, .slice A5 x.wr.length c5, .slice A6 x.lv.length c6, .int .i64 x.t.1, .int .i64 x.t.2.1, .bool x.t.2.2, .int .i64 x.pd, .int .i64 x.x.1, .int .i64 x.x.2.1, .bool x.x.2.2.1, .int .i64 x.x.2.2.2, .bool false, .slice none 0 0], vr b2 [.slice none 0 0, .int .i64 0, .int .i64 0, .slice none 0 0, .slice none 0 0, .int .i64 0, .int .i64 0, .bool false, .int .i64 0, .int .i64 0, .int .i64 0, .bool false, .int .i64 0, .bool false, .slice none 0 0], vr b1 [.slice hA0 x.prog.length hK0, .int .i64 x.a, .int .i64 x.pc, .slice hA1 x.wr.length hK1, .slice hA2 x.lv.length hK2, .int .i64 x.t.1, .int .i64 x.t.2.1, .bool x.t.2.2, .int .i64 x.pd, .int .i64 x.x.1, .int .i64 x.x.2.1, .bool x.x.2.2.1, .int .i64 x.x.2.2.2, .bool x.hl, .slice hA3 x.seen.length hK3]] rfl (by kernel_rfl) (by kernel_rfl) (by kernel_rfl) rfl (by kernel_rfl) rfl (by kernel_rfl) (by kernel_rfl) (by kernel_rfl) ?_
  refine Sx.G.nil ?_
  refine Sx.E.next ?_
  refine Sx.C.seq ?_
  refine Sx.C.region ?_
  refine Sx.G.pure (.pointer (some ⟨b1, 13, none⟩)) (by kernel_rfl) (fun w => by kernel_rfl) ?_
  refine Sx.G.ld1 4 (.tmp 33) b1 13 5 [.slice hA0 x.prog.length hK0, .int .i64 x.a, .int .i64 x.pc, .slice hA1 x.wr.length hK1, .slice hA2 x.lv.length hK2, .int .i64 x.t.1, .int .i64 x.t.2.1, .bool x.t.2.2, .int .i64 x.pd, .int .i64 x.x.1, .int .i64 x.x.2.1, .bool x.x.2.2.1, .int .i64 x.x.2.2.2, .bool x.hl, .slice hA3 x.seen.length hK3] (.bool x.hl) rfl (by kernel_rfl) (by kernel_rfl) rfl (by kernel_rfl) (by kernel_rfl) ?_
  refine Sx.G.pure (.pointer (some ⟨b3, 13, none⟩)) (by kernel_rfl) (fun w => by kernel_rfl) ?_
  refine Sx.G.sto 4 (.tmp 35) (.tmp 34) b3 13 3 [.slice A4 x.prog.length c4, .int .i64 x.a, .int .i64 x.pc, .slice A5 x.wr.length c5, .slice A6 x.lv.length c6, .int .i64 x.t.1, .int .i64 x.t.2.1, .bool x.t.2.2, .int .i64 x.pd, .int .i64 x.x.1, .int .i64 x.x.2.1, .bool x.x.2.2.1, .int .i64 x.x.2.2.2, .bool false, .slice none 0 0] [.bool x.hl] [.slice A4 x.prog.length c4, .int .i64 x.a, .int .i64 x.pc, .slice A5 x.wr.length c5, .slice A6 x.lv.length c6, .int .i64 x.t.1, .int .i64 x.t.2.1, .bool x.t.2.2, .int .i64 x.pd, .int .i64 x.x.1, .int .i64 x.x.2.1, .bool x.x.2.2.1, .int .i64 x.x.2.2.2, .bool x.hl, .slice none 0 0] [ow (rLsw (rPair rInt rInt)) w6.heap.size w6'.heap.size x.lv [.slice A6 x.lv.length c6] F6, ow (rLsw (rPair rInt rInt)) w5.heap.size w5'.heap.size x.wr [.slice A5 x.wr.length c5] F5, ow (rLsw (rPair rInt rInt)) w4.heap.size w4'.heap.size x.prog [.slice A4 x.prog.length c4] F4, vr b3 [.slice A4 x.prog.length c4, .int .i64 x.a, .int .i64 x.pc, .slice A5 x.wr.length c5, .slice A6 x.lv.length c6, .int .i64 x.t.1, .int .i64 x.t.2.1, .bool x.t.2.2, .int .i64 x.pd, .int .i64 x.x.1, .int .i64 x.x.2.1, .bool x.x.2.2.1, .int .i64 x.x.2.2.2, .bool x.hl, .slice none 0 0], vr b2 [.slice none 0 0, .int .i64 0, .int .i64 0, .slice none 0 0, .slice none 0 0, .int .i64 0, .int .i64 0, .bool false, .int .i64 0, .int .i64 0, .int .i64 0, .bool false, .int .i64 0, .bool false, .slice none 0 0], vr b1 [.slice hA0 x.prog.length hK0, .int .i64 x.a, .int .i64 x.pc, .slice hA1 x.wr.length hK1, .slice hA2 x.lv.length hK2, .int .i64 x.t.1, .int .i64 x.t.2.1, .bool x.t.2.2, .int .i64 x.pd, .int .i64 x.x.1, .int .i64 x.x.2.1, .bool x.x.2.2.1, .int .i64 x.x.2.2.2, .bool x.hl, .slice hA3 x.seen.length hK3]] rfl (by kernel_rfl) (by kernel_rfl) (by kernel_rfl) rfl (by kernel_rfl) rfl (by kernel_rfl) (by kernel_rfl) (by kernel_rfl) ?_
  refine Sx.G.nil ?_
  refine Sx.E.next ?_
  refine Sx.C.seq ?_
  refine Sx.C.region ?_
  refine Sx.G.pure (.pointer (some ⟨b1, 14, none⟩)) (by kernel_rfl) (fun w => by kernel_rfl) ?_
  refine Sx.G.ld1 26 (.tmp 36) b1 14 5 [.slice hA0 x.prog.length hK0, .int .i64 x.a, .int .i64 x.pc, .slice hA1 x.wr.length hK1, .slice hA2 x.lv.length hK2, .int .i64 x.t.1, .int .i64 x.t.2.1, .bool x.t.2.2, .int .i64 x.pd, .int .i64 x.x.1, .int .i64 x.x.2.1, .bool x.x.2.2.1, .int .i64 x.x.2.2.2, .bool x.hl, .slice hA3 x.seen.length hK3] (.slice hA3 x.seen.length hK3) rfl (by kernel_rfl) (by kernel_rfl) rfl (by kernel_rfl) (by kernel_rfl) ?_
  refine Sx.G.call 61 #[.slice hA3 x.seen.length hK3] (by kernel_rfl) (fun w => by kernel_rfl) (fun w7 S => (Kit.kto_IntS x.seen hA3 hK3 _ hcap9 (St.old (r := (rLsw rInt)) S hf3)).mono fun e w7' hp => ?_)
  obtain ⟨cs, F, rfl, ho, hF, hb⟩ := hp
  obtain ⟨u7, rfl⟩ := lsw_own ho
  obtain ⟨A7, c7, e7, -⟩ := lst_val ((St.got S hb ho hF).reads 0 rfl)
  subst e7
  generalize F = F7 at ho hF
  refine ⟨_, _, rfl, (St.got S hb ho hF), ?_⟩
  clear S hb ho hF
  refine Sx.G.pure (.pointer (some ⟨b3, 14, none⟩)) (by kernel_rfl) (fun w => by kernel_rfl) ?_
  refine Sx.G.sto 26 (.tmp 39) (.tmp 38) b3 14 4 [.slice A4 x.prog.length c4, .int .i64 x.a, .int .i64 x.pc, .slice A5 x.wr.length c5, .slice A6 x.lv.length c6, .int .i64 x.t.1, .int .i64 x.t.2.1, .bool x.t.2.2, .int .i64 x.pd, .int .i64 x.x.1, .int .i64 x.x.2.1, .bool x.x.2.2.1, .int .i64 x.x.2.2.2, .bool x.hl, .slice none 0 0] [.slice A7 x.seen.length c7] [.slice A4 x.prog.length c4, .int .i64 x.a, .int .i64 x.pc, .slice A5 x.wr.length c5, .slice A6 x.lv.length c6, .int .i64 x.t.1, .int .i64 x.t.2.1, .bool x.t.2.2, .int .i64 x.pd, .int .i64 x.x.1, .int .i64 x.x.2.1, .bool x.x.2.2.1, .int .i64 x.x.2.2.2, .bool x.hl, .slice A7 x.seen.length c7] [ow (rLsw rInt) w7.heap.size w7'.heap.size x.seen [.slice A7 x.seen.length c7] F7, ow (rLsw (rPair rInt rInt)) w6.heap.size w6'.heap.size x.lv [.slice A6 x.lv.length c6] F6, ow (rLsw (rPair rInt rInt)) w5.heap.size w5'.heap.size x.wr [.slice A5 x.wr.length c5] F5, ow (rLsw (rPair rInt rInt)) w4.heap.size w4'.heap.size x.prog [.slice A4 x.prog.length c4] F4, vr b3 [.slice A4 x.prog.length c4, .int .i64 x.a, .int .i64 x.pc, .slice A5 x.wr.length c5, .slice A6 x.lv.length c6, .int .i64 x.t.1, .int .i64 x.t.2.1, .bool x.t.2.2, .int .i64 x.pd, .int .i64 x.x.1, .int .i64 x.x.2.1, .bool x.x.2.2.1, .int .i64 x.x.2.2.2, .bool x.hl, .slice A7 x.seen.length c7], vr b2 [.slice none 0 0, .int .i64 0, .int .i64 0, .slice none 0 0, .slice none 0 0, .int .i64 0, .int .i64 0, .bool false, .int .i64 0, .int .i64 0, .int .i64 0, .bool false, .int .i64 0, .bool false, .slice none 0 0], vr b1 [.slice hA0 x.prog.length hK0, .int .i64 x.a, .int .i64 x.pc, .slice hA1 x.wr.length hK1, .slice hA2 x.lv.length hK2, .int .i64 x.t.1, .int .i64 x.t.2.1, .bool x.t.2.2, .int .i64 x.pd, .int .i64 x.x.1, .int .i64 x.x.2.1, .bool x.x.2.2.1, .int .i64 x.x.2.2.2, .bool x.hl, .slice hA3 x.seen.length hK3]] rfl (by kernel_rfl) (by kernel_rfl) (by kernel_rfl) rfl (by kernel_rfl) rfl (by kernel_rfl) (by kernel_rfl) (by kernel_rfl) ?_
  refine Sx.G.nil ?_
  refine Sx.E.next ?_
  refine Sx.C.seq ?_
  refine Sx.C.region ?_
  refine Sx.G.ld 51 (.tmp 3) b3 0 4 [.slice A4 x.prog.length c4, .int .i64 x.a, .int .i64 x.pc, .slice A5 x.wr.length c5, .slice A6 x.lv.length c6, .int .i64 x.t.1, .int .i64 x.t.2.1, .bool x.t.2.2, .int .i64 x.pd, .int .i64 x.x.1, .int .i64 x.x.2.1, .bool x.x.2.2.1, .int .i64 x.x.2.2.2, .bool x.hl, .slice A7 x.seen.length c7] [.slice A4 x.prog.length c4, .int .i64 x.a, .int .i64 x.pc, .slice A5 x.wr.length c5, .slice A6 x.lv.length c6, .int .i64 x.t.1, .int .i64 x.t.2.1, .bool x.t.2.2, .int .i64 x.pd, .int .i64 x.x.1, .int .i64 x.x.2.1, .bool x.x.2.2.1, .int .i64 x.x.2.2.2, .bool x.hl, .slice A7 x.seen.length c7] rfl (by kernel_rfl) (by kernel_rfl) rfl (by kernel_rfl) (by kernel_rfl) (by kernel_rfl) ?_
  refine Sx.G.sto 51 (.tmp 2) (.tmp 40) b2 0 5 [.slice none 0 0, .int .i64 0, .int .i64 0, .slice none 0 0, .slice none 0 0, .int .i64 0, .int .i64 0, .bool false, .int .i64 0, .int .i64 0, .int .i64 0, .bool false, .int .i64 0, .bool false, .slice none 0 0] [.slice A4 x.prog.length c4, .int .i64 x.a, .int .i64 x.pc, .slice A5 x.wr.length c5, .slice A6 x.lv.length c6, .int .i64 x.t.1, .int .i64 x.t.2.1, .bool x.t.2.2, .int .i64 x.pd, .int .i64 x.x.1, .int .i64 x.x.2.1, .bool x.x.2.2.1, .int .i64 x.x.2.2.2, .bool x.hl, .slice A7 x.seen.length c7] [.slice A4 x.prog.length c4, .int .i64 x.a, .int .i64 x.pc, .slice A5 x.wr.length c5, .slice A6 x.lv.length c6, .int .i64 x.t.1, .int .i64 x.t.2.1, .bool x.t.2.2, .int .i64 x.pd, .int .i64 x.x.1, .int .i64 x.x.2.1, .bool x.x.2.2.1, .int .i64 x.x.2.2.2, .bool x.hl, .slice A7 x.seen.length c7] [ow (rLsw rInt) w7.heap.size w7'.heap.size x.seen [.slice A7 x.seen.length c7] F7, ow (rLsw (rPair rInt rInt)) w6.heap.size w6'.heap.size x.lv [.slice A6 x.lv.length c6] F6, ow (rLsw (rPair rInt rInt)) w5.heap.size w5'.heap.size x.wr [.slice A5 x.wr.length c5] F5, ow (rLsw (rPair rInt rInt)) w4.heap.size w4'.heap.size x.prog [.slice A4 x.prog.length c4] F4, vr b3 [.slice A4 x.prog.length c4, .int .i64 x.a, .int .i64 x.pc, .slice A5 x.wr.length c5, .slice A6 x.lv.length c6, .int .i64 x.t.1, .int .i64 x.t.2.1, .bool x.t.2.2, .int .i64 x.pd, .int .i64 x.x.1, .int .i64 x.x.2.1, .bool x.x.2.2.1, .int .i64 x.x.2.2.2, .bool x.hl, .slice A7 x.seen.length c7], vr b2 [.slice A4 x.prog.length c4, .int .i64 x.a, .int .i64 x.pc, .slice A5 x.wr.length c5, .slice A6 x.lv.length c6, .int .i64 x.t.1, .int .i64 x.t.2.1, .bool x.t.2.2, .int .i64 x.pd, .int .i64 x.x.1, .int .i64 x.x.2.1, .bool x.x.2.2.1, .int .i64 x.x.2.2.2, .bool x.hl, .slice A7 x.seen.length c7], vr b1 [.slice hA0 x.prog.length hK0, .int .i64 x.a, .int .i64 x.pc, .slice hA1 x.wr.length hK1, .slice hA2 x.lv.length hK2, .int .i64 x.t.1, .int .i64 x.t.2.1, .bool x.t.2.2, .int .i64 x.pd, .int .i64 x.x.1, .int .i64 x.x.2.1, .bool x.x.2.2.1, .int .i64 x.x.2.2.2, .bool x.hl, .slice hA3 x.seen.length hK3]] rfl (by kernel_rfl) (by kernel_rfl) (by kernel_rfl) rfl (by kernel_rfl) rfl (by kernel_rfl) (by kernel_rfl) (by kernel_rfl) ?_
  refine Sx.G.nil ?_
  refine Sx.E.next ?_
  refine Sx.C.ret ?_
  refine Sx.E.retc b2 5 [.slice A4 x.prog.length c4, .int .i64 x.a, .int .i64 x.pc, .slice A5 x.wr.length c5, .slice A6 x.lv.length c6, .int .i64 x.t.1, .int .i64 x.t.2.1, .bool x.t.2.2, .int .i64 x.pd, .int .i64 x.x.1, .int .i64 x.x.2.1, .bool x.x.2.2.1, .int .i64 x.x.2.2.2, .bool x.hl, .slice A7 x.seen.length c7] rfl (by kernel_rfl) rfl (by kernel_rfl) (by kernel_rfl) (fun w S => ?_)
  obtain ⟨ho, hF⟩ := wG_shut (g := x) S 3 rfl 2 rfl 1 rfl 0 rfl (by decide) (by decide) (by decide) (by decide) (by decide) (by decide)
  exact ⟨_, _, rfl, ho, hF, S.below⟩
end Go.Proofs.Ytldgadmpclgfhaa.Kit
namespace Go.Proofs.Ytldgadmpclgfhaa.Kit
set_option maxRecDepth 100000
open Go.ChangeShapes Go.WideShapes Go.ChangeAt Go.RowKit Go.Deep
open Go.Proofs.Ytldgadmpclgfhaa.Base Go.Proofs.Ytldgadmpclgfhaa.Mem Go.Proofs.Ytldgadmpclgfhaa.Data Go.Proofs.Ytldgadmpclgfhaa.Stt Go.Proofs.Ytldgadmpclgfhaa.Guests Go.Proofs.Ytldgadmpclgfhaa.Ctls Go.Proofs.Ytldgadmpclgfhaa.Exits
set_option linter.unusedVariables false
set_option linter.unusedSimpArgs false
set_option maxRecDepth 100000 in
set_option maxHeartbeats 4000000 in
theorem keq_IntSS (xs : (List (List Int))) (A : Option Addr) (c : Nat) (B : Option Addr) (d : Nat) (w : World) (hc : (rLsw (rLsw rInt)).cap xs) (h : rdLst (rLsw rInt) w 0 w.heap.size xs [.slice A xs.length c]) (j : rdLst (rLsw rInt) w 0 w.heap.size xs [.slice B xs.length d]) : Calls Try.prog 41 #[.slice A xs.length c, .slice B xs.length d] w (fun e w' => e = .returned (.bool true) ∧ Below w.heap.size w w') := by
  obtain ⟨hl, hce⟩ := hc
  refine Sx.enter (args := [.slice A xs.length c, .slice B xs.length d]) Try.func41 rfl Try.ntmps41 rfl ?_
  refine Sx.C.seq ?_
  refine Sx.C.region ?_
  refine Sx.G.pure (.bool false) (by kernel_rfl) (fun w => by kernel_rfl) ?_
  refine Sx.G.nil ?_
  refine Sx.E.next ?_
  refine Sx.C.seq ?_
  refine Sx.C.seq ?_
  refine Sx.C.region ?_
  refine Sx.G.pure (.slice A xs.length c) (by kernel_rfl) (fun w => by kernel_rfl) ?_
  refine Sx.G.pure (.int .i64 ((xs.length : Nat) : Int)) (by kernel_rfl) (fun w => by kernel_rfl) ?_
  refine Sx.G.pure (.slice B xs.length d) (by kernel_rfl) (fun w => by kernel_rfl) ?_
  refine Sx.G.pure (.int .i64 ((xs.length : Nat) : Int)) (by kernel_rfl) (fun w => by kernel_rfl) ?_
  refine Sx.G.pureq (.bool (((xs.length : Nat) : Int) != ((xs.length : Nat) : Int))) (.bool false) (by kernel_rfl) (fun w => by kernel_rfl) (congrArg Value.bool (bne_self_eq_false _)) ?_
  refine Sx.G.nil ?_
  refine Sx.E.next ?_
  refine Sx.C.no (by kernel_rfl) (by kernel_rfl) ?_
  refine Sx.C.skip ?_
  refine Sx.E.next ?_
  refine Sx.C.seq ?_
  refine Sx.C.seq ?_
  refine Sx.C.region ?_
  refine Sx.G.pure (.int .i64 0) (by kernel_rfl) (fun w => by kernel_rfl) ?_
  refine Sx.G.nil ?_
  refine Sx.E.next ?_
  refine Sx.C.block ?_
  refine Sx.C.loop (α := Nat) (fun i => i ≤ xs.length) (fun i => [(5, .int .i64 (i : Int)), (0, .slice A xs.length c), (1, .slice B xs.length d), (4, .bool false)]) (fun i => []) (fun i => xs.length - i) 0 (Nat.zero_le _) (fun a hA => (Sx.Ag.and hA (Sx.Ag.and hA (Sx.Ag.and hA (Sx.Ag.and hA (Sx.Ag.none hA) _ _ (by kernel_rfl)) _ _ (by kernel_rfl)) _ _ (by kernel_rfl)) _ _ (by kernel_rfl))) (fun w S => S) (fun i hx => ?_)
  refine Sx.C.seq ?_
  refine Sx.C.seq ?_
  refine Sx.C.region ?_
  refine Sx.G.pure (.int .i64 (i : Int)) (by kernel_rfl) (fun w => by kernel_rfl) ?_
  refine Sx.G.pure (.slice A xs.length c) (by kernel_rfl) (fun w => by kernel_rfl) ?_
  refine Sx.G.pure (.int .i64 ((xs.length : Nat) : Int)) (by kernel_rfl) (fun w => by kernel_rfl) ?_
  refine Sx.G.pure (.bool (decide ((i : Int) < ((xs.length : Nat) : Int)))) (by kernel_rfl) (fun w => by kernel_rfl) ?_
  refine Sx.G.nil ?_
  refine Sx.E.next ?_
  cases hc1 : (decide ((i : Int) < ((xs.length : Nat) : Int)))
  · have hb1 := hc1
    replace hc1 := of_decide_eq_false hc1
    refine Sx.C.no (by kernel_rfl) (by kernel_rfl) ?_
    refine Sx.C.exit ?_
    refine Sx.E.then_exit ?_
    refine Sx.E.then_exit ?_
    refine Sx.E.block_hit ?_
    refine Sx.E.next ?_
    refine Sx.C.seq ?_
    refine Sx.C.region ?_
    refine Sx.G.pure (.bool true) (by kernel_rfl) (fun w => by kernel_rfl) ?_
    refine Sx.G.nil ?_
    refine Sx.E.next ?_
    refine Sx.C.ret ?_
    refine Sx.E.ret1 (.bool true) rfl (by kernel_rfl) (fun w S => ?_)
    exact ⟨rfl, S.below⟩
  · have hb1 := hc1
    replace hc1 := of_decide_eq_true hc1
    refine Sx.C.yes (by kernel_rfl) (by kernel_rfl) ?_
    refine Sx.C.skip ?_
    refine Sx.E.next ?_
    refine Sx.C.seq ?_
    refine Sx.C.block ?_
    refine Sx.C.seq ?_
    refine Sx.C.draw (.take 0 (.take 1 (.take 2 (.take 3 (.take 4 (.take 5 (.take 6 (.take 7 (.alone 8 (.take 9 .nil)))))))))) [] (fun w S => St.pick S [] _ rfl (by decide)) (by kernel_rfl) (by kernel_rfl) (by kernel_rfl) ?_
    refine Sx.GT.pure (.slice A xs.length c) 0 (by rfl) (by kernel_rfl) (fun w => by kernel_rfl) ?_
    refine Sx.GT.pure (.int .i64 (i : Int)) 1 (by rfl) (by kernel_rfl) (fun w => by kernel_rfl) ?_
    obtain ⟨b2, f2, es2, eA2, hr2, hl2, hm2⟩ := Sx.old_elem (by decide) h i (by omega)
    subst eA2
    obtain ⟨x2, hx2⟩ : ∃ z_, z_ = (xs[i]'(by omega)) := ⟨_, rfl⟩
    rw [← hx2] at hr2
    replace hr2 : rdLst rInt w 0 w.heap.size x2 es2 := hr2
    obtain ⟨P2, rfl⟩ := lst_rd hr2
    obtain ⟨A2, c2, e2, -⟩ := lst_val hr2
    subst e2
    refine Sx.GT.elem 24 26 (.tmp 17) (.tmp 18) 1 24 b2 f2 xs.length c i 2 (by rfl) (by rfl) (by kernel_rfl) (by kernel_rfl) (by kernel_rfl) (by kernel_rfl) (by omega) ?_
    refine Sx.GT.ldr1 26 (.tmp 19) b2 ((f2 + i * 1) + 0) (.slice A2 x2.length c2) 3 (by rfl) (by rfl) (by kernel_rfl) (by kernel_rfl) (fun w S => hm2 w _ S 0 _ rfl) (by kernel_rfl) ?_
    refine Sx.GT.pure (.slice B xs.length d) 4 (by rfl) (by kernel_rfl) (fun w => by kernel_rfl) ?_
    refine Sx.GT.pure (.int .i64 (i : Int)) 5 (by rfl) (by kernel_rfl) (fun w => by kernel_rfl) ?_
    obtain ⟨b3, f3, es3, eA3, hr3, hl3, hm3⟩ := Sx.old_elem (by decide) j i (by omega)
    subst eA3
    rw [← hx2] at hr3
    replace hr3 : rdLst rInt w 0 w.heap.size x2 es3 := hr3
    obtain ⟨P3, rfl⟩ := lst_rd hr3
    obtain ⟨A3, c3, e3, -⟩ := lst_val hr3
    subst e3
    refine Sx.GT.elem 24 26 (.tmp 21) (.tmp 22) 1 24 b3 f3 xs.length d i 6 (by rfl) (by rfl) (by kernel_rfl) (by kernel_rfl) (by kernel_rfl) (by kernel_rfl) (by omega) ?_
    refine Sx.GT.ldr1 26 (.tmp 23) b3 ((f3 + i * 1) + 0) (.slice A3 x2.length c3) 7 (by rfl) (by rfl) (by kernel_rfl) (by kernel_rfl) (fun w S => hm3 w _ S 0 _ rfl) (by kernel_rfl) ?_
    refine Sx.GT.alone (Sx.Alone.plain 43 #[.slice A2 x2.length c2, .slice A3 x2.length c3] (.bool true) (by rfl) (by kernel_rfl) (fun w => by kernel_rfl) (fun w S => by exact Kit.keq_IntS x2 A2 c2 A3 c3 _ (hce _ (hx2 ▸ List.getElem_mem _)) (St.old (r := (rLsw rInt)) S hr2) (St.old (r := (rLsw rInt)) S hr3)) (fun w S => St.pick S [] _ rfl (by decide)) ?_)
    refine Sx.GT.pure (.bool false) 9 (by rfl) (by kernel_rfl) (fun w => by kernel_rfl) ?_
    refine Sx.GT.nil ?_
    refine Sx.E.next ?_
    refine Sx.C.no (by kernel_rfl) (by kernel_rfl) ?_
    refine Sx.C.skip ?_
    refine Sx.E.block_normal ?_
    refine Sx.E.next ?_
    refine Sx.C.region ?_
    refine Sx.G.pure (.int .i64 (i : Int)) (by kernel_rfl) (fun w => by kernel_rfl) ?_
    refine Sx.G.pureq (.int .i64 (IntKind.i64.wrap ((i : Int) + 1))) (.int .i64 ((i + 1 : Nat) : Int)) (by kernel_rfl) (fun w => by kernel_rfl) (congrArg (Value.int .i64) (Sx.wrap_up i (by omega))) ?_
    refine Sx.G.pure (.int .i64 ((i + 1 : Nat) : Int)) (by kernel_rfl) (fun w => by kernel_rfl) ?_
    refine Sx.G.nil ?_
    exact Sx.E.again (i + 1) (by omega) (by omega) (fun a hA => (Sx.Ag.and hA (Sx.Ag.and hA (Sx.Ag.and hA (Sx.Ag.and hA (Sx.Ag.none hA) _ _ (by kernel_rfl)) _ _ (by kernel_rfl)) _ _ (by kernel_rfl)) _ _ (by kernel_rfl))) (fun w S => S)
set_option maxRecDepth 100000 in
set_option maxHeartbeats 4000000 in
theorem ksz_IntSS (xs : (List (List Int))) (A : Option Addr) (c : Nat) (left : Int) (w : World) (hw : (rLsw (rLsw rInt)).wf xs) (h0 : 0 ≤ left) (h1 : left ≤ 1048576) (h : rdLst (rLsw rInt) w 0 w.heap.size xs [.slice A xs.length c]) : Calls Try.prog 52 #[.slice A xs.length c, .int .i64 left] w (fun e w' => ∃ l, e = .returned (.int .i64 l) ∧ Kit.Sz left ((rLsw (rLsw rInt)).size xs) l ∧ Below w.heap.size w w') := by
  obtain ⟨hl, hwe⟩ := hw
  simp only [maxLen] at hl
  refine Sx.enter (args := [.slice A xs.length c, .int .i64 left]) Try.func52 rfl Try.ntmps52 rfl ?_
  refine Sx.C.seq ?_
  refine Sx.C.region ?_
  refine Sx.G.pure (.int .i64 0) (by kernel_rfl) (fun w => by kernel_rfl) ?_
  refine Sx.G.nil ?_
  refine Sx.E.next ?_
  refine Sx.C.seq ?_
  refine Sx.C.region ?_
  refine Sx.G.pure (.int .i64 left) (by kernel_rfl) (fun w => by kernel_rfl) ?_
  refine Sx.G.pure (.slice A xs.length c) (by kernel_rfl) (fun w => by kernel_rfl) ?_
  refine Sx.G.pure (.int .i64 ((xs.length : Nat) : Int)) (by kernel_rfl) (fun w => by kernel_rfl) ?_
  refine Sx.G.pureq (.int .i64 (IntKind.i64.wrap (left - ((xs.length : Nat) : Int)))) (.int .i64 (left - ((xs.length : Nat) : Int))) (by kernel_rfl) (fun w => by kernel_rfl) (congrArg (Value.int .i64) (by rw [IntKind.wrap_i64]; omega)) ?_
  refine Sx.G.pure (.int .i64 (left - ((xs.length : Nat) : Int))) (by kernel_rfl) (fun w => by kernel_rfl) ?_
  refine Sx.G.nil ?_
  refine Sx.E.next ?_
  refine Sx.C.seq ?_
  refine Sx.C.seq ?_
  refine Sx.C.region ?_
  refine Sx.G.pure (.int .i64 (left - ((xs.length : Nat) : Int))) (by kernel_rfl) (fun w => by kernel_rfl) ?_
  refine Sx.G.pure (.bool (decide ((left - ((xs.length : Nat) : Int)) < 0))) (by kernel_rfl) (fun w => by kernel_rfl) ?_
  refine Sx.G.nil ?_
  refine Sx.E.next ?_
  cases hc1 : (decide ((left - ((xs.length : Nat) : Int)) < 0))
  · have hb1 := hc1
    replace hc1 := of_decide_eq_false hc1
    refine Sx.C.no (by kernel_rfl) (by kernel_rfl) ?_
    refine Sx.C.skip ?_
    refine Sx.E.next ?_
    refine Sx.C.seq ?_
    refine Sx.C.seq ?_
    refine Sx.C.region ?_
    refine Sx.G.pure (.int .i64 0) (by kernel_rfl) (fun w => by kernel_rfl) ?_
    refine Sx.G.nil ?_
    refine Sx.E.next ?_
    refine Sx.C.block ?_
    refine Sx.C.loop (α := Nat × Int) (fun x => x.1 ≤ xs.length ∧ x.2 = left - ((xs.length : Nat) : Int) - ((sizeAll (rLsw rInt) (xs.take x.1) : Nat) : Int) ∧ 0 ≤ x.2) (fun x => [(5, .int .i64 (x.1 : Int)), (1, .int .i64 x.2), (0, .slice A xs.length c), (4, .int .i64 0)]) (fun x => []) (fun x => xs.length - x.1) (0, left - ((xs.length : Nat) : Int)) (by refine ⟨Nat.zero_le _, ?_, by omega⟩; simp [sizeAll]) (fun a hA => (Sx.Ag.and hA (Sx.Ag.and hA (Sx.Ag.and hA (Sx.Ag.and hA (Sx.Ag.none hA) _ _ (by kernel_rfl)) _ _ (by kernel_rfl)) _ _ (by kernel_rfl)) _ _ (by kernel_rfl))) (fun w S => S) (fun x hx => ?_)
    obtain ⟨i, m⟩ := x
    dsimp only at hx
    obtain ⟨hi, hm, h0m⟩ := hx
    refine Sx.C.seq ?_
    refine Sx.C.seq ?_
    refine Sx.C.region ?_
    refine Sx.G.pure (.int .i64 (i : Int)) (by kernel_rfl) (fun w => by kernel_rfl) ?_
    refine Sx.G.pure (.slice A xs.length c) (by kernel_rfl) (fun w => by kernel_rfl) ?_
    refine Sx.G.pure (.int .i64 ((xs.length : Nat) : Int)) (by kernel_rfl) (fun w => by kernel_rfl) ?_
    refine Sx.G.pure (.bool (decide ((i : Int) < ((xs.length : Nat) : Int)))) (by kernel_rfl) (fun w => by kernel_rfl) ?_
    refine Sx.G.nil ?_
    refine Sx.E.next ?_
    cases hc2 : (decide ((i : Int) < ((xs.length : Nat) : Int)))
    · have hb2 := hc2
      replace hc2 := of_decide_eq_false hc2
      refine Sx.C.no (by kernel_rfl) (by kernel_rfl) ?_
      refine Sx.C.exit ?_
      refine Sx.E.then_exit ?_
      refine Sx.E.then_exit ?_
      refine Sx.E.block_hit ?_
      refine Sx.E.next ?_
      refine Sx.C.seq ?_
      refine Sx.C.region ?_
      refine Sx.G.pure (.int .i64 m) (by kernel_rfl) (fun w => by kernel_rfl) ?_
      refine Sx.G.pure (.int .i64 m) (by kernel_rfl) (fun w => by kernel_rfl) ?_
      refine Sx.G.nil ?_
      refine Sx.E.next ?_
      refine Sx.C.ret ?_
      refine Sx.E.ret1 (.int .i64 m) rfl (by kernel_rfl) (fun w S => ?_)
      have hle := fun q => Kit.size_le (r := (rLsw rInt)) (xs := xs) q
      have h2' : xs.take i = xs := List.take_of_length_le (by omega)
      rw [h2'] at hm
      exact ⟨_, rfl, show Kit.Sz left (xs.length + sizeAll (rLsw rInt) xs) _ by unfold Kit.Sz; omega, S.below⟩
    · have hb2 := hc2
      replace hc2 := of_decide_eq_true hc2
      refine Sx.C.yes (by kernel_rfl) (by kernel_rfl) ?_
      refine Sx.C.skip ?_
      refine Sx.E.next ?_
      refine Sx.C.seq ?_
      refine Sx.C.block ?_
      refine Sx.C.seq ?_
      refine Sx.C.region ?_
      refine Sx.G.pure (.slice A xs.length c) (by kernel_rfl) (fun w => by kernel_rfl) ?_
      refine Sx.G.pure (.int .i64 (i : Int)) (by kernel_rfl) (fun w => by kernel_rfl) ?_
      obtain ⟨b3, f3, es3, eA3, hr3, hl3, hm3⟩ := Sx.old_elem (by decide) h i (by omega)
      subst eA3
      obtain ⟨x3, hx3⟩ : ∃ z_, z_ = (xs[i]'(by omega)) := ⟨_, rfl⟩
      rw [← hx3] at hr3
      replace hr3 : rdLst rInt w 0 w.heap.size x3 es3 := hr3
      obtain ⟨P3, rfl⟩ := lst_rd hr3
      obtain ⟨A3, c3, e3, -⟩ := lst_val hr3
      subst e3
      refine Sx.G.elem 24 26 (.tmp 18) (.tmp 19) 1 24 b3 f3 xs.length c i rfl (by kernel_rfl) (by kernel_rfl) (by kernel_rfl) (by kernel_rfl) (by omega) ?_
      refine Sx.G.ldr1 26 (.tmp 20) b3 ((f3 + i * 1) + 0) (.slice A3 x3.length c3) rfl (by kernel_rfl) (by kernel_rfl) (fun w S => hm3 w _ S 0 _ rfl) (by kernel_rfl) ?_
      refine Sx.G.pure (.int .i64 m) (by kernel_rfl) (fun w => by kernel_rfl) ?_
      refine Sx.G.call 54 #[.slice A3 x3.length c3, .int .i64 m] (by kernel_rfl) (fun w => by kernel_rfl) (fun w4 S => (Kit.ksz_IntS x3 A3 c3 m _ (hwe _ (hx3 ▸ List.getElem_mem _)) (by omega) (by omega) (St.old (r := (rLsw rInt)) S hr3)).mono fun e w4' hp => ?_)
      obtain ⟨l4, rfl, hz4, hb⟩ := hp
      replace hz4 : Kit.Sz m (x3.length + sizeAll rInt x3) l4 := hz4
      unfold Kit.Sz at hz4
      refine ⟨_, _, rfl, (S.call hb), ?_⟩
      clear S hb
      refine Sx.G.pure (.int .i64 l4) (by kernel_rfl) (fun w => by kernel_rfl) ?_
      refine Sx.G.nil ?_
      refine Sx.E.next ?_
      refine Sx.C.seq ?_
      refine Sx.C.region ?_
      refine Sx.G.pure (.int .i64 l4) (by kernel_rfl) (fun w => by kernel_rfl) ?_
      refine Sx.G.pure (.bool (decide (l4 < 0))) (by kernel_rfl) (fun w => by kernel_rfl) ?_
      refine Sx.G.nil ?_
      refine Sx.E.next ?_
      cases hc5 : (decide (l4 < 0))
      · have hb5 := hc5
        replace hc5 := of_decide_eq_false hc5
        refine Sx.C.no (by kernel_rfl) (by kernel_rfl) ?_
        refine Sx.C.skip ?_
        refine Sx.E.block_normal ?_
        refine Sx.E.next ?_
        refine Sx.C.region ?_
        refine Sx.G.pure (.int .i64 (i : Int)) (by kernel_rfl) (fun w => by kernel_rfl) ?_
        refine Sx.G.pureq (.int .i64 (IntKind.i64.wrap ((i : Int) + 1))) (.int .i64 ((i + 1 : Nat) : Int)) (by kernel_rfl) (fun w => by kernel_rfl) (congrArg (Value.int .i64) (Sx.wrap_up i (by omega))) ?_
        refine Sx.G.pure (.int .i64 ((i + 1 : Nat) : Int)) (by kernel_rfl) (fun w => by kernel_rfl) ?_
        refine Sx.G.nil ?_
        have hst := Kit.size_step (r := (rLsw rInt)) (show i < xs.length by omega)
        rw [← hx3] at hst
        rw [show (rLsw rInt).size x3 = x3.length + sizeAll rInt x3 from rfl] at hst
        exact Sx.E.again (i + 1, l4) (by refine ⟨by omega, ?_, by omega⟩; show _ = left - _ - ((sizeAll (rLsw rInt) (xs.take (i + 1)) : Nat) : Int); omega) (show xs.length - (i + 1) < xs.length - i by omega) (fun a hA => (Sx.Ag.and hA (Sx.Ag.and hA (Sx.Ag.and hA (Sx.Ag.and hA (Sx.Ag.none hA) _ _ (by kernel_rfl)) _ _ (by kernel_rfl)) _ _ (by kernel_rfl)) _ _ (by kernel_rfl))) (fun w S => S)
      · have hb5 := hc5
        replace hc5 := of_decide_eq_true hc5
        refine Sx.C.yes (by kernel_rfl) (by kernel_rfl) ?_
        refine Sx.C.seq ?_
        refine Sx.C.region ?_
        refine Sx.G.pure (.int .i64 (-1)) (by kernel_rfl) (fun w => by kernel_rfl) ?_
        refine Sx.G.nil ?_
        refine Sx.E.next ?_
        refine Sx.C.ret ?_
        refine Sx.E.block_ret ?_
        refine Sx.E.then_ret ?_
        refine Sx.E.then_ret ?_
        refine Sx.E.block_ret ?_
        refine Sx.E.then_ret ?_
        refine Sx.E.ret1 (.int .i64 (-1)) rfl (by kernel_rfl) (fun w S => ?_)
        have hle := fun q => Kit.size_le (r := (rLsw rInt)) (xs := xs) q
        have hst := Kit.size_step (r := (rLsw rInt)) (show i < xs.length by omega)
        rw [← hx3] at hst
        rw [show (rLsw rInt).size x3 = x3.length + sizeAll rInt x3 from rfl] at hst
        have h1' := hle (i + 1)
        exact ⟨_, rfl, show Kit.Sz left (xs.length + sizeAll (rLsw rInt) xs) _ by unfold Kit.Sz; omega, S.below⟩
  · have hb1 := hc1
    replace hc1 := of_decide_eq_true hc1
    refine Sx.C.yes (by kernel_rfl) (by kernel_rfl) ?_
    refine Sx.C.seq ?_
    refine Sx.C.region ?_
    refine Sx.G.pure (.int .i64 (-1)) (by kernel_rfl) (fun w => by kernel_rfl) ?_
    refine Sx.G.nil ?_
    refine Sx.E.next ?_
    refine Sx.C.ret ?_
    refine Sx.E.then_ret ?_
    refine Sx.E.ret1 (.int .i64 (-1)) rfl (by kernel_rfl) (fun w S => ?_)
    have hle := fun q => Kit.size_le (r := (rLsw rInt)) (xs := xs) q
    exact ⟨_, rfl, show Kit.Sz left (xs.length + sizeAll (rLsw rInt) xs) _ by unfold Kit.Sz; omega, S.below⟩
set_option maxRecDepth 100000 in
set_option maxHeartbeats 4000000 in
theorem kto_IntSS (xs : (List (List Int))) (A : Option Addr) (c : Nat) (w : World) (hc : (rLsw (rLsw rInt)).cap xs) (h : rdLst (rLsw rInt) w 0 w.heap.size xs [.slice A xs.length c]) : Calls Try.prog 59 #[.slice A xs.length c] w (Gives (rLsw (rLsw rInt)) w xs) := by
  obtain ⟨hl, hce⟩ := hc
  refine Sx.enter (args := [.slice A xs.length c]) Try.func59 rfl Try.ntmps59 rfl ?_
  refine Sx.C.seq ?_
  refine Sx.C.region ?_
  refine Sx.G.pure (.slice none 0 0) (by kernel_rfl) (fun w => by kernel_rfl) ?_
  refine Sx.G.nil ?_
  refine Sx.E.next ?_
  refine Sx.C.seq ?_
  refine Sx.C.region ?_
  refine Sx.G.pure (.slice A xs.length c) (by kernel_rfl) (fun w => by kernel_rfl) ?_
  refine Sx.G.pure (.int .i64 ((xs.length : Nat) : Int)) (by kernel_rfl) (fun w => by kernel_rfl) ?_
  refine Sx.G.mks (r := (rLsw rInt)) ([] : (List Int)) [.slice none 0 0] 24 26 (.tmp 6) (.tmp 6) 1 24 xs.length rfl (by kernel_rfl) (by kernel_rfl) (by kernel_rfl) rfl rfl (fun w lo hi => Kit.own_nil _ _ _) (by kernel_rfl) (by kernel_rfl) (by simp only [maxLen]; omega) (by omega) (fun b1 hi1 F1 => ?_)
  refine Sx.G.pure (.slice (some ⟨b1, 0, none⟩) xs.length xs.length) (by kernel_rfl) (fun w => by kernel_rfl) ?_
  refine Sx.G.nil ?_
  refine Sx.E.next ?_
  refine Sx.C.seq ?_
  refine Sx.C.seq ?_
  refine Sx.C.region ?_
  refine Sx.G.pure (.int .i64 0) (by kernel_rfl) (fun w => by kernel_rfl) ?_
  refine Sx.G.nil ?_
  refine Sx.E.next ?_
  refine Sx.C.block ?_
  refine Sx.C.loop (α := Nat × Nat × List Nat) (fun x => x.1 ≤ xs.length) (fun x => [(4, .int .i64 (x.1 : Int)), (0, .slice A xs.length c), (2, .slice none 0 0), (3, .slice (some ⟨b1, 0, none⟩) xs.length xs.length)]) (fun x => [ow (rLsw (rLsw rInt)) w.heap.size x.2.1 (xs.take x.1 ++ List.replicate (xs.length - x.1) ([] : (List Int))) [.slice (some ⟨b1, 0, none⟩) xs.length xs.length] x.2.2]) (fun x => xs.length - x.1) (0, hi1, F1) (Nat.zero_le _) (fun a hA => (Sx.Ag.and hA (Sx.Ag.and hA (Sx.Ag.and hA (Sx.Ag.and hA (Sx.Ag.none hA) _ _ (by kernel_rfl)) _ _ (by kernel_rfl)) _ _ (by kernel_rfl)) _ _ (by kernel_rfl))) (fun w' S => by have S2 := Sx.St.widen S 0 rfl (Nat.le_refl _) (S.hi 0 _ rfl); exact S2) (fun x hx => ?_)
  obtain ⟨i, hi, F⟩ := x
  dsimp only at hx
  obtain hi' := hx
  refine Sx.C.seq ?_
  refine Sx.C.seq ?_
  refine Sx.C.region ?_
  refine Sx.G.pure (.int .i64 (i : Int)) (by kernel_rfl) (fun w => by kernel_rfl) ?_
  refine Sx.G.pure (.slice A xs.length c) (by kernel_rfl) (fun w => by kernel_rfl) ?_
  refine Sx.G.pure (.int .i64 ((xs.length : Nat) : Int)) (by kernel_rfl) (fun w => by kernel_rfl) ?_
  refine Sx.G.pure (.bool (decide ((i : Int) < ((xs.length : Nat) : Int)))) (by kernel_rfl) (fun w => by kernel_rfl) ?_
  refine Sx.G.nil ?_
  refine Sx.E.next ?_
  cases hc2 : (decide ((i : Int) < ((xs.length : Nat) : Int)))
  · have hb2 := hc2
    replace hc2 := of_decide_eq_false hc2
    refine Sx.C.no (by kernel_rfl) (by kernel_rfl) ?_
    refine Sx.C.exit ?_
    refine Sx.E.then_exit ?_
    refine Sx.E.then_exit ?_
    refine Sx.E.block_hit ?_
    refine Sx.E.next ?_
    refine Sx.C.seq ?_
    refine Sx.C.region ?_
    refine Sx.G.pure (.slice (some ⟨b1, 0, none⟩) xs.length xs.length) (by kernel_rfl) (fun w => by kernel_rfl) ?_
    refine Sx.G.pure (.slice (some ⟨b1, 0, none⟩) xs.length xs.length) (by kernel_rfl) (fun w => by kernel_rfl) ?_
    refine Sx.G.nil ?_
    refine Sx.E.next ?_
    refine Sx.C.ret ?_
    refine Sx.E.ret1 (.slice (some ⟨b1, 0, none⟩) xs.length xs.length) rfl (by kernel_rfl) (fun w S => ?_)
    have h2' : xs.take i = xs := List.take_of_length_le (by omega)
    rw [h2', show xs.length - i = 0 by omega, List.replicate_zero, List.append_nil] at S
    exact ⟨[_], F, rfl, S.own 0 rfl, S.nodup 0 rfl, S.below⟩
  · have hb2 := hc2
    replace hc2 := of_decide_eq_true hc2
    refine Sx.C.yes (by kernel_rfl) (by kernel_rfl) ?_
    refine Sx.C.skip ?_
    refine Sx.E.next ?_
    refine Sx.C.seq ?_
    have hlt : i < xs.length := by omega
    refine Sx.C.open (r := (rLsw rInt)) (pre := xs.take i) (x := ([] : (List Int))) (post := List.replicate (xs.length - (i + 1)) ([] : (List Int))) (by rw [show xs.length - i = (xs.length - (i + 1)) + 1 by omega, List.replicate_succ]) (by decide) (fun b off es F1 Fi F2 eA eF hes hm hmc => ?_)
    obtain ⟨rfl, rfl⟩ : b1 = b ∧ 0 = off := by cases eA; exact ⟨rfl, rfl⟩
    subst eF
    refine Sx.C.know (p := ∃ A0 c0, es = [.slice A0 0 c0]) (fun w S => Kit.open_nil (St.at_ S 1 rfl).1) ?_
    rintro ⟨z0, d0, rfl⟩
    refine Sx.C.block ?_
    refine Sx.C.region ?_
    refine Sx.G.pure (.slice (some ⟨b1, 0, none⟩) xs.length xs.length) (by kernel_rfl) (fun w => by kernel_rfl) ?_
    refine Sx.G.pure (.int .i64 (i : Int)) (by kernel_rfl) (fun w => by kernel_rfl) ?_
    refine Sx.G.pure (.slice A xs.length c) (by kernel_rfl) (fun w => by kernel_rfl) ?_
    refine Sx.G.pure (.int .i64 (i : Int)) (by kernel_rfl) (fun w => by kernel_rfl) ?_
    obtain ⟨b3, f3, es3, eA3, hr3, hl3, hm3⟩ := Sx.old_elem (by decide) h i (by omega)
    subst eA3
    obtain ⟨x3, hx3⟩ : ∃ z_, z_ = (xs[i]'(by omega)) := ⟨_, rfl⟩
    rw [← hx3] at hr3
    replace hr3 : rdLst rInt w 0 w.heap.size x3 es3 := hr3
    obtain ⟨P3, rfl⟩ := lst_rd hr3
    obtain ⟨A3, c3, e3, -⟩ := lst_val hr3
    subst e3
    refine Sx.G.elem 24 26 (.tmp 16) (.tmp 17) 1 24 b3 f3 xs.length c i rfl (by kernel_rfl) (by kernel_rfl) (by kernel_rfl) (by kernel_rfl) (by omega) ?_
    refine Sx.G.ldr1 26 (.tmp 18) b3 ((f3 + i * 1) + 0) (.slice A3 x3.length c3) rfl (by kernel_rfl) (by kernel_rfl) (fun w S => hm3 w _ S 0 _ rfl) (by kernel_rfl) ?_
    refine Sx.G.call 61 #[.slice A3 x3.length c3] (by kernel_rfl) (fun w => by kernel_rfl) (fun w4 S => (Kit.kto_IntS x3 A3 c3 _ (hce _ (hx3 ▸ List.getElem_mem _)) (St.old (r := (rLsw rInt)) S hr3)).mono fun e w4' hp => ?_)
    obtain ⟨cs, F, rfl, ho, hF, hb⟩ := hp
    obtain ⟨u4, rfl⟩ := lsw_own ho
    obtain ⟨A4, c4, e4, -⟩ := lst_val ((St.got S hb ho hF).reads 0 rfl)
    subst e4
    generalize F = F4 at ho hF
    refine ⟨_, _, rfl, (St.got S hb ho hF), ?_⟩
    clear S hb ho hF
    refine Sx.G.elem 24 26 (.tmp 14) (.tmp 15) 1 24 b1 0 xs.length xs.length i rfl (by kernel_rfl) (by kernel_rfl) (by kernel_rfl) (by kernel_rfl) (by omega) ?_
    refine Sx.G.hsto (k := i) (size := 1) 26 (.tmp 21) (.tmp 20) b1 ((0 + i * 1) + 0) 0 1 [.slice A4 x3.length c4] [.slice A4 x3.length c4] [ow (rLsw rInt) w4.heap.size w4'.heap.size x3 [.slice A4 x3.length c4] F4, Sx.hole (rLsw rInt) b1 0 w.heap.size hi (xs.take i) (List.replicate (xs.length - (i + 1)) ([] : (List Int))) [.slice A4 x3.length c4] F1 F2, ow (rLsw rInt) w.heap.size hi ([] : (List Int)) [.slice z0 0 d0] Fi] rfl (by kernel_rfl) (by kernel_rfl) (by kernel_rfl) rfl (by rw [List.length_take]; omega) rfl rfl rfl rfl (by kernel_rfl) (by kernel_rfl) (by kernel_rfl) ?_
    refine Sx.G.nil ?_
    refine Sx.E.block_normal ?_
    refine Sx.E.next ?_
    refine Sx.C.region ?_
    refine Sx.G.pure (.int .i64 (i : Int)) (by kernel_rfl) (fun w => by kernel_rfl) ?_
    refine Sx.G.pureq (.int .i64 (IntKind.i64.wrap ((i : Int) + 1))) (.int .i64 ((i + 1 : Nat) : Int)) (by kernel_rfl) (fun w => by kernel_rfl) (congrArg (Value.int .i64) (Sx.wrap_up i (by omega))) ?_
    refine Sx.G.pure (.int .i64 ((i + 1 : Nat) : Int)) (by kernel_rfl) (fun w => by kernel_rfl) ?_
    refine Sx.G.nil ?_
    exact Sx.E.again (i + 1, max hi w4'.heap.size, _) (show i + 1 ≤ xs.length by omega) (show xs.length - (i + 1) < xs.length - i by omega) (fun a hA => (Sx.Ag.and hA (Sx.Ag.and hA (Sx.Ag.and hA (Sx.Ag.and hA (Sx.Ag.none hA) _ _ (by kernel_rfl)) _ _ (by kernel_rfl)) _ _ (by kernel_rfl)) _ _ (by kernel_rfl))) (fun w' S => by
      replace S := St.pick S [1, 0] [_, _] rfl (by decide)
      have S3 := Sx.St.closeW S (by decide) xs.length xs.length (by simp [List.length_take]; omega) hmc
      rw [hx3] at S3
      rw [show xs.take i ++ xs[i] :: List.replicate (xs.length - (i + 1)) ([] : (List Int)) = xs.take (i + 1) ++ List.replicate (xs.length - (i + 1)) ([] : (List Int)) by rw [Kit.take_step hlt, List.append_assoc]; rfl] at S3
      exact S3
      )
set_option maxRecDepth 100000 in
set_option maxHeartbeats 4000000 in
theorem keq_GuestS (xs : (List gT)) (A : Option Addr) (c : Nat) (B : Option Addr) (d : Nat) (w : World) (hc : (rLsw wG).cap xs) (h : rdLst wG w 0 w.heap.size xs [.slice A xs.length c]) (j : rdLst wG w 0 w.heap.size xs [.slice B xs.length d]) : Calls Try.prog 42 #[.slice A xs.length c, .slice B xs.length d] w (fun e w' => e = .returned (.bool true) ∧ Below w.heap.size w w') := by
  obtain ⟨hl, hce⟩ := hc
  refine Sx.enter (args := [.slice A xs.length c, .slice B xs.length d]) Try.func42 rfl Try.ntmps42 rfl ?_
  refine Sx.C.seq ?_
  refine Sx.C.region ?_
  refine Sx.G.pure (.bool false) (by kernel_rfl) (fun w => by kernel_rfl) ?_
  refine Sx.G.nil ?_
  refine Sx.E.next ?_
  refine Sx.C.seq ?_
  refine Sx.C.seq ?_
  refine Sx.C.region ?_
  refine Sx.G.pure (.slice A xs.length c) (by kernel_rfl) (fun w => by kernel_rfl) ?_
  refine Sx.G.pure (.int .i64 ((xs.length : Nat) : Int)) (by kernel_rfl) (fun w => by kernel_rfl) ?_
  refine Sx.G.pure (.slice B xs.length d) (by kernel_rfl) (fun w => by kernel_rfl) ?_
  refine Sx.G.pure (.int .i64 ((xs.length : Nat) : Int)) (by kernel_rfl) (fun w => by kernel_rfl) ?_
  refine Sx.G.pureq (.bool (((xs.length : Nat) : Int) != ((xs.length : Nat) : Int))) (.bool false) (by kernel_rfl) (fun w => by kernel_rfl) (congrArg Value.bool (bne_self_eq_false _)) ?_
  refine Sx.G.nil ?_
  refine Sx.E.next ?_
  refine Sx.C.no (by kernel_rfl) (by kernel_rfl) ?_
  refine Sx.C.skip ?_
  refine Sx.E.next ?_
  refine Sx.C.seq ?_
  refine Sx.C.seq ?_
  refine Sx.C.region ?_
  refine Sx.G.pure (.int .i64 0) (by kernel_rfl) (fun w => by kernel_rfl) ?_
  refine Sx.G.nil ?_
  refine Sx.E.next ?_
  refine Sx.C.block ?_
  refine Sx.C.loop (α := Nat) (fun i => i ≤ xs.length) (fun i => [(5, .int .i64 (i : Int)), (0, .slice A xs.length c), (1, .slice B xs.length d), (4, .bool false)]) (fun i => []) (fun i => xs.length - i) 0 (Nat.zero_le _) (fun a hA => (Sx.Ag.and hA (Sx.Ag.and hA (Sx.Ag.and hA (Sx.Ag.and hA (Sx.Ag.none hA) _ _ (by kernel_rfl)) _ _ (by kernel_rfl)) _ _ (by kernel_rfl)) _ _ (by kernel_rfl))) (fun w S => S) (fun i hx => ?_)
  refine Sx.C.seq ?_
  refine Sx.C.seq ?_
  refine Sx.C.region ?_
  refine Sx.G.pure (.int .i64 (i : Int)) (by kernel_rfl) (fun w => by kernel_rfl) ?_
  refine Sx.G.pure (.slice A xs.length c) (by kernel_rfl) (fun w => by kernel_rfl) ?_
  refine Sx.G.pure (.int .i64 ((xs.length : Nat) : Int)) (by kernel_rfl) (fun w => by kernel_rfl) ?_
  refine Sx.G.pure (.bool (decide ((i : Int) < ((xs.length : Nat) : Int)))) (by kernel_rfl) (fun w => by kernel_rfl) ?_
  refine Sx.G.nil ?_
  refine Sx.E.next ?_
  cases hc1 : (decide ((i : Int) < ((xs.length : Nat) : Int)))
  · have hb1 := hc1
    replace hc1 := of_decide_eq_false hc1
    refine Sx.C.no (by kernel_rfl) (by kernel_rfl) ?_
    refine Sx.C.exit ?_
    refine Sx.E.then_exit ?_
    refine Sx.E.then_exit ?_
    refine Sx.E.block_hit ?_
    refine Sx.E.next ?_
    refine Sx.C.seq ?_
    refine Sx.C.region ?_
    refine Sx.G.pure (.bool true) (by kernel_rfl) (fun w => by kernel_rfl) ?_
    refine Sx.G.nil ?_
    refine Sx.E.next ?_
    refine Sx.C.ret ?_
    refine Sx.E.ret1 (.bool true) rfl (by kernel_rfl) (fun w S => ?_)
    exact ⟨rfl, S.below⟩
  · have hb1 := hc1
    replace hc1 := of_decide_eq_true hc1
    refine Sx.C.yes (by kernel_rfl) (by kernel_rfl) ?_
    refine Sx.C.skip ?_
    refine Sx.E.next ?_
    refine Sx.C.seq ?_
    refine Sx.C.block ?_
    refine Sx.C.seq ?_
    refine Sx.C.draw (.take 0 (.take 1 (.take 2 (.take 3 (.take 4 (.take 5 (.take 6 (.take 7 (.alone 8 (.take 9 .nil)))))))))) [] (fun w S => St.pick S [] _ rfl (by decide)) (by kernel_rfl) (by kernel_rfl) (by kernel_rfl) ?_
    refine Sx.GT.pure (.slice A xs.length c) 0 (by rfl) (by kernel_rfl) (fun w => by kernel_rfl) ?_
    refine Sx.GT.pure (.int .i64 (i : Int)) 1 (by rfl) (by kernel_rfl) (fun w => by kernel_rfl) ?_
    obtain ⟨b2, f2, es2, eA2, hr2, hl2, hm2⟩ := Sx.old_elem (by decide) h i (by omega)
    subst eA2
    obtain ⟨x2, hx2⟩ : ∃ z_, z_ = (xs[i]'(by omega)) := ⟨_, rfl⟩
    rw [← hx2] at hr2
    have hR2 := hr2
    obtain ⟨P2_0, P2_1, P2_2, P2_3, rfl, hf2_0, hf2_1, hf2_2, hf2_3⟩ := wG_rd hr2
    obtain ⟨A2_0, c2_0, e2_0, -⟩ := lst_val hf2_0
    subst e2_0
    obtain ⟨A2_1, c2_1, e2_1, -⟩ := lst_val hf2_1
    subst e2_1
    obtain ⟨A2_2, c2_2, e2_2, -⟩ := lst_val hf2_2
    subst e2_2
    obtain ⟨A2_3, c2_3, e2_3, -⟩ := lst_val hf2_3
    subst e2_3
    refine Sx.GT.elem 25 51 (.tmp 17) (.tmp 18) 15 184 b2 f2 xs.length c i 2 (by rfl) (by rfl) (by kernel_rfl) (by kernel_rfl) (by kernel_rfl) (by kernel_rfl) (by omega) ?_
    refine Sx.GT.ldr 51 (.tmp 19) b2 (f2 + i * 15) [.slice A2_0 x2.prog.length c2_0, .int .i64 x2.a, .int .i64 x2.pc, .slice A2_1 x2.wr.length c2_1, .slice A2_2 x2.lv.length c2_2, .int .i64 x2.t.1, .int .i64 x2.t.2.1, .bool x2.t.2.2, .int .i64 x2.pd, .int .i64 x2.x.1, .int .i64 x2.x.2.1, .bool x2.x.2.2.1, .int .i64 x2.x.2.2.2, .bool x2.hl, .slice A2_3 x2.seen.length c2_3] 3 (by rfl) (by rfl) (by kernel_rfl) (by kernel_rfl) (fun w S => hm2 w _ S) (by kernel_rfl) (by kernel_rfl) ?_
    refine Sx.GT.pure (.slice B xs.length d) 4 (by rfl) (by kernel_rfl) (fun w => by kernel_rfl) ?_
    refine Sx.GT.pure (.int .i64 (i : Int)) 5 (by rfl) (by kernel_rfl) (fun w => by kernel_rfl) ?_
    obtain ⟨b3, f3, es3, eA3, hr3, hl3, hm3⟩ := Sx.old_elem (by decide) j i (by omega)
    subst eA3
    rw [← hx2] at hr3
    have hR3 := hr3
    obtain ⟨P3_0, P3_1, P3_2, P3_3, rfl, hf3_0, hf3_1, hf3_2, hf3_3⟩ := wG_rd hr3
    obtain ⟨A3_0, c3_0, e3_0, -⟩ := lst_val hf3_0
    subst e3_0
    obtain ⟨A3_1, c3_1, e3_1, -⟩ := lst_val hf3_1
    subst e3_1
    obtain ⟨A3_2, c3_2, e3_2, -⟩ := lst_val hf3_2
    subst e3_2
    obtain ⟨A3_3, c3_3, e3_3, -⟩ := lst_val hf3_3
    subst e3_3
    refine Sx.GT.elem 25 51 (.tmp 21) (.tmp 22) 15 184 b3 f3 xs.length d i 6 (by rfl) (by rfl) (by kernel_rfl) (by kernel_rfl) (by kernel_rfl) (by kernel_rfl) (by omega) ?_
    refine Sx.GT.ldr 51 (.tmp 23) b3 (f3 + i * 15) [.slice A3_0 x2.prog.length c3_0, .int .i64 x2.a, .int .i64 x2.pc, .slice A3_1 x2.wr.length c3_1, .slice A3_2 x2.lv.length c3_2, .int .i64 x2.t.1, .int .i64 x2.t.2.1, .bool x2.t.2.2, .int .i64 x2.pd, .int .i64 x2.x.1, .int .i64 x2.x.2.1, .bool x2.x.2.2.1, .int .i64 x2.x.2.2.2, .bool x2.hl, .slice A3_3 x2.seen.length c3_3] 7 (by rfl) (by rfl) (by kernel_rfl) (by kernel_rfl) (fun w S => hm3 w _ S) (by kernel_rfl) (by kernel_rfl) ?_
    refine Sx.GT.alone (Sx.Alone.plain 24 #[.agg #[.slice A2_0 x2.prog.length c2_0, .int .i64 x2.a, .int .i64 x2.pc, .slice A2_1 x2.wr.length c2_1, .slice A2_2 x2.lv.length c2_2, .int .i64 x2.t.1, .int .i64 x2.t.2.1, .bool x2.t.2.2, .int .i64 x2.pd, .int .i64 x2.x.1, .int .i64 x2.x.2.1, .bool x2.x.2.2.1, .int .i64 x2.x.2.2.2, .bool x2.hl, .slice A2_3 x2.seen.length c2_3], .agg #[.slice A3_0 x2.prog.length c3_0, .int .i64 x2.a, .int .i64 x2.pc, .slice A3_1 x2.wr.length c3_1, .slice A3_2 x2.lv.length c3_2, .int .i64 x2.t.1, .int .i64 x2.t.2.1, .bool x2.t.2.2, .int .i64 x2.pd, .int .i64 x2.x.1, .int .i64 x2.x.2.1, .bool x2.x.2.2.1, .int .i64 x2.x.2.2.2, .bool x2.hl, .slice A3_3 x2.seen.length c3_3]] (.bool true) (by rfl) (by kernel_rfl) (fun w => by kernel_rfl) (fun w S => by exact Kit.keq_Guest x2 _ _ _ (hce _ (hx2 ▸ List.getElem_mem _)) (St.old S hR2) (St.old S hR3)) (fun w S => St.pick S [] _ rfl (by decide)) ?_)
    refine Sx.GT.pure (.bool false) 9 (by rfl) (by kernel_rfl) (fun w => by kernel_rfl) ?_
    refine Sx.GT.nil ?_
    refine Sx.E.next ?_
    refine Sx.C.no (by kernel_rfl) (by kernel_rfl) ?_
    refine Sx.C.skip ?_
    refine Sx.E.block_normal ?_
    refine Sx.E.next ?_
    refine Sx.C.region ?_
    refine Sx.G.pure (.int .i64 (i : Int)) (by kernel_rfl) (fun w => by kernel_rfl) ?_
    refine Sx.G.pureq (.int .i64 (IntKind.i64.wrap ((i : Int) + 1))) (.int .i64 ((i + 1 : Nat) : Int)) (by kernel_rfl) (fun w => by kernel_rfl) (congrArg (Value.int .i64) (Sx.wrap_up i (by omega))) ?_
    refine Sx.G.pure (.int .i64 ((i + 1 : Nat) : Int)) (by kernel_rfl) (fun w => by kernel_rfl) ?_
    refine Sx.G.nil ?_
    exact Sx.E.again (i + 1) (by omega) (by omega) (fun a hA => (Sx.Ag.and hA (Sx.Ag.and hA (Sx.Ag.and hA (Sx.Ag.and hA (Sx.Ag.none hA) _ _ (by kernel_rfl)) _ _ (by kernel_rfl)) _ _ (by kernel_rfl)) _ _ (by kernel_rfl))) (fun w S => S)
set_option maxRecDepth 100000 in
set_option maxHeartbeats 4000000 in
theorem ksz_GuestS (xs : (List gT)) (A : Option Addr) (c : Nat) (left : Int) (w : World) (hw : (rLsw wG).wf xs) (h0 : 0 ≤ left) (h1 : left ≤ 1048576) (h : rdLst wG w 0 w.heap.size xs [.slice A xs.length c]) : Calls Try.prog 53 #[.slice A xs.length c, .int .i64 left] w (fun e w' => ∃ l, e = .returned (.int .i64 l) ∧ Kit.Sz left ((rLsw wG).size xs) l ∧ Below w.heap.size w w') := by
  obtain ⟨hl, hwe⟩ := hw
  simp only [maxLen] at hl
  refine Sx.enter (args := [.slice A xs.length c, .int .i64 left]) Try.func53 rfl Try.ntmps53 rfl ?_
  refine Sx.C.seq ?_
  refine Sx.C.region ?_
  refine Sx.G.pure (.int .i64 0) (by kernel_rfl) (fun w => by kernel_rfl) ?_
  refine Sx.G.nil ?_
  refine Sx.E.next ?_
  refine Sx.C.seq ?_
  refine Sx.C.region ?_
  refine Sx.G.pure (.int .i64 left) (by kernel_rfl) (fun w => by kernel_rfl) ?_
  refine Sx.G.pure (.slice A xs.length c) (by kernel_rfl) (fun w => by kernel_rfl) ?_
  refine Sx.G.pure (.int .i64 ((xs.length : Nat) : Int)) (by kernel_rfl) (fun w => by kernel_rfl) ?_
  refine Sx.G.pureq (.int .i64 (IntKind.i64.wrap (left - ((xs.length : Nat) : Int)))) (.int .i64 (left - ((xs.length : Nat) : Int))) (by kernel_rfl) (fun w => by kernel_rfl) (congrArg (Value.int .i64) (by rw [IntKind.wrap_i64]; omega)) ?_
  refine Sx.G.pure (.int .i64 (left - ((xs.length : Nat) : Int))) (by kernel_rfl) (fun w => by kernel_rfl) ?_
  refine Sx.G.nil ?_
  refine Sx.E.next ?_
  refine Sx.C.seq ?_
  refine Sx.C.seq ?_
  refine Sx.C.region ?_
  refine Sx.G.pure (.int .i64 (left - ((xs.length : Nat) : Int))) (by kernel_rfl) (fun w => by kernel_rfl) ?_
  refine Sx.G.pure (.bool (decide ((left - ((xs.length : Nat) : Int)) < 0))) (by kernel_rfl) (fun w => by kernel_rfl) ?_
  refine Sx.G.nil ?_
  refine Sx.E.next ?_
  cases hc1 : (decide ((left - ((xs.length : Nat) : Int)) < 0))
  · have hb1 := hc1
    replace hc1 := of_decide_eq_false hc1
    refine Sx.C.no (by kernel_rfl) (by kernel_rfl) ?_
    refine Sx.C.skip ?_
    refine Sx.E.next ?_
    refine Sx.C.seq ?_
    refine Sx.C.seq ?_
    refine Sx.C.region ?_
    refine Sx.G.pure (.int .i64 0) (by kernel_rfl) (fun w => by kernel_rfl) ?_
    refine Sx.G.nil ?_
    refine Sx.E.next ?_
    refine Sx.C.block ?_
    refine Sx.C.loop (α := Nat × Int) (fun x => x.1 ≤ xs.length ∧ x.2 = left - ((xs.length : Nat) : Int) - ((sizeAll wG (xs.take x.1) : Nat) : Int) ∧ 0 ≤ x.2) (fun x => [(5, .int .i64 (x.1 : Int)), (1, .int .i64 x.2), (0, .slice A xs.length c), (4, .int .i64 0)]) (fun x => []) (fun x => xs.length - x.1) (0, left - ((xs.length : Nat) : Int)) (by refine ⟨Nat.zero_le _, ?_, by omega⟩; simp [sizeAll]) (fun a hA => (Sx.Ag.and hA (Sx.Ag.and hA (Sx.Ag.and hA (Sx.Ag.and hA (Sx.Ag.none hA) _ _ (by kernel_rfl)) _ _ (by kernel_rfl)) _ _ (by kernel_rfl)) _ _ (by kernel_rfl))) (fun w S => S) (fun x hx => ?_)
    obtain ⟨i, m⟩ := x
    dsimp only at hx
    obtain ⟨hi, hm, h0m⟩ := hx
    refine Sx.C.seq ?_
    refine Sx.C.seq ?_
    refine Sx.C.region ?_
    refine Sx.G.pure (.int .i64 (i : Int)) (by kernel_rfl) (fun w => by kernel_rfl) ?_
    refine Sx.G.pure (.slice A xs.length c) (by kernel_rfl) (fun w => by kernel_rfl) ?_
    refine Sx.G.pure (.int .i64 ((xs.length : Nat) : Int)) (by kernel_rfl) (fun w => by kernel_rfl) ?_
    refine Sx.G.pure (.bool (decide ((i : Int) < ((xs.length : Nat) : Int)))) (by kernel_rfl) (fun w => by kernel_rfl) ?_
    refine Sx.G.nil ?_
    refine Sx.E.next ?_
    cases hc2 : (decide ((i : Int) < ((xs.length : Nat) : Int)))
    · have hb2 := hc2
      replace hc2 := of_decide_eq_false hc2
      refine Sx.C.no (by kernel_rfl) (by kernel_rfl) ?_
      refine Sx.C.exit ?_
      refine Sx.E.then_exit ?_
      refine Sx.E.then_exit ?_
      refine Sx.E.block_hit ?_
      refine Sx.E.next ?_
      refine Sx.C.seq ?_
      refine Sx.C.region ?_
      refine Sx.G.pure (.int .i64 m) (by kernel_rfl) (fun w => by kernel_rfl) ?_
      refine Sx.G.pure (.int .i64 m) (by kernel_rfl) (fun w => by kernel_rfl) ?_
      refine Sx.G.nil ?_
      refine Sx.E.next ?_
      refine Sx.C.ret ?_
      refine Sx.E.ret1 (.int .i64 m) rfl (by kernel_rfl) (fun w S => ?_)
      have hle := fun q => Kit.size_le (r := wG) (xs := xs) q
      have h2' : xs.take i = xs := List.take_of_length_le (by omega)
      rw [h2'] at hm
      exact ⟨_, rfl, show Kit.Sz left (xs.length + sizeAll wG xs) _ by unfold Kit.Sz; omega, S.below⟩
    · have hb2 := hc2
      replace hc2 := of_decide_eq_true hc2
      refine Sx.C.yes (by kernel_rfl) (by kernel_rfl) ?_
      refine Sx.C.skip ?_
      refine Sx.E.next ?_
      refine Sx.C.seq ?_
      refine Sx.C.block ?_
      refine Sx.C.seq ?_
      refine Sx.C.region ?_
      refine Sx.G.pure (.slice A xs.length c) (by kernel_rfl) (fun w => by kernel_rfl) ?_
      refine Sx.G.pure (.int .i64 (i : Int)) (by kernel_rfl) (fun w => by kernel_rfl) ?_
      obtain ⟨b3, f3, es3, eA3, hr3, hl3, hm3⟩ := Sx.old_elem (by decide) h i (by omega)
      subst eA3
      obtain ⟨x3, hx3⟩ : ∃ z_, z_ = (xs[i]'(by omega)) := ⟨_, rfl⟩
      rw [← hx3] at hr3
      have hR3 := hr3
      obtain ⟨P3_0, P3_1, P3_2, P3_3, rfl, hf3_0, hf3_1, hf3_2, hf3_3⟩ := wG_rd hr3
      obtain ⟨A3_0, c3_0, e3_0, -⟩ := lst_val hf3_0
      subst e3_0
      obtain ⟨A3_1, c3_1, e3_1, -⟩ := lst_val hf3_1
      subst e3_1
      obtain ⟨A3_2, c3_2, e3_2, -⟩ := lst_val hf3_2
      subst e3_2
      obtain ⟨A3_3, c3_3, e3_3, -⟩ := lst_val hf3_3
      subst e3_3
      refine Sx.G.elem 37 62 (.tmp 18) (.tmp 19) 15 184 b3 f3 xs.length c i rfl (by kernel_rfl) (by kernel_rfl) (by kernel_rfl) (by kernel_rfl) (by omega) ?_
      refine Sx.G.ldr 62 (.tmp 20) b3 (f3 + i * 15) [.slice A3_0 x3.prog.length c3_0, .int .i64 x3.a, .int .i64 x3.pc, .slice A3_1 x3.wr.length c3_1, .slice A3_2 x3.lv.length c3_2, .int .i64 x3.t.1, .int .i64 x3.t.2.1, .bool x3.t.2.2, .int .i64 x3.pd, .int .i64 x3.x.1, .int .i64 x3.x.2.1, .bool x3.x.2.2.1, .int .i64 x3.x.2.2.2, .bool x3.hl, .slice A3_3 x3.seen.length c3_3] rfl (by kernel_rfl) (by kernel_rfl) (fun w S => hm3 w _ S) (by kernel_rfl) (by kernel_rfl) ?_
      refine Sx.G.pure (.int .i64 m) (by kernel_rfl) (fun w => by kernel_rfl) ?_
      refine Sx.G.call 27 #[.agg #[.slice A3_0 x3.prog.length c3_0, .int .i64 x3.a, .int .i64 x3.pc, .slice A3_1 x3.wr.length c3_1, .slice A3_2 x3.lv.length c3_2, .int .i64 x3.t.1, .int .i64 x3.t.2.1, .bool x3.t.2.2, .int .i64 x3.pd, .int .i64 x3.x.1, .int .i64 x3.x.2.1, .bool x3.x.2.2.1, .int .i64 x3.x.2.2.2, .bool x3.hl, .slice A3_3 x3.seen.length c3_3], .int .i64 m] (by kernel_rfl) (fun w => by kernel_rfl) (fun w4 S => (Kit.ksz_Guest x3 _ m _ (hwe _ (hx3 ▸ List.getElem_mem _)) (by omega) (by omega) (St.old S hR3)).mono fun e w4' hp => ?_)
      obtain ⟨l4, rfl, hz4, hb⟩ := hp
      skip
      unfold Kit.Sz at hz4
      refine ⟨_, _, rfl, (S.call hb), ?_⟩
      clear S hb
      refine Sx.G.pure (.int .i64 l4) (by kernel_rfl) (fun w => by kernel_rfl) ?_
      refine Sx.G.nil ?_
      refine Sx.E.next ?_
      refine Sx.C.seq ?_
      refine Sx.C.region ?_
      refine Sx.G.pure (.int .i64 l4) (by kernel_rfl) (fun w => by kernel_rfl) ?_
      refine Sx.G.pure (.bool (decide (l4 < 0))) (by kernel_rfl) (fun w => by kernel_rfl) ?_
      refine Sx.G.nil ?_
      refine Sx.E.next ?_
      cases hc5 : (decide (l4 < 0))
      · have hb5 := hc5
        replace hc5 := of_decide_eq_false hc5
        refine Sx.C.no (by kernel_rfl) (by kernel_rfl) ?_
        refine Sx.C.skip ?_
        refine Sx.E.block_normal ?_
        refine Sx.E.next ?_
        refine Sx.C.region ?_
        refine Sx.G.pure (.int .i64 (i : Int)) (by kernel_rfl) (fun w => by kernel_rfl) ?_
        refine Sx.G.pureq (.int .i64 (IntKind.i64.wrap ((i : Int) + 1))) (.int .i64 ((i + 1 : Nat) : Int)) (by kernel_rfl) (fun w => by kernel_rfl) (congrArg (Value.int .i64) (Sx.wrap_up i (by omega))) ?_
        refine Sx.G.pure (.int .i64 ((i + 1 : Nat) : Int)) (by kernel_rfl) (fun w => by kernel_rfl) ?_
        refine Sx.G.nil ?_
        have hst := Kit.size_step (r := wG) (show i < xs.length by omega)
        rw [← hx3] at hst
        exact Sx.E.again (i + 1, l4) (by refine ⟨by omega, ?_, by omega⟩; show _ = left - _ - ((sizeAll wG (xs.take (i + 1)) : Nat) : Int); omega) (show xs.length - (i + 1) < xs.length - i by omega) (fun a hA => (Sx.Ag.and hA (Sx.Ag.and hA (Sx.Ag.and hA (Sx.Ag.and hA (Sx.Ag.none hA) _ _ (by kernel_rfl)) _ _ (by kernel_rfl)) _ _ (by kernel_rfl)) _ _ (by kernel_rfl))) (fun w S => S)
      · have hb5 := hc5
        replace hc5 := of_decide_eq_true hc5
        refine Sx.C.yes (by kernel_rfl) (by kernel_rfl) ?_
        refine Sx.C.seq ?_
        refine Sx.C.region ?_
        refine Sx.G.pure (.int .i64 (-1)) (by kernel_rfl) (fun w => by kernel_rfl) ?_
        refine Sx.G.nil ?_
        refine Sx.E.next ?_
        refine Sx.C.ret ?_
        refine Sx.E.block_ret ?_
        refine Sx.E.then_ret ?_
        refine Sx.E.then_ret ?_
        refine Sx.E.block_ret ?_
        refine Sx.E.then_ret ?_
        refine Sx.E.ret1 (.int .i64 (-1)) rfl (by kernel_rfl) (fun w S => ?_)
        have hle := fun q => Kit.size_le (r := wG) (xs := xs) q
        have hst := Kit.size_step (r := wG) (show i < xs.length by omega)
        rw [← hx3] at hst
        have h1' := hle (i + 1)
        exact ⟨_, rfl, show Kit.Sz left (xs.length + sizeAll wG xs) _ by unfold Kit.Sz; omega, S.below⟩
  · have hb1 := hc1
    replace hc1 := of_decide_eq_true hc1
    refine Sx.C.yes (by kernel_rfl) (by kernel_rfl) ?_
    refine Sx.C.seq ?_
    refine Sx.C.region ?_
    refine Sx.G.pure (.int .i64 (-1)) (by kernel_rfl) (fun w => by kernel_rfl) ?_
    refine Sx.G.nil ?_
    refine Sx.E.next ?_
    refine Sx.C.ret ?_
    refine Sx.E.then_ret ?_
    refine Sx.E.ret1 (.int .i64 (-1)) rfl (by kernel_rfl) (fun w S => ?_)
    have hle := fun q => Kit.size_le (r := wG) (xs := xs) q
    exact ⟨_, rfl, show Kit.Sz left (xs.length + sizeAll wG xs) _ by unfold Kit.Sz; omega, S.below⟩
set_option maxRecDepth 100000 in
set_option maxHeartbeats 4000000 in
theorem kto_GuestS (xs : (List gT)) (A : Option Addr) (c : Nat) (w : World) (hc : (rLsw wG).cap xs) (h : rdLst wG w 0 w.heap.size xs [.slice A xs.length c]) : Calls Try.prog 60 #[.slice A xs.length c] w (Gives (rLsw wG) w xs) := by
  obtain ⟨hl, hce⟩ := hc
  refine Sx.enter (args := [.slice A xs.length c]) Try.func60 rfl Try.ntmps60 rfl ?_
  refine Sx.C.seq ?_
  refine Sx.C.region ?_
  refine Sx.G.pure (.slice none 0 0) (by kernel_rfl) (fun w => by kernel_rfl) ?_
  refine Sx.G.nil ?_
  refine Sx.E.next ?_
  refine Sx.C.seq ?_
  refine Sx.C.region ?_
  refine Sx.G.pure (.slice A xs.length c) (by kernel_rfl) (fun w => by kernel_rfl) ?_
  refine Sx.G.pure (.int .i64 ((xs.length : Nat) : Int)) (by kernel_rfl) (fun w => by kernel_rfl) ?_
  refine Sx.G.mks (r := wG) ({ prog := [], a := 0, pc := 0, wr := [], lv := [], t := (0, 0, false), pd := 0, x := (0, 0, false, 0), hl := false, seen := [] } : gT) [.slice none 0 0, .int .i64 0, .int .i64 0, .slice none 0 0, .slice none 0 0, .int .i64 0, .int .i64 0, .bool false, .int .i64 0, .int .i64 0, .int .i64 0, .bool false, .int .i64 0, .bool false, .slice none 0 0] 25 51 (.tmp 6) (.tmp 6) 15 184 xs.length rfl (by kernel_rfl) (by kernel_rfl) (by kernel_rfl) rfl rfl (fun w lo hi => Kit.own_zero_Guest w lo hi) (by kernel_rfl) (by kernel_rfl) (by simp only [maxLen]; omega) (by omega) (fun b1 hi1 F1 => ?_)
  refine Sx.G.pure (.slice (some ⟨b1, 0, none⟩) xs.length xs.length) (by kernel_rfl) (fun w => by kernel_rfl) ?_
  refine Sx.G.nil ?_
  refine Sx.E.next ?_
  refine Sx.C.seq ?_
  refine Sx.C.seq ?_
  refine Sx.C.region ?_
  refine Sx.G.pure (.int .i64 0) (by kernel_rfl) (fun w => by kernel_rfl) ?_
  refine Sx.G.nil ?_
  refine Sx.E.next ?_
  refine Sx.C.block ?_
  refine Sx.C.loop (α := Nat × Nat × List Nat) (fun x => x.1 ≤ xs.length) (fun x => [(4, .int .i64 (x.1 : Int)), (0, .slice A xs.length c), (2, .slice none 0 0), (3, .slice (some ⟨b1, 0, none⟩) xs.length xs.length)]) (fun x => [ow (rLsw wG) w.heap.size x.2.1 (xs.take x.1 ++ List.replicate (xs.length - x.1) ({ prog := [], a := 0, pc := 0, wr := [], lv := [], t := (0, 0, false), pd := 0, x := (0, 0, false, 0), hl := false, seen := [] } : gT)) [.slice (some ⟨b1, 0, none⟩) xs.length xs.length] x.2.2]) (fun x => xs.length - x.1) (0, hi1, F1) (Nat.zero_le _) (fun a hA => (Sx.Ag.and hA (Sx.Ag.and hA (Sx.Ag.and hA (Sx.Ag.and hA (Sx.Ag.none hA) _ _ (by kernel_rfl)) _ _ (by kernel_rfl)) _ _ (by kernel_rfl)) _ _ (by kernel_rfl))) (fun w' S => by have S2 := Sx.St.widen S 0 rfl (Nat.le_refl _) (S.hi 0 _ rfl); exact S2) (fun x hx => ?_)
  obtain ⟨i, hi, F⟩ := x
  dsimp only at hx
  obtain hi' := hx
  refine Sx.C.seq ?_
  refine Sx.C.seq ?_
  refine Sx.C.region ?_
  refine Sx.G.pure (.int .i64 (i : Int)) (by kernel_rfl) (fun w => by kernel_rfl) ?_
  refine Sx.G.pure (.slice A xs.length c) (by kernel_rfl) (fun w => by kernel_rfl) ?_
  refine Sx.G.pure (.int .i64 ((xs.length : Nat) : Int)) (by kernel_rfl) (fun w => by kernel_rfl) ?_
  refine Sx.G.pure (.bool (decide ((i : Int) < ((xs.length : Nat) : Int)))) (by kernel_rfl) (fun w => by kernel_rfl) ?_
  refine Sx.G.nil ?_
  refine Sx.E.next ?_
  cases hc2 : (decide ((i : Int) < ((xs.length : Nat) : Int)))
  · have hb2 := hc2
    replace hc2 := of_decide_eq_false hc2
    refine Sx.C.no (by kernel_rfl) (by kernel_rfl) ?_
    refine Sx.C.exit ?_
    refine Sx.E.then_exit ?_
    refine Sx.E.then_exit ?_
    refine Sx.E.block_hit ?_
    refine Sx.E.next ?_
    refine Sx.C.seq ?_
    refine Sx.C.region ?_
    refine Sx.G.pure (.slice (some ⟨b1, 0, none⟩) xs.length xs.length) (by kernel_rfl) (fun w => by kernel_rfl) ?_
    refine Sx.G.pure (.slice (some ⟨b1, 0, none⟩) xs.length xs.length) (by kernel_rfl) (fun w => by kernel_rfl) ?_
    refine Sx.G.nil ?_
    refine Sx.E.next ?_
    refine Sx.C.ret ?_
    refine Sx.E.ret1 (.slice (some ⟨b1, 0, none⟩) xs.length xs.length) rfl (by kernel_rfl) (fun w S => ?_)
    have h2' : xs.take i = xs := List.take_of_length_le (by omega)
    rw [h2', show xs.length - i = 0 by omega, List.replicate_zero, List.append_nil] at S
    exact ⟨[_], F, rfl, S.own 0 rfl, S.nodup 0 rfl, S.below⟩
  · have hb2 := hc2
    replace hc2 := of_decide_eq_true hc2
    refine Sx.C.yes (by kernel_rfl) (by kernel_rfl) ?_
    refine Sx.C.skip ?_
    refine Sx.E.next ?_
    refine Sx.C.seq ?_
    have hlt : i < xs.length := by omega
    refine Sx.C.open (r := wG) (pre := xs.take i) (x := ({ prog := [], a := 0, pc := 0, wr := [], lv := [], t := (0, 0, false), pd := 0, x := (0, 0, false, 0), hl := false, seen := [] } : gT)) (post := List.replicate (xs.length - (i + 1)) ({ prog := [], a := 0, pc := 0, wr := [], lv := [], t := (0, 0, false), pd := 0, x := (0, 0, false, 0), hl := false, seen := [] } : gT)) (by rw [show xs.length - i = (xs.length - (i + 1)) + 1 by omega, List.replicate_succ]) (by decide) (fun b off es F1 Fi F2 eA eF hes hm hmc => ?_)
    obtain ⟨rfl, rfl⟩ : b1 = b ∧ 0 = off := by cases eA; exact ⟨rfl, rfl⟩
    subst eF
    refine Sx.C.know (p := ∃ A0 A1 A2 A3 c0 c1 c2 c3, es = [.slice A0 0 c0, .int .i64 ({ prog := [], a := 0, pc := 0, wr := [], lv := [], t := (0, 0, false), pd := 0, x := (0, 0, false, 0), hl := false, seen := [] } : gT).a, .int .i64 ({ prog := [], a := 0, pc := 0, wr := [], lv := [], t := (0, 0, false), pd := 0, x := (0, 0, false, 0), hl := false, seen := [] } : gT).pc, .slice A1 0 c1, .slice A2 0 c2, .int .i64 ({ prog := [], a := 0, pc := 0, wr := [], lv := [], t := (0, 0, false), pd := 0, x := (0, 0, false, 0), hl := false, seen := [] } : gT).t.1, .int .i64 ({ prog := [], a := 0, pc := 0, wr := [], lv := [], t := (0, 0, false), pd := 0, x := (0, 0, false, 0), hl := false, seen := [] } : gT).t.2.1, .bool ({ prog := [], a := 0, pc := 0, wr := [], lv := [], t := (0, 0, false), pd := 0, x := (0, 0, false, 0), hl := false, seen := [] } : gT).t.2.2, .int .i64 ({ prog := [], a := 0, pc := 0, wr := [], lv := [], t := (0, 0, false), pd := 0, x := (0, 0, false, 0), hl := false, seen := [] } : gT).pd, .int .i64 ({ prog := [], a := 0, pc := 0, wr := [], lv := [], t := (0, 0, false), pd := 0, x := (0, 0, false, 0), hl := false, seen := [] } : gT).x.1, .int .i64 ({ prog := [], a := 0, pc := 0, wr := [], lv := [], t := (0, 0, false), pd := 0, x := (0, 0, false, 0), hl := false, seen := [] } : gT).x.2.1, .bool ({ prog := [], a := 0, pc := 0, wr := [], lv := [], t := (0, 0, false), pd := 0, x := (0, 0, false, 0), hl := false, seen := [] } : gT).x.2.2.1, .int .i64 ({ prog := [], a := 0, pc := 0, wr := [], lv := [], t := (0, 0, false), pd := 0, x := (0, 0, false, 0), hl := false, seen := [] } : gT).x.2.2.2, .bool ({ prog := [], a := 0, pc := 0, wr := [], lv := [], t := (0, 0, false), pd := 0, x := (0, 0, false, 0), hl := false, seen := [] } : gT).hl, .slice A3 0 c3]) (fun w S => Kit.open_zero_Guest (St.at_ S 1 rfl).1) ?_
    rintro ⟨z0, z1, z2, z3, d0, d1, d2, d3, rfl⟩
    refine Sx.C.block ?_
    refine Sx.C.region ?_
    refine Sx.G.pure (.slice (some ⟨b1, 0, none⟩) xs.length xs.length) (by kernel_rfl) (fun w => by kernel_rfl) ?_
    refine Sx.G.pure (.int .i64 (i : Int)) (by kernel_rfl) (fun w => by kernel_rfl) ?_
    refine Sx.G.pure (.slice A xs.length c) (by kernel_rfl) (fun w => by kernel_rfl) ?_
    refine Sx.G.pure (.int .i64 (i : Int)) (by kernel_rfl) (fun w => by kernel_rfl) ?_
    obtain ⟨b3, f3, es3, eA3, hr3, hl3, hm3⟩ := Sx.old_elem (by decide) h i (by omega)
    subst eA3
    obtain ⟨x3, hx3⟩ : ∃ z_, z_ = (xs[i]'(by omega)) := ⟨_, rfl⟩
    rw [← hx3] at hr3
    have hR3 := hr3
    obtain ⟨P3_0, P3_1, P3_2, P3_3, rfl, hf3_0, hf3_1, hf3_2, hf3_3⟩ := wG_rd hr3
    obtain ⟨A3_0, c3_0, e3_0, -⟩ := lst_val hf3_0
    subst e3_0
    obtain ⟨A3_1, c3_1, e3_1, -⟩ := lst_val hf3_1
    subst e3_1
    obtain ⟨A3_2, c3_2, e3_2, -⟩ := lst_val hf3_2
    subst e3_2
    obtain ⟨A3_3, c3_3, e3_3, -⟩ := lst_val hf3_3
    subst e3_3
    refine Sx.G.elem 37 62 (.tmp 16) (.tmp 17) 15 184 b3 f3 xs.length c i rfl (by kernel_rfl) (by kernel_rfl) (by kernel_rfl) (by kernel_rfl) (by omega) ?_
    refine Sx.G.ldr 62 (.tmp 18) b3 (f3 + i * 15) [.slice A3_0 x3.prog.length c3_0, .int .i64 x3.a, .int .i64 x3.pc, .slice A3_1 x3.wr.length c3_1, .slice A3_2 x3.lv.length c3_2, .int .i64 x3.t.1, .int .i64 x3.t.2.1, .bool x3.t.2.2, .int .i64 x3.pd, .int .i64 x3.x.1, .int .i64 x3.x.2.1, .bool x3.x.2.2.1, .int .i64 x3.x.2.2.2, .bool x3.hl, .slice A3_3 x3.seen.length c3_3] rfl (by kernel_rfl) (by kernel_rfl) (fun w S => hm3 w _ S) (by kernel_rfl) (by kernel_rfl) ?_
    refine Sx.G.call 29 #[.agg #[.slice A3_0 x3.prog.length c3_0, .int .i64 x3.a, .int .i64 x3.pc, .slice A3_1 x3.wr.length c3_1, .slice A3_2 x3.lv.length c3_2, .int .i64 x3.t.1, .int .i64 x3.t.2.1, .bool x3.t.2.2, .int .i64 x3.pd, .int .i64 x3.x.1, .int .i64 x3.x.2.1, .bool x3.x.2.2.1, .int .i64 x3.x.2.2.2, .bool x3.hl, .slice A3_3 x3.seen.length c3_3]] (by kernel_rfl) (fun w => by kernel_rfl) (fun w4 S => (Kit.kto_Guest x3 _ _ (hce _ (hx3 ▸ List.getElem_mem _)) (St.old S hR3)).mono fun e w4' hp => ?_)
    obtain ⟨cs, F, rfl, ho, hF, hb⟩ := hp
    obtain ⟨P4_0, P4_1, P4_2, P4_3, G4_0, G4_1, G4_2, G4_3, rfl, -, S'⟩ := wG_open2 (St.got S hb ho hF)
    obtain ⟨A4_0, c4_0, e4_0, -⟩ := lst_val (S'.reads 0 rfl)
    subst e4_0
    obtain ⟨A4_1, c4_1, e4_1, -⟩ := lst_val (S'.reads 1 rfl)
    subst e4_1
    obtain ⟨A4_2, c4_2, e4_2, -⟩ := lst_val (S'.reads 2 rfl)
    subst e4_2
    obtain ⟨A4_3, c4_3, e4_3, -⟩ := lst_val (S'.reads 3 rfl)
    subst e4_3
    refine ⟨_, _, rfl, S', ?_⟩
    clear S S' ho hF hb
    refine Sx.G.elem 25 51 (.tmp 14) (.tmp 15) 15 184 b1 0 xs.length xs.length i rfl (by kernel_rfl) (by kernel_rfl) (by kernel_rfl) (by kernel_rfl) (by omega) ?_
    refine Sx.G.hsto (k := i) (size := 15) 51 (.tmp 21) (.tmp 20) b1 ((0 + i * 15) + 0) 0 4 [.slice A4_0 x3.prog.length c4_0, .int .i64 x3.a, .int .i64 x3.pc, .slice A4_1 x3.wr.length c4_1, .slice A4_2 x3.lv.length c4_2, .int .i64 x3.t.1, .int .i64 x3.t.2.1, .bool x3.t.2.2, .int .i64 x3.pd, .int .i64 x3.x.1, .int .i64 x3.x.2.1, .bool x3.x.2.2.1, .int .i64 x3.x.2.2.2, .bool x3.hl, .slice A4_3 x3.seen.length c4_3] [.slice A4_0 x3.prog.length c4_0, .int .i64 x3.a, .int .i64 x3.pc, .slice A4_1 x3.wr.length c4_1, .slice A4_2 x3.lv.length c4_2, .int .i64 x3.t.1, .int .i64 x3.t.2.1, .bool x3.t.2.2, .int .i64 x3.pd, .int .i64 x3.x.1, .int .i64 x3.x.2.1, .bool x3.x.2.2.1, .int .i64 x3.x.2.2.2, .bool x3.hl, .slice A4_3 x3.seen.length c4_3] [ow (rLsw (rPair rInt rInt)) w4.heap.size w4'.heap.size x3.prog [.slice A4_0 x3.prog.length c4_0] G4_0, ow (rLsw (rPair rInt rInt)) w4.heap.size w4'.heap.size x3.wr [.slice A4_1 x3.wr.length c4_1] G4_1, ow (rLsw (rPair rInt rInt)) w4.heap.size w4'.heap.size x3.lv [.slice A4_2 x3.lv.length c4_2] G4_2, ow (rLsw rInt) w4.heap.size w4'.heap.size x3.seen [.slice A4_3 x3.seen.length c4_3] G4_3, Sx.hole wG b1 0 w.heap.size hi (xs.take i) (List.replicate (xs.length - (i + 1)) ({ prog := [], a := 0, pc := 0, wr := [], lv := [], t := (0, 0, false), pd := 0, x := (0, 0, false, 0), hl := false, seen := [] } : gT)) [.slice A4_0 x3.prog.length c4_0, .int .i64 x3.a, .int .i64 x3.pc, .slice A4_1 x3.wr.length c4_1, .slice A4_2 x3.lv.length c4_2, .int .i64 x3.t.1, .int .i64 x3.t.2.1, .bool x3.t.2.2, .int .i64 x3.pd, .int .i64 x3.x.1, .int .i64 x3.x.2.1, .bool x3.x.2.2.1, .int .i64 x3.x.2.2.2, .bool x3.hl, .slice A4_3 x3.seen.length c4_3] F1 F2, ow wG w.heap.size hi ({ prog := [], a := 0, pc := 0, wr := [], lv := [], t := (0, 0, false), pd := 0, x := (0, 0, false, 0), hl := false, seen := [] } : gT) [.slice z0 0 d0, .int .i64 ({ prog := [], a := 0, pc := 0, wr := [], lv := [], t := (0, 0, false), pd := 0, x := (0, 0, false, 0), hl := false, seen := [] } : gT).a, .int .i64 ({ prog := [], a := 0, pc := 0, wr := [], lv := [], t := (0, 0, false), pd := 0, x := (0, 0, false, 0), hl := false, seen := [] } : gT).pc, .slice z1 0 d1, .slice z2 0 d2, .int .i64 ({ prog := [], a := 0, pc := 0, wr := [], lv := [], t := (0, 0, false), pd := 0, x := (0, 0, false, 0), hl := false, seen := [] } : gT).t.1, .int .i64 ({ prog := [], a := 0, pc := 0, wr := [], lv := [], t := (0, 0, false), pd := 0, x := (0, 0, false, 0), hl := false, seen := [] } : gT).t.2.1, .bool ({ prog := [], a := 0, pc := 0, wr := [], lv := [], t := (0, 0, false), pd := 0, x := (0, 0, false, 0), hl := false, seen := [] } : gT).t.2.2, .int .i64 ({ prog := [], a := 0, pc := 0, wr := [], lv := [], t := (0, 0, false), pd := 0, x := (0, 0, false, 0), hl := false, seen := [] } : gT).pd, .int .i64 ({ prog := [], a := 0, pc := 0, wr := [], lv := [], t := (0, 0, false), pd := 0, x := (0, 0, false, 0), hl := false, seen := [] } : gT).x.1, .int .i64 ({ prog := [], a := 0, pc := 0, wr := [], lv := [], t := (0, 0, false), pd := 0, x := (0, 0, false, 0), hl := false, seen := [] } : gT).x.2.1, .bool ({ prog := [], a := 0, pc := 0, wr := [], lv := [], t := (0, 0, false), pd := 0, x := (0, 0, false, 0), hl := false, seen := [] } : gT).x.2.2.1, .int .i64 ({ prog := [], a := 0, pc := 0, wr := [], lv := [], t := (0, 0, false), pd := 0, x := (0, 0, false, 0), hl := false, seen := [] } : gT).x.2.2.2, .bool ({ prog := [], a := 0, pc := 0, wr := [], lv := [], t := (0, 0, false), pd := 0, x := (0, 0, false, 0), hl := false, seen := [] } : gT).hl, .slice z3 0 d3] Fi] rfl (by kernel_rfl) (by kernel_rfl) (by kernel_rfl) rfl (by rw [List.length_take]; omega) rfl rfl rfl rfl (by kernel_rfl) (by kernel_rfl) (by kernel_rfl) ?_
    refine Sx.G.nil ?_
    refine Sx.E.block_normal ?_
    refine Sx.E.next ?_
    refine Sx.C.region ?_
    refine Sx.G.pure (.int .i64 (i : Int)) (by kernel_rfl) (fun w => by kernel_rfl) ?_
    refine Sx.G.pureq (.int .i64 (IntKind.i64.wrap ((i : Int) + 1))) (.int .i64 ((i + 1 : Nat) : Int)) (by kernel_rfl) (fun w => by kernel_rfl) (congrArg (Value.int .i64) (Sx.wrap_up i (by omega))) ?_
    refine Sx.G.pure (.int .i64 ((i + 1 : Nat) : Int)) (by kernel_rfl) (fun w => by kernel_rfl) ?_
    refine Sx.G.nil ?_
    exact Sx.E.again (i + 1, max hi w4'.heap.size, _) (show i + 1 ≤ xs.length by omega) (show xs.length - (i + 1) < xs.length - i by omega) (fun a hA => (Sx.Ag.and hA (Sx.Ag.and hA (Sx.Ag.and hA (Sx.Ag.and hA (Sx.Ag.none hA) _ _ (by kernel_rfl)) _ _ (by kernel_rfl)) _ _ (by kernel_rfl)) _ _ (by kernel_rfl))) (fun w' S => by
      replace S := wG_shut2 (g := x3) S
      replace S := St.pick S [1, 0] [_, _] rfl (by decide)
      have S3 := Sx.St.closeW S (by decide) xs.length xs.length (by simp [List.length_take]; omega) hmc
      rw [hx3] at S3
      rw [show xs.take i ++ xs[i] :: List.replicate (xs.length - (i + 1)) ({ prog := [], a := 0, pc := 0, wr := [], lv := [], t := (0, 0, false), pd := 0, x := (0, 0, false, 0), hl := false, seen := [] } : gT) = xs.take (i + 1) ++ List.replicate (xs.length - (i + 1)) ({ prog := [], a := 0, pc := 0, wr := [], lv := [], t := (0, 0, false), pd := 0, x := (0, 0, false, 0), hl := false, seen := [] } : gT) by rw [Kit.take_step hlt, List.append_assoc]; rfl] at S3
      exact S3
      )
end Go.Proofs.Ytldgadmpclgfhaa.Kit
namespace Go.Proofs.Ytldgadmpclgfhaa.Kit
set_option maxRecDepth 100000
open Go.ChangeShapes Go.WideShapes Go.ChangeAt Go.RowKit Go.Deep
open Go.Proofs.Ytldgadmpclgfhaa.Base Go.Proofs.Ytldgadmpclgfhaa.Mem Go.Proofs.Ytldgadmpclgfhaa.Data Go.Proofs.Ytldgadmpclgfhaa.Stt Go.Proofs.Ytldgadmpclgfhaa.Guests Go.Proofs.Ytldgadmpclgfhaa.Ctls Go.Proofs.Ytldgadmpclgfhaa.Exits
set_option linter.unusedVariables false
set_option linter.unusedSimpArgs false
/-- A reference machine. -/
structure bT where
  mem : List (List Int)
  gs : List gT
  outs : List Int
  pd : Int
/-- How a bT lies in memory. -/
def wB : Rp bT := rVia (rPair ((rLsw (rLsw rInt))) (rPair ((rLsw wG)) (rPair ((rLsw rInt)) (rInt)))) (fun g => (g.mem, g.gs, g.outs, g.pd)) (fun k => ⟨k.1, k.2.1, k.2.2.1, k.2.2.2⟩)
theorem wB_rd {w : World} {lo hi : Nat} {g : bT} {cs : List Value} (h : wB.rd w lo hi g cs) : ∃ P0 P1 P2, cs = [P0, P1, P2, .int .i64 g.pd] ∧ ((rLsw (rLsw rInt))).rd w lo hi g.mem [P0] ∧ ((rLsw wG)).rd w lo hi g.gs [P1] ∧ ((rLsw rInt)).rd w lo hi g.outs [P2] := by
  obtain ⟨c0, s0, rfl, h0, g0⟩ := h
  obtain ⟨P0, rfl⟩ := lst_rd h0
  obtain ⟨c1, s1, rfl, h1, g1⟩ := g0
  obtain ⟨P1, rfl⟩ := lst_rd h1
  obtain ⟨c2, s2, rfl, h2, g2⟩ := g1
  obtain ⟨P2, rfl⟩ := lst_rd h2
  obtain rfl := show _ = _ from g2
  exact ⟨P0, P1, P2, by simp, h0, h1, h2⟩
theorem wB_own_mk {w : World} {lo hi : Nat} {g : bT} {P0 P1 P2 : Value} {F0 F1 F2 : List Nat} (h0 : ((rLsw (rLsw rInt))).own w lo hi g.mem [P0] F0) (h1 : ((rLsw wG)).own w lo hi g.gs [P1] F1) (h2 : ((rLsw rInt)).own w lo hi g.outs [P2] F2) : wB.own w lo hi g [P0, P1, P2, .int .i64 g.pd] (F0 ++ (F1 ++ F2)) := by
  have h : wB.own w lo hi g [P0, P1, P2, .int .i64 g.pd] _ := ⟨[_], _, F0, _, rfl, rfl, h0, ⟨[_], _, F1, _, rfl, rfl, h1, ⟨[_], _, F2, _, rfl, rfl, h2, ⟨rfl, rfl⟩⟩⟩⟩
  simpa using h
theorem wB_shut {w0 w : World} {g : bT} {L : List Res} {P0 P1 P2 : Value} {F0 F1 F2 : List Nat} {l0 k0 l1 k1 l2 k2 : Nat} (S : St w0 w L) (i0 : Nat) (e0 : L[i0]? = some (ow (rLsw (rLsw rInt)) l0 k0 g.mem [P0] F0)) (i1 : Nat) (e1 : L[i1]? = some (ow (rLsw wG) l1 k1 g.gs [P1] F1)) (i2 : Nat) (e2 : L[i2]? = some (ow (rLsw rInt) l2 k2 g.outs [P2] F2)) (n01 : i0 ≠ i1) (n02 : i0 ≠ i2) (n12 : i1 ≠ i2) : wB.own w w0.heap.size w.heap.size g [P0, P1, P2, .int .i64 g.pd] (F0 ++ (F1 ++ F2)) ∧ (F0 ++ (F1 ++ F2)).Nodup := by
  refine ⟨wB_own_mk (S.own i0 e0) (S.own i1 e1) (S.own i2 e2), ?_⟩
  exact (nodup_app (S.nodup i0 e0) (nodup_app (S.nodup i1 e1) (S.nodup i2 e2) (fun k hk => (S.disj i1 i2 e1 e2 n12 k hk))) (fun k hk => (not_app (S.disj i0 i1 e0 e1 n01 k hk) (S.disj i0 i2 e0 e2 n02 k hk))))
theorem tcnt_Bare (g : bT) : wB.tcnt g = cntAll (rLsw rInt) g.mem + cntAll wG g.gs + cntAll rInt g.outs := by simp only [wB, rVia, rPair, rInt, rBool, rLsw]; omega
theorem size_Bare (g : bT) : wB.size g = (g.mem.length + sizeAll (rLsw rInt) g.mem) + (g.gs.length + sizeAll wG g.gs) + (g.outs.length + sizeAll rInt g.outs) := by simp only [wB, rVia, rPair, rInt, rBool, rLsw]; omega
set_option maxRecDepth 100000 in
set_option maxHeartbeats 4000000 in
theorem keq_Bare (x : bT) (cs ds : List Value) (w : World) (hc : wB.cap x) (h : wB.rd w 0 w.heap.size x cs) (j : wB.rd w 0 w.heap.size x ds) : Calls Try.prog 13 #[.agg cs.toArray, .agg ds.toArray] w (fun e w' => e = .returned (.bool true) ∧ Below w.heap.size w w') := by
  obtain ⟨hcap0, hcap1, hcap2, hcap3⟩ := hc
  have hR := h
  obtain ⟨hP0, hP1, hP2, rfl, hf0, hf1, hf2⟩ := wB_rd h
  obtain ⟨hA0, hK0, he0, -⟩ := lst_val hf0
  subst he0
  obtain ⟨hA1, hK1, he1, -⟩ := lst_val hf1
  subst he1
  obtain ⟨hA2, hK2, he2, -⟩ := lst_val hf2
  subst he2
  have jR := j
  obtain ⟨jP0, jP1, jP2, rfl, jf0, jf1, jf2⟩ := wB_rd j
  obtain ⟨jA0, jK0, je0, -⟩ := lst_val jf0
  subst je0
  obtain ⟨jA1, jK1, je1, -⟩ := lst_val jf1
  subst je1
  obtain ⟨jA2, jK2, je2, -⟩ := lst_val jf2
  subst je2
  refine Sx.enter (args := [.agg #[.slice hA0 x.mem.length hK0, .slice hA1 x.gs.length hK1, .slice hA2 x.outs.length hK2, .int .i64 x.pd], .agg #[.slice jA0 x.mem.length jK0, .slice jA1 x.gs.length jK1, .slice jA2 x.outs.length jK2, .int .i64 x.pd]]) Try.func13 rfl Try.ntmps13 rfl ?_
  refine Sx.C.seq ?_
  refine Sx.C.region ?_
  refine Sx.G.box 28 (.tmp 0) [.slice hA0 x.mem.length hK0, .slice hA1 x.gs.length hK1, .slice hA2 x.outs.length hK2, .int .i64 x.pd] rfl (by kernel_rfl) (by kernel_rfl) (fun b1 => ?_)
  refine Sx.G.box 28 (.tmp 1) [.slice jA0 x.mem.length jK0, .slice jA1 x.gs.length jK1, .slice jA2 x.outs.length jK2, .int .i64 x.pd] rfl (by kernel_rfl) (by kernel_rfl) (fun b2 => ?_)
  refine Sx.G.pure (.bool false) (by kernel_rfl) (fun w => by kernel_rfl) ?_
  refine Sx.G.nil ?_
  refine Sx.E.next ?_
  refine Sx.C.seq ?_
  refine Sx.C.seq ?_
  refine Sx.C.region ?_
  refine Sx.G.pure (.pointer (some ⟨b1, 0, none⟩)) (by kernel_rfl) (fun w => by kernel_rfl) ?_
  refine Sx.G.ld1 24 (.tmp 5) b1 0 1 [.slice hA0 x.mem.length hK0, .slice hA1 x.gs.length hK1, .slice hA2 x.outs.length hK2, .int .i64 x.pd] (.slice hA0 x.mem.length hK0) rfl (by kernel_rfl) (by kernel_rfl) rfl (by kernel_rfl) (by kernel_rfl) ?_
  refine Sx.G.pure (.pointer (some ⟨b2, 0, none⟩)) (by kernel_rfl) (fun w => by kernel_rfl) ?_
  refine Sx.G.ld1 24 (.tmp 7) b2 0 0 [.slice jA0 x.mem.length jK0, .slice jA1 x.gs.length jK1, .slice jA2 x.outs.length jK2, .int .i64 x.pd] (.slice jA0 x.mem.length jK0) rfl (by kernel_rfl) (by kernel_rfl) rfl (by kernel_rfl) (by kernel_rfl) ?_
  refine Sx.G.plain 41 #[.slice hA0 x.mem.length hK0, .slice jA0 x.mem.length jK0] (.bool true) (by kernel_rfl) (fun w => by kernel_rfl) (fun w S => by exact Kit.keq_IntSS x.mem hA0 hK0 jA0 jK0 _ hcap0 (St.old (r := (rLsw (rLsw rInt))) S hf0) (St.old (r := (rLsw (rLsw rInt))) S jf0)) ?_
  refine Sx.G.pure (.bool false) (by kernel_rfl) (fun w => by kernel_rfl) ?_
  refine Sx.G.nil ?_
  refine Sx.E.next ?_
  refine Sx.C.no (by kernel_rfl) (by kernel_rfl) ?_
  refine Sx.C.skip ?_
  refine Sx.E.next ?_
  refine Sx.C.seq ?_
  refine Sx.C.seq ?_
  refine Sx.C.region ?_
  refine Sx.G.pure (.pointer (some ⟨b1, 1, none⟩)) (by kernel_rfl) (fun w => by kernel_rfl) ?_
  refine Sx.G.ld1 25 (.tmp 11) b1 1 1 [.slice hA0 x.mem.length hK0, .slice hA1 x.gs.length hK1, .slice hA2 x.outs.length hK2, .int .i64 x.pd] (.slice hA1 x.gs.length hK1) rfl (by kernel_rfl) (by kernel_rfl) rfl (by kernel_rfl) (by kernel_rfl) ?_
  refine Sx.G.pure (.pointer (some ⟨b2, 1, none⟩)) (by kernel_rfl) (fun w => by kernel_rfl) ?_
  refine Sx.G.ld1 25 (.tmp 13) b2 1 0 [.slice jA0 x.mem.length jK0, .slice jA1 x.gs.length jK1, .slice jA2 x.outs.length jK2, .int .i64 x.pd] (.slice jA1 x.gs.length jK1) rfl (by kernel_rfl) (by kernel_rfl) rfl (by kernel_rfl) (by kernel_rfl) ?_
  refine Sx.G.plain 42 #[.slice hA1 x.gs.length hK1, .slice jA1 x.gs.length jK1] (.bool true) (by kernel_rfl) (fun w => by kernel_rfl) (fun w S => by exact Kit.keq_GuestS x.gs hA1 hK1 jA1 jK1 _ hcap1 (St.old (r := (rLsw wG)) S hf1) (St.old (r := (rLsw wG)) S jf1)) ?_
  refine Sx.G.pure (.bool false) (by kernel_rfl) (fun w => by kernel_rfl) ?_
  refine Sx.G.nil ?_
  refine Sx.E.next ?_
  refine Sx.C.no (by kernel_rfl) (by kernel_rfl) ?_
  refine Sx.C.skip ?_
  refine Sx.E.next ?_
  refine Sx.C.seq ?_
  refine Sx.C.seq ?_
  refine Sx.C.region ?_
  refine Sx.G.pure (.pointer (some ⟨b1, 2, none⟩)) (by kernel_rfl) (fun w => by kernel_rfl) ?_
  refine Sx.G.ld1 26 (.tmp 17) b1 2 1 [.slice hA0 x.mem.length hK0, .slice hA1 x.gs.length hK1, .slice hA2 x.outs.length hK2, .int .i64 x.pd] (.slice hA2 x.outs.length hK2) rfl (by kernel_rfl) (by kernel_rfl) rfl (by kernel_rfl) (by kernel_rfl) ?_
  refine Sx.G.pure (.pointer (some ⟨b2, 2, none⟩)) (by kernel_rfl) (fun w => by kernel_rfl) ?_
  refine Sx.G.ld1 26 (.tmp 19) b2 2 0 [.slice jA0 x.mem.length jK0, .slice jA1 x.gs.length jK1, .slice jA2 x.outs.length jK2, .int .i64 x.pd] (.slice jA2 x.outs.length jK2) rfl (by kernel_rfl) (by kernel_rfl) rfl (by kernel_rfl) (by kernel_rfl) ?_
  refine Sx.G.plain 43 #[.slice hA2 x.outs.length hK2, .slice jA2 x.outs.length jK2] (.bool true) (by kernel_rfl) (fun w => by kernel_rfl) (fun w S => by exact Kit.keq_IntS x.outs hA2 hK2 jA2 jK2 _ hcap2 (St.old (r := (rLsw rInt)) S hf2) (St.old (r := (rLsw rInt)) S jf2)) ?_
  refine Sx.G.pure (.bool false) (by kernel_rfl) (fun w => by kernel_rfl) ?_
  refine Sx.G.nil ?_
  refine Sx.E.next ?_
  refine Sx.C.no (by kernel_rfl) (by kernel_rfl) ?_
  refine Sx.C.skip ?_
  refine Sx.E.next ?_
  refine Sx.C.seq ?_
  refine Sx.C.seq ?_
  refine Sx.C.region ?_
  refine Sx.G.pure (.pointer (some ⟨b1, 3, none⟩)) (by kernel_rfl) (fun w => by kernel_rfl) ?_
  refine Sx.G.ld1 3 (.tmp 23) b1 3 1 [.slice hA0 x.mem.length hK0, .slice hA1 x.gs.length hK1, .slice hA2 x.outs.length hK2, .int .i64 x.pd] (.int .i64 x.pd) rfl (by kernel_rfl) (by kernel_rfl) rfl (by kernel_rfl) (by kernel_rfl) ?_
  refine Sx.G.pure (.pointer (some ⟨b2, 3, none⟩)) (by kernel_rfl) (fun w => by kernel_rfl) ?_
  refine Sx.G.ld1 3 (.tmp 25) b2 3 0 [.slice jA0 x.mem.length jK0, .slice jA1 x.gs.length jK1, .slice jA2 x.outs.length jK2, .int .i64 x.pd] (.int .i64 x.pd) rfl (by kernel_rfl) (by kernel_rfl) rfl (by kernel_rfl) (by kernel_rfl) ?_
  refine Sx.G.pureq (.bool (x.pd != x.pd)) (.bool false) (by kernel_rfl) (fun w => by kernel_rfl) (congrArg Value.bool (bne_self_eq_false _)) ?_
  refine Sx.G.nil ?_
  refine Sx.E.next ?_
  refine Sx.C.no (by kernel_rfl) (by kernel_rfl) ?_
  refine Sx.C.skip ?_
  refine Sx.E.next ?_
  refine Sx.C.seq ?_
  refine Sx.C.region ?_
  refine Sx.G.pure (.bool true) (by kernel_rfl) (fun w => by kernel_rfl) ?_
  refine Sx.G.nil ?_
  refine Sx.E.next ?_
  refine Sx.C.ret ?_
  refine Sx.E.ret1 (.bool true) rfl (by kernel_rfl) (fun w S => ?_)
  exact ⟨rfl, S.below⟩
set_option maxRecDepth 100000 in
set_option maxHeartbeats 4000000 in
theorem ksz_Bare (x : bT) (cs : List Value) (left : Int) (w : World) (hw : wB.wf x) (h0 : 0 ≤ left) (h1 : left ≤ 1048576) (h : wB.rd w 0 w.heap.size x cs) : Calls Try.prog 18 #[.agg cs.toArray, .int .i64 left] w (fun e w' => ∃ l, e = .returned (.int .i64 l) ∧ Kit.Sz left (wB.size x) l ∧ Below w.heap.size w w') := by
  obtain ⟨hwf0, hwf1, hwf2, hwf3⟩ := hw
  have hR := h
  obtain ⟨hP0, hP1, hP2, rfl, hf0, hf1, hf2⟩ := wB_rd h
  obtain ⟨hA0, hK0, he0, -⟩ := lst_val hf0
  subst he0
  obtain ⟨hA1, hK1, he1, -⟩ := lst_val hf1
  subst he1
  obtain ⟨hA2, hK2, he2, -⟩ := lst_val hf2
  subst he2
  refine Sx.enter (args := [.agg #[.slice hA0 x.mem.length hK0, .slice hA1 x.gs.length hK1, .slice hA2 x.outs.length hK2, .int .i64 x.pd], .int .i64 left]) Try.func18 rfl Try.ntmps18 rfl ?_
  refine Sx.C.seq ?_
  refine Sx.C.region ?_
  refine Sx.G.box 39 (.tmp 0) [.slice hA0 x.mem.length hK0, .slice hA1 x.gs.length hK1, .slice hA2 x.outs.length hK2, .int .i64 x.pd] rfl (by kernel_rfl) (by kernel_rfl) (fun b1 => ?_)
  refine Sx.G.pure (.int .i64 0) (by kernel_rfl) (fun w => by kernel_rfl) ?_
  refine Sx.G.nil ?_
  refine Sx.E.next ?_
  refine Sx.C.seq ?_
  refine Sx.C.region ?_
  refine Sx.G.pure (.pointer (some ⟨b1, 0, none⟩)) (by kernel_rfl) (fun w => by kernel_rfl) ?_
  refine Sx.G.ld1 24 (.tmp 5) b1 0 0 [.slice hA0 x.mem.length hK0, .slice hA1 x.gs.length hK1, .slice hA2 x.outs.length hK2, .int .i64 x.pd] (.slice hA0 x.mem.length hK0) rfl (by kernel_rfl) (by kernel_rfl) rfl (by kernel_rfl) (by kernel_rfl) ?_
  refine Sx.G.pure (.int .i64 left) (by kernel_rfl) (fun w => by kernel_rfl) ?_
  refine Sx.G.call 52 #[.slice hA0 x.mem.length hK0, .int .i64 left] (by kernel_rfl) (fun w => by kernel_rfl) (fun w2 S => (Kit.ksz_IntSS x.mem hA0 hK0 left _ hwf0 (by omega) (by omega) (St.old (r := (rLsw (rLsw rInt))) S hf0)).mono fun e w2' hp => ?_)
  obtain ⟨l2, rfl, hz2, hb⟩ := hp
  replace hz2 : Kit.Sz left (x.mem.length + sizeAll (rLsw rInt) x.mem) l2 := hz2
  unfold Kit.Sz at hz2
  refine ⟨_, _, rfl, (S.call hb), ?_⟩
  clear S hb
  refine Sx.G.pure (.int .i64 l2) (by kernel_rfl) (fun w => by kernel_rfl) ?_
  refine Sx.G.nil ?_
  refine Sx.E.next ?_
  refine Sx.C.seq ?_
  refine Sx.C.seq ?_
  refine Sx.C.region ?_
  refine Sx.G.pure (.int .i64 l2) (by kernel_rfl) (fun w => by kernel_rfl) ?_
  refine Sx.G.pure (.bool (decide (l2 < 0))) (by kernel_rfl) (fun w => by kernel_rfl) ?_
  refine Sx.G.nil ?_
  refine Sx.E.next ?_
  cases hc3 : (decide (l2 < 0))
  · have hb3 := hc3
    replace hc3 := of_decide_eq_false hc3
    refine Sx.C.no (by kernel_rfl) (by kernel_rfl) ?_
    refine Sx.C.skip ?_
    refine Sx.E.next ?_
    refine Sx.C.seq ?_
    refine Sx.C.region ?_
    refine Sx.G.pure (.pointer (some ⟨b1, 1, none⟩)) (by kernel_rfl) (fun w => by kernel_rfl) ?_
    refine Sx.G.ld1 37 (.tmp 11) b1 1 0 [.slice hA0 x.mem.length hK0, .slice hA1 x.gs.length hK1, .slice hA2 x.outs.length hK2, .int .i64 x.pd] (.slice hA1 x.gs.length hK1) rfl (by kernel_rfl) (by kernel_rfl) rfl (by kernel_rfl) (by kernel_rfl) ?_
    refine Sx.G.pure (.int .i64 l2) (by kernel_rfl) (fun w => by kernel_rfl) ?_
    refine Sx.G.call 53 #[.slice hA1 x.gs.length hK1, .int .i64 l2] (by kernel_rfl) (fun w => by kernel_rfl) (fun w4 S => (Kit.ksz_GuestS x.gs hA1 hK1 l2 _ hwf1 (by omega) (by omega) (St.old (r := (rLsw wG)) S hf1)).mono fun e w4' hp => ?_)
    obtain ⟨l4, rfl, hz4, hb⟩ := hp
    replace hz4 : Kit.Sz l2 (x.gs.length + sizeAll wG x.gs) l4 := hz4
    unfold Kit.Sz at hz4
    refine ⟨_, _, rfl, (S.call hb), ?_⟩
    clear S hb
    refine Sx.G.pure (.int .i64 l4) (by kernel_rfl) (fun w => by kernel_rfl) ?_
    refine Sx.G.nil ?_
    refine Sx.E.next ?_
    refine Sx.C.seq ?_
    refine Sx.C.seq ?_
    refine Sx.C.region ?_
    refine Sx.G.pure (.int .i64 l4) (by kernel_rfl) (fun w => by kernel_rfl) ?_
    refine Sx.G.pure (.bool (decide (l4 < 0))) (by kernel_rfl) (fun w => by kernel_rfl) ?_
    refine Sx.G.nil ?_
    refine Sx.E.next ?_
    cases hc5 : (decide (l4 < 0))
    · have hb5 := hc5
      replace hc5 := of_decide_eq_false hc5
      refine Sx.C.no (by kernel_rfl) (by kernel_rfl) ?_
      refine Sx.C.skip ?_
      refine Sx.E.next ?_
      refine Sx.C.seq ?_
      refine Sx.C.region ?_
      refine Sx.G.pure (.pointer (some ⟨b1, 2, none⟩)) (by kernel_rfl) (fun w => by kernel_rfl) ?_
      refine Sx.G.ld1 26 (.tmp 17) b1 2 0 [.slice hA0 x.mem.length hK0, .slice hA1 x.gs.length hK1, .slice hA2 x.outs.length hK2, .int .i64 x.pd] (.slice hA2 x.outs.length hK2) rfl (by kernel_rfl) (by kernel_rfl) rfl (by kernel_rfl) (by kernel_rfl) ?_
      refine Sx.G.pure (.int .i64 l4) (by kernel_rfl) (fun w => by kernel_rfl) ?_
      refine Sx.G.call 54 #[.slice hA2 x.outs.length hK2, .int .i64 l4] (by kernel_rfl) (fun w => by kernel_rfl) (fun w6 S => (Kit.ksz_IntS x.outs hA2 hK2 l4 _ hwf2 (by omega) (by omega) (St.old (r := (rLsw rInt)) S hf2)).mono fun e w6' hp => ?_)
      obtain ⟨l6, rfl, hz6, hb⟩ := hp
      replace hz6 : Kit.Sz l4 (x.outs.length + sizeAll rInt x.outs) l6 := hz6
      unfold Kit.Sz at hz6
      refine ⟨_, _, rfl, (S.call hb), ?_⟩
      clear S hb
      refine Sx.G.pure (.int .i64 l6) (by kernel_rfl) (fun w => by kernel_rfl) ?_
      refine Sx.G.nil ?_
      refine Sx.E.next ?_
      refine Sx.C.seq ?_
      refine Sx.C.seq ?_
      refine Sx.C.region ?_
      refine Sx.G.pure (.int .i64 l6) (by kernel_rfl) (fun w => by kernel_rfl) ?_
      refine Sx.G.pure (.bool (decide (l6 < 0))) (by kernel_rfl) (fun w => by kernel_rfl) ?_
      refine Sx.G.nil ?_
      refine Sx.E.next ?_
      cases hc7 : (decide (l6 < 0))
      · have hb7 := hc7
        replace hc7 := of_decide_eq_false hc7
        refine Sx.C.no (by kernel_rfl) (by kernel_rfl) ?_
        refine Sx.C.skip ?_
        refine Sx.E.next ?_
        refine Sx.C.seq ?_
        refine Sx.C.region ?_
        refine Sx.G.pure (.int .i64 l6) (by kernel_rfl) (fun w => by kernel_rfl) ?_
        refine Sx.G.pure (.int .i64 l6) (by kernel_rfl) (fun w => by kernel_rfl) ?_
        refine Sx.G.nil ?_
        refine Sx.E.next ?_
        refine Sx.C.ret ?_
        refine Sx.E.ret1 (.int .i64 l6) rfl (by kernel_rfl) (fun w S => ?_)
        exact ⟨_, rfl, by unfold Kit.Sz; rw [size_Bare]; omega, S.below⟩
      · have hb7 := hc7
        replace hc7 := of_decide_eq_true hc7
        refine Sx.C.yes (by kernel_rfl) (by kernel_rfl) ?_
        refine Sx.C.seq ?_
        refine Sx.C.region ?_
        refine Sx.G.pure (.int .i64 (-1)) (by kernel_rfl) (fun w => by kernel_rfl) ?_
        refine Sx.G.nil ?_
        refine Sx.E.next ?_
        refine Sx.C.ret ?_
        refine Sx.E.then_ret ?_
        refine Sx.E.ret1 (.int .i64 (-1)) rfl (by kernel_rfl) (fun w S => ?_)
        exact ⟨_, rfl, by unfold Kit.Sz; rw [size_Bare]; omega, S.below⟩
    · have hb5 := hc5
      replace hc5 := of_decide_eq_true hc5
      refine Sx.C.yes (by kernel_rfl) (by kernel_rfl) ?_
      refine Sx.C.seq ?_
      refine Sx.C.region ?_
      refine Sx.G.pure (.int .i64 (-1)) (by kernel_rfl) (fun w => by kernel_rfl) ?_
      refine Sx.G.nil ?_
      refine Sx.E.next ?_
      refine Sx.C.ret ?_
      refine Sx.E.then_ret ?_
      refine Sx.E.ret1 (.int .i64 (-1)) rfl (by kernel_rfl) (fun w S => ?_)
      exact ⟨_, rfl, by unfold Kit.Sz; rw [size_Bare]; omega, S.below⟩
  · have hb3 := hc3
    replace hc3 := of_decide_eq_true hc3
    refine Sx.C.yes (by kernel_rfl) (by kernel_rfl) ?_
    refine Sx.C.seq ?_
    refine Sx.C.region ?_
    refine Sx.G.pure (.int .i64 (-1)) (by kernel_rfl) (fun w => by kernel_rfl) ?_
    refine Sx.G.nil ?_
    refine Sx.E.next ?_
    refine Sx.C.ret ?_
    refine Sx.E.then_ret ?_
    refine Sx.E.ret1 (.int .i64 (-1)) rfl (by kernel_rfl) (fun w S => ?_)
    exact ⟨_, rfl, by unfold Kit.Sz; rw [size_Bare]; omega, S.below⟩
set_option maxRecDepth 100000 in
set_option maxHeartbeats 4000000 in
theorem kto_Bare (x : bT) (cs : List Value) (w : World) (hc : wB.cap x) (h : wB.rd w 0 w.heap.size x cs) : Calls Try.prog 20 #[.agg cs.toArray] w (Gives wB w x) := by
  obtain ⟨hcap0, hcap1, hcap2, hcap3⟩ := hc
  have hR := h
  obtain ⟨hP0, hP1, hP2, rfl, hf0, hf1, hf2⟩ := wB_rd h
  obtain ⟨hA0, hK0, he0, -⟩ := lst_val hf0
  subst he0
  obtain ⟨hA1, hK1, he1, -⟩ := lst_val hf1
  subst he1
  obtain ⟨hA2, hK2, he2, -⟩ := lst_val hf2
  subst he2
  refine Sx.enter (args := [.agg #[.slice hA0 x.mem.length hK0, .slice hA1 x.gs.length hK1, .slice hA2 x.outs.length hK2, .int .i64 x.pd]]) Try.func20 rfl Try.ntmps20 rfl ?_
  refine Sx.C.seq ?_
  refine Sx.C.region ?_
  refine Sx.G.box 39 (.tmp 0) [.slice hA0 x.mem.length hK0, .slice hA1 x.gs.length hK1, .slice hA2 x.outs.length hK2, .int .i64 x.pd] rfl (by kernel_rfl) (by kernel_rfl) (fun b1 => ?_)
  refine Sx.G.alloc 28 (.agg #[.slice none 0 0, .slice none 0 0, .slice none 0 0, .int .i64 0]) [.slice none 0 0, .slice none 0 0, .slice none 0 0, .int .i64 0] rfl (by kernel_rfl) (fun w => by kernel_rfl) (by kernel_rfl) (fun b2 => ?_)
  refine Sx.G.nil ?_
  refine Sx.E.next ?_
  refine Sx.C.seq ?_
  refine Sx.C.region ?_
  refine Sx.G.alloc 28 (.agg #[.slice none 0 0, .slice none 0 0, .slice none 0 0, .int .i64 0]) [.slice none 0 0, .slice none 0 0, .slice none 0 0, .int .i64 0] rfl (by kernel_rfl) (fun w => by kernel_rfl) (by kernel_rfl) (fun b3 => ?_)
  refine Sx.G.nil ?_
  refine Sx.E.next ?_
  refine Sx.C.seq ?_
  refine Sx.C.region ?_
  refine Sx.G.pure (.pointer (some ⟨b1, 0, none⟩)) (by kernel_rfl) (fun w => by kernel_rfl) ?_
  refine Sx.G.ld1 24 (.tmp 4) b1 0 2 [.slice hA0 x.mem.length hK0, .slice hA1 x.gs.length hK1, .slice hA2 x.outs.length hK2, .int .i64 x.pd] (.slice hA0 x.mem.length hK0) rfl (by kernel_rfl) (by kernel_rfl) rfl (by kernel_rfl) (by kernel_rfl) ?_
  refine Sx.G.call 59 #[.slice hA0 x.mem.length hK0] (by kernel_rfl) (fun w => by kernel_rfl) (fun w4 S => (Kit.kto_IntSS x.mem hA0 hK0 _ hcap0 (St.old (r := (rLsw (rLsw rInt))) S hf0)).mono fun e w4' hp => ?_)
  obtain ⟨cs, F, rfl, ho, hF, hb⟩ := hp
  obtain ⟨u4, rfl⟩ := lsw_own ho
  obtain ⟨A4, c4, e4, -⟩ := lst_val ((St.got S hb ho hF).reads 0 rfl)
  subst e4
  generalize F = F4 at ho hF
  refine ⟨_, _, rfl, (St.got S hb ho hF), ?_⟩
  clear S hb ho hF
  refine Sx.G.pure (.pointer (some ⟨b3, 0, none⟩)) (by kernel_rfl) (fun w => by kernel_rfl) ?_
  refine Sx.G.sto 24 (.tmp 7) (.tmp 6) b3 0 1 [.slice none 0 0, .slice none 0 0, .slice none 0 0, .int .i64 0] [.slice A4 x.mem.length c4] [.slice A4 x.mem.length c4, .slice none 0 0, .slice none 0 0, .int .i64 0] [ow (rLsw (rLsw rInt)) w4.heap.size w4'.heap.size x.mem [.slice A4 x.mem.length c4] F4, vr b3 [.slice A4 x.mem.length c4, .slice none 0 0, .slice none 0 0, .int .i64 0], vr b2 [.slice none 0 0, .slice none 0 0, .slice none 0 0, .int .i64 0], vr b1 [.slice hA0 x.mem.length hK0, .slice hA1 x.gs.length hK1, .slice hA2 x.outs.length hK2, .int .i64 x.pd]] rfl (by kernel_rfl) (by kernel_rfl) (by kernel_rfl) rfl (by kernel_rfl) rfl (by kernel_rfl) (by kernel_rfl) (by kernel_rfl) ?_
  refine Sx.G.nil ?_
  refine Sx.E.next ?_
  refine Sx.C.seq ?_
  refine Sx.C.region ?_
  refine Sx.G.pure (.pointer (some ⟨b1, 1, none⟩)) (by kernel_rfl) (fun w => by kernel_rfl) ?_
  refine Sx.G.ld1 37 (.tmp 8) b1 1 3 [.slice hA0 x.mem.length hK0, .slice hA1 x.gs.length hK1, .slice hA2 x.outs.length hK2, .int .i64 x.pd] (.slice hA1 x.gs.length hK1) rfl (by kernel_rfl) (by kernel_rfl) rfl (by kernel_rfl) (by kernel_rfl) ?_
  refine Sx.G.call 60 #[.slice hA1 x.gs.length hK1] (by kernel_rfl) (fun w => by kernel_rfl) (fun w5 S => (Kit.kto_GuestS x.gs hA1 hK1 _ hcap1 (St.old (r := (rLsw wG)) S hf1)).mono fun e w5' hp => ?_)
  obtain ⟨cs, F, rfl, ho, hF, hb⟩ := hp
  obtain ⟨u5, rfl⟩ := lsw_own ho
  obtain ⟨A5, c5, e5, -⟩ := lst_val ((St.got S hb ho hF).reads 0 rfl)
  subst e5
  generalize F = F5 at ho hF
  refine ⟨_, _, rfl, (St.got S hb ho hF), ?_⟩
  clear S hb ho hF
  refine Sx.G.pure (.pointer (some ⟨b3, 1, none⟩)) (by kernel_rfl) (fun w => by kernel_rfl) ?_
  refine Sx.G.sto 25 (.tmp 11) (.tmp 10) b3 1 2 [.slice A4 x.mem.length c4, .slice none 0 0, .slice none 0 0, .int .i64 0] [.slice A5 x.gs.length c5] [.slice A4 x.mem.length c4, .slice A5 x.gs.length c5, .slice none 0 0, .int .i64 0] [ow (rLsw wG) w5.heap.size w5'.heap.size x.gs [.slice A5 x.gs.length c5] F5, ow (rLsw (rLsw rInt)) w4.heap.size w4'.heap.size x.mem [.slice A4 x.mem.length c4] F4, vr b3 [.slice A4 x.mem.length c4, .slice A5 x.gs.length c5, .slice none 0 0, .int .i64 0], vr b2 [.slice none 0 0, .slice none 0 0, .slice none 0 0, .int .i64 0], vr b1 [.slice hA0 x.mem.length hK0, .slice hA1 x.gs.length hK1, .slice hA2 x.outs.length hK2, .int .i64 x.pd]] rfl (by kernel_rfl) (by kernel_rfl) (by kernel_rfl) rfl (by kernel_rfl) rfl (by kernel_rfl) (by kernel_rfl) (by kernel_rfl) ?_
  refine Sx.G.nil ?_
  refine Sx.E.next ?_
  refine Sx.C.seq ?_
  refine Sx.C.region ?_
  refine Sx.G.pure (.pointer (some ⟨b1, 2, none⟩)) (by kernel_rfl) (fun w => by kernel_rfl) ?_
  refine Sx.G.ld1 26 (.tmp 12) b1 2 4 [.slice hA0 x.mem.length hK0, .slice hA1 x.gs.length hK1, .slice hA2 x.outs.length hK2, .int .i64 x.pd] (.slice hA2 x.outs.length hK2) rfl (by kernel_rfl) (by kernel_rfl) rfl (by kernel_rfl) (by kernel_rfl) ?_
  refine Sx.G.call 61 #[.slice hA2 x.outs.length hK2] (by kernel_rfl) (fun w => by kernel_rfl) (fun w6 S => (Kit.kto_IntS x.outs hA2 hK2 _ hcap2 (St.old (r := (rLsw rInt)) S hf2)).mono fun e w6' hp => ?_)
  obtain ⟨cs, F, rfl, ho, hF, hb⟩ := hp
  obtain ⟨u6, rfl⟩ := lsw_own ho
  obtain ⟨A6, c6, e6, -⟩ := lst_val ((St.got S hb ho hF).reads 0 rfl)
  subst e6
  generalize F = F6 at ho hF
  refine ⟨_, _, rfl, (St.got S hb ho hF), ?_⟩
  clear S hb ho hF
  refine Sx.G.pure (.pointer (some ⟨b3, 2, none⟩)) (by kernel_rfl) (fun w => by kernel_rfl) ?_
  refine Sx.G.sto 26 (.tmp 15) (.tmp 14) b3 2 3 [.slice A4 x.mem.length c4, .slice A5 x.gs.length c5, .slice none 0 0, .int .i64 0] [.slice A6 x.outs.length c6] [.slice A4 x.mem.length c4, .slice A5 x.gs.length c5, .slice A6 x.outs.length c6, .int .i64 0] [ow (rLsw rInt) w6.heap.size w6'.heap.size x.outs [.slice A6 x.outs.length c6] F6, ow (rLsw wG) w5.heap.size w5'.heap.size x.gs [.slice A5 x.gs.length c5] F5, ow (rLsw (rLsw rInt)) w4.heap.size w4'.heap.size x.mem [.slice A4 x.mem.length c4] F4, vr b3 [.slice A4 x.mem.length c4, .slice A5 x.gs.length c5, .slice A6 x.outs.length c6, .int .i64 0], vr b2 [.slice none 0 0, .slice none 0 0, .slice none 0 0, .int .i64 0], vr b1 [.slice hA0 x.mem.length hK0, .slice hA1 x.gs.length hK1, .slice hA2 x.outs.length hK2, .int .i64 x.pd]] rfl (by kernel_rfl) (by kernel_rfl) (by kernel_rfl) rfl (by kernel_rfl) rfl (by kernel_rfl) (by kernel_rfl) (by kernel_rfl) ?_
  refine Sx.G.nil ?_
  refine Sx.E.next ?_
  refine Sx.C.seq ?_
  refine Sx.C.region ?_
  refine Sx.G.pure (.pointer (some ⟨b1, 3, none⟩)) (by kernel_rfl) (fun w => by kernel_rfl) ?_
  refine Sx.G.ld1 3 (.tmp 16) b1 3 5 [.slice hA0 x.mem.length hK0, .slice hA1 x.gs.length hK1, .slice hA2 x.outs.length hK2, .int .i64 x.pd] (.int .i64 x.pd) rfl (by kernel_rfl) (by kernel_rfl) rfl (by kernel_rfl) (by kernel_rfl) ?_
  refine Sx.G.pure (.pointer (some ⟨b3, 3, none⟩)) (by kernel_rfl) (fun w => by kernel_rfl) ?_
  refine Sx.G.sto 3 (.tmp 18) (.tmp 17) b3 3 3 [.slice A4 x.mem.length c4, .slice A5 x.gs.length c5, .slice A6 x.outs.length c6, .int .i64 0] [.int .i64 x.pd] [.slice A4 x.mem.length c4, .slice A5 x.gs.length c5, .slice A6 x.outs.length c6, .int .i64 x.pd] [ow (rLsw rInt) w6.heap.size w6'.heap.size x.outs [.slice A6 x.outs.length c6] F6, ow (rLsw wG) w5.heap.size w5'.heap.size x.gs [.slice A5 x.gs.length c5] F5, ow (rLsw (rLsw rInt)) w4.heap.size w4'.heap.size x.mem [.slice A4 x.mem.length c4] F4, vr b3 [.slice A4 x.mem.length c4, .slice A5 x.gs.length c5, .slice A6 x.outs.length c6, .int .i64 x.pd], vr b2 [.slice none 0 0, .slice none 0 0, .slice none 0 0, .int .i64 0], vr b1 [.slice hA0 x.mem.length hK0, .slice hA1 x.gs.length hK1, .slice hA2 x.outs.length hK2, .int .i64 x.pd]] rfl (by kernel_rfl) (by kernel_rfl) (by kernel_rfl) rfl (by kernel_rfl) rfl (by kernel_rfl) (by kernel_rfl) (by kernel_rfl) ?_
  refine Sx.G.nil ?_
  refine Sx.E.next ?_
  refine Sx.C.seq ?_
  refine Sx.C.region ?_
  refine Sx.G.ld 28 (.tmp 3) b3 0 3 [.slice A4 x.mem.length c4, .slice A5 x.gs.length c5, .slice A6 x.outs.length c6, .int .i64 x.pd] [.slice A4 x.mem.length c4, .slice A5 x.gs.length c5, .slice A6 x.outs.length c6, .int .i64 x.pd] rfl (by kernel_rfl) (by kernel_rfl) rfl (by kernel_rfl) (by kernel_rfl) (by kernel_rfl) ?_
  refine Sx.G.sto 28 (.tmp 2) (.tmp 19) b2 0 4 [.slice none 0 0, .slice none 0 0, .slice none 0 0, .int .i64 0] [.slice A4 x.mem.length c4, .slice A5 x.gs.length c5, .slice A6 x.outs.length c6, .int .i64 x.pd] [.slice A4 x.mem.length c4, .slice A5 x.gs.length c5, .slice A6 x.outs.length c6, .int .i64 x.pd] [ow (rLsw rInt) w6.heap.size w6'.heap.size x.outs [.slice A6 x.outs.length c6] F6, ow (rLsw wG) w5.heap.size w5'.heap.size x.gs [.slice A5 x.gs.length c5] F5, ow (rLsw (rLsw rInt)) w4.heap.size w4'.heap.size x.mem [.slice A4 x.mem.length c4] F4, vr b3 [.slice A4 x.mem.length c4, .slice A5 x.gs.length c5, .slice A6 x.outs.length c6, .int .i64 x.pd], vr b2 [.slice A4 x.mem.length c4, .slice A5 x.gs.length c5, .slice A6 x.outs.length c6, .int .i64 x.pd], vr b1 [.slice hA0 x.mem.length hK0, .slice hA1 x.gs.length hK1, .slice hA2 x.outs.length hK2, .int .i64 x.pd]] rfl (by kernel_rfl) (by kernel_rfl) (by kernel_rfl) rfl (by kernel_rfl) rfl (by kernel_rfl) (by kernel_rfl) (by kernel_rfl) ?_
  refine Sx.G.nil ?_
  refine Sx.E.next ?_
  refine Sx.C.ret ?_
  refine Sx.E.retc b2 4 [.slice A4 x.mem.length c4, .slice A5 x.gs.length c5, .slice A6 x.outs.length c6, .int .i64 x.pd] rfl (by kernel_rfl) rfl (by kernel_rfl) (by kernel_rfl) (fun w S => ?_)
  obtain ⟨ho, hF⟩ := wB_shut (g := x) S 2 rfl 1 rfl 0 rfl (by decide) (by decide) (by decide)
  exact ⟨_, _, rfl, ho, hF, S.below⟩
end Go.Proofs.Ytldgadmpclgfhaa.Kit
namespace Go.Proofs.Ytldgadmpclgfhaa.Guests
set_option maxRecDepth 100000
open Go.ChangeShapes Go.WideShapes Go.ChangeAt Go.RowKit
open Go.Proofs.Ytldgadmpclgfhaa.Base Go.Proofs.Ytldgadmpclgfhaa.Mem Go.Proofs.Ytldgadmpclgfhaa.Slots Go.Proofs.Ytldgadmpclgfhaa.Data Go.Proofs.Ytldgadmpclgfhaa.Ints Go.Proofs.Ytldgadmpclgfhaa.Inss Go.Proofs.Ytldgadmpclgfhaa.Ctls Go.Proofs.Ytldgadmpclgfhaa.Exits Go.Proofs.Ytldgadmpclgfhaa.Part Go.Proofs.Ytldgadmpclgfhaa.Guests
open Go.Proofs.Ytldgadmpclgfhaa.Irqs
set_option linter.unusedVariables false
set_option linter.unusedSimpArgs false
theorem gR.with {w : World} {lo hi : Nat} {g h : gT} {P0 P1 P2 P3 : Value} (r : gR w lo hi g P0 P1 P2 P3) (e0 : h.prog = g.prog) (e1 : h.wr = g.wr) (e2 : h.lv = g.lv) (e3 : h.seen = g.seen) : gR w lo hi h P0 P1 P2 P3 :=
  ⟨by rw [e0]; exact r.r0, by rw [e1]; exact r.r1, by rw [e2]; exact r.r2, by rw [e3]; exact r.r3⟩
theorem gO.with {w : World} {lo hi : Nat} {g h : gT} {P0 P1 P2 P3 : Value} (r : gO w lo hi g P0 P1 P2 P3) (e0 : h.prog = g.prog) (e1 : h.wr = g.wr) (e2 : h.lv = g.lv) (e3 : h.seen = g.seen) : gO w lo hi h P0 P1 P2 P3 :=
  ⟨by rw [e0]; exact r.r0, by rw [e1]; exact r.r1, by rw [e2]; exact r.r2, by rw [e3]; exact r.r3, r.d01, r.d02, r.d03, r.d12, r.d13, r.d23⟩
theorem gO.far {w : World} {lo hi : Nat} {g : gT} {P0 P1 P2 P3 : Value} (r : gO w lo hi g P0 P1 P2 P3) {z : Nat} (hz : z < lo ∨ hi ≤ z) (i : Nat) (u : Value) : gO (w.setCell ⟨z, i, none⟩ u) lo hi g P0 P1 P2 P3 :=
  r.kept fun k h1 h2 => Below.heap_setCell w ⟨z, i, none⟩ u k (by show k ≠ z; omega)
end Go.Proofs.Ytldgadmpclgfhaa.Guests
namespace Go.Proofs.Ytldgadmpclgfhaa.BroughtW
set_option maxRecDepth 100000
open Go.ChangeShapes Go.WideShapes Go.ChangeAt Go.RowKit
/-- What both functions compute. -/
def brought (n l m : Int) : Int := if m < l ∨ n < l then l else if m < n then m else n
end Go.Proofs.Ytldgadmpclgfhaa.BroughtW
namespace Go.Proofs.Ytldgadmpclgfhaa.Guests
set_option maxRecDepth 100000
open Go.ChangeShapes Go.WideShapes Go.ChangeAt Go.RowKit
open Go.Proofs.Ytldgadmpclgfhaa.Base Go.Proofs.Ytldgadmpclgfhaa.Mem Go.Proofs.Ytldgadmpclgfhaa.Data Go.Proofs.Ytldgadmpclgfhaa.Slots Go.Proofs.Ytldgadmpclgfhaa.Ints Go.Proofs.Ytldgadmpclgfhaa.Ctls Go.Proofs.Ytldgadmpclgfhaa.Exits Go.Proofs.Ytldgadmpclgfhaa.Stt Go.Proofs.Ytldgadmpclgfhaa.Irqs
set_option linter.unusedVariables false
set_option linter.unusedSimpArgs false
theorem pcells_s : ∀ l : List (Int × Int), pcells l = Slots.scells l
  | [] => rfl
  | s :: l => by rw [Slots.scells, ← pcells_s l]; rfl
theorem pcells_j : ∀ l : List (Int × Int), pcells l = Inss.jcells l
  | [] => rfl
  | s :: l => by rw [Inss.jcells, ← pcells_j l]; rfl
end Go.Proofs.Ytldgadmpclgfhaa.Guests
namespace Go.Proofs.Ytldgadmpclgfhaa.Sx
set_option maxRecDepth 100000
open Go.ChangeShapes Go.WideShapes Go.ChangeAt Go.RowKit Go.Deep
open Go.Proofs.Ytldgadmpclgfhaa.Base Go.Proofs.Ytldgadmpclgfhaa.Mem Go.Proofs.Ytldgadmpclgfhaa.Data Go.Proofs.Ytldgadmpclgfhaa.Stt
set_option linter.unusedVariables false
set_option linter.unusedSimpArgs false
section
variable {α : Type} {r : Rp α} {P : Program} {n : Nat} {ops : Array Oper} {Q : Exit → Act → World → Prop} {Z : World → Prop} {w0 : World} {T : Tl} {L L' : List Res} {rest : List Oper} {l : List Oper} {o : Oper} {t : Ord.Ot} {w : World}
theorem G.claims (h : ∀ w, St w0 w L → St w0 w L') (k : G P n ops Q w0 T L' rest) : G P n ops Q w0 T L rest := fun a w hA S => k a w hA (h w S)
theorem GT.claims (h : ∀ w, St w0 w L → St w0 w L') (k : GT P n ops Q Z w0 T L' t) : GT P n ops Q Z w0 T L t := fun a w hA S => k a w hA (h w S)
theorem Alone.claims {i : Nat} (h : ∀ w, St w0 w L → St w0 w L') (k : Alone P n ops Q Z w0 T L' i t) : Alone P n ops Q Z w0 T L i t := fun a w hA S => k a w hA (h w S)
theorem C.claims {c : Code} (h : ∀ w, St w0 w L → St w0 w L') (k : C P n Q w0 T L' c) : C P n Q w0 T L c := fun a w hA S => k a w hA (h w S)
theorem G.turn {ι : Type} {p : ι → Prop} (L' : ι → List Res) (h : ∀ w, St w0 w L → ∃ x, p x ∧ St w0 w (L' x)) (k : ∀ x, p x → G P n ops Q w0 T (L' x) rest) : G P n ops Q w0 T L rest := fun a w hA S => by
  obtain ⟨x, hp, S'⟩ := h w S
  exact k x hp a w hA S'
theorem GT.turn {ι : Type} {p : ι → Prop} (L' : ι → List Res) (h : ∀ w, St w0 w L → ∃ x, p x ∧ St w0 w (L' x)) (k : ∀ x, p x → GT P n ops Q Z w0 T (L' x) t) : GT P n ops Q Z w0 T L t := fun a w hA S => by
  obtain ⟨x, hp, S'⟩ := h w S
  exact k x hp a w hA S'
theorem G.know {p : Prop} (h : ∀ w, St w0 w L → p) (k : p → G P n ops Q w0 T L rest) : G P n ops Q w0 T L rest := fun a w hA S => k (h w S) a w hA S
theorem GT.know {p : Prop} (h : ∀ w, St w0 w L → p) (k : p → GT P n ops Q Z w0 T L t) : GT P n ops Q Z w0 T L t := fun a w hA S => k (h w S) a w hA S
theorem Alone.fresh {β : Type} {i : Nat} (e : TypeId) (q : Rp β) (ho : l[i]? = some o) (hc : chk n T l.toArray o = true) (hr : ∀ w : World, (execOp (ev T) o).run P w = .ok (.value (.slice (some ⟨w.heap.size, 0, none⟩) 0 0)) (w.alloc (.cells #[] e))) (hZ : ∀ w, St w0 w L → Z w)
    (k : ∀ b hi, GT P n l.toArray Q Z w0 (up o.dst (.slice (some ⟨b, 0, none⟩) 0 0) T) (ow (rLst e q) b hi [] [.slice (some ⟨b, 0, none⟩) 0 0] [b] :: L) t) : Alone P n l.toArray Q Z w0 T L i t :=
  Alone.turns ho hc fun w S => ⟨_, _, _, hr w, S.fresh e q, fun w S => hZ w (St.tail S), k _ _⟩
theorem Alone.hsto {j' : Nat} {off lo hi k size : Nat} {pre post : List α} {es : List Value} {F1 F2 : List Nat} (ty : TypeId) (x y : Operand) (b p j i : Nat) (us es' : List Value) (L' : List Res) (ho : l[j']? = some o) (hop : o.op = .store ty x y) (hc : chk n T l.toArray o = true) (hx : ev T x = .pointer (some ⟨b, p, none⟩)) (hy : (ev T y).cells = us.toArray) (hL : L[i]? = some (hole r b off lo hi pre post es F1 F2)) (hk : pre.length = k) (hz : r.sz = size) (hp : p = off + k * size + j)
    (hes : (us.foldl (fun (p : List Value × Nat) u => (p.1.set p.2 u, p.2 + 1)) (es, j)).1 = es') (hL' : L.set i (hole r b off lo hi pre post es' F1 F2) = L') (hl : Nat.ble (j + us.length) es.length = true) (hi' : (P.info? ty).map (·.size) = some us.length) (h1 : us.all (·.oneCell') = true)
    (hZ : ∀ w, St w0 w L' → Z w) (kk : GT P n l.toArray Q Z w0 (up o.dst undef T) L' t) : Alone P n l.toArray Q Z w0 T L j' t :=
  Alone.acts ho hc fun w S => by
    have hl' : j + us.length ≤ es.length := Nat.le_of_ble_eq_true hl
    have ht : w.there b p us.toArray.size := fun q hq => by
      have hq' : j + q < es.length := by simp at hq; omega
      have := hole_cell (S.at_ i hL) hk hz (j + q) (List.getElem?_eq_getElem hq')
      rw [← Nat.add_assoc, ← hp] at this
      exact ⟨by rw [this.1]; rfl, this.2⟩
    refine ⟨w.setCells b p us, L', ?_, ?_, hZ, kk⟩
    · unfold execOp
      have hcells : (storeVar ty ⟨b, p, none⟩ (ev T y)).run P w = (storeVar ty ⟨b, p, none⟩ (.agg us.toArray)).run P w := by
        unfold storeVar
        rw [hy]
        rfl
      have hs := run_storeVar_mid (P := P) w b p ty us.toArray ht (by simpa using hi') (by simpa using h1)
      simp only [hop, Sem.run_bind, Instr.storeAt, Instr.sureAddr, hx, Sem.run_pure, Result.andThen_ok, hcells, hs]
    · subst hL' hp
      exact St.holeSets S i hL hk hz j us es' hes hl'
end
end Go.Proofs.Ytldgadmpclgfhaa.Sx
namespace Go.Proofs.Ytldgadmpclgfhaa.Kit
set_option maxRecDepth 100000
open Go.ChangeShapes Go.WideShapes Go.ChangeAt Go.RowKit Go.Deep
open Go.Proofs.Ytldgadmpclgfhaa.Base Go.Proofs.Ytldgadmpclgfhaa.Mem Go.Proofs.Ytldgadmpclgfhaa.Data Go.Proofs.Ytldgadmpclgfhaa.Stt Go.Proofs.Ytldgadmpclgfhaa.Guests Go.Proofs.Ytldgadmpclgfhaa.Ctls Go.Proofs.Ytldgadmpclgfhaa.Exits
set_option linter.unusedVariables false
set_option linter.unusedSimpArgs false
theorem cap_G {g : gT} (h : wG.cap g) : rG.cap g := h
theorem rd_G {w : World} {lo hi : Nat} {g : gT} {cs : List Value} (h : wG.rd w lo hi g cs) : rG.rd w lo hi g cs := h
end Go.Proofs.Ytldgadmpclgfhaa.Kit
namespace Go.Proofs.Ytldgadmpclgfhaa.Kit
set_option maxRecDepth 100000
open Go.ChangeShapes Go.WideShapes Go.ChangeAt Go.RowKit Go.Deep
open Go.Proofs.Ytldgadmpclgfhaa.Base Go.Proofs.Ytldgadmpclgfhaa.Mem Go.Proofs.Ytldgadmpclgfhaa.Data Go.Proofs.Ytldgadmpclgfhaa.Stt
set_option linter.unusedVariables false
set_option linter.unusedSimpArgs false
section
variable {P : Program} {t e : TypeId}
theorem opens_lsw {α : Type} {r : Rp α} (hs : 0 < r.sz) (ht : P.underlying t = some (.slice e)) (hc : P.cellsOf e = r.sz) (he : Opens P r e) : Opens P (rLsw r) t := fun H enc w fuel cs x h => by
  rcases open_slice ht h with ⟨rfl, _⟩ | ⟨a, len, cap, m, n, D, Pl, rfl, hb, hl, hm, hmm, _, hx⟩
  · exact ⟨[], ⟨none, 0, [], rfl, Nat.le_refl _, rfl, Lies.nil⟩, ⟨Nat.zero_le _, fun x hx => by cases hx⟩⟩
  · have hmc : m = cap := by simpa using hmm
    subst hmc
    have each : ∀ i, i < len → ∃ y : List Value × α, y.1.length = r.sz ∧ (∀ j, j < r.sz → w.cell? ((a.add (i * r.sz)).add j) = y.1[j]?) ∧ r.rd w 0 w.heap.size y.2 y.1 ∧ r.wf y.2 := fun i hi => by
      obtain ⟨cs', h1, h2⟩ := hx i (by omega)
      obtain ⟨v, hv, hw⟩ := he H enc w n cs' _ h2
      rw [hc] at h1
      obtain ⟨_, hlen, hcell⟩ := World.cells?_some h1
      exact ⟨(cs', v), hlen, hcell, hv, hw⟩
    by_cases h0 : len = 0
    · subst h0
      exact ⟨[], ⟨some a, m, [], rfl, Nat.zero_le _, rfl, Lies.nil⟩, ⟨Nat.zero_le _, fun x hx => by cases hx⟩⟩
    have hin : Inhabited (List Value × α) := ⟨(each 0 (by omega)).choose⟩
    obtain ⟨f, hf⟩ := choose_lt each
    refine ⟨(List.range len).map fun i => (f i).2, ⟨some a, m, (List.range len).flatMap fun i => (f i).1, by simp, by simp; omega, rdAll_map _ fun i hi => (hf i (List.mem_range.1 hi)).2.2.1, ?_⟩, ⟨by simp; omega, fun x hx => ?_⟩⟩
    · intro j u hu
      have hL := flatMap_len (g := fun i => (f i).1) (s := r.sz) len fun i hi => (hf i hi).1
      have hj : j < len * r.sz := by
        have := (List.getElem?_eq_some_iff.1 hu).1
        omega
      rw [flatMap_get hs len (fun i hi => (hf i hi).1) j hj] at hu
      have hd : j / r.sz < len := Nat.div_lt_of_lt_mul (by rwa [Nat.mul_comm] at hj)
      have hc1 := (hf (j / r.sz) hd).2.1 (j % r.sz) (Nat.mod_lt _ hs)
      have hc1 := hc1.trans hu
      rw [add_add, show j / r.sz * r.sz + j % r.sz = j by rw [Nat.mul_comm]; exact Nat.div_add_mod j r.sz] at hc1
      have hc0 := (hf 0 (by omega)).2.1 0 hs
      rw [List.getElem?_eq_getElem (by rw [(hf 0 (by omega)).1]; exact hs)] at hc0
      obtain ⟨ab, ao, spot⟩ := a
      have hsp : spot = none := by simpa [Addr.add] using World.cell?_spot hc0
      subst hsp
      rw [Addr.add_lit] at hc1
      exact ⟨ab, ao, rfl, Nat.zero_le _, World.block_lt_of_cell? w _ hc1, hc1⟩
    · obtain ⟨i, hi, rfl⟩ := List.mem_map.1 hx
      exact (hf i (List.mem_range.1 hi)).2.2.2
end
section
variable {P : Program} {t e : TypeId}
variable {α : Type} {r : Rp α} {H : Type} {enc : TypeId × Value → H} {W : World} {base : Nat} {v : Value} {d : DataW H} {p : List MemPlace}
theorem open_struct {fs : Array Field} (ht : P.underlying t = some (.struct fs)) (hO : Opens P r t) (hval : Value.okWide P W .any base t v) (h : DataW.Trod enc P W 0 (fun _ => true) true t v d p) : ∃ x cs, v = .agg (cs : List Value).toArray ∧ r.wf x ∧ r.rd W 0 W.heap.size x cs := by
  obtain ⟨fuel, hf⟩ := h
  obtain ⟨x, hx, wx⟩ := hO H enc W fuel _ _ hf
  have hv : ∃ cs, v = .agg cs := by
    unfold Value.okWide at hval
    rw [ht] at hval
    obtain ⟨cs, e, _⟩ := hval
    exact ⟨cs, e⟩
  obtain ⟨cs, rfl⟩ := hv
  exact ⟨x, cs.toList, by simp, wx, by simpa [Value.cells] using hx⟩
end
end Go.Proofs.Ytldgadmpclgfhaa.Kit
namespace Go.Proofs.Ytldgadmpclgfhaa.Kit
set_option maxRecDepth 100000
open Go.ChangeShapes Go.WideShapes Go.ChangeAt Go.RowKit Go.Deep
open Go.Proofs.Ytldgadmpclgfhaa.Base Go.Proofs.Ytldgadmpclgfhaa.Mem Go.Proofs.Ytldgadmpclgfhaa.Data Go.Proofs.Ytldgadmpclgfhaa.Stt Go.Proofs.Ytldgadmpclgfhaa.Guests Go.Proofs.Ytldgadmpclgfhaa.Ctls Go.Proofs.Ytldgadmpclgfhaa.Exits
set_option linter.unusedVariables false
set_option linter.unusedSimpArgs false
theorem laid : laidOutB Try.prog = true := by kernel_rfl
theorem capz_Int (x : Int) (h : rInt.size x ≤ 1048576) : rInt.cap x := trivial
theorem cntz_Int (x : Int) : rInt.cnt x ≤ 16 * rInt.size x + 1 := by show 1 ≤ _; omega
theorem capz_Slot (x : (Int × Int)) (h : (rPair rInt rInt).size x ≤ 1048576) : (rPair rInt rInt).cap x := ⟨trivial, trivial⟩
theorem cntz_Slot (x : (Int × Int)) : (rPair rInt rInt).cnt x ≤ 16 * (rPair rInt rInt).size x + 2 := Nat.le_trans (Nat.le_of_eq (show (rPair rInt rInt).cnt x = 2 from rfl)) (Nat.le_add_left _ _)
theorem kopens_Slot : Opens Try.prog (rPair rInt rInt) 132 := opens_struct Try.underlying132 (by kernel_rfl) (fields_cons (opens_int Try.underlying3) rfl (by kernel_rfl) (fields_one (opens_int Try.underlying3) rfl (by kernel_rfl)))
theorem capz_Ins (x : (Int × Int)) (h : (rPair rInt rInt).size x ≤ 1048576) : (rPair rInt rInt).cap x := ⟨trivial, trivial⟩
theorem cntz_Ins (x : (Int × Int)) : (rPair rInt rInt).cnt x ≤ 16 * (rPair rInt rInt).size x + 2 := Nat.le_trans (Nat.le_of_eq (show (rPair rInt rInt).cnt x = 2 from rfl)) (Nat.le_add_left _ _)
theorem kopens_Ins : Opens Try.prog (rPair rInt rInt) 113 := opens_struct Try.underlying113 (by kernel_rfl) (fields_cons (opens_int Try.underlying3) rfl (by kernel_rfl) (fields_one (opens_int Try.underlying3) rfl (by kernel_rfl)))
theorem kopens_Ctl : Opens Try.prog rCtl 59 := opens_struct Try.underlying59 (by kernel_rfl) (fields_cons (opens_int Try.underlying3) rfl (by kernel_rfl) (fields_cons (opens_int Try.underlying3) rfl (by kernel_rfl) (fields_one (opens_bool Try.underlying4) rfl (by kernel_rfl))))
theorem kopens_Exit : Opens Try.prog rExit 60 := opens_struct Try.underlying60 (by kernel_rfl) (fields_cons (opens_int Try.underlying3) rfl (by kernel_rfl) (fields_cons (opens_int Try.underlying3) rfl (by kernel_rfl) (fields_cons (opens_bool Try.underlying4) rfl (by kernel_rfl) (fields_one (opens_int Try.underlying3) rfl (by kernel_rfl)))))
theorem capz_IntS (x : (List Int)) (h : (rLsw rInt).size x ≤ 1048576) : (rLsw rInt).cap x := capz (r := rInt) capz_Int h
theorem cntz_IntS (x : (List Int)) : (rLsw rInt).cnt x ≤ 16 * (rLsw rInt).size x + 0 := cntz (r := rInt) cntz_Int (by decide) x
theorem kopens_IntS : Opens Try.prog (rLsw rInt) 26 := opens_lsw (by decide) Try.underlying26 (by kernel_rfl) (opens_int Try.underlying3)
theorem capz_SlotS (x : (List (Int × Int))) (h : (rLsw (rPair rInt rInt)).size x ≤ 1048576) : (rLsw (rPair rInt rInt)).cap x := capz (r := (rPair rInt rInt)) capz_Slot h
theorem cntz_SlotS (x : (List (Int × Int))) : (rLsw (rPair rInt rInt)).cnt x ≤ 16 * (rLsw (rPair rInt rInt)).size x + 0 := cntz (r := (rPair rInt rInt)) cntz_Slot (by decide) x
theorem kopens_SlotS : Opens Try.prog (rLsw (rPair rInt rInt)) 58 := opens_lsw (by decide) Try.underlying58 (by kernel_rfl) kopens_Slot
theorem capz_InsS (x : (List (Int × Int))) (h : (rLsw (rPair rInt rInt)).size x ≤ 1048576) : (rLsw (rPair rInt rInt)).cap x := capz (r := (rPair rInt rInt)) capz_Ins h
theorem cntz_InsS (x : (List (Int × Int))) : (rLsw (rPair rInt rInt)).cnt x ≤ 16 * (rLsw (rPair rInt rInt)).size x + 0 := cntz (r := (rPair rInt rInt)) cntz_Ins (by decide) x
theorem kopens_InsS : Opens Try.prog (rLsw (rPair rInt rInt)) 57 := opens_lsw (by decide) Try.underlying57 (by kernel_rfl) kopens_Ins
theorem capz_Guest (x : gT) (h : wG.size x ≤ 1048576) : wG.cap x := by
  rw [size_Guest] at h
  exact ⟨capz_InsS x.prog (show x.prog.length + sizeAll (rPair rInt rInt) x.prog ≤ 1048576 by omega), trivial, trivial, capz_SlotS x.wr (show x.wr.length + sizeAll (rPair rInt rInt) x.wr ≤ 1048576 by omega), capz_SlotS x.lv (show x.lv.length + sizeAll (rPair rInt rInt) x.lv ≤ 1048576 by omega), ⟨trivial, trivial, trivial⟩, trivial, ⟨trivial, trivial, trivial, trivial⟩, trivial, capz_IntS x.seen (show x.seen.length + sizeAll rInt x.seen ≤ 1048576 by omega)⟩
theorem cntz_Guest (x : gT) : wG.cnt x ≤ 16 * wG.size x + 11 := by
  have h0 : cntAll (rPair rInt rInt) x.prog ≤ 16 * (x.prog.length + sizeAll (rPair rInt rInt) x.prog) := cntz_InsS x.prog
  have h1 : cntAll (rPair rInt rInt) x.wr ≤ 16 * (x.wr.length + sizeAll (rPair rInt rInt) x.wr) := cntz_SlotS x.wr
  have h2 : cntAll (rPair rInt rInt) x.lv ≤ 16 * (x.lv.length + sizeAll (rPair rInt rInt) x.lv) := cntz_SlotS x.lv
  have h3 : cntAll rInt x.seen ≤ 16 * (x.seen.length + sizeAll rInt x.seen) := cntz_IntS x.seen
  rw [cnt_Guest, size_Guest]; omega
theorem kopens_Guest : Opens Try.prog wG 62 := opens_via (fun _ => rfl) (opens_struct Try.underlying62 (by kernel_rfl) (fields_cons kopens_InsS rfl (by kernel_rfl) (fields_cons (opens_int Try.underlying3) rfl (by kernel_rfl) (fields_cons (opens_int Try.underlying3) rfl (by kernel_rfl) (fields_cons kopens_SlotS rfl (by kernel_rfl) (fields_cons kopens_SlotS rfl (by kernel_rfl) (fields_cons kopens_Ctl rfl (by kernel_rfl) (fields_cons (opens_int Try.underlying3) rfl (by kernel_rfl) (fields_cons kopens_Exit rfl (by kernel_rfl) (fields_cons (opens_bool Try.underlying4) rfl (by kernel_rfl) (fields_one kopens_IntS rfl (by kernel_rfl))))))))))))
theorem capz_IntSS (x : (List (List Int))) (h : (rLsw (rLsw rInt)).size x ≤ 1048576) : (rLsw (rLsw rInt)).cap x := capz (r := (rLsw rInt)) capz_IntS h
theorem cntz_IntSS (x : (List (List Int))) : (rLsw (rLsw rInt)).cnt x ≤ 16 * (rLsw (rLsw rInt)).size x + 0 := cntz (r := (rLsw rInt)) cntz_IntS (by decide) x
theorem kopens_IntSS : Opens Try.prog (rLsw (rLsw rInt)) 24 := opens_lsw (by decide) Try.underlying24 (by kernel_rfl) kopens_IntS
theorem capz_GuestS (x : (List gT)) (h : (rLsw wG).size x ≤ 1048576) : (rLsw wG).cap x := capz (r := wG) capz_Guest h
theorem cntz_GuestS (x : (List gT)) : (rLsw wG).cnt x ≤ 16 * (rLsw wG).size x + 0 := cntz (r := wG) cntz_Guest (by decide) x
theorem kopens_GuestS : Opens Try.prog (rLsw wG) 37 := opens_lsw (by decide) Try.underlying37 (by kernel_rfl) kopens_Guest
theorem capz_Bare (x : bT) (h : wB.size x ≤ 1048576) : wB.cap x := by
  rw [size_Bare] at h
  exact ⟨capz_IntSS x.mem (show x.mem.length + sizeAll (rLsw rInt) x.mem ≤ 1048576 by omega), capz_GuestS x.gs (show x.gs.length + sizeAll wG x.gs ≤ 1048576 by omega), capz_IntS x.outs (show x.outs.length + sizeAll rInt x.outs ≤ 1048576 by omega), trivial⟩
theorem tcntz_Bare (x : bT) : wB.tcnt x ≤ 16 * wB.size x := by
  have h0 : cntAll (rLsw rInt) x.mem ≤ 16 * (x.mem.length + sizeAll (rLsw rInt) x.mem) := cntz_IntSS x.mem
  have h1 : cntAll wG x.gs ≤ 16 * (x.gs.length + sizeAll wG x.gs) := cntz_GuestS x.gs
  have h2 : cntAll rInt x.outs ≤ 16 * (x.outs.length + sizeAll rInt x.outs) := cntz_IntS x.outs
  rw [tcnt_Bare, size_Bare]; omega
theorem kopens_Bare : Opens Try.prog wB 39 := opens_via (fun _ => rfl) (opens_struct Try.underlying39 (by kernel_rfl) (fields_cons kopens_IntSS rfl (by kernel_rfl) (fields_cons kopens_GuestS rfl (by kernel_rfl) (fields_cons kopens_IntS rfl (by kernel_rfl) (fields_one (opens_int Try.underlying3) rfl (by kernel_rfl))))))
theorem open_Bare {H : Type} {enc : TypeId × Value → H} {W : World} {base : Nat} {v : Value} {d : DataW H} {p : List MemPlace} (hval : Value.okWide Try.prog W .any base 39 v) (h : DataW.Trod enc Try.prog W 0 (fun _ => true) true 39 v d p) : ∃ (x : bT) (cs : List Value), v = .agg cs.toArray ∧ wB.wf x ∧ wB.rd W 0 W.heap.size x cs := open_struct Try.underlying39 kopens_Bare hval h
end Go.Proofs.Ytldgadmpclgfhaa.Kit
namespace Go.Proofs.Ytldgadmpclgfhaa.Addrs
set_option maxRecDepth 100000
open Go.ChangeShapes Go.WideShapes Go.ChangeAt Go.RowKit
open Go.Proofs.Ytldgadmpclgfhaa.Base
set_option linter.unusedVariables false
theorem range {x : Int} (h : (Lit.int .i64 x).wf = true) : -9223372036854775808 ≤ x ∧ x ≤ 9223372036854775807 := by
  have hm : IntKind.i64.min = -9223372036854775808 := by decide
  rw [← hm]; simpa [Lit.wf] using h
end Go.Proofs.Ytldgadmpclgfhaa.Addrs
namespace Go.Proofs.Ytldgadmpclgfhaa.Inss
set_option maxRecDepth 100000
open Go.ChangeShapes Go.WideShapes Go.ChangeAt Go.RowKit
open Go.Proofs.Ytldgadmpclgfhaa.Base Go.Proofs.Ytldgadmpclgfhaa.Mem Go.Proofs.Ytldgadmpclgfhaa.Data
def SamePost (w : World) (l m : List JT) (e : Ending) (w' : World) : Prop := e = .returned (.bool (decide (l = m))) ∧ ∃ q, w' = w.drewN q
theorem same_step {l m : List JT} {k : Nat} (hl : k < l.length) (hm : k < m.length) (h : l.take k = m.take k) :
    (l[k].1 = m[k].1 ∧ l[k].2 = m[k].2 → l.take (k + 1) = m.take (k + 1)) ∧ (¬ (l[k].1 = m[k].1 ∧ l[k].2 = m[k].2) → l ≠ m) := by
  refine ⟨fun e => ?_, fun e => ?_⟩
  · rw [List.take_succ_eq_append_getElem hl, List.take_succ_eq_append_getElem hm, h, Prod.ext e.1 e.2]
  · rintro rfl
    exact e ⟨rfl, rfl⟩
theorem same_no {w : World} {l m : List JT} (q : Nat) (h : l ≠ m) : SamePost w l m (.returned (.bool false)) (w.drewN q) := ⟨by rw [decide_eq_false h], q, rfl⟩
theorem same_no2 {w : World} {l m : List JT} (q r : Nat) (h : l ≠ m) : SamePost w l m (.returned (.bool false)) ((w.drewN q).drewN r) := ⟨by rw [decide_eq_false h], q + r, World.drewN_drewN ..⟩
theorem same_yes {w : World} {l m : List JT} {n : Nat} (q : Nat) (h : l.take n = m.take n) (hl : l.length = n) (hm : m.length = n) : SamePost w l m (.returned (.bool true)) (w.drewN q) := by
  rw [List.take_of_length_le (by omega), List.take_of_length_le (by omega)] at h
  exact ⟨by rw [decide_eq_true h], q, rfl⟩
set_option maxHeartbeats 1000000 in
theorem spec_same (A B : Option Addr) (n n' c d lo lo' hi hi' : Nat) (l m : List JT) (w : World) (hn : n ≤ 1048576) (hn' : n' ≤ 1048576) (hl : l.length = n) (hm : m.length = n')
    (h1 : Lies w lo hi A (jcells l)) (h2 : Lies w lo' hi' B (jcells m)) :
    Calls Try.prog 132 #[.slice A n c, .slice B n' d] w (SamePost w l m) := by
  have H1 := Lib.hid h1
  have H2 := Lib.hid h2
  have HL := Lib.hid hl
  have HM := Lib.hid hm
  clear h1 h2 hl hm
  by_cases hnn : n = n'
  · subst hnn
    go_enter Try.func132, Try.ntmps132
    go_wp2
    go_loopw [5] (fun i wr => ∃ (k q : Nat), k ≤ n ∧ i = .int .i64 k ∧ l.take k = m.take k ∧ wr = w.drewN q) (fun i _ => n - (intOf i).toNat)
    case atStart => exact ⟨0, 0, Nat.zero_le _, rfl, rfl, rfl⟩
    case round =>
      obtain ⟨k, q, hk, rfl, ht, rfl⟩ := hrel
      have HT := Lib.hid ht
      clear ht
      by_cases hlt : k < n
      · have hkl : k < l.length := by have := HL.out; omega
        have hkm : k < m.length := by have := HM.out; omega
        obtain ⟨b, off, rfl, _, hbw, c1, c2⟩ := j_at H1.out k hkl
        obtain ⟨b', off', rfl, _, hbw', c1', c2'⟩ := j_at H2.out k hkm
        have hi0 : (0 : Int) ≤ (k : Int) := Int.natCast_nonneg _
        have hi1 : (k : Int) < (n : Int) := by omega
        have hstep := same_step hkl hkm HT.out
        have HP := Lib.hid hstep
        clear hstep
        generalize l[k].1 = x at c1 HP
        generalize l[k].2 = y at c2 HP
        generalize m[k].1 = x' at c1' HP
        generalize m[k].2 = y' at c2' HP
        by_cases hx : x = x'
        · subst hx
          by_cases hy : y = y'
          · subst hy
            go_wp2
            go_quiet (fail)
            go_wp2
            go_roundw
            case rel => exact ⟨k + 1, _, by omega, by go_num, HP.out.1 (by simp), rfl⟩
            case measure => simp [intOf]; omega
          · have hy' : (y == y') = false := by simpa using hy
            go_wp2
            go_quiet (fail)
            go_wp2
            go_ret
            exact same_no2 _ _ (HP.out.2 (fun h => hy h.2))
        · have hx' : (x == x') = false := by simpa using hx
          go_wp2
          go_quiet (fail)
          go_wp2
          go_ret
          exact same_no2 _ _ (HP.out.2 (fun h => hx h.1))
      · have hkn : k = n := by omega
        subst hkn
        go_wp2
        go_ret
        exact same_yes _ HT.out HL.out HM.out
  · have hd : (n == n') = false := by simpa using hnn
    have hd' : ((n : Int) == (n' : Int)) = false := by simp; omega
    go_enter Try.func132, Try.ntmps132
    go_wp2
    go_ret
    exact same_no 0 (fun e => hnn (by rw [← HL.out, ← HM.out, e]))
end Go.Proofs.Ytldgadmpclgfhaa.Inss
namespace Go.Proofs.Ytldgadmpclgfhaa.Slots
set_option maxRecDepth 100000
open Go.ChangeShapes Go.WideShapes Go.ChangeAt Go.RowKit
open Go.Proofs.Ytldgadmpclgfhaa.Base Go.Proofs.Ytldgadmpclgfhaa.Mem Go.Proofs.Ytldgadmpclgfhaa.Ints
def SamePost (w : World) (l m : List Sl) (e : Ending) (w' : World) : Prop := e = .returned (.bool (decide (l = m))) ∧ ∃ q, w' = w.drewN q
theorem same_step {l m : List Sl} {k : Nat} (hl : k < l.length) (hm : k < m.length) (h : l.take k = m.take k) :
    (l[k].1 = m[k].1 ∧ l[k].2 = m[k].2 → l.take (k + 1) = m.take (k + 1)) ∧ (¬ (l[k].1 = m[k].1 ∧ l[k].2 = m[k].2) → l ≠ m) := by
  refine ⟨fun e => ?_, fun e => ?_⟩
  · rw [List.take_succ_eq_append_getElem hl, List.take_succ_eq_append_getElem hm, h, Prod.ext e.1 e.2]
  · rintro rfl
    exact e ⟨rfl, rfl⟩
theorem same_no {w : World} {l m : List Sl} (q : Nat) (h : l ≠ m) : SamePost w l m (.returned (.bool false)) (w.drewN q) := ⟨by rw [decide_eq_false h], q, rfl⟩
theorem same_no2 {w : World} {l m : List Sl} (q r : Nat) (h : l ≠ m) : SamePost w l m (.returned (.bool false)) ((w.drewN q).drewN r) := ⟨by rw [decide_eq_false h], q + r, World.drewN_drewN ..⟩
theorem same_yes {w : World} {l m : List Sl} {n : Nat} (q : Nat) (h : l.take n = m.take n) (hl : l.length = n) (hm : m.length = n) : SamePost w l m (.returned (.bool true)) (w.drewN q) := by
  rw [List.take_of_length_le (by omega), List.take_of_length_le (by omega)] at h
  exact ⟨by rw [decide_eq_true h], q, rfl⟩
set_option maxHeartbeats 1000000 in
theorem spec_same (A B : Option Addr) (n n' c d lo lo' hi hi' : Nat) (l m : List Sl) (w : World) (hn : n ≤ 1048576) (hn' : n' ≤ 1048576) (hl : l.length = n) (hm : m.length = n')
    (h1 : Lies w lo hi A (scells l)) (h2 : Lies w lo' hi' B (scells m)) :
    Calls Try.prog 133 #[.slice A n c, .slice B n' d] w (SamePost w l m) := by
  have H1 := Lib.hid h1
  have H2 := Lib.hid h2
  have HL := Lib.hid hl
  have HM := Lib.hid hm
  clear h1 h2 hl hm
  by_cases hnn : n = n'
  · subst hnn
    go_enter Try.func133, Try.ntmps133
    go_wp2
    go_loopw [5] (fun i wr => ∃ (k q : Nat), k ≤ n ∧ i = .int .i64 k ∧ l.take k = m.take k ∧ wr = w.drewN q) (fun i _ => n - (intOf i).toNat)
    case atStart => exact ⟨0, 0, Nat.zero_le _, rfl, rfl, rfl⟩
    case round =>
      obtain ⟨k, q, hk, rfl, ht, rfl⟩ := hrel
      have HT := Lib.hid ht
      clear ht
      by_cases hlt : k < n
      · have hkl : k < l.length := by have := HL.out; omega
        have hkm : k < m.length := by have := HM.out; omega
        obtain ⟨b, off, rfl, _, hbw, c1, c2⟩ := slot_at H1.out k hkl
        obtain ⟨b', off', rfl, _, hbw', c1', c2'⟩ := slot_at H2.out k hkm
        have hi0 : (0 : Int) ≤ (k : Int) := Int.natCast_nonneg _
        have hi1 : (k : Int) < (n : Int) := by omega
        have hstep := same_step hkl hkm HT.out
        have HP := Lib.hid hstep
        clear hstep
        generalize l[k].1 = x at c1 HP
        generalize l[k].2 = y at c2 HP
        generalize m[k].1 = x' at c1' HP
        generalize m[k].2 = y' at c2' HP
        by_cases hx : x = x'
        · subst hx
          by_cases hy : y = y'
          · subst hy
            go_wp2
            go_quiet (fail)
            go_wp2
            go_roundw
            case rel => exact ⟨k + 1, _, by omega, by go_num, HP.out.1 (by simp), rfl⟩
            case measure => simp [intOf]; omega
          · have hy' : (y == y') = false := by simpa using hy
            go_wp2
            go_quiet (fail)
            go_wp2
            go_ret
            exact same_no2 _ _ (HP.out.2 (fun h => hy h.2))
        · have hx' : (x == x') = false := by simpa using hx
          go_wp2
          go_quiet (fail)
          go_wp2
          go_ret
          exact same_no2 _ _ (HP.out.2 (fun h => hx h.1))
      · have hkn : k = n := by omega
        subst hkn
        go_wp2
        go_ret
        exact same_yes _ HT.out HL.out HM.out
  · have hd : (n == n') = false := by simpa using hnn
    have hd' : ((n : Int) == (n' : Int)) = false := by simp; omega
    go_enter Try.func133, Try.ntmps133
    go_wp2
    go_ret
    exact same_no 0 (fun e => hnn (by rw [← HL.out, ← HM.out, e]))
set_option maxHeartbeats 1000000 in
theorem lib_equal (A B : Option Addr) (n n' c d lo lo' hi hi' : Nat) (l m : List Sl) (w : World) (hn : n ≤ 1048576) (hn' : n' ≤ 1048576) (hl : l.length = n) (hm : m.length = n')
    (h1 : Lies w lo hi A (scells l)) (h2 : Lies w lo' hi' B (scells m)) :
    Calls Try.prog 134 #[.slice A n c, .slice B n' d] w (SamePost w l m) := by
  have H1 := Lib.hid h1
  have H2 := Lib.hid h2
  have HL := Lib.hid hl
  have HM := Lib.hid hm
  clear h1 h2 hl hm
  by_cases hnn : n = n'
  · subst hnn
    go_enter Try.func134, Try.ntmps134
    go_wp2
    go_loopw [5, 13] (fun _ i wr => ∃ (k q : Nat), k ≤ n ∧ i = .int .i64 k ∧ l.take k = m.take k ∧ wr = w.drewN q) (fun _ i _ => n - (intOf i).toNat)
    case atStart => exact ⟨0, 0, Nat.zero_le _, rfl, rfl, rfl⟩
    case round =>
      obtain ⟨k, q, hk, rfl, ht, rfl⟩ := hrel
      have HT := Lib.hid ht
      clear ht
      by_cases hlt : k < n
      · have hkl : k < l.length := by have := HL.out; omega
        have hkm : k < m.length := by have := HM.out; omega
        obtain ⟨b, off, rfl, _, hbw, c1, c2⟩ := slot_at H1.out k hkl
        obtain ⟨b', off', rfl, _, hbw', c1', c2'⟩ := slot_at H2.out k hkm
        have hi0 : (0 : Int) ≤ (k : Int) := Int.natCast_nonneg _
        have hi1 : (k : Int) < (n : Int) := by omega
        have hstep := same_step hkl hkm HT.out
        have HP := Lib.hid hstep
        clear hstep
        generalize l[k].1 = x at c1 HP
        generalize l[k].2 = y at c2 HP
        generalize m[k].1 = x' at c1' HP
        generalize m[k].2 = y' at c2' HP
        by_cases hx : x = x'
        · subst hx
          by_cases hy : y = y'
          · subst hy
            go_wp2
            go_quiet (fail)
            go_wp2
            go_roundw
            case rel => exact ⟨k + 1, _, by omega, by go_num, HP.out.1 (by simp), rfl⟩
            case measure => simp [intOf]; omega
          · have hy' : (y == y') = false := by simpa using hy
            go_wp2
            go_quiet (fail)
            go_wp2
            go_ret
            exact same_no2 _ _ (HP.out.2 (fun h => hy h.2))
        · have hx' : (x == x') = false := by simpa using hx
          go_wp2
          go_quiet (fail)
          go_wp2
          go_ret
          exact same_no2 _ _ (HP.out.2 (fun h => hx h.1))
      · have hkn : k = n := by omega
        subst hkn
        go_wp2
        go_ret
        exact same_yes _ HT.out HL.out HM.out
  · have hd : (n == n') = false := by simpa using hnn
    have hd' : ((n : Int) == (n' : Int)) = false := by simp; omega
    go_enter Try.func134, Try.ntmps134
    go_wp2
    go_ret
    exact same_no 0 (fun e => hnn (by rw [← HL.out, ← HM.out, e]))
theorem impl_same (A B : Option Addr) (n n' c d lo lo' hi hi' : Nat) (l m : List Sl) (w : World) (hn : n ≤ 1048576) (hn' : n' ≤ 1048576) (hl : l.length = n) (hm : m.length = n')
    (h1 : Lies w lo hi A (scells l)) (h2 : Lies w lo' hi' B (scells m)) :
    Calls Try.prog 119 #[.slice A n c, .slice B n' d] w (SamePost w l m) := by
  have HK := Lib.hid (fun V (hV : V = w) => lib_equal A B n n' c d lo lo' hi hi' l m V hn hn' hl hm (hV ▸ h1) (hV ▸ h2))
  clear h1 h2 hl hm
  go_enter Try.func119, Try.ntmps119
  go_wp2_with fail
  refine (HK.out _ rfl).mono ?_
  rintro e w1 ⟨rfl, q, rfl⟩
  go_wp2_with fail
  go_ret
  exact ⟨rfl, q, rfl⟩
end Go.Proofs.Ytldgadmpclgfhaa.Slots
namespace Go.Proofs.Ytldgadmpclgfhaa.Grid
set_option maxRecDepth 100000
open Go.ChangeShapes Go.WideShapes Go.ChangeAt Go.RowKit
open Go.Proofs.Ytldgadmpclgfhaa.Base Go.Proofs.Ytldgadmpclgfhaa.Mem Go.Proofs.Ytldgadmpclgfhaa.Ints
set_option linter.unusedVariables false
section
variable {P : Program}
end
theorem ncells_set (l : List Int) (j : Nat) (v : Int) : (ncells l).set j (.int .i64 v) = ncells (l.set j v) := by
  simp [ncells, List.map_set]
end Go.Proofs.Ytldgadmpclgfhaa.Grid
namespace Go.Proofs.Ytldgadmpclgfhaa.Grid
set_option maxRecDepth 100000
open Go.ChangeShapes Go.WideShapes Go.ChangeAt Go.RowKit
open Go.Proofs.Ytldgadmpclgfhaa.Base Go.Proofs.Ytldgadmpclgfhaa.Mem Go.Proofs.Ytldgadmpclgfhaa.Ints
set_option linter.unusedVariables false
/-- A cell of a memory of one's own is written. -/
theorem OG.cell {w : World} {lo hi : Nat} {A : Option Addr} {M : List (List Int)} {hs : List Hd} (h : OG w lo hi A M hs) (hh : hi ≤ w.heap.size) (k j : Nat) (hk : k < M.length) (hj : j < M[k].length) :
    ∃ b off b' off' c, A = some ⟨b, off, none⟩ ∧ b < hi ∧ w.cell? ⟨b, off + k, none⟩ = some (.slice (some ⟨b', off', none⟩) M[k].length c) ∧ (∃ u, w.cell? ⟨b', off' + j, none⟩ = some u) ∧ w.frozen? ⟨b', off' + j, none⟩ = false ∧
      ∀ v : Int, OG (w.setCell ⟨b', off' + j, none⟩ (.int .i64 v)) lo hi A (M.set k (M[k].set j v)) hs ∧ Turned lo hi w (w.setCell ⟨b', off' + j, none⟩ (.int .i64 v)) := by
  obtain ⟨b, off, B, c, lo', hi', e, hb, hc, ho, hn⟩ := h.write hh k hk
  obtain ⟨b', off', rfl, x, y, c2⟩ := int_at ho.1 j hj
  refine ⟨b, off, b', off', c, e, hb, hc, ⟨_, c2⟩, ho.2 _ _ rfl (by rw [ncells_len]; omega) _, fun v => ?_⟩
  have h1 := ho.set j (.int .i64 v)
  rw [ncells_set] at h1
  exact hn _ _ (by simp) h1 ((Turned.refl lo' hi' w).setCell x y _)
end Go.Proofs.Ytldgadmpclgfhaa.Grid
namespace Go.Proofs.Ytldgadmpclgfhaa.Grid
set_option maxRecDepth 100000
open Go.ChangeShapes Go.WideShapes Go.ChangeAt Go.RowKit
open Go.Proofs.Ytldgadmpclgfhaa.Base Go.Proofs.Ytldgadmpclgfhaa.Mem Go.Proofs.Ytldgadmpclgfhaa.Ints
set_option linter.unusedVariables false
def SameP {α : Type} [DecidableEq α] (w : World) (l m : List α) (e : Ending) (w' : World) : Prop := e = .returned (.bool (decide (l = m))) ∧ ∃ q, w' = w.drewN q
theorem same_step {α : Type} {l m : List α} {k : Nat} (hl : k < l.length) (hm : k < m.length) (h : l.take k = m.take k) :
    (l[k] = m[k] → l.take (k + 1) = m.take (k + 1)) ∧ (l[k] ≠ m[k] → l ≠ m) := by
  refine ⟨fun e => ?_, fun e => ?_⟩
  · rw [List.take_succ_eq_append_getElem hl, List.take_succ_eq_append_getElem hm, h, e]
  · rintro rfl
    exact e rfl
section
variable {α : Type} [DecidableEq α] {w : World} {l m : List α}
theorem SameP.yes {P : Program} {f : FuncId} {args : Array Value} {w0 : World} (h : Calls P f args w0 (SameP w l m)) (e : l = m) : Calls P f args w0 fun e w' => e = .returned (.bool true) ∧ ∃ q, w' = w.drewN q :=
  h.mono fun e1 w' ⟨h1, h2⟩ => ⟨by rw [h1, decide_eq_true e], h2⟩
theorem SameP.no {P : Program} {f : FuncId} {args : Array Value} {w0 : World} (h : Calls P f args w0 (SameP w l m)) (e : l ≠ m) : Calls P f args w0 fun e w' => e = .returned (.bool false) ∧ ∃ q, w' = w.drewN q :=
  h.mono fun e1 w' ⟨h1, h2⟩ => ⟨by rw [h1, decide_eq_false e], h2⟩
theorem same_no (q : Nat) (h : l ≠ m) : SameP w l m (.returned (.bool false)) (w.drewN q) := ⟨by rw [decide_eq_false h], q, rfl⟩
theorem same_no2 (q r : Nat) (h : l ≠ m) : SameP w l m (.returned (.bool false)) ((w.drewN q).drewN r) := ⟨by rw [decide_eq_false h], q + r, World.drewN_drewN ..⟩
/-- The world has drawn, and nothing else. -/
def Drawn (w w' : World) : Prop := ∃ q, w' = w.drewN q
theorem Drawn.cell {w' : World} (h : Drawn w w') (p : Addr) : w'.cell? p = w.cell? p := by
  obtain ⟨q, rfl⟩ := h
  rfl
theorem Drawn.lies {w' : World} (h : Drawn w w') {lo hi : Nat} {A : Option Addr} {cs : List Value} (k : Lies w lo hi A cs) : Lies w' lo hi A cs := by
  obtain ⟨q, rfl⟩ := h
  exact k
theorem Drawn.more {w' : World} (h : Drawn w w') (r : Nat) : Drawn w (w'.drewN (1 + r)) := by
  obtain ⟨q, rfl⟩ := h
  exact ⟨q + (1 + r), World.drewN_drewN ..⟩
theorem same_yes {n : Nat} (q : Nat) (h : l.take n = m.take n) (hl : l.length = n) (hm : m.length = n) : SameP w l m (.returned (.bool true)) (w.drewN q) := by
  rw [List.take_of_length_le (by omega), List.take_of_length_le (by omega)] at h
  exact ⟨by rw [decide_eq_true h], q, rfl⟩
end
set_option maxHeartbeats 1000000 in
theorem lib_equal (A B : Option Addr) (n n' c d lo lo' hi hi' : Nat) (l m : List Int) (w : World) (hn : n ≤ 1048576) (hn' : n' ≤ 1048576) (hl : l.length = n) (hm : m.length = n')
    (h1 : Lies w lo hi A (ncells l)) (h2 : Lies w lo' hi' B (ncells m)) :
    Calls Try.prog 89 #[.slice A n c, .slice B n' d] w (SameP w l m) := by
  have H1 := Lib.hid h1
  have H2 := Lib.hid h2
  have HL := Lib.hid hl
  have HM := Lib.hid hm
  clear h1 h2 hl hm
  by_cases hnn : n = n'
  · subst hnn
    go_enter Try.func89, Try.ntmps89
    go_wp2
    go_loopw [5, 13] (fun _ i wr => ∃ (k q : Nat), k ≤ n ∧ i = .int .i64 k ∧ l.take k = m.take k ∧ wr = w.drewN q) (fun _ i _ => n - (intOf i).toNat)
    case atStart => exact ⟨0, 0, Nat.zero_le _, rfl, rfl, rfl⟩
    case round =>
      obtain ⟨k, q, hk, rfl, ht, rfl⟩ := hrel
      have HT := Lib.hid ht
      clear ht
      by_cases hlt : k < n
      · have hkl : k < l.length := by have := HL.out; omega
        have hkm : k < m.length := by have := HM.out; omega
        obtain ⟨b, off, rfl, _, hbw, c1⟩ := int_at H1.out k hkl
        obtain ⟨b', off', rfl, _, hbw', c2⟩ := int_at H2.out k hkm
        have hi0 : (0 : Int) ≤ (k : Int) := Int.natCast_nonneg _
        have hi1 : (k : Int) < (n : Int) := by omega
        have HP := Lib.hid (same_step hkl hkm HT.out)
        generalize l[k] = x at c1 HP
        generalize m[k] = y at c2 HP
        by_cases hx : x = y
        · subst hx
          go_wp2
          go_quiet (fail)
          go_wp2
          go_roundw
          case rel => exact ⟨k + 1, _, by omega, by go_num, HP.out.1 (by simp), rfl⟩
          case measure => simp [intOf]; omega
        · have hx' : (x == y) = false := by simpa using hx
          have hx2 : (x != y) = true := by simpa using hx
          go_wp2
          go_quiet (fail)
          go_wp2
          go_ret
          exact same_no2 _ _ (HP.out.2 hx)
      · have hkn : k = n := by omega
        subst hkn
        go_wp2
        go_ret
        exact same_yes _ HT.out HL.out HM.out
  · have hd : (n == n') = false := by simpa using hnn
    have hd' : ((n : Int) == (n' : Int)) = false := by simp; omega
    go_enter Try.func89, Try.ntmps89
    go_wp2
    go_ret
    exact same_no 0 (fun e => hnn (by rw [← HL.out, ← HM.out, e]))
set_option maxHeartbeats 1000000 in
theorem spec_ints (A B : Option Addr) (n n' c d lo lo' hi hi' : Nat) (l m : List Int) (w : World) (hn : n ≤ 1048576) (hn' : n' ≤ 1048576) (hl : l.length = n) (hm : m.length = n')
    (h1 : Lies w lo hi A (ncells l)) (h2 : Lies w lo' hi' B (ncells m)) :
    Calls Try.prog 85 #[.slice A n c, .slice B n' d] w (SameP w l m) := by
  have H1 := Lib.hid h1
  have H2 := Lib.hid h2
  have HL := Lib.hid hl
  have HM := Lib.hid hm
  clear h1 h2 hl hm
  by_cases hnn : n = n'
  · subst hnn
    go_enter Try.func85, Try.ntmps85
    go_wp2
    go_loopw [5] (fun  i wr => ∃ (k q : Nat), k ≤ n ∧ i = .int .i64 k ∧ l.take k = m.take k ∧ wr = w.drewN q) (fun  i _ => n - (intOf i).toNat)
    case atStart => exact ⟨0, 0, Nat.zero_le _, rfl, rfl, rfl⟩
    case round =>
      obtain ⟨k, q, hk, rfl, ht, rfl⟩ := hrel
      have HT := Lib.hid ht
      clear ht
      by_cases hlt : k < n
      · have hkl : k < l.length := by have := HL.out; omega
        have hkm : k < m.length := by have := HM.out; omega
        obtain ⟨b, off, rfl, _, hbw, c1⟩ := int_at H1.out k hkl
        obtain ⟨b', off', rfl, _, hbw', c2⟩ := int_at H2.out k hkm
        have hi0 : (0 : Int) ≤ (k : Int) := Int.natCast_nonneg _
        have hi1 : (k : Int) < (n : Int) := by omega
        have HP := Lib.hid (same_step hkl hkm HT.out)
        generalize l[k] = x at c1 HP
        generalize m[k] = y at c2 HP
        by_cases hx : x = y
        · subst hx
          go_wp2
          go_quiet (fail)
          go_wp2
          go_roundw
          case rel => exact ⟨k + 1, _, by omega, by go_num, HP.out.1 (by simp), rfl⟩
          case measure => simp [intOf]; omega
        · have hx' : (x == y) = false := by simpa using hx
          have hx2 : (x != y) = true := by simpa using hx
          go_wp2
          go_quiet (fail)
          go_wp2
          go_ret
          exact same_no2 _ _ (HP.out.2 hx)
      · have hkn : k = n := by omega
        subst hkn
        go_wp2
        go_ret
        exact same_yes _ HT.out HL.out HM.out
  · have hd : (n == n') = false := by simpa using hnn
    have hd' : ((n : Int) == (n' : Int)) = false := by simp; omega
    go_enter Try.func85, Try.ntmps85
    go_wp2
    go_ret
    exact same_no 0 (fun e => hnn (by rw [← HL.out, ← HM.out, e]))
end Go.Proofs.Ytldgadmpclgfhaa.Grid
namespace Go.Proofs.Ytldgadmpclgfhaa.Sx
set_option maxRecDepth 100000
open Go.ChangeShapes Go.WideShapes Go.ChangeAt Go.RowKit Go.Deep
set_option linter.unusedVariables false
theorem run_eqs {P : Program} {ρ : Operand → Value} {o : Oper} {op : BinOp} {t t' : TypeId} {x y : Operand} {xs ys : Array Value} {v : Value} (hop : o.op = .binOp op t x y t') (hx : ρ x = .agg xs) (hy : ρ y = .agg ys) (hm : P.eqGuardType P.depth t = false)
    (he : ∀ w, (binOp op t (.agg xs) (.agg ys)).run P w = .ok v w) (w : World) : (execOp ρ o).run P w = .ok (.value v) w := by
  unfold execOp
  simp only [hop, hx, hy, Sem.run_bind, run_eqGuard_agg _ _ _ _ _ _ _ hm, he, Sem.run_pure, Result.andThen_ok]
end Go.Proofs.Ytldgadmpclgfhaa.Sx
