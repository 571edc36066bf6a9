/-
  The texts that FnProgram wants, part 3: WantImpl Walk. No condition.
-/
import Derived.Test.YtmiokacihcpepaaGreatFnProgramB2
namespace Go.Proofs.YtmiokacihcpepaaGreat.Guests
set_option maxHeartbeats 8000000
set_option maxRecDepth 100000
set_option maxRecDepth 100000
open Go.ChangeShapes Go.WideShapes Go.ChangeAt Go.RowKit
open Go.Proofs.YtmiokacihcpepaaGreat.Base Go.Proofs.YtmiokacihcpepaaGreat.Mem Go.Proofs.YtmiokacihcpepaaGreat.Data Go.Proofs.YtmiokacihcpepaaGreat.Slots Go.Proofs.YtmiokacihcpepaaGreat.Ints Go.Proofs.YtmiokacihcpepaaGreat.Ctls Go.Proofs.YtmiokacihcpepaaGreat.Exits Go.Proofs.YtmiokacihcpepaaGreat.Stt Go.Proofs.YtmiokacihcpepaaGreat.Irqs Go.Proofs.YtmiokacihcpepaaGreat.Inss
set_option linter.unusedVariables false
set_option linter.unusedSimpArgs false
def jumpG (g : gT) (n : Int) : gT := if (g.a == 0) = true then { g with pc := n } else movedG g
theorem min_pc (p : Int) : IntKind.i64.wrap ((if 11 < p then 11 else p) + 1) = if decide (p ≥ 12) = true then 12 else IntKind.i64.wrap (p + 1) := by
 by_cases h : p ≥ 12
 ·
  rw [if_pos (by omega), if_pos (decide_eq_true h)]; decide
 ·
  rw [if_neg (by omega), if_neg (by rw [decide_eq_false h]; decide)]
def effV (a : Int) (i : Int × Int) : Value := if (inB a 0 99 && inB i.2 0 99) = true then (if (i.1 == 1) = true then .func (.func 210) #[] #[] else if (i.1 == 2) = true then .func (.func 211) #[] #[] else if (i.1 == 8) = true then .func (.func 212) #[] #[] else .func (.func 207) #[] #[]) else .func (.func 207) #[] #[]
theorem impl_moveM {w0 w : World} {b : Nat} {R : List Res} {P0 P1 P2 P3 : Value} (g : gT) (S : St w0 w (vr b [.int .i64 g.a, .int .i64 g.pc, .int .i64 g.t.1, .int .i64 g.t.2.1, .bool g.t.2.2, .int .i64 g.pd, .int .i64 g.x.1, .int .i64 g.x.2.1, .bool g.x.2.2.1, .int .i64 g.x.2.2.2, .bool g.hl, P0, P1, P2, P3] :: R)) : Calls Tryz.prog 227 #[.pointer (some ⟨b, 0, none⟩)] w fun e w' => e = .returned (.tuple #[]) ∧ St w0 w' (vr b [.int .i64 ({ g with pc := (movedG g).pc }).a, .int .i64 ({ g with pc := (movedG g).pc }).pc, .int .i64 ({ g with pc := (movedG g).pc }).t.1, .int .i64 ({ g with pc := (movedG g).pc }).t.2.1, .bool ({ g with pc := (movedG g).pc }).t.2.2, .int .i64 ({ g with pc := (movedG g).pc }).pd, .int .i64 ({ g with pc := (movedG g).pc }).x.1, .int .i64 ({ g with pc := (movedG g).pc }).x.2.1, .bool ({ g with pc := (movedG g).pc }).x.2.2.1, .int .i64 ({ g with pc := (movedG g).pc }).x.2.2.2, .bool ({ g with pc := (movedG g).pc }).hl, P0, P1, P2, P3] :: R) := by
 refine Sx.enterS (args := [.pointer (some ⟨b, 0, none⟩)]) S Tryz.func227 rfl Tryz.ntmps227 rfl ?_
 refine Sx.C.region ?_
 refine Sx.G.p (.pointer (some ⟨b, 0, none⟩)) ?_
 refine Sx.G.p (.pointer (some ⟨b, 0, none⟩)) ?_
 refine Sx.G.p (.pointer (some ⟨b, 0, none⟩)) ?_
 refine Sx.G.p (.pointer (some ⟨b, 1, none⟩)) ?_
 refine Sx.G.g (.int .i64 g.pc) .m0 .m1 ?_
 refine Sx.G.p (.int .i64 (if 11 < g.pc then 11 else g.pc)) ?_
 refine Sx.G.p (.int .i64 (IntKind.i64.wrap ((if 11 < g.pc then 11 else g.pc) + 1))) ?_
 refine Sx.G.p (.pointer (some ⟨b, 0, none⟩)) ?_
 refine Sx.G.p (.pointer (some ⟨b, 1, none⟩)) ?_
 refine Sx.G.s (.int .i64 (IntKind.i64.wrap ((if 11 < g.pc then 11 else g.pc) + 1))) .a0 .a1 ?_
 refine Sx.G.nil (Sx.E.end_ ?_)
 refine Sx.E.ret0 rfl (fun w S => ?_)
 rw [min_pc] at S
 exact ⟨rfl, S⟩
theorem eff_stay {w0 w : World} {b : Nat} {R : List Res} {A0 : Option Addr} {c0 l0 h0 : Nat} {F0 : List Nat} {A1 : Option Addr} {c1 l1 h1 : Nat} {F1 : List Nat} {A2 : Option Addr} {c2 l2 h2 : Nat} {F2 : List Nat} {A3 : Option Addr} {c3 l3 h3 : Nat} {F3 : List Nat} (g : gT) (n : Int) (S : St w0 w (vr b [.int .i64 g.a, .int .i64 g.pc, .int .i64 g.t.1, .int .i64 g.t.2.1, .bool g.t.2.2, .int .i64 g.pd, .int .i64 g.x.1, .int .i64 g.x.2.1, .bool g.x.2.2.1, .int .i64 g.x.2.2.2, .bool g.hl, .slice A0 g.prog.length c0, .slice A1 g.wr.length c1, .slice A2 g.lv.length c2, .slice A3 g.seen.length c3] :: ow (rLst 48 (rPair rInt rInt)) l0 h0 g.prog [.slice A0 g.prog.length c0] F0 :: ow (rLst 58 (rPair rInt rInt)) l1 h1 g.wr [.slice A1 g.wr.length c1] F1 :: ow (rLst 58 (rPair rInt rInt)) l2 h2 g.lv [.slice A2 g.lv.length c2] F2 :: ow (rLst 3 rInt) l3 h3 g.seen [.slice A3 g.seen.length c3] F3 :: R)) : Calls Tryz.prog 169 #[.pointer (some ⟨b, 0, none⟩), .int .i64 n] w (fun e w' => e = .returned (.tuple #[]) ∧ ∃ (A0 : Option Addr) (c0 l0 h0 : Nat) (F0 : List Nat) (A1 : Option Addr) (c1 l1 h1 : Nat) (F1 : List Nat) (A2 : Option Addr) (c2 l2 h2 : Nat) (F2 : List Nat) (A3 : Option Addr) (c3 l3 h3 : Nat) (F3 : List Nat), St w0 w' (vr b [.int .i64 g.a, .int .i64 g.pc, .int .i64 g.t.1, .int .i64 g.t.2.1, .bool g.t.2.2, .int .i64 g.pd, .int .i64 g.x.1, .int .i64 g.x.2.1, .bool g.x.2.2.1, .int .i64 g.x.2.2.2, .bool g.hl, .slice A0 g.prog.length c0, .slice A1 g.wr.length c1, .slice A2 g.lv.length c2, .slice A3 g.seen.length c3] :: ow (rLst 48 (rPair rInt rInt)) l0 h0 g.prog [.slice A0 g.prog.length c0] F0 :: ow (rLst 58 (rPair rInt rInt)) l1 h1 g.wr [.slice A1 g.wr.length c1] F1 :: ow (rLst 58 (rPair rInt rInt)) l2 h2 g.lv [.slice A2 g.lv.length c2] F2 :: ow (rLst 3 rInt) l3 h3 g.seen [.slice A3 g.seen.length c3] F3 :: R)) := by
 refine Sx.enterS (args := [.pointer (some ⟨b, 0, none⟩), .int .i64 n]) S Tryz.func169 rfl Tryz.ntmps169 rfl ?_
 refine Sx.C.skip (Sx.E.end_ ?_)
 refine Sx.E.ret0 rfl (fun w S => ?_)
 exact ⟨rfl, _, _, _, _, _, _, _, _, _, _, _, _, _, _, _, _, _, _, _, _, S⟩
theorem eff_moveOn {w0 w : World} {b : Nat} {R : List Res} {A0 : Option Addr} {c0 l0 h0 : Nat} {F0 : List Nat} {A1 : Option Addr} {c1 l1 h1 : Nat} {F1 : List Nat} {A2 : Option Addr} {c2 l2 h2 : Nat} {F2 : List Nat} {A3 : Option Addr} {c3 l3 h3 : Nat} {F3 : List Nat} (g : gT) (n : Int) (S : St w0 w (vr b [.int .i64 g.a, .int .i64 g.pc, .int .i64 g.t.1, .int .i64 g.t.2.1, .bool g.t.2.2, .int .i64 g.pd, .int .i64 g.x.1, .int .i64 g.x.2.1, .bool g.x.2.2.1, .int .i64 g.x.2.2.2, .bool g.hl, .slice A0 g.prog.length c0, .slice A1 g.wr.length c1, .slice A2 g.lv.length c2, .slice A3 g.seen.length c3] :: ow (rLst 48 (rPair rInt rInt)) l0 h0 g.prog [.slice A0 g.prog.length c0] F0 :: ow (rLst 58 (rPair rInt rInt)) l1 h1 g.wr [.slice A1 g.wr.length c1] F1 :: ow (rLst 58 (rPair rInt rInt)) l2 h2 g.lv [.slice A2 g.lv.length c2] F2 :: ow (rLst 3 rInt) l3 h3 g.seen [.slice A3 g.seen.length c3] F3 :: R)) : Calls Tryz.prog 207 #[.pointer (some ⟨b, 0, none⟩), .int .i64 n] w (fun e w' => e = .returned (.tuple #[]) ∧ ∃ (A0 : Option Addr) (c0 l0 h0 : Nat) (F0 : List Nat) (A1 : Option Addr) (c1 l1 h1 : Nat) (F1 : List Nat) (A2 : Option Addr) (c2 l2 h2 : Nat) (F2 : List Nat) (A3 : Option Addr) (c3 l3 h3 : Nat) (F3 : List Nat), St w0 w' (vr b [.int .i64 (movedG g).a, .int .i64 (movedG g).pc, .int .i64 (movedG g).t.1, .int .i64 (movedG g).t.2.1, .bool (movedG g).t.2.2, .int .i64 (movedG g).pd, .int .i64 (movedG g).x.1, .int .i64 (movedG g).x.2.1, .bool (movedG g).x.2.2.1, .int .i64 (movedG g).x.2.2.2, .bool (movedG g).hl, .slice A0 (movedG g).prog.length c0, .slice A1 (movedG g).wr.length c1, .slice A2 (movedG g).lv.length c2, .slice A3 (movedG g).seen.length c3] :: ow (rLst 48 (rPair rInt rInt)) l0 h0 (movedG g).prog [.slice A0 (movedG g).prog.length c0] F0 :: ow (rLst 58 (rPair rInt rInt)) l1 h1 (movedG g).wr [.slice A1 (movedG g).wr.length c1] F1 :: ow (rLst 58 (rPair rInt rInt)) l2 h2 (movedG g).lv [.slice A2 (movedG g).lv.length c2] F2 :: ow (rLst 3 rInt) l3 h3 (movedG g).seen [.slice A3 (movedG g).seen.length c3] F3 :: R)) := by
 refine Sx.enterS (args := [.pointer (some ⟨b, 0, none⟩), .int .i64 n]) S Tryz.func207 rfl Tryz.ntmps207 rfl ?_
 refine Sx.C.region ?_
 refine Sx.G.p (.pointer (some ⟨b, 0, none⟩)) ?_
 refine Sx.G.p (.pointer (some ⟨b, 0, none⟩)) ?_
 refine Sx.G.p (.pointer (some ⟨b, 0, none⟩)) ?_
 refine Sx.G.c 227 #[.pointer (some ⟨b, 0, none⟩)] (fun w21 S => (impl_moveM g S).mono fun e w21' hp => ?_)
 obtain ⟨rfl, S'⟩ := hp
 refine ⟨_, _, rfl, S', ?_⟩
 clear S S'
 refine Sx.G.nil (Sx.E.end_ ?_)
 refine Sx.E.ret0 rfl (fun w S => ?_)
 exact ⟨rfl, _, _, _, _, _, _, _, _, _, _, _, _, _, _, _, _, _, _, _, _, S⟩
theorem eff_setA {w0 w : World} {b : Nat} {R : List Res} {A0 : Option Addr} {c0 l0 h0 : Nat} {F0 : List Nat} {A1 : Option Addr} {c1 l1 h1 : Nat} {F1 : List Nat} {A2 : Option Addr} {c2 l2 h2 : Nat} {F2 : List Nat} {A3 : Option Addr} {c3 l3 h3 : Nat} {F3 : List Nat} (g : gT) (n : Int) (S : St w0 w (vr b [.int .i64 g.a, .int .i64 g.pc, .int .i64 g.t.1, .int .i64 g.t.2.1, .bool g.t.2.2, .int .i64 g.pd, .int .i64 g.x.1, .int .i64 g.x.2.1, .bool g.x.2.2.1, .int .i64 g.x.2.2.2, .bool g.hl, .slice A0 g.prog.length c0, .slice A1 g.wr.length c1, .slice A2 g.lv.length c2, .slice A3 g.seen.length c3] :: ow (rLst 48 (rPair rInt rInt)) l0 h0 g.prog [.slice A0 g.prog.length c0] F0 :: ow (rLst 58 (rPair rInt rInt)) l1 h1 g.wr [.slice A1 g.wr.length c1] F1 :: ow (rLst 58 (rPair rInt rInt)) l2 h2 g.lv [.slice A2 g.lv.length c2] F2 :: ow (rLst 3 rInt) l3 h3 g.seen [.slice A3 g.seen.length c3] F3 :: R)) : Calls Tryz.prog 210 #[.pointer (some ⟨b, 0, none⟩), .int .i64 n] w (fun e w' => e = .returned (.tuple #[]) ∧ ∃ (A0 : Option Addr) (c0 l0 h0 : Nat) (F0 : List Nat) (A1 : Option Addr) (c1 l1 h1 : Nat) (F1 : List Nat) (A2 : Option Addr) (c2 l2 h2 : Nat) (F2 : List Nat) (A3 : Option Addr) (c3 l3 h3 : Nat) (F3 : List Nat), St w0 w' (vr b [.int .i64 (movedG { g with a := n }).a, .int .i64 (movedG { g with a := n }).pc, .int .i64 (movedG { g with a := n }).t.1, .int .i64 (movedG { g with a := n }).t.2.1, .bool (movedG { g with a := n }).t.2.2, .int .i64 (movedG { g with a := n }).pd, .int .i64 (movedG { g with a := n }).x.1, .int .i64 (movedG { g with a := n }).x.2.1, .bool (movedG { g with a := n }).x.2.2.1, .int .i64 (movedG { g with a := n }).x.2.2.2, .bool (movedG { g with a := n }).hl, .slice A0 (movedG { g with a := n }).prog.length c0, .slice A1 (movedG { g with a := n }).wr.length c1, .slice A2 (movedG { g with a := n }).lv.length c2, .slice A3 (movedG { g with a := n }).seen.length c3] :: ow (rLst 48 (rPair rInt rInt)) l0 h0 (movedG { g with a := n }).prog [.slice A0 (movedG { g with a := n }).prog.length c0] F0 :: ow (rLst 58 (rPair rInt rInt)) l1 h1 (movedG { g with a := n }).wr [.slice A1 (movedG { g with a := n }).wr.length c1] F1 :: ow (rLst 58 (rPair rInt rInt)) l2 h2 (movedG { g with a := n }).lv [.slice A2 (movedG { g with a := n }).lv.length c2] F2 :: ow (rLst 3 rInt) l3 h3 (movedG { g with a := n }).seen [.slice A3 (movedG { g with a := n }).seen.length c3] F3 :: R)) := by
 refine Sx.enterS (args := [.pointer (some ⟨b, 0, none⟩), .int .i64 n]) S Tryz.func210 rfl Tryz.ntmps210 rfl ?_
 refine Sx.C.seq (Sx.C.region ?_)
 refine Sx.G.p (.pointer (some ⟨b, 0, none⟩)) ?_
 refine Sx.G.p (.int .i64 n) ?_
 refine Sx.G.p (.pointer (some ⟨b, 0, none⟩)) ?_
 refine Sx.G.p (.pointer (some ⟨b, 0, none⟩)) ?_
 refine Sx.G.p (.pointer (some ⟨b, 0, none⟩)) ?_
 refine Sx.G.s (.int .i64 n) .a0 .a0 ?_
 refine Sx.G.nil (Sx.E.next (Sx.C.region ?_))
 refine Sx.G.p (.pointer (some ⟨b, 0, none⟩)) ?_
 refine Sx.G.p (.pointer (some ⟨b, 0, none⟩)) ?_
 refine Sx.G.p (.pointer (some ⟨b, 0, none⟩)) ?_
 refine Sx.G.c 227 #[.pointer (some ⟨b, 0, none⟩)] (fun w21 S => (impl_moveM ({ g with a := n }) S).mono fun e w21' hp => ?_)
 obtain ⟨rfl, S'⟩ := hp
 refine ⟨_, _, rfl, S', ?_⟩
 clear S S'
 refine Sx.G.nil (Sx.E.end_ ?_)
 refine Sx.E.ret0 rfl (fun w S => ?_)
 exact ⟨rfl, _, _, _, _, _, _, _, _, _, _, _, _, _, _, _, _, _, _, _, _, S⟩
theorem eff_addToA {w0 w : World} {b : Nat} {R : List Res} {A0 : Option Addr} {c0 l0 h0 : Nat} {F0 : List Nat} {A1 : Option Addr} {c1 l1 h1 : Nat} {F1 : List Nat} {A2 : Option Addr} {c2 l2 h2 : Nat} {F2 : List Nat} {A3 : Option Addr} {c3 l3 h3 : Nat} {F3 : List Nat} (g : gT) (n : Int) (S : St w0 w (vr b [.int .i64 g.a, .int .i64 g.pc, .int .i64 g.t.1, .int .i64 g.t.2.1, .bool g.t.2.2, .int .i64 g.pd, .int .i64 g.x.1, .int .i64 g.x.2.1, .bool g.x.2.2.1, .int .i64 g.x.2.2.2, .bool g.hl, .slice A0 g.prog.length c0, .slice A1 g.wr.length c1, .slice A2 g.lv.length c2, .slice A3 g.seen.length c3] :: ow (rLst 48 (rPair rInt rInt)) l0 h0 g.prog [.slice A0 g.prog.length c0] F0 :: ow (rLst 58 (rPair rInt rInt)) l1 h1 g.wr [.slice A1 g.wr.length c1] F1 :: ow (rLst 58 (rPair rInt rInt)) l2 h2 g.lv [.slice A2 g.lv.length c2] F2 :: ow (rLst 3 rInt) l3 h3 g.seen [.slice A3 g.seen.length c3] F3 :: R)) : Calls Tryz.prog 211 #[.pointer (some ⟨b, 0, none⟩), .int .i64 n] w (fun e w' => e = .returned (.tuple #[]) ∧ ∃ (A0 : Option Addr) (c0 l0 h0 : Nat) (F0 : List Nat) (A1 : Option Addr) (c1 l1 h1 : Nat) (F1 : List Nat) (A2 : Option Addr) (c2 l2 h2 : Nat) (F2 : List Nat) (A3 : Option Addr) (c3 l3 h3 : Nat) (F3 : List Nat), St w0 w' (vr b [.int .i64 (movedG { g with a := (IntKind.i64.wrap (g.a + n)).tmod 100 }).a, .int .i64 (movedG { g with a := (IntKind.i64.wrap (g.a + n)).tmod 100 }).pc, .int .i64 (movedG { g with a := (IntKind.i64.wrap (g.a + n)).tmod 100 }).t.1, .int .i64 (movedG { g with a := (IntKind.i64.wrap (g.a + n)).tmod 100 }).t.2.1, .bool (movedG { g with a := (IntKind.i64.wrap (g.a + n)).tmod 100 }).t.2.2, .int .i64 (movedG { g with a := (IntKind.i64.wrap (g.a + n)).tmod 100 }).pd, .int .i64 (movedG { g with a := (IntKind.i64.wrap (g.a + n)).tmod 100 }).x.1, .int .i64 (movedG { g with a := (IntKind.i64.wrap (g.a + n)).tmod 100 }).x.2.1, .bool (movedG { g with a := (IntKind.i64.wrap (g.a + n)).tmod 100 }).x.2.2.1, .int .i64 (movedG { g with a := (IntKind.i64.wrap (g.a + n)).tmod 100 }).x.2.2.2, .bool (movedG { g with a := (IntKind.i64.wrap (g.a + n)).tmod 100 }).hl, .slice A0 (movedG { g with a := (IntKind.i64.wrap (g.a + n)).tmod 100 }).prog.length c0, .slice A1 (movedG { g with a := (IntKind.i64.wrap (g.a + n)).tmod 100 }).wr.length c1, .slice A2 (movedG { g with a := (IntKind.i64.wrap (g.a + n)).tmod 100 }).lv.length c2, .slice A3 (movedG { g with a := (IntKind.i64.wrap (g.a + n)).tmod 100 }).seen.length c3] :: ow (rLst 48 (rPair rInt rInt)) l0 h0 (movedG { g with a := (IntKind.i64.wrap (g.a + n)).tmod 100 }).prog [.slice A0 (movedG { g with a := (IntKind.i64.wrap (g.a + n)).tmod 100 }).prog.length c0] F0 :: ow (rLst 58 (rPair rInt rInt)) l1 h1 (movedG { g with a := (IntKind.i64.wrap (g.a + n)).tmod 100 }).wr [.slice A1 (movedG { g with a := (IntKind.i64.wrap (g.a + n)).tmod 100 }).wr.length c1] F1 :: ow (rLst 58 (rPair rInt rInt)) l2 h2 (movedG { g with a := (IntKind.i64.wrap (g.a + n)).tmod 100 }).lv [.slice A2 (movedG { g with a := (IntKind.i64.wrap (g.a + n)).tmod 100 }).lv.length c2] F2 :: ow (rLst 3 rInt) l3 h3 (movedG { g with a := (IntKind.i64.wrap (g.a + n)).tmod 100 }).seen [.slice A3 (movedG { g with a := (IntKind.i64.wrap (g.a + n)).tmod 100 }).seen.length c3] F3 :: R)) := by
 refine Sx.enterS (args := [.pointer (some ⟨b, 0, none⟩), .int .i64 n]) S Tryz.func211 rfl Tryz.ntmps211 rfl ?_
 refine Sx.C.seq (Sx.C.region ?_)
 refine Sx.G.p (.pointer (some ⟨b, 0, none⟩)) ?_
 refine Sx.G.p (.pointer (some ⟨b, 0, none⟩)) ?_
 refine Sx.G.p (.pointer (some ⟨b, 0, none⟩)) ?_
 refine Sx.G.p (.pointer (some ⟨b, 0, none⟩)) ?_
 refine Sx.G.p (.pointer (some ⟨b, 0, none⟩)) ?_
 refine Sx.G.g (.int .i64 g.a) .m0 .m0 ?_
 refine Sx.G.p (.int .i64 n) ?_
 refine Sx.G.p (.int .i64 (IntKind.i64.wrap (g.a + n))) ?_
 refine Sx.G.p (.int .i64 ((IntKind.i64.wrap (g.a + n)).tmod 100)) ?_
 refine Sx.G.p (.pointer (some ⟨b, 0, none⟩)) ?_
 refine Sx.G.p (.pointer (some ⟨b, 0, none⟩)) ?_
 refine Sx.G.p (.pointer (some ⟨b, 0, none⟩)) ?_
 refine Sx.G.s (.int .i64 ((IntKind.i64.wrap (g.a + n)).tmod 100)) .a0 .a0 ?_
 refine Sx.G.nil (Sx.E.next (Sx.C.region ?_))
 refine Sx.G.p (.pointer (some ⟨b, 0, none⟩)) ?_
 refine Sx.G.p (.pointer (some ⟨b, 0, none⟩)) ?_
 refine Sx.G.p (.pointer (some ⟨b, 0, none⟩)) ?_
 refine Sx.G.c 227 #[.pointer (some ⟨b, 0, none⟩)] (fun w21 S => (impl_moveM ({ g with a := ((IntKind.i64.wrap (g.a + n)).tmod 100) }) S).mono fun e w21' hp => ?_)
 obtain ⟨rfl, S'⟩ := hp
 refine ⟨_, _, rfl, S', ?_⟩
 clear S S'
 refine Sx.G.nil (Sx.E.end_ ?_)
 refine Sx.E.ret0 rfl (fun w S => ?_)
 exact ⟨rfl, _, _, _, _, _, _, _, _, _, _, _, _, _, _, _, _, _, _, _, _, S⟩
theorem eff_jumpAtZero {w0 w : World} {b : Nat} {R : List Res} {A0 : Option Addr} {c0 l0 h0 : Nat} {F0 : List Nat} {A1 : Option Addr} {c1 l1 h1 : Nat} {F1 : List Nat} {A2 : Option Addr} {c2 l2 h2 : Nat} {F2 : List Nat} {A3 : Option Addr} {c3 l3 h3 : Nat} {F3 : List Nat} (g : gT) (n : Int) (S : St w0 w (vr b [.int .i64 g.a, .int .i64 g.pc, .int .i64 g.t.1, .int .i64 g.t.2.1, .bool g.t.2.2, .int .i64 g.pd, .int .i64 g.x.1, .int .i64 g.x.2.1, .bool g.x.2.2.1, .int .i64 g.x.2.2.2, .bool g.hl, .slice A0 g.prog.length c0, .slice A1 g.wr.length c1, .slice A2 g.lv.length c2, .slice A3 g.seen.length c3] :: ow (rLst 48 (rPair rInt rInt)) l0 h0 g.prog [.slice A0 g.prog.length c0] F0 :: ow (rLst 58 (rPair rInt rInt)) l1 h1 g.wr [.slice A1 g.wr.length c1] F1 :: ow (rLst 58 (rPair rInt rInt)) l2 h2 g.lv [.slice A2 g.lv.length c2] F2 :: ow (rLst 3 rInt) l3 h3 g.seen [.slice A3 g.seen.length c3] F3 :: R)) : Calls Tryz.prog 212 #[.pointer (some ⟨b, 0, none⟩), .int .i64 n] w (fun e w' => e = .returned (.tuple #[]) ∧ ∃ (A0 : Option Addr) (c0 l0 h0 : Nat) (F0 : List Nat) (A1 : Option Addr) (c1 l1 h1 : Nat) (F1 : List Nat) (A2 : Option Addr) (c2 l2 h2 : Nat) (F2 : List Nat) (A3 : Option Addr) (c3 l3 h3 : Nat) (F3 : List Nat), St w0 w' (vr b [.int .i64 (jumpG g n).a, .int .i64 (jumpG g n).pc, .int .i64 (jumpG g n).t.1, .int .i64 (jumpG g n).t.2.1, .bool (jumpG g n).t.2.2, .int .i64 (jumpG g n).pd, .int .i64 (jumpG g n).x.1, .int .i64 (jumpG g n).x.2.1, .bool (jumpG g n).x.2.2.1, .int .i64 (jumpG g n).x.2.2.2, .bool (jumpG g n).hl, .slice A0 (jumpG g n).prog.length c0, .slice A1 (jumpG g n).wr.length c1, .slice A2 (jumpG g n).lv.length c2, .slice A3 (jumpG g n).seen.length c3] :: ow (rLst 48 (rPair rInt rInt)) l0 h0 (jumpG g n).prog [.slice A0 (jumpG g n).prog.length c0] F0 :: ow (rLst 58 (rPair rInt rInt)) l1 h1 (jumpG g n).wr [.slice A1 (jumpG g n).wr.length c1] F1 :: ow (rLst 58 (rPair rInt rInt)) l2 h2 (jumpG g n).lv [.slice A2 (jumpG g n).lv.length c2] F2 :: ow (rLst 3 rInt) l3 h3 (jumpG g n).seen [.slice A3 (jumpG g n).seen.length c3] F3 :: R)) := by
 refine Sx.enterS (args := [.pointer (some ⟨b, 0, none⟩), .int .i64 n]) S Tryz.func212 rfl Tryz.ntmps212 rfl ?_
 refine Sx.C.seq (Sx.C.seq (Sx.C.region ?_))
 refine Sx.G.p (.pointer (some ⟨b, 0, none⟩)) ?_
 refine Sx.G.p (.pointer (some ⟨b, 0, none⟩)) ?_
 refine Sx.G.p (.pointer (some ⟨b, 0, none⟩)) ?_
 refine Sx.G.p (.pointer (some ⟨b, 0, none⟩)) ?_
 refine Sx.G.g (.int .i64 g.a) .m0 .m0 ?_
 refine Sx.G.p (.bool (g.a != 0)) ?_
 refine Sx.G.nil (Sx.E.next ?_)
 cases hc21 : (g.a != 0)
 ·
  have hb21 := hc21
  refine Sx.C.nn ?_
  refine Sx.C.skip (Sx.E.next (Sx.C.region ?_))
  refine Sx.G.p (.pointer (some ⟨b, 0, none⟩)) ?_
  refine Sx.G.p (.int .i64 n) ?_
  refine Sx.G.p (.pointer (some ⟨b, 0, none⟩)) ?_
  refine Sx.G.p (.pointer (some ⟨b, 0, none⟩)) ?_
  refine Sx.G.p (.pointer (some ⟨b, 1, none⟩)) ?_
  refine Sx.G.s (.int .i64 n) .a0 .a1 ?_
  refine Sx.G.nil (Sx.E.end_ ?_)
  refine Sx.E.ret0 rfl (fun w S => ?_)
  have hz : (g.a == 0) = true := by have h2 := hb21; revert h2; unfold bne; cases (g.a == 0) <;> simp
  have HW : jumpG g n = { g with pc := n } := by unfold jumpG; rw [hz]; rfl
  rw [HW]
  exact ⟨rfl, _, _, _, _, _, _, _, _, _, _, _, _, _, _, _, _, _, _, _, _, S⟩
 ·
  have hb21 := hc21
  refine Sx.C.yy ?_
  refine Sx.C.seq (Sx.C.region ?_)
  refine Sx.G.p (.pointer (some ⟨b, 0, none⟩)) ?_
  refine Sx.G.p (.pointer (some ⟨b, 0, none⟩)) ?_
  refine Sx.G.p (.pointer (some ⟨b, 0, none⟩)) ?_
  refine Sx.G.c 227 #[.pointer (some ⟨b, 0, none⟩)] (fun w22 S => (impl_moveM g S).mono fun e w22' hp => ?_)
  obtain ⟨rfl, S'⟩ := hp
  refine ⟨_, _, rfl, S', ?_⟩
  clear S S'
  refine Sx.G.nil (Sx.E.next (Sx.C.ret (Sx.E.then_ret ?_)))
  refine Sx.E.ret0 rfl (fun w S => ?_)
  have hz : (g.a == 0) = false := by have h2 := hb21; revert h2; unfold bne; cases (g.a == 0) <;> simp
  have HW : jumpG g n = { g with pc := (movedG g).pc } := by unfold jumpG; rw [hz]; rfl
  rw [HW]
  exact ⟨rfl, _, _, _, _, _, _, _, _, _, _, _, _, _, _, _, _, _, _, _, _, S⟩
theorem eff_loadIntoA {w0 w : World} {b : Nat} {R : List Res} {A0 : Option Addr} {c0 l0 h0 : Nat} {F0 : List Nat} {A1 : Option Addr} {c1 l1 h1 : Nat} {F1 : List Nat} {A2 : Option Addr} {c2 l2 h2 : Nat} {F2 : List Nat} {A3 : Option Addr} {c3 l3 h3 : Nat} {F3 : List Nat} (g : gT) (n : Int) (hs : g.seen.length ≤ 1048576) (S : St w0 w (vr b [.int .i64 g.a, .int .i64 g.pc, .int .i64 g.t.1, .int .i64 g.t.2.1, .bool g.t.2.2, .int .i64 g.pd, .int .i64 g.x.1, .int .i64 g.x.2.1, .bool g.x.2.2.1, .int .i64 g.x.2.2.2, .bool g.hl, .slice A0 g.prog.length c0, .slice A1 g.wr.length c1, .slice A2 g.lv.length c2, .slice A3 g.seen.length c3] :: ow (rLst 48 (rPair rInt rInt)) l0 h0 g.prog [.slice A0 g.prog.length c0] F0 :: ow (rLst 58 (rPair rInt rInt)) l1 h1 g.wr [.slice A1 g.wr.length c1] F1 :: ow (rLst 58 (rPair rInt rInt)) l2 h2 g.lv [.slice A2 g.lv.length c2] F2 :: ow (rLst 3 rInt) l3 h3 g.seen [.slice A3 g.seen.length c3] F3 :: R)) : Calls Tryz.prog 206 #[.pointer (some ⟨b, 0, none⟩), .int .i64 n] w (fun e w' => e = .returned (.tuple #[]) ∧ ∃ (A0 : Option Addr) (c0 l0 h0 : Nat) (F0 : List Nat) (A1 : Option Addr) (c1 l1 h1 : Nat) (F1 : List Nat) (A2 : Option Addr) (c2 l2 h2 : Nat) (F2 : List Nat) (A3 : Option Addr) (c3 l3 h3 : Nat) (F3 : List Nat), St w0 w' (vr b [.int .i64 (loadedG g n).a, .int .i64 (loadedG g n).pc, .int .i64 (loadedG g n).t.1, .int .i64 (loadedG g n).t.2.1, .bool (loadedG g n).t.2.2, .int .i64 (loadedG g n).pd, .int .i64 (loadedG g n).x.1, .int .i64 (loadedG g n).x.2.1, .bool (loadedG g n).x.2.2.1, .int .i64 (loadedG g n).x.2.2.2, .bool (loadedG g n).hl, .slice A0 (loadedG g n).prog.length c0, .slice A1 (loadedG g n).wr.length c1, .slice A2 (loadedG g n).lv.length c2, .slice A3 (loadedG g n).seen.length c3] :: ow (rLst 48 (rPair rInt rInt)) l0 h0 (loadedG g n).prog [.slice A0 (loadedG g n).prog.length c0] F0 :: ow (rLst 58 (rPair rInt rInt)) l1 h1 (loadedG g n).wr [.slice A1 (loadedG g n).wr.length c1] F1 :: ow (rLst 58 (rPair rInt rInt)) l2 h2 (loadedG g n).lv [.slice A2 (loadedG g n).lv.length c2] F2 :: ow (rLst 3 rInt) l3 h3 (loadedG g n).seen [.slice A3 (loadedG g n).seen.length c3] F3 :: R)) := by
 refine Sx.enterS (args := [.pointer (some ⟨b, 0, none⟩), .int .i64 n]) S Tryz.func206 rfl Tryz.ntmps206 rfl ?_
 refine Sx.C.seq (Sx.C.region ?_)
 refine Sx.G.p (.pointer (some ⟨b, 0, none⟩)) ?_
 refine Sx.G.p (.int .i64 n) ?_
 refine Sx.G.p (.pointer (some ⟨b, 0, none⟩)) ?_
 refine Sx.G.p (.pointer (some ⟨b, 0, none⟩)) ?_
 refine Sx.G.p (.pointer (some ⟨b, 0, none⟩)) ?_
 refine Sx.G.s (.int .i64 n) .a0 .a0 ?_
 refine Sx.G.nil (Sx.E.next (Sx.C.seq (Sx.C.region ?_)))
 refine Sx.G.p (.pointer (some ⟨b, 0, none⟩)) ?_
 refine Sx.G.p (.int .i64 n) ?_
 refine Sx.G.c 204 #[.pointer (some ⟨b, 0, none⟩), .int .i64 n] (fun w21 S => (impl_sawM ({ g with a := n }) n (by omega) S).mono fun e w21' hp => ?_)
 obtain ⟨rfl, A21_0, c21_0, l21_0, h21_0, F21_0, A21_1, c21_1, l21_1, h21_1, F21_1, A21_2, c21_2, l21_2, h21_2, F21_2, A21_3, c21_3, l21_3, h21_3, F21_3, S'⟩ := hp
 refine ⟨_, _, rfl, S', ?_⟩
 clear S S'
 refine Sx.G.nil (Sx.E.next (Sx.C.region ?_))
 refine Sx.G.p (.pointer (some ⟨b, 0, none⟩)) ?_
 refine Sx.G.p (.pointer (some ⟨b, 0, none⟩)) ?_
 refine Sx.G.p (.pointer (some ⟨b, 0, none⟩)) ?_
 refine Sx.G.c 227 #[.pointer (some ⟨b, 0, none⟩)] (fun w22 S => (impl_moveM (sawG ({ g with a := n }) n) S).mono fun e w22' hp => ?_)
 obtain ⟨rfl, S'⟩ := hp
 refine ⟨_, _, rfl, S', ?_⟩
 clear S S'
 refine Sx.G.nil (Sx.E.end_ ?_)
 refine Sx.E.ret0 rfl (fun w S => ?_)
 exact ⟨rfl, _, _, _, _, _, _, _, _, _, _, _, _, _, _, _, _, _, _, _, _, S⟩
theorem eff_hold {w0 w : World} {b : Nat} {R : List Res} {A0 : Option Addr} {c0 l0 h0 : Nat} {F0 : List Nat} {A1 : Option Addr} {c1 l1 h1 : Nat} {F1 : List Nat} {A2 : Option Addr} {c2 l2 h2 : Nat} {F2 : List Nat} {A3 : Option Addr} {c3 l3 h3 : Nat} {F3 : List Nat} (g : gT) (n : Int) (S : St w0 w (vr b [.int .i64 g.a, .int .i64 g.pc, .int .i64 g.t.1, .int .i64 g.t.2.1, .bool g.t.2.2, .int .i64 g.pd, .int .i64 g.x.1, .int .i64 g.x.2.1, .bool g.x.2.2.1, .int .i64 g.x.2.2.2, .bool g.hl, .slice A0 g.prog.length c0, .slice A1 g.wr.length c1, .slice A2 g.lv.length c2, .slice A3 g.seen.length c3] :: ow (rLst 48 (rPair rInt rInt)) l0 h0 g.prog [.slice A0 g.prog.length c0] F0 :: ow (rLst 58 (rPair rInt rInt)) l1 h1 g.wr [.slice A1 g.wr.length c1] F1 :: ow (rLst 58 (rPair rInt rInt)) l2 h2 g.lv [.slice A2 g.lv.length c2] F2 :: ow (rLst 3 rInt) l3 h3 g.seen [.slice A3 g.seen.length c3] F3 :: R)) : Calls Tryz.prog 208 #[.pointer (some ⟨b, 0, none⟩), .int .i64 n] w (fun e w' => e = .returned (.tuple #[]) ∧ ∃ (A0 : Option Addr) (c0 l0 h0 : Nat) (F0 : List Nat) (A1 : Option Addr) (c1 l1 h1 : Nat) (F1 : List Nat) (A2 : Option Addr) (c2 l2 h2 : Nat) (F2 : List Nat) (A3 : Option Addr) (c3 l3 h3 : Nat) (F3 : List Nat), St w0 w' (vr b [.int .i64 (heldG g).a, .int .i64 (heldG g).pc, .int .i64 (heldG g).t.1, .int .i64 (heldG g).t.2.1, .bool (heldG g).t.2.2, .int .i64 (heldG g).pd, .int .i64 (heldG g).x.1, .int .i64 (heldG g).x.2.1, .bool (heldG g).x.2.2.1, .int .i64 (heldG g).x.2.2.2, .bool (heldG g).hl, .slice A0 (heldG g).prog.length c0, .slice A1 (heldG g).wr.length c1, .slice A2 (heldG g).lv.length c2, .slice A3 (heldG g).seen.length c3] :: ow (rLst 48 (rPair rInt rInt)) l0 h0 (heldG g).prog [.slice A0 (heldG g).prog.length c0] F0 :: ow (rLst 58 (rPair rInt rInt)) l1 h1 (heldG g).wr [.slice A1 (heldG g).wr.length c1] F1 :: ow (rLst 58 (rPair rInt rInt)) l2 h2 (heldG g).lv [.slice A2 (heldG g).lv.length c2] F2 :: ow (rLst 3 rInt) l3 h3 (heldG g).seen [.slice A3 (heldG g).seen.length c3] F3 :: R)) := by
 refine Sx.enterS (args := [.pointer (some ⟨b, 0, none⟩), .int .i64 n]) S Tryz.func208 rfl Tryz.ntmps208 rfl ?_
 refine Sx.C.seq (Sx.C.region ?_)
 refine Sx.G.p (.pointer (some ⟨b, 0, none⟩)) ?_
 refine Sx.G.p (.pointer (some ⟨b, 0, none⟩)) ?_
 refine Sx.G.p (.pointer (some ⟨b, 0, none⟩)) ?_
 refine Sx.G.p (.pointer (some ⟨b, 10, none⟩)) ?_
 refine Sx.G.s (.bool true) .a0 .a10 ?_
 refine Sx.G.nil (Sx.E.next (Sx.C.region ?_))
 refine Sx.G.p (.pointer (some ⟨b, 0, none⟩)) ?_
 refine Sx.G.p (.pointer (some ⟨b, 0, none⟩)) ?_
 refine Sx.G.p (.pointer (some ⟨b, 0, none⟩)) ?_
 refine Sx.G.c 227 #[.pointer (some ⟨b, 0, none⟩)] (fun w21 S => (impl_moveM ({ g with hl := true }) S).mono fun e w21' hp => ?_)
 obtain ⟨rfl, S'⟩ := hp
 refine ⟨_, _, rfl, S', ?_⟩
 clear S S'
 refine Sx.G.nil (Sx.E.end_ ?_)
 refine Sx.E.ret0 rfl (fun w S => ?_)
 exact ⟨rfl, _, _, _, _, _, _, _, _, _, _, _, _, _, _, _, _, _, _, _, _, S⟩
theorem after_stay (g : gT) (cs : List Value) (n : Int) (w : World) (hc : rG.cap g) (h : rG.rd w 0 w.heap.size g cs) : Calls Tryz.prog 168 #[.agg cs.toArray, .func (.func 169) #[] #[], .int .i64 n] w (Gives rG w g) := by
 obtain ⟨q0, q1, q2, q3⟩ := rG_len hc
 have hr := h
 obtain ⟨P0, P1, P2, P3, rfl, h0, h1, h2, h3⟩ := rG_rd h
 obtain ⟨PA0, Pc0, e0, hP0⟩ := lst_val h0
 subst e0
 obtain ⟨PA1, Pc1, e1, hP1⟩ := lst_val h1
 subst e1
 obtain ⟨PA2, Pc2, e2, hP2⟩ := lst_val h2
 subst e2
 obtain ⟨PA3, Pc3, e3, hP3⟩ := lst_val h3
 subst e3
 refine Sx.enter (args := [.agg #[.slice PA0 g.prog.length Pc0, .int .i64 g.a, .int .i64 g.pc, .slice PA1 g.wr.length Pc1, .slice PA2 g.lv.length Pc2, .int .i64 g.t.1, .int .i64 g.t.2.1, .bool g.t.2.2, .int .i64 g.pd, .int .i64 g.x.1, .int .i64 g.x.2.1, .bool g.x.2.2.1, .int .i64 g.x.2.2.2, .bool g.hl, .slice PA3 g.seen.length Pc3], .func (.func 169) #[] #[], .int .i64 n]) Tryz.func168 rfl Tryz.ntmps168 rfl ?_
 refine Sx.C.seq (Sx.C.region ?_)
 refine Sx.G.b [.slice PA0 g.prog.length Pc0, .int .i64 g.a, .int .i64 g.pc, .slice PA1 g.wr.length Pc1, .slice PA2 g.lv.length Pc2, .int .i64 g.t.1, .int .i64 g.t.2.1, .bool g.t.2.2, .int .i64 g.pd, .int .i64 g.x.1, .int .i64 g.x.2.1, .bool g.x.2.2.1, .int .i64 g.x.2.2.2, .bool g.hl, .slice PA3 g.seen.length Pc3] (fun b1 => ?_)
 refine Sx.G.ar [.slice none 0 0, .int .i64 0, .int .i64 0, .slice none 0 0, .slice none 0 0, .int .i64 0, .int .i64 0, .bool false, .int .i64 0, .int .i64 0, .int .i64 0, .bool false, .int .i64 0, .bool false, .slice none 0 0] (fun b2 => ?_)
 refine Sx.G.nil (Sx.E.next (Sx.C.seq (Sx.C.region ?_)))
 refine Sx.G.lw .m1 ?_
 refine Sx.G.c 156 #[.agg #[.slice PA0 g.prog.length Pc0, .int .i64 g.a, .int .i64 g.pc, .slice PA1 g.wr.length Pc1, .slice PA2 g.lv.length Pc2, .int .i64 g.t.1, .int .i64 g.t.2.1, .bool g.t.2.2, .int .i64 g.pd, .int .i64 g.x.1, .int .i64 g.x.2.1, .bool g.x.2.2.1, .int .i64 g.x.2.2.2, .bool g.hl, .slice PA3 g.seen.length Pc3]] (fun w3 S => (impl_copyM g _ _ hc (St.old S hr)).mono fun e w3' hp => ?_)
 obtain ⟨b3, A3_0, c3_0, l3_0, h3_0, F3_0, A3_1, c3_1, l3_1, h3_1, F3_1, A3_2, c3_2, l3_2, h3_2, F3_2, A3_3, c3_3, l3_3, h3_3, F3_3, rfl, U⟩ := hp
 refine ⟨_, _, rfl, (Sx.St.join S U), ?_⟩
 clear S U
 refine Sx.G.p (.pointer (some ⟨b3, 0, none⟩)) ?_
 refine Sx.G.nil (Sx.E.next (Sx.C.seq (Sx.C.region ?_)))
 refine Sx.G.p (.func (.func 169) #[] #[]) ?_
 refine Sx.G.p (.pointer (some ⟨b3, 0, none⟩)) ?_
 refine Sx.G.p (.int .i64 n) ?_
 refine Sx.G.c 169 #[.pointer (some ⟨b3, 0, none⟩), .int .i64 n] (fun w4 S => (eff_stay g n S).mono fun e w4' hp => ?_)
 obtain ⟨rfl, A4_0, c4_0, l4_0, h4_0, F4_0, A4_1, c4_1, l4_1, h4_1, F4_1, A4_2, c4_2, l4_2, h4_2, F4_2, A4_3, c4_3, l4_3, h4_3, F4_3, S'⟩ := hp
 refine ⟨_, _, rfl, S', ?_⟩
 clear S S'
 refine Sx.G.nil (Sx.E.next (Sx.C.seq (Sx.C.region ?_)))
 refine Sx.G.p (.pointer (some ⟨b3, 0, none⟩)) ?_
 refine Sx.G.c 158 #[.pointer (some ⟨b3, 0, none⟩)] (fun w5 S => (impl_guestM g S).mono fun e w5' hp => ?_)
 obtain ⟨rfl, S'⟩ := hp
 refine ⟨_, _, rfl, S', ?_⟩
 clear S S'
 refine Sx.G.sw [.slice A4_0 g.prog.length c4_0, .int .i64 g.a, .int .i64 g.pc, .slice A4_1 g.wr.length c4_1, .slice A4_2 g.lv.length c4_2, .int .i64 g.t.1, .int .i64 g.t.2.1, .bool g.t.2.2, .int .i64 g.pd, .int .i64 g.x.1, .int .i64 g.x.2.1, .bool g.x.2.2.1, .int .i64 g.x.2.2.2, .bool g.hl, .slice A4_3 g.seen.length c4_3] .a5 ?_
 refine Sx.G.nil (Sx.E.next (Sx.C.ret ?_))
 refine Sx.E.retc b2 5 [.slice A4_0 g.prog.length c4_0, .int .i64 g.a, .int .i64 g.pc, .slice A4_1 g.wr.length c4_1, .slice A4_2 g.lv.length c4_2, .int .i64 g.t.1, .int .i64 g.t.2.1, .bool g.t.2.2, .int .i64 g.pd, .int .i64 g.x.1, .int .i64 g.x.2.1, .bool g.x.2.2.1, .int .i64 g.x.2.2.2, .bool g.hl, .slice A4_3 g.seen.length c4_3] rfl (by kernel_rfl) rfl (by kernel_rfl) (by kernel_rfl) (fun w S => ?_)
 obtain ⟨GW2, S⟩ := S.weak 2 rfl
 obtain ⟨GW3, S⟩ := S.weak 3 rfl
 obtain ⟨ho, hF⟩ := rG_shut (g := g) S 1 rfl 2 rfl 3 rfl 4 rfl (by decide) (by decide) (by decide) (by decide) (by decide) (by decide)
 exact ⟨_, _, rfl, ho, hF, S.below⟩
theorem after_moveOn (g : gT) (cs : List Value) (n : Int) (w : World) (hc : rG.cap g) (h : rG.rd w 0 w.heap.size g cs) : Calls Tryz.prog 168 #[.agg cs.toArray, .func (.func 207) #[] #[], .int .i64 n] w (Gives rG w (movedG g)) := by
 obtain ⟨q0, q1, q2, q3⟩ := rG_len hc
 have hr := h
 obtain ⟨P0, P1, P2, P3, rfl, h0, h1, h2, h3⟩ := rG_rd h
 obtain ⟨PA0, Pc0, e0, hP0⟩ := lst_val h0
 subst e0
 obtain ⟨PA1, Pc1, e1, hP1⟩ := lst_val h1
 subst e1
 obtain ⟨PA2, Pc2, e2, hP2⟩ := lst_val h2
 subst e2
 obtain ⟨PA3, Pc3, e3, hP3⟩ := lst_val h3
 subst e3
 refine Sx.enter (args := [.agg #[.slice PA0 g.prog.length Pc0, .int .i64 g.a, .int .i64 g.pc, .slice PA1 g.wr.length Pc1, .slice PA2 g.lv.length Pc2, .int .i64 g.t.1, .int .i64 g.t.2.1, .bool g.t.2.2, .int .i64 g.pd, .int .i64 g.x.1, .int .i64 g.x.2.1, .bool g.x.2.2.1, .int .i64 g.x.2.2.2, .bool g.hl, .slice PA3 g.seen.length Pc3], .func (.func 207) #[] #[], .int .i64 n]) Tryz.func168 rfl Tryz.ntmps168 rfl ?_
 refine Sx.C.seq (Sx.C.region ?_)
 refine Sx.G.b [.slice PA0 g.prog.length Pc0, .int .i64 g.a, .int .i64 g.pc, .slice PA1 g.wr.length Pc1, .slice PA2 g.lv.length Pc2, .int .i64 g.t.1, .int .i64 g.t.2.1, .bool g.t.2.2, .int .i64 g.pd, .int .i64 g.x.1, .int .i64 g.x.2.1, .bool g.x.2.2.1, .int .i64 g.x.2.2.2, .bool g.hl, .slice PA3 g.seen.length Pc3] (fun b1 => ?_)
 refine Sx.G.ar [.slice none 0 0, .int .i64 0, .int .i64 0, .slice none 0 0, .slice none 0 0, .int .i64 0, .int .i64 0, .bool false, .int .i64 0, .int .i64 0, .int .i64 0, .bool false, .int .i64 0, .bool false, .slice none 0 0] (fun b2 => ?_)
 refine Sx.G.nil (Sx.E.next (Sx.C.seq (Sx.C.region ?_)))
 refine Sx.G.lw .m1 ?_
 refine Sx.G.c 156 #[.agg #[.slice PA0 g.prog.length Pc0, .int .i64 g.a, .int .i64 g.pc, .slice PA1 g.wr.length Pc1, .slice PA2 g.lv.length Pc2, .int .i64 g.t.1, .int .i64 g.t.2.1, .bool g.t.2.2, .int .i64 g.pd, .int .i64 g.x.1, .int .i64 g.x.2.1, .bool g.x.2.2.1, .int .i64 g.x.2.2.2, .bool g.hl, .slice PA3 g.seen.length Pc3]] (fun w3 S => (impl_copyM g _ _ hc (St.old S hr)).mono fun e w3' hp => ?_)
 obtain ⟨b3, A3_0, c3_0, l3_0, h3_0, F3_0, A3_1, c3_1, l3_1, h3_1, F3_1, A3_2, c3_2, l3_2, h3_2, F3_2, A3_3, c3_3, l3_3, h3_3, F3_3, rfl, U⟩ := hp
 refine ⟨_, _, rfl, (Sx.St.join S U), ?_⟩
 clear S U
 refine Sx.G.p (.pointer (some ⟨b3, 0, none⟩)) ?_
 refine Sx.G.nil (Sx.E.next (Sx.C.seq (Sx.C.region ?_)))
 refine Sx.G.p (.func (.func 207) #[] #[]) ?_
 refine Sx.G.p (.pointer (some ⟨b3, 0, none⟩)) ?_
 refine Sx.G.p (.int .i64 n) ?_
 refine Sx.G.c 207 #[.pointer (some ⟨b3, 0, none⟩), .int .i64 n] (fun w4 S => (eff_moveOn g n S).mono fun e w4' hp => ?_)
 obtain ⟨rfl, A4_0, c4_0, l4_0, h4_0, F4_0, A4_1, c4_1, l4_1, h4_1, F4_1, A4_2, c4_2, l4_2, h4_2, F4_2, A4_3, c4_3, l4_3, h4_3, F4_3, S'⟩ := hp
 refine ⟨_, _, rfl, S', ?_⟩
 clear S S'
 refine Sx.G.nil (Sx.E.next (Sx.C.seq (Sx.C.region ?_)))
 refine Sx.G.p (.pointer (some ⟨b3, 0, none⟩)) ?_
 refine Sx.G.c 158 #[.pointer (some ⟨b3, 0, none⟩)] (fun w5 S => (impl_guestM (movedG g) S).mono fun e w5' hp => ?_)
 obtain ⟨rfl, S'⟩ := hp
 refine ⟨_, _, rfl, S', ?_⟩
 clear S S'
 refine Sx.G.sw [.slice A4_0 (movedG g).prog.length c4_0, .int .i64 (movedG g).a, .int .i64 (movedG g).pc, .slice A4_1 (movedG g).wr.length c4_1, .slice A4_2 (movedG g).lv.length c4_2, .int .i64 (movedG g).t.1, .int .i64 (movedG g).t.2.1, .bool (movedG g).t.2.2, .int .i64 (movedG g).pd, .int .i64 (movedG g).x.1, .int .i64 (movedG g).x.2.1, .bool (movedG g).x.2.2.1, .int .i64 (movedG g).x.2.2.2, .bool (movedG g).hl, .slice A4_3 (movedG g).seen.length c4_3] .a5 ?_
 refine Sx.G.nil (Sx.E.next (Sx.C.ret ?_))
 refine Sx.E.retc b2 5 [.slice A4_0 (movedG g).prog.length c4_0, .int .i64 (movedG g).a, .int .i64 (movedG g).pc, .slice A4_1 (movedG g).wr.length c4_1, .slice A4_2 (movedG g).lv.length c4_2, .int .i64 (movedG g).t.1, .int .i64 (movedG g).t.2.1, .bool (movedG g).t.2.2, .int .i64 (movedG g).pd, .int .i64 (movedG g).x.1, .int .i64 (movedG g).x.2.1, .bool (movedG g).x.2.2.1, .int .i64 (movedG g).x.2.2.2, .bool (movedG g).hl, .slice A4_3 (movedG g).seen.length c4_3] rfl (by kernel_rfl) rfl (by kernel_rfl) (by kernel_rfl) (fun w S => ?_)
 obtain ⟨GW2, S⟩ := S.weak 2 rfl
 obtain ⟨GW3, S⟩ := S.weak 3 rfl
 obtain ⟨ho, hF⟩ := rG_shut (g := movedG g) S 1 rfl 2 rfl 3 rfl 4 rfl (by decide) (by decide) (by decide) (by decide) (by decide) (by decide)
 exact ⟨_, _, rfl, ho, hF, S.below⟩
theorem after_setA (g : gT) (cs : List Value) (n : Int) (w : World) (hc : rG.cap g) (h : rG.rd w 0 w.heap.size g cs) : Calls Tryz.prog 168 #[.agg cs.toArray, .func (.func 210) #[] #[], .int .i64 n] w (Gives rG w (movedG { g with a := n })) := by
 obtain ⟨q0, q1, q2, q3⟩ := rG_len hc
 have hr := h
 obtain ⟨P0, P1, P2, P3, rfl, h0, h1, h2, h3⟩ := rG_rd h
 obtain ⟨PA0, Pc0, e0, hP0⟩ := lst_val h0
 subst e0
 obtain ⟨PA1, Pc1, e1, hP1⟩ := lst_val h1
 subst e1
 obtain ⟨PA2, Pc2, e2, hP2⟩ := lst_val h2
 subst e2
 obtain ⟨PA3, Pc3, e3, hP3⟩ := lst_val h3
 subst e3
 refine Sx.enter (args := [.agg #[.slice PA0 g.prog.length Pc0, .int .i64 g.a, .int .i64 g.pc, .slice PA1 g.wr.length Pc1, .slice PA2 g.lv.length Pc2, .int .i64 g.t.1, .int .i64 g.t.2.1, .bool g.t.2.2, .int .i64 g.pd, .int .i64 g.x.1, .int .i64 g.x.2.1, .bool g.x.2.2.1, .int .i64 g.x.2.2.2, .bool g.hl, .slice PA3 g.seen.length Pc3], .func (.func 210) #[] #[], .int .i64 n]) Tryz.func168 rfl Tryz.ntmps168 rfl ?_
 refine Sx.C.seq (Sx.C.region ?_)
 refine Sx.G.b [.slice PA0 g.prog.length Pc0, .int .i64 g.a, .int .i64 g.pc, .slice PA1 g.wr.length Pc1, .slice PA2 g.lv.length Pc2, .int .i64 g.t.1, .int .i64 g.t.2.1, .bool g.t.2.2, .int .i64 g.pd, .int .i64 g.x.1, .int .i64 g.x.2.1, .bool g.x.2.2.1, .int .i64 g.x.2.2.2, .bool g.hl, .slice PA3 g.seen.length Pc3] (fun b1 => ?_)
 refine Sx.G.ar [.slice none 0 0, .int .i64 0, .int .i64 0, .slice none 0 0, .slice none 0 0, .int .i64 0, .int .i64 0, .bool false, .int .i64 0, .int .i64 0, .int .i64 0, .bool false, .int .i64 0, .bool false, .slice none 0 0] (fun b2 => ?_)
 refine Sx.G.nil (Sx.E.next (Sx.C.seq (Sx.C.region ?_)))
 refine Sx.G.lw .m1 ?_
 refine Sx.G.c 156 #[.agg #[.slice PA0 g.prog.length Pc0, .int .i64 g.a, .int .i64 g.pc, .slice PA1 g.wr.length Pc1, .slice PA2 g.lv.length Pc2, .int .i64 g.t.1, .int .i64 g.t.2.1, .bool g.t.2.2, .int .i64 g.pd, .int .i64 g.x.1, .int .i64 g.x.2.1, .bool g.x.2.2.1, .int .i64 g.x.2.2.2, .bool g.hl, .slice PA3 g.seen.length Pc3]] (fun w3 S => (impl_copyM g _ _ hc (St.old S hr)).mono fun e w3' hp => ?_)
 obtain ⟨b3, A3_0, c3_0, l3_0, h3_0, F3_0, A3_1, c3_1, l3_1, h3_1, F3_1, A3_2, c3_2, l3_2, h3_2, F3_2, A3_3, c3_3, l3_3, h3_3, F3_3, rfl, U⟩ := hp
 refine ⟨_, _, rfl, (Sx.St.join S U), ?_⟩
 clear S U
 refine Sx.G.p (.pointer (some ⟨b3, 0, none⟩)) ?_
 refine Sx.G.nil (Sx.E.next (Sx.C.seq (Sx.C.region ?_)))
 refine Sx.G.p (.func (.func 210) #[] #[]) ?_
 refine Sx.G.p (.pointer (some ⟨b3, 0, none⟩)) ?_
 refine Sx.G.p (.int .i64 n) ?_
 refine Sx.G.c 210 #[.pointer (some ⟨b3, 0, none⟩), .int .i64 n] (fun w4 S => (eff_setA g n S).mono fun e w4' hp => ?_)
 obtain ⟨rfl, A4_0, c4_0, l4_0, h4_0, F4_0, A4_1, c4_1, l4_1, h4_1, F4_1, A4_2, c4_2, l4_2, h4_2, F4_2, A4_3, c4_3, l4_3, h4_3, F4_3, S'⟩ := hp
 refine ⟨_, _, rfl, S', ?_⟩
 clear S S'
 refine Sx.G.nil (Sx.E.next (Sx.C.seq (Sx.C.region ?_)))
 refine Sx.G.p (.pointer (some ⟨b3, 0, none⟩)) ?_
 refine Sx.G.c 158 #[.pointer (some ⟨b3, 0, none⟩)] (fun w5 S => (impl_guestM (movedG { g with a := n }) S).mono fun e w5' hp => ?_)
 obtain ⟨rfl, S'⟩ := hp
 refine ⟨_, _, rfl, S', ?_⟩
 clear S S'
 refine Sx.G.sw [.slice A4_0 (movedG { g with a := n }).prog.length c4_0, .int .i64 (movedG { g with a := n }).a, .int .i64 (movedG { g with a := n }).pc, .slice A4_1 (movedG { g with a := n }).wr.length c4_1, .slice A4_2 (movedG { g with a := n }).lv.length c4_2, .int .i64 (movedG { g with a := n }).t.1, .int .i64 (movedG { g with a := n }).t.2.1, .bool (movedG { g with a := n }).t.2.2, .int .i64 (movedG { g with a := n }).pd, .int .i64 (movedG { g with a := n }).x.1, .int .i64 (movedG { g with a := n }).x.2.1, .bool (movedG { g with a := n }).x.2.2.1, .int .i64 (movedG { g with a := n }).x.2.2.2, .bool (movedG { g with a := n }).hl, .slice A4_3 (movedG { g with a := n }).seen.length c4_3] .a5 ?_
 refine Sx.G.nil (Sx.E.next (Sx.C.ret ?_))
 refine Sx.E.retc b2 5 [.slice A4_0 (movedG { g with a := n }).prog.length c4_0, .int .i64 (movedG { g with a := n }).a, .int .i64 (movedG { g with a := n }).pc, .slice A4_1 (movedG { g with a := n }).wr.length c4_1, .slice A4_2 (movedG { g with a := n }).lv.length c4_2, .int .i64 (movedG { g with a := n }).t.1, .int .i64 (movedG { g with a := n }).t.2.1, .bool (movedG { g with a := n }).t.2.2, .int .i64 (movedG { g with a := n }).pd, .int .i64 (movedG { g with a := n }).x.1, .int .i64 (movedG { g with a := n }).x.2.1, .bool (movedG { g with a := n }).x.2.2.1, .int .i64 (movedG { g with a := n }).x.2.2.2, .bool (movedG { g with a := n }).hl, .slice A4_3 (movedG { g with a := n }).seen.length c4_3] rfl (by kernel_rfl) rfl (by kernel_rfl) (by kernel_rfl) (fun w S => ?_)
 obtain ⟨GW2, S⟩ := S.weak 2 rfl
 obtain ⟨GW3, S⟩ := S.weak 3 rfl
 obtain ⟨ho, hF⟩ := rG_shut (g := movedG { g with a := n }) S 1 rfl 2 rfl 3 rfl 4 rfl (by decide) (by decide) (by decide) (by decide) (by decide) (by decide)
 exact ⟨_, _, rfl, ho, hF, S.below⟩
theorem after_addToA (g : gT) (cs : List Value) (n : Int) (w : World) (hc : rG.cap g) (h : rG.rd w 0 w.heap.size g cs) : Calls Tryz.prog 168 #[.agg cs.toArray, .func (.func 211) #[] #[], .int .i64 n] w (Gives rG w (movedG { g with a := (IntKind.i64.wrap (g.a + n)).tmod 100 })) := by
 obtain ⟨q0, q1, q2, q3⟩ := rG_len hc
 have hr := h
 obtain ⟨P0, P1, P2, P3, rfl, h0, h1, h2, h3⟩ := rG_rd h
 obtain ⟨PA0, Pc0, e0, hP0⟩ := lst_val h0
 subst e0
 obtain ⟨PA1, Pc1, e1, hP1⟩ := lst_val h1
 subst e1
 obtain ⟨PA2, Pc2, e2, hP2⟩ := lst_val h2
 subst e2
 obtain ⟨PA3, Pc3, e3, hP3⟩ := lst_val h3
 subst e3
 refine Sx.enter (args := [.agg #[.slice PA0 g.prog.length Pc0, .int .i64 g.a, .int .i64 g.pc, .slice PA1 g.wr.length Pc1, .slice PA2 g.lv.length Pc2, .int .i64 g.t.1, .int .i64 g.t.2.1, .bool g.t.2.2, .int .i64 g.pd, .int .i64 g.x.1, .int .i64 g.x.2.1, .bool g.x.2.2.1, .int .i64 g.x.2.2.2, .bool g.hl, .slice PA3 g.seen.length Pc3], .func (.func 211) #[] #[], .int .i64 n]) Tryz.func168 rfl Tryz.ntmps168 rfl ?_
 refine Sx.C.seq (Sx.C.region ?_)
 refine Sx.G.b [.slice PA0 g.prog.length Pc0, .int .i64 g.a, .int .i64 g.pc, .slice PA1 g.wr.length Pc1, .slice PA2 g.lv.length Pc2, .int .i64 g.t.1, .int .i64 g.t.2.1, .bool g.t.2.2, .int .i64 g.pd, .int .i64 g.x.1, .int .i64 g.x.2.1, .bool g.x.2.2.1, .int .i64 g.x.2.2.2, .bool g.hl, .slice PA3 g.seen.length Pc3] (fun b1 => ?_)
 refine Sx.G.ar [.slice none 0 0, .int .i64 0, .int .i64 0, .slice none 0 0, .slice none 0 0, .int .i64 0, .int .i64 0, .bool false, .int .i64 0, .int .i64 0, .int .i64 0, .bool false, .int .i64 0, .bool false, .slice none 0 0] (fun b2 => ?_)
 refine Sx.G.nil (Sx.E.next (Sx.C.seq (Sx.C.region ?_)))
 refine Sx.G.lw .m1 ?_
 refine Sx.G.c 156 #[.agg #[.slice PA0 g.prog.length Pc0, .int .i64 g.a, .int .i64 g.pc, .slice PA1 g.wr.length Pc1, .slice PA2 g.lv.length Pc2, .int .i64 g.t.1, .int .i64 g.t.2.1, .bool g.t.2.2, .int .i64 g.pd, .int .i64 g.x.1, .int .i64 g.x.2.1, .bool g.x.2.2.1, .int .i64 g.x.2.2.2, .bool g.hl, .slice PA3 g.seen.length Pc3]] (fun w3 S => (impl_copyM g _ _ hc (St.old S hr)).mono fun e w3' hp => ?_)
 obtain ⟨b3, A3_0, c3_0, l3_0, h3_0, F3_0, A3_1, c3_1, l3_1, h3_1, F3_1, A3_2, c3_2, l3_2, h3_2, F3_2, A3_3, c3_3, l3_3, h3_3, F3_3, rfl, U⟩ := hp
 refine ⟨_, _, rfl, (Sx.St.join S U), ?_⟩
 clear S U
 refine Sx.G.p (.pointer (some ⟨b3, 0, none⟩)) ?_
 refine Sx.G.nil (Sx.E.next (Sx.C.seq (Sx.C.region ?_)))
 refine Sx.G.p (.func (.func 211) #[] #[]) ?_
 refine Sx.G.p (.pointer (some ⟨b3, 0, none⟩)) ?_
 refine Sx.G.p (.int .i64 n) ?_
 refine Sx.G.c 211 #[.pointer (some ⟨b3, 0, none⟩), .int .i64 n] (fun w4 S => (eff_addToA g n S).mono fun e w4' hp => ?_)
 obtain ⟨rfl, A4_0, c4_0, l4_0, h4_0, F4_0, A4_1, c4_1, l4_1, h4_1, F4_1, A4_2, c4_2, l4_2, h4_2, F4_2, A4_3, c4_3, l4_3, h4_3, F4_3, S'⟩ := hp
 refine ⟨_, _, rfl, S', ?_⟩
 clear S S'
 refine Sx.G.nil (Sx.E.next (Sx.C.seq (Sx.C.region ?_)))
 refine Sx.G.p (.pointer (some ⟨b3, 0, none⟩)) ?_
 refine Sx.G.c 158 #[.pointer (some ⟨b3, 0, none⟩)] (fun w5 S => (impl_guestM (movedG { g with a := (IntKind.i64.wrap (g.a + n)).tmod 100 }) S).mono fun e w5' hp => ?_)
 obtain ⟨rfl, S'⟩ := hp
 refine ⟨_, _, rfl, S', ?_⟩
 clear S S'
 refine Sx.G.sw [.slice A4_0 (movedG { g with a := (IntKind.i64.wrap (g.a + n)).tmod 100 }).prog.length c4_0, .int .i64 (movedG { g with a := (IntKind.i64.wrap (g.a + n)).tmod 100 }).a, .int .i64 (movedG { g with a := (IntKind.i64.wrap (g.a + n)).tmod 100 }).pc, .slice A4_1 (movedG { g with a := (IntKind.i64.wrap (g.a + n)).tmod 100 }).wr.length c4_1, .slice A4_2 (movedG { g with a := (IntKind.i64.wrap (g.a + n)).tmod 100 }).lv.length c4_2, .int .i64 (movedG { g with a := (IntKind.i64.wrap (g.a + n)).tmod 100 }).t.1, .int .i64 (movedG { g with a := (IntKind.i64.wrap (g.a + n)).tmod 100 }).t.2.1, .bool (movedG { g with a := (IntKind.i64.wrap (g.a + n)).tmod 100 }).t.2.2, .int .i64 (movedG { g with a := (IntKind.i64.wrap (g.a + n)).tmod 100 }).pd, .int .i64 (movedG { g with a := (IntKind.i64.wrap (g.a + n)).tmod 100 }).x.1, .int .i64 (movedG { g with a := (IntKind.i64.wrap (g.a + n)).tmod 100 }).x.2.1, .bool (movedG { g with a := (IntKind.i64.wrap (g.a + n)).tmod 100 }).x.2.2.1, .int .i64 (movedG { g with a := (IntKind.i64.wrap (g.a + n)).tmod 100 }).x.2.2.2, .bool (movedG { g with a := (IntKind.i64.wrap (g.a + n)).tmod 100 }).hl, .slice A4_3 (movedG { g with a := (IntKind.i64.wrap (g.a + n)).tmod 100 }).seen.length c4_3] .a5 ?_
 refine Sx.G.nil (Sx.E.next (Sx.C.ret ?_))
 refine Sx.E.retc b2 5 [.slice A4_0 (movedG { g with a := (IntKind.i64.wrap (g.a + n)).tmod 100 }).prog.length c4_0, .int .i64 (movedG { g with a := (IntKind.i64.wrap (g.a + n)).tmod 100 }).a, .int .i64 (movedG { g with a := (IntKind.i64.wrap (g.a + n)).tmod 100 }).pc, .slice A4_1 (movedG { g with a := (IntKind.i64.wrap (g.a + n)).tmod 100 }).wr.length c4_1, .slice A4_2 (movedG { g with a := (IntKind.i64.wrap (g.a + n)).tmod 100 }).lv.length c4_2, .int .i64 (movedG { g with a := (IntKind.i64.wrap (g.a + n)).tmod 100 }).t.1, .int .i64 (movedG { g with a := (IntKind.i64.wrap (g.a + n)).tmod 100 }).t.2.1, .bool (movedG { g with a := (IntKind.i64.wrap (g.a + n)).tmod 100 }).t.2.2, .int .i64 (movedG { g with a := (IntKind.i64.wrap (g.a + n)).tmod 100 }).pd, .int .i64 (movedG { g with a := (IntKind.i64.wrap (g.a + n)).tmod 100 }).x.1, .int .i64 (movedG { g with a := (IntKind.i64.wrap (g.a + n)).tmod 100 }).x.2.1, .bool (movedG { g with a := (IntKind.i64.wrap (g.a + n)).tmod 100 }).x.2.2.1, .int .i64 (movedG { g with a := (IntKind.i64.wrap (g.a + n)).tmod 100 }).x.2.2.2, .bool (movedG { g with a := (IntKind.i64.wrap (g.a + n)).tmod 100 }).hl, .slice A4_3 (movedG { g with a := (IntKind.i64.wrap (g.a + n)).tmod 100 }).seen.length c4_3] rfl (by kernel_rfl) rfl (by kernel_rfl) (by kernel_rfl) (fun w S => ?_)
 obtain ⟨GW2, S⟩ := S.weak 2 rfl
 obtain ⟨GW3, S⟩ := S.weak 3 rfl
 obtain ⟨ho, hF⟩ := rG_shut (g := movedG { g with a := (IntKind.i64.wrap (g.a + n)).tmod 100 }) S 1 rfl 2 rfl 3 rfl 4 rfl (by decide) (by decide) (by decide) (by decide) (by decide) (by decide)
 exact ⟨_, _, rfl, ho, hF, S.below⟩
theorem after_jumpAtZero (g : gT) (cs : List Value) (n : Int) (w : World) (hc : rG.cap g) (h : rG.rd w 0 w.heap.size g cs) : Calls Tryz.prog 168 #[.agg cs.toArray, .func (.func 212) #[] #[], .int .i64 n] w (Gives rG w (jumpG g n)) := by
 obtain ⟨q0, q1, q2, q3⟩ := rG_len hc
 have hr := h
 obtain ⟨P0, P1, P2, P3, rfl, h0, h1, h2, h3⟩ := rG_rd h
 obtain ⟨PA0, Pc0, e0, hP0⟩ := lst_val h0
 subst e0
 obtain ⟨PA1, Pc1, e1, hP1⟩ := lst_val h1
 subst e1
 obtain ⟨PA2, Pc2, e2, hP2⟩ := lst_val h2
 subst e2
 obtain ⟨PA3, Pc3, e3, hP3⟩ := lst_val h3
 subst e3
 refine Sx.enter (args := [.agg #[.slice PA0 g.prog.length Pc0, .int .i64 g.a, .int .i64 g.pc, .slice PA1 g.wr.length Pc1, .slice PA2 g.lv.length Pc2, .int .i64 g.t.1, .int .i64 g.t.2.1, .bool g.t.2.2, .int .i64 g.pd, .int .i64 g.x.1, .int .i64 g.x.2.1, .bool g.x.2.2.1, .int .i64 g.x.2.2.2, .bool g.hl, .slice PA3 g.seen.length Pc3], .func (.func 212) #[] #[], .int .i64 n]) Tryz.func168 rfl Tryz.ntmps168 rfl ?_
 refine Sx.C.seq (Sx.C.region ?_)
 refine Sx.G.b [.slice PA0 g.prog.length Pc0, .int .i64 g.a, .int .i64 g.pc, .slice PA1 g.wr.length Pc1, .slice PA2 g.lv.length Pc2, .int .i64 g.t.1, .int .i64 g.t.2.1, .bool g.t.2.2, .int .i64 g.pd, .int .i64 g.x.1, .int .i64 g.x.2.1, .bool g.x.2.2.1, .int .i64 g.x.2.2.2, .bool g.hl, .slice PA3 g.seen.length Pc3] (fun b1 => ?_)
 refine Sx.G.ar [.slice none 0 0, .int .i64 0, .int .i64 0, .slice none 0 0, .slice none 0 0, .int .i64 0, .int .i64 0, .bool false, .int .i64 0, .int .i64 0, .int .i64 0, .bool false, .int .i64 0, .bool false, .slice none 0 0] (fun b2 => ?_)
 refine Sx.G.nil (Sx.E.next (Sx.C.seq (Sx.C.region ?_)))
 refine Sx.G.lw .m1 ?_
 refine Sx.G.c 156 #[.agg #[.slice PA0 g.prog.length Pc0, .int .i64 g.a, .int .i64 g.pc, .slice PA1 g.wr.length Pc1, .slice PA2 g.lv.length Pc2, .int .i64 g.t.1, .int .i64 g.t.2.1, .bool g.t.2.2, .int .i64 g.pd, .int .i64 g.x.1, .int .i64 g.x.2.1, .bool g.x.2.2.1, .int .i64 g.x.2.2.2, .bool g.hl, .slice PA3 g.seen.length Pc3]] (fun w3 S => (impl_copyM g _ _ hc (St.old S hr)).mono fun e w3' hp => ?_)
 obtain ⟨b3, A3_0, c3_0, l3_0, h3_0, F3_0, A3_1, c3_1, l3_1, h3_1, F3_1, A3_2, c3_2, l3_2, h3_2, F3_2, A3_3, c3_3, l3_3, h3_3, F3_3, rfl, U⟩ := hp
 refine ⟨_, _, rfl, (Sx.St.join S U), ?_⟩
 clear S U
 refine Sx.G.p (.pointer (some ⟨b3, 0, none⟩)) ?_
 refine Sx.G.nil (Sx.E.next (Sx.C.seq (Sx.C.region ?_)))
 refine Sx.G.p (.func (.func 212) #[] #[]) ?_
 refine Sx.G.p (.pointer (some ⟨b3, 0, none⟩)) ?_
 refine Sx.G.p (.int .i64 n) ?_
 refine Sx.G.c 212 #[.pointer (some ⟨b3, 0, none⟩), .int .i64 n] (fun w4 S => (eff_jumpAtZero g n S).mono fun e w4' hp => ?_)
 obtain ⟨rfl, A4_0, c4_0, l4_0, h4_0, F4_0, A4_1, c4_1, l4_1, h4_1, F4_1, A4_2, c4_2, l4_2, h4_2, F4_2, A4_3, c4_3, l4_3, h4_3, F4_3, S'⟩ := hp
 refine ⟨_, _, rfl, S', ?_⟩
 clear S S'
 refine Sx.G.nil (Sx.E.next (Sx.C.seq (Sx.C.region ?_)))
 refine Sx.G.p (.pointer (some ⟨b3, 0, none⟩)) ?_
 refine Sx.G.c 158 #[.pointer (some ⟨b3, 0, none⟩)] (fun w5 S => (impl_guestM (jumpG g n) S).mono fun e w5' hp => ?_)
 obtain ⟨rfl, S'⟩ := hp
 refine ⟨_, _, rfl, S', ?_⟩
 clear S S'
 refine Sx.G.sw [.slice A4_0 (jumpG g n).prog.length c4_0, .int .i64 (jumpG g n).a, .int .i64 (jumpG g n).pc, .slice A4_1 (jumpG g n).wr.length c4_1, .slice A4_2 (jumpG g n).lv.length c4_2, .int .i64 (jumpG g n).t.1, .int .i64 (jumpG g n).t.2.1, .bool (jumpG g n).t.2.2, .int .i64 (jumpG g n).pd, .int .i64 (jumpG g n).x.1, .int .i64 (jumpG g n).x.2.1, .bool (jumpG g n).x.2.2.1, .int .i64 (jumpG g n).x.2.2.2, .bool (jumpG g n).hl, .slice A4_3 (jumpG g n).seen.length c4_3] .a5 ?_
 refine Sx.G.nil (Sx.E.next (Sx.C.ret ?_))
 refine Sx.E.retc b2 5 [.slice A4_0 (jumpG g n).prog.length c4_0, .int .i64 (jumpG g n).a, .int .i64 (jumpG g n).pc, .slice A4_1 (jumpG g n).wr.length c4_1, .slice A4_2 (jumpG g n).lv.length c4_2, .int .i64 (jumpG g n).t.1, .int .i64 (jumpG g n).t.2.1, .bool (jumpG g n).t.2.2, .int .i64 (jumpG g n).pd, .int .i64 (jumpG g n).x.1, .int .i64 (jumpG g n).x.2.1, .bool (jumpG g n).x.2.2.1, .int .i64 (jumpG g n).x.2.2.2, .bool (jumpG g n).hl, .slice A4_3 (jumpG g n).seen.length c4_3] rfl (by kernel_rfl) rfl (by kernel_rfl) (by kernel_rfl) (fun w S => ?_)
 obtain ⟨GW2, S⟩ := S.weak 2 rfl
 obtain ⟨GW3, S⟩ := S.weak 3 rfl
 obtain ⟨ho, hF⟩ := rG_shut (g := jumpG g n) S 1 rfl 2 rfl 3 rfl 4 rfl (by decide) (by decide) (by decide) (by decide) (by decide) (by decide)
 exact ⟨_, _, rfl, ho, hF, S.below⟩
theorem after_loadIntoA (g : gT) (cs : List Value) (n : Int) (w : World) (hc : rG.cap g) (h : rG.rd w 0 w.heap.size g cs) : Calls Tryz.prog 168 #[.agg cs.toArray, .func (.func 206) #[] #[], .int .i64 n] w (Gives rG w (loadedG g n)) := by
 obtain ⟨q0, q1, q2, q3⟩ := rG_len hc
 have hr := h
 obtain ⟨P0, P1, P2, P3, rfl, h0, h1, h2, h3⟩ := rG_rd h
 obtain ⟨PA0, Pc0, e0, hP0⟩ := lst_val h0
 subst e0
 obtain ⟨PA1, Pc1, e1, hP1⟩ := lst_val h1
 subst e1
 obtain ⟨PA2, Pc2, e2, hP2⟩ := lst_val h2
 subst e2
 obtain ⟨PA3, Pc3, e3, hP3⟩ := lst_val h3
 subst e3
 refine Sx.enter (args := [.agg #[.slice PA0 g.prog.length Pc0, .int .i64 g.a, .int .i64 g.pc, .slice PA1 g.wr.length Pc1, .slice PA2 g.lv.length Pc2, .int .i64 g.t.1, .int .i64 g.t.2.1, .bool g.t.2.2, .int .i64 g.pd, .int .i64 g.x.1, .int .i64 g.x.2.1, .bool g.x.2.2.1, .int .i64 g.x.2.2.2, .bool g.hl, .slice PA3 g.seen.length Pc3], .func (.func 206) #[] #[], .int .i64 n]) Tryz.func168 rfl Tryz.ntmps168 rfl ?_
 refine Sx.C.seq (Sx.C.region ?_)
 refine Sx.G.b [.slice PA0 g.prog.length Pc0, .int .i64 g.a, .int .i64 g.pc, .slice PA1 g.wr.length Pc1, .slice PA2 g.lv.length Pc2, .int .i64 g.t.1, .int .i64 g.t.2.1, .bool g.t.2.2, .int .i64 g.pd, .int .i64 g.x.1, .int .i64 g.x.2.1, .bool g.x.2.2.1, .int .i64 g.x.2.2.2, .bool g.hl, .slice PA3 g.seen.length Pc3] (fun b1 => ?_)
 refine Sx.G.ar [.slice none 0 0, .int .i64 0, .int .i64 0, .slice none 0 0, .slice none 0 0, .int .i64 0, .int .i64 0, .bool false, .int .i64 0, .int .i64 0, .int .i64 0, .bool false, .int .i64 0, .bool false, .slice none 0 0] (fun b2 => ?_)
 refine Sx.G.nil (Sx.E.next (Sx.C.seq (Sx.C.region ?_)))
 refine Sx.G.lw .m1 ?_
 refine Sx.G.c 156 #[.agg #[.slice PA0 g.prog.length Pc0, .int .i64 g.a, .int .i64 g.pc, .slice PA1 g.wr.length Pc1, .slice PA2 g.lv.length Pc2, .int .i64 g.t.1, .int .i64 g.t.2.1, .bool g.t.2.2, .int .i64 g.pd, .int .i64 g.x.1, .int .i64 g.x.2.1, .bool g.x.2.2.1, .int .i64 g.x.2.2.2, .bool g.hl, .slice PA3 g.seen.length Pc3]] (fun w3 S => (impl_copyM g _ _ hc (St.old S hr)).mono fun e w3' hp => ?_)
 obtain ⟨b3, A3_0, c3_0, l3_0, h3_0, F3_0, A3_1, c3_1, l3_1, h3_1, F3_1, A3_2, c3_2, l3_2, h3_2, F3_2, A3_3, c3_3, l3_3, h3_3, F3_3, rfl, U⟩ := hp
 refine ⟨_, _, rfl, (Sx.St.join S U), ?_⟩
 clear S U
 refine Sx.G.p (.pointer (some ⟨b3, 0, none⟩)) ?_
 refine Sx.G.nil (Sx.E.next (Sx.C.seq (Sx.C.region ?_)))
 refine Sx.G.p (.func (.func 206) #[] #[]) ?_
 refine Sx.G.p (.pointer (some ⟨b3, 0, none⟩)) ?_
 refine Sx.G.p (.int .i64 n) ?_
 refine Sx.G.c 206 #[.pointer (some ⟨b3, 0, none⟩), .int .i64 n] (fun w4 S => (eff_loadIntoA g n (by omega) S).mono fun e w4' hp => ?_)
 obtain ⟨rfl, A4_0, c4_0, l4_0, h4_0, F4_0, A4_1, c4_1, l4_1, h4_1, F4_1, A4_2, c4_2, l4_2, h4_2, F4_2, A4_3, c4_3, l4_3, h4_3, F4_3, S'⟩ := hp
 refine ⟨_, _, rfl, S', ?_⟩
 clear S S'
 refine Sx.G.nil (Sx.E.next (Sx.C.seq (Sx.C.region ?_)))
 refine Sx.G.p (.pointer (some ⟨b3, 0, none⟩)) ?_
 refine Sx.G.c 158 #[.pointer (some ⟨b3, 0, none⟩)] (fun w5 S => (impl_guestM (loadedG g n) S).mono fun e w5' hp => ?_)
 obtain ⟨rfl, S'⟩ := hp
 refine ⟨_, _, rfl, S', ?_⟩
 clear S S'
 refine Sx.G.sw [.slice A4_0 (loadedG g n).prog.length c4_0, .int .i64 (loadedG g n).a, .int .i64 (loadedG g n).pc, .slice A4_1 (loadedG g n).wr.length c4_1, .slice A4_2 (loadedG g n).lv.length c4_2, .int .i64 (loadedG g n).t.1, .int .i64 (loadedG g n).t.2.1, .bool (loadedG g n).t.2.2, .int .i64 (loadedG g n).pd, .int .i64 (loadedG g n).x.1, .int .i64 (loadedG g n).x.2.1, .bool (loadedG g n).x.2.2.1, .int .i64 (loadedG g n).x.2.2.2, .bool (loadedG g n).hl, .slice A4_3 (loadedG g n).seen.length c4_3] .a5 ?_
 refine Sx.G.nil (Sx.E.next (Sx.C.ret ?_))
 refine Sx.E.retc b2 5 [.slice A4_0 (loadedG g n).prog.length c4_0, .int .i64 (loadedG g n).a, .int .i64 (loadedG g n).pc, .slice A4_1 (loadedG g n).wr.length c4_1, .slice A4_2 (loadedG g n).lv.length c4_2, .int .i64 (loadedG g n).t.1, .int .i64 (loadedG g n).t.2.1, .bool (loadedG g n).t.2.2, .int .i64 (loadedG g n).pd, .int .i64 (loadedG g n).x.1, .int .i64 (loadedG g n).x.2.1, .bool (loadedG g n).x.2.2.1, .int .i64 (loadedG g n).x.2.2.2, .bool (loadedG g n).hl, .slice A4_3 (loadedG g n).seen.length c4_3] rfl (by kernel_rfl) rfl (by kernel_rfl) (by kernel_rfl) (fun w S => ?_)
 obtain ⟨GW2, S⟩ := S.weak 2 rfl
 obtain ⟨GW3, S⟩ := S.weak 3 rfl
 obtain ⟨ho, hF⟩ := rG_shut (g := loadedG g n) S 1 rfl 2 rfl 3 rfl 4 rfl (by decide) (by decide) (by decide) (by decide) (by decide) (by decide)
 exact ⟨_, _, rfl, ho, hF, S.below⟩
theorem after_hold (g : gT) (cs : List Value) (n : Int) (w : World) (hc : rG.cap g) (h : rG.rd w 0 w.heap.size g cs) : Calls Tryz.prog 168 #[.agg cs.toArray, .func (.func 208) #[] #[], .int .i64 n] w (Gives rG w (heldG g)) := by
 obtain ⟨q0, q1, q2, q3⟩ := rG_len hc
 have hr := h
 obtain ⟨P0, P1, P2, P3, rfl, h0, h1, h2, h3⟩ := rG_rd h
 obtain ⟨PA0, Pc0, e0, hP0⟩ := lst_val h0
 subst e0
 obtain ⟨PA1, Pc1, e1, hP1⟩ := lst_val h1
 subst e1
 obtain ⟨PA2, Pc2, e2, hP2⟩ := lst_val h2
 subst e2
 obtain ⟨PA3, Pc3, e3, hP3⟩ := lst_val h3
 subst e3
 refine Sx.enter (args := [.agg #[.slice PA0 g.prog.length Pc0, .int .i64 g.a, .int .i64 g.pc, .slice PA1 g.wr.length Pc1, .slice PA2 g.lv.length Pc2, .int .i64 g.t.1, .int .i64 g.t.2.1, .bool g.t.2.2, .int .i64 g.pd, .int .i64 g.x.1, .int .i64 g.x.2.1, .bool g.x.2.2.1, .int .i64 g.x.2.2.2, .bool g.hl, .slice PA3 g.seen.length Pc3], .func (.func 208) #[] #[], .int .i64 n]) Tryz.func168 rfl Tryz.ntmps168 rfl ?_
 refine Sx.C.seq (Sx.C.region ?_)
 refine Sx.G.b [.slice PA0 g.prog.length Pc0, .int .i64 g.a, .int .i64 g.pc, .slice PA1 g.wr.length Pc1, .slice PA2 g.lv.length Pc2, .int .i64 g.t.1, .int .i64 g.t.2.1, .bool g.t.2.2, .int .i64 g.pd, .int .i64 g.x.1, .int .i64 g.x.2.1, .bool g.x.2.2.1, .int .i64 g.x.2.2.2, .bool g.hl, .slice PA3 g.seen.length Pc3] (fun b1 => ?_)
 refine Sx.G.ar [.slice none 0 0, .int .i64 0, .int .i64 0, .slice none 0 0, .slice none 0 0, .int .i64 0, .int .i64 0, .bool false, .int .i64 0, .int .i64 0, .int .i64 0, .bool false, .int .i64 0, .bool false, .slice none 0 0] (fun b2 => ?_)
 refine Sx.G.nil (Sx.E.next (Sx.C.seq (Sx.C.region ?_)))
 refine Sx.G.lw .m1 ?_
 refine Sx.G.c 156 #[.agg #[.slice PA0 g.prog.length Pc0, .int .i64 g.a, .int .i64 g.pc, .slice PA1 g.wr.length Pc1, .slice PA2 g.lv.length Pc2, .int .i64 g.t.1, .int .i64 g.t.2.1, .bool g.t.2.2, .int .i64 g.pd, .int .i64 g.x.1, .int .i64 g.x.2.1, .bool g.x.2.2.1, .int .i64 g.x.2.2.2, .bool g.hl, .slice PA3 g.seen.length Pc3]] (fun w3 S => (impl_copyM g _ _ hc (St.old S hr)).mono fun e w3' hp => ?_)
 obtain ⟨b3, A3_0, c3_0, l3_0, h3_0, F3_0, A3_1, c3_1, l3_1, h3_1, F3_1, A3_2, c3_2, l3_2, h3_2, F3_2, A3_3, c3_3, l3_3, h3_3, F3_3, rfl, U⟩ := hp
 refine ⟨_, _, rfl, (Sx.St.join S U), ?_⟩
 clear S U
 refine Sx.G.p (.pointer (some ⟨b3, 0, none⟩)) ?_
 refine Sx.G.nil (Sx.E.next (Sx.C.seq (Sx.C.region ?_)))
 refine Sx.G.p (.func (.func 208) #[] #[]) ?_
 refine Sx.G.p (.pointer (some ⟨b3, 0, none⟩)) ?_
 refine Sx.G.p (.int .i64 n) ?_
 refine Sx.G.c 208 #[.pointer (some ⟨b3, 0, none⟩), .int .i64 n] (fun w4 S => (eff_hold g n S).mono fun e w4' hp => ?_)
 obtain ⟨rfl, A4_0, c4_0, l4_0, h4_0, F4_0, A4_1, c4_1, l4_1, h4_1, F4_1, A4_2, c4_2, l4_2, h4_2, F4_2, A4_3, c4_3, l4_3, h4_3, F4_3, S'⟩ := hp
 refine ⟨_, _, rfl, S', ?_⟩
 clear S S'
 refine Sx.G.nil (Sx.E.next (Sx.C.seq (Sx.C.region ?_)))
 refine Sx.G.p (.pointer (some ⟨b3, 0, none⟩)) ?_
 refine Sx.G.c 158 #[.pointer (some ⟨b3, 0, none⟩)] (fun w5 S => (impl_guestM (heldG g) S).mono fun e w5' hp => ?_)
 obtain ⟨rfl, S'⟩ := hp
 refine ⟨_, _, rfl, S', ?_⟩
 clear S S'
 refine Sx.G.sw [.slice A4_0 (heldG g).prog.length c4_0, .int .i64 (heldG g).a, .int .i64 (heldG g).pc, .slice A4_1 (heldG g).wr.length c4_1, .slice A4_2 (heldG g).lv.length c4_2, .int .i64 (heldG g).t.1, .int .i64 (heldG g).t.2.1, .bool (heldG g).t.2.2, .int .i64 (heldG g).pd, .int .i64 (heldG g).x.1, .int .i64 (heldG g).x.2.1, .bool (heldG g).x.2.2.1, .int .i64 (heldG g).x.2.2.2, .bool (heldG g).hl, .slice A4_3 (heldG g).seen.length c4_3] .a5 ?_
 refine Sx.G.nil (Sx.E.next (Sx.C.ret ?_))
 refine Sx.E.retc b2 5 [.slice A4_0 (heldG g).prog.length c4_0, .int .i64 (heldG g).a, .int .i64 (heldG g).pc, .slice A4_1 (heldG g).wr.length c4_1, .slice A4_2 (heldG g).lv.length c4_2, .int .i64 (heldG g).t.1, .int .i64 (heldG g).t.2.1, .bool (heldG g).t.2.2, .int .i64 (heldG g).pd, .int .i64 (heldG g).x.1, .int .i64 (heldG g).x.2.1, .bool (heldG g).x.2.2.1, .int .i64 (heldG g).x.2.2.2, .bool (heldG g).hl, .slice A4_3 (heldG g).seen.length c4_3] rfl (by kernel_rfl) rfl (by kernel_rfl) (by kernel_rfl) (fun w S => ?_)
 obtain ⟨GW2, S⟩ := S.weak 2 rfl
 obtain ⟨GW3, S⟩ := S.weak 3 rfl
 obtain ⟨ho, hF⟩ := rG_shut (g := heldG g) S 1 rfl 2 rfl 3 rfl 4 rfl (by decide) (by decide) (by decide) (by decide) (by decide) (by decide)
 exact ⟨_, _, rfl, ho, hF, S.below⟩
theorem impl_next (g : gT) (cs : List Value) (w : World) (hn : gnum g) (hc : rG.cap g) (h : rG.rd w 0 w.heap.size g cs) : Calls Tryz.prog 109 #[.agg cs.toArray] w (fun e w' => e = .returned (.agg #[.int .i64 (insAt g.prog g.pc).1, .int .i64 (insAt g.prog g.pc).2]) ∧ Below w.heap.size w w') := by
 obtain ⟨q0, q1, q2, q3⟩ := rG_len hc
 have hr := h
 obtain ⟨P0, P1, P2, P3, rfl, h0, h1, h2, h3⟩ := rG_rd h
 obtain ⟨PA0, Pc0, e0, hP0⟩ := lst_val h0
 subst e0
 obtain ⟨PA1, Pc1, e1, hP1⟩ := lst_val h1
 subst e1
 obtain ⟨PA2, Pc2, e2, hP2⟩ := lst_val h2
 subst e2
 obtain ⟨PA3, Pc3, e3, hP3⟩ := lst_val h3
 subst e3
 refine Sx.enter (args := [.agg #[.slice PA0 g.prog.length Pc0, .int .i64 g.a, .int .i64 g.pc, .slice PA1 g.wr.length Pc1, .slice PA2 g.lv.length Pc2, .int .i64 g.t.1, .int .i64 g.t.2.1, .bool g.t.2.2, .int .i64 g.pd, .int .i64 g.x.1, .int .i64 g.x.2.1, .bool g.x.2.2.1, .int .i64 g.x.2.2.2, .bool g.hl, .slice PA3 g.seen.length Pc3]]) Tryz.func109 rfl Tryz.ntmps109 rfl ?_
 refine Sx.C.seq (Sx.C.region ?_)
 refine Sx.G.b [.slice PA0 g.prog.length Pc0, .int .i64 g.a, .int .i64 g.pc, .slice PA1 g.wr.length Pc1, .slice PA2 g.lv.length Pc2, .int .i64 g.t.1, .int .i64 g.t.2.1, .bool g.t.2.2, .int .i64 g.pd, .int .i64 g.x.1, .int .i64 g.x.2.1, .bool g.x.2.2.1, .int .i64 g.x.2.2.2, .bool g.hl, .slice PA3 g.seen.length Pc3] (fun b1 => ?_)
 refine Sx.G.ar [.int .i64 0, .int .i64 0] (fun b2 => ?_)
 refine Sx.G.nil (Sx.E.next (Sx.C.seq (Sx.C.region ?_)))
 refine Sx.G.p (.pointer (some ⟨b1, 0, none⟩)) ?_
 refine Sx.G.g (.slice PA0 g.prog.length Pc0) .m1 .m0 ?_
 refine Sx.G.p (.pointer (some ⟨b1, 2, none⟩)) ?_
 refine Sx.G.g (.int .i64 g.pc) .m1 .m2 ?_
 refine Sx.G.cp 166 #[.slice PA0 g.prog.length Pc0, .int .i64 g.pc] (.agg #[.int .i64 (insAt g.prog g.pc).1, .int .i64 (insAt g.prog g.pc).2]) (fun w S => by exact Inss.impl_insAt PA0 g.prog.length Pc0 g.pc g.prog _ q0 rfl (by rw [← pcells_j]; exact p2_lies (St.old S h0)) hn.1.2 hn.2.2.1) ?_
 refine Sx.G.sw [.int .i64 (insAt g.prog g.pc).1, .int .i64 (insAt g.prog g.pc).2] .a0 ?_
 refine Sx.G.nil (Sx.E.next (Sx.C.ret ?_))
 refine Sx.E.retc b2 0 [.int .i64 (insAt g.prog g.pc).1, .int .i64 (insAt g.prog g.pc).2] rfl (by kernel_rfl) rfl (by kernel_rfl) (by kernel_rfl) (fun w S => ?_)
 exact ⟨rfl, S.below⟩
theorem impl_op (o : Int) (w : World)  : Calls Tryz.prog 154 #[.int .i64 o] w (fun e w' => e = .returned (.int .i64 (opWant o)) ∧ Below w.heap.size w w') := by
 refine Sx.enter (args := [.int .i64 o]) Tryz.func154 rfl Tryz.ntmps154 rfl ?_
 refine Sx.C.seq (Sx.C.region ?_)
 refine Sx.G.p (.int .i64 0) ?_
 refine Sx.G.nil (Sx.E.next (Sx.C.seq (Sx.C.region ?_)))
 refine Sx.G.p (.int .i64 o) ?_
 refine Sx.G.nil (Sx.E.next (Sx.C.block (Sx.C.seq (Sx.C.region ?_))))
 refine Sx.G.p (.bool (o == 3)) ?_
 refine Sx.G.p (.bool (o == 3)) ?_
 refine Sx.G.nil (Sx.E.next ?_)
 cases hc1 : (o == 3)
 ·
  have hb1 := hc1
  refine Sx.C.nn ?_
  refine Sx.C.seq (Sx.C.region ?_)
  refine Sx.G.p (.bool (o == 4)) ?_
  refine Sx.G.p (.bool (o == 4)) ?_
  refine Sx.G.nil (Sx.E.next ?_)
  cases hc2 : (o == 4)
  ·
   have hb2 := hc2
   refine Sx.C.nn ?_
   refine Sx.C.seq (Sx.C.region ?_)
   refine Sx.G.p (.bool (o == 5)) ?_
   refine Sx.G.p (.bool (o == 5)) ?_
   refine Sx.G.nil (Sx.E.next ?_)
   cases hc3 : (o == 5)
   ·
    have hb3 := hc3
    refine Sx.C.nn ?_
    refine Sx.C.seq (Sx.C.region ?_)
    refine Sx.G.p (.bool (o == 6)) ?_
    refine Sx.G.p (.bool (o == 6)) ?_
    refine Sx.G.nil (Sx.E.next ?_)
    cases hc4 : (o == 6)
    ·
     have hb4 := hc4
     refine Sx.C.nn ?_
     refine Sx.C.seq (Sx.C.region ?_)
     refine Sx.G.p (.bool (o == 7)) ?_
     refine Sx.G.p (.bool (o == 7)) ?_
     refine Sx.G.nil (Sx.E.next ?_)
     cases hc5 : (o == 7)
     ·
      have hb5 := hc5
      refine Sx.C.nn ?_
      refine Sx.C.seq (Sx.C.region ?_)
      refine Sx.G.p (.int .i64 2) ?_
      refine Sx.G.nil (Sx.E.next (Sx.C.ret (Sx.E.block_ret ?_)))
      refine Sx.E.ret1 (.int .i64 2) rfl (by kernel_rfl) (fun w S => ?_)
      exact ⟨congrArg Ending.returned (congrArg (Value.int .i64) (by simp [opWant, hb1, hb2, hb3, hb4, hb5])), S.below⟩
     ·
      have hb5 := hc5
      refine Sx.C.yy ?_
      refine Sx.C.seq (Sx.C.region ?_)
      refine Sx.G.p (.int .i64 7) ?_
      refine Sx.G.nil (Sx.E.next (Sx.C.ret (Sx.E.block_ret ?_)))
      refine Sx.E.ret1 (.int .i64 7) rfl (by kernel_rfl) (fun w S => ?_)
      exact ⟨congrArg Ending.returned (congrArg (Value.int .i64) (by simp [opWant, hb1, hb2, hb3, hb4, hb5])), S.below⟩
    ·
     have hb4 := hc4
     refine Sx.C.yy ?_
     refine Sx.C.seq (Sx.C.region ?_)
     refine Sx.G.p (.int .i64 6) ?_
     refine Sx.G.nil (Sx.E.next (Sx.C.ret (Sx.E.block_ret ?_)))
     refine Sx.E.ret1 (.int .i64 6) rfl (by kernel_rfl) (fun w S => ?_)
     exact ⟨congrArg Ending.returned (congrArg (Value.int .i64) (by simp [opWant, hb1, hb2, hb3, hb4])), S.below⟩
   ·
    have hb3 := hc3
    refine Sx.C.yy ?_
    refine Sx.C.seq (Sx.C.region ?_)
    refine Sx.G.p (.int .i64 5) ?_
    refine Sx.G.nil (Sx.E.next (Sx.C.ret (Sx.E.block_ret ?_)))
    refine Sx.E.ret1 (.int .i64 5) rfl (by kernel_rfl) (fun w S => ?_)
    exact ⟨congrArg Ending.returned (congrArg (Value.int .i64) (by simp [opWant, hb1, hb2, hb3])), S.below⟩
  ·
   have hb2 := hc2
   refine Sx.C.yy ?_
   refine Sx.C.seq (Sx.C.region ?_)
   refine Sx.G.p (.int .i64 4) ?_
   refine Sx.G.nil (Sx.E.next (Sx.C.ret (Sx.E.block_ret ?_)))
   refine Sx.E.ret1 (.int .i64 4) rfl (by kernel_rfl) (fun w S => ?_)
   exact ⟨congrArg Ending.returned (congrArg (Value.int .i64) (by simp [opWant, hb1, hb2])), S.below⟩
 ·
  have hb1 := hc1
  refine Sx.C.yy ?_
  refine Sx.C.seq (Sx.C.region ?_)
  refine Sx.G.p (.int .i64 3) ?_
  refine Sx.G.nil (Sx.E.next (Sx.C.ret (Sx.E.block_ret ?_)))
  refine Sx.E.ret1 (.int .i64 3) rfl (by kernel_rfl) (fun w S => ?_)
  exact ⟨congrArg Ending.returned (congrArg (Value.int .i64) (by simp [opWant, hb1])), S.below⟩
theorem impl_effect (a : Int) (i : Int × Int) (w : World)  : Calls Tryz.prog 170 #[.int .i64 a, .agg #[.int .i64 i.1, .int .i64 i.2]] w (fun e w' => e = .returned (effV a i) ∧ Below w.heap.size w w') := by
 refine Sx.enter (args := [.int .i64 a, .agg #[.int .i64 i.1, .int .i64 i.2]]) Tryz.func170 rfl Tryz.ntmps170 rfl ?_
 refine Sx.C.seq (Sx.C.region ?_)
 refine Sx.G.b [.int .i64 i.1, .int .i64 i.2] (fun b1 => ?_)
 refine Sx.G.p (.nilFunc) ?_
 refine Sx.G.nil (Sx.E.next (Sx.C.seq (Sx.C.seq (Sx.C.region ?_))))
 refine Sx.G.p (.int .i64 a) ?_
 refine Sx.G.cp 209 #[.int .i64 a] (.bool (inB a 0 99)) (fun w S => by exact Exits.impl_cellOkE a _) ?_
 refine Sx.G.p (.bool (!(inB a 0 99))) ?_
 refine Sx.G.p (.bool (!(inB a 0 99))) ?_
 cases hc2 : (inB a 0 99)
 ·
  have hb2 := hc2
  refine Sx.G.k ?_
  refine Sx.G.k ?_
  refine Sx.G.k ?_
  refine Sx.G.k ?_
  refine Sx.G.p (.bool true) ?_
  refine Sx.G.nil (Sx.E.next ?_)
  refine Sx.C.yy ?_
  refine Sx.C.seq (Sx.C.region ?_)
  refine Sx.G.p (.func (.func 207) #[] #[]) ?_
  refine Sx.G.nil (Sx.E.next (Sx.C.ret (Sx.E.then_ret ?_)))
  refine Sx.E.ret1 (.func (.func 207) #[] #[]) rfl (by kernel_rfl) (fun w S => ?_)
  exact ⟨congrArg Ending.returned (by simp [effV, hb2]), S.below⟩
 ·
  have hb2 := hc2
  refine Sx.G.p (.pointer (some ⟨b1, 1, none⟩)) ?_
  refine Sx.G.g (.int .i64 i.2) .m0 .m1 ?_
  refine Sx.G.cp 209 #[.int .i64 i.2] (.bool (inB i.2 0 99)) (fun w S => by exact Exits.impl_cellOkE i.2 _) ?_
  refine Sx.G.p (.bool (!(inB i.2 0 99))) ?_
  refine Sx.G.p (.bool (!(inB i.2 0 99))) ?_
  refine Sx.G.nil (Sx.E.next ?_)
  cases hc3 : (inB i.2 0 99)
  ·
   have hb3 := hc3
   refine Sx.C.yy ?_
   refine Sx.C.seq (Sx.C.region ?_)
   refine Sx.G.p (.func (.func 207) #[] #[]) ?_
   refine Sx.G.nil (Sx.E.next (Sx.C.ret (Sx.E.then_ret ?_)))
   refine Sx.E.ret1 (.func (.func 207) #[] #[]) rfl (by kernel_rfl) (fun w S => ?_)
   exact ⟨congrArg Ending.returned (by simp [effV, hb2, hb3]), S.below⟩
  ·
   have hb3 := hc3
   refine Sx.C.nn ?_
   refine Sx.C.skip (Sx.E.next (Sx.C.seq (Sx.C.region ?_)))
   refine Sx.G.p (.pointer (some ⟨b1, 0, none⟩)) ?_
   refine Sx.G.g (.int .i64 i.1) .m0 .m0 ?_
   refine Sx.G.nil (Sx.E.next (Sx.C.block (Sx.C.seq (Sx.C.region ?_))))
   refine Sx.G.p (.bool (i.1 == 1)) ?_
   refine Sx.G.p (.bool (i.1 == 1)) ?_
   refine Sx.G.nil (Sx.E.next ?_)
   cases hc4 : (i.1 == 1)
   ·
    have hb4 := hc4
    refine Sx.C.nn ?_
    refine Sx.C.seq (Sx.C.region ?_)
    refine Sx.G.p (.bool (i.1 == 2)) ?_
    refine Sx.G.p (.bool (i.1 == 2)) ?_
    refine Sx.G.nil (Sx.E.next ?_)
    cases hc5 : (i.1 == 2)
    ·
     have hb5 := hc5
     refine Sx.C.nn ?_
     refine Sx.C.seq (Sx.C.region ?_)
     refine Sx.G.p (.bool (i.1 == 8)) ?_
     refine Sx.G.p (.bool (i.1 == 8)) ?_
     refine Sx.G.nil (Sx.E.next ?_)
     cases hc6 : (i.1 == 8)
     ·
      have hb6 := hc6
      refine Sx.C.nn ?_
      refine Sx.C.seq (Sx.C.region ?_)
      refine Sx.G.p (.func (.func 207) #[] #[]) ?_
      refine Sx.G.nil (Sx.E.next (Sx.C.ret (Sx.E.block_ret ?_)))
      refine Sx.E.ret1 (.func (.func 207) #[] #[]) rfl (by kernel_rfl) (fun w S => ?_)
      exact ⟨congrArg Ending.returned (by simp [effV, hb2, hb3, hb4, hb5, hb6]), S.below⟩
     ·
      have hb6 := hc6
      refine Sx.C.yy ?_
      refine Sx.C.seq (Sx.C.region ?_)
      refine Sx.G.p (.func (.func 212) #[] #[]) ?_
      refine Sx.G.nil (Sx.E.next (Sx.C.ret (Sx.E.block_ret ?_)))
      refine Sx.E.ret1 (.func (.func 212) #[] #[]) rfl (by kernel_rfl) (fun w S => ?_)
      exact ⟨congrArg Ending.returned (by simp [effV, hb2, hb3, hb4, hb5, hb6]), S.below⟩
    ·
     have hb5 := hc5
     refine Sx.C.yy ?_
     refine Sx.C.seq (Sx.C.region ?_)
     refine Sx.G.p (.func (.func 211) #[] #[]) ?_
     refine Sx.G.nil (Sx.E.next (Sx.C.ret (Sx.E.block_ret ?_)))
     refine Sx.E.ret1 (.func (.func 211) #[] #[]) rfl (by kernel_rfl) (fun w S => ?_)
     exact ⟨congrArg Ending.returned (by simp [effV, hb2, hb3, hb4, hb5]), S.below⟩
   ·
    have hb4 := hc4
    refine Sx.C.yy ?_
    refine Sx.C.seq (Sx.C.region ?_)
    refine Sx.G.p (.func (.func 210) #[] #[]) ?_
    refine Sx.G.nil (Sx.E.next (Sx.C.ret (Sx.E.block_ret ?_)))
    refine Sx.E.ret1 (.func (.func 210) #[] #[]) rfl (by kernel_rfl) (fun w S => ?_)
    exact ⟨congrArg Ending.returned (by simp [effV, hb2, hb3, hb4]), S.below⟩
theorem impl_want (g : gT) (cs : List Value) (w : World) (hn : gnum g) (hc : rG.cap g) (h : rG.rd w 0 w.heap.size g cs) : Calls Tryz.prog 99 #[.agg cs.toArray] w (fun e w' => e = .returned (.int .i64 (wantG g)) ∧ Below w.heap.size w w') := by
 have hr := h
 obtain ⟨P0, P1, P2, P3, rfl, h0, h1, h2, h3⟩ := rG_rd h
 obtain ⟨PA0, Pc0, e0, hP0⟩ := lst_val h0
 subst e0
 obtain ⟨PA1, Pc1, e1, hP1⟩ := lst_val h1
 subst e1
 obtain ⟨PA2, Pc2, e2, hP2⟩ := lst_val h2
 subst e2
 obtain ⟨PA3, Pc3, e3, hP3⟩ := lst_val h3
 subst e3
 refine Sx.enter (args := [.agg #[.slice PA0 g.prog.length Pc0, .int .i64 g.a, .int .i64 g.pc, .slice PA1 g.wr.length Pc1, .slice PA2 g.lv.length Pc2, .int .i64 g.t.1, .int .i64 g.t.2.1, .bool g.t.2.2, .int .i64 g.pd, .int .i64 g.x.1, .int .i64 g.x.2.1, .bool g.x.2.2.1, .int .i64 g.x.2.2.2, .bool g.hl, .slice PA3 g.seen.length Pc3]]) Tryz.func99 rfl Tryz.ntmps99 rfl ?_
 refine Sx.C.seq (Sx.C.region ?_)
 refine Sx.G.b [.slice PA0 g.prog.length Pc0, .int .i64 g.a, .int .i64 g.pc, .slice PA1 g.wr.length Pc1, .slice PA2 g.lv.length Pc2, .int .i64 g.t.1, .int .i64 g.t.2.1, .bool g.t.2.2, .int .i64 g.pd, .int .i64 g.x.1, .int .i64 g.x.2.1, .bool g.x.2.2.1, .int .i64 g.x.2.2.2, .bool g.hl, .slice PA3 g.seen.length Pc3] (fun b1 => ?_)
 refine Sx.G.p (.int .i64 0) ?_
 refine Sx.G.nil (Sx.E.next (Sx.C.block (Sx.C.seq (Sx.C.region ?_))))
 refine Sx.G.lw .m0 ?_
 refine Sx.G.cp 72 #[.agg #[.slice PA0 g.prog.length Pc0, .int .i64 g.a, .int .i64 g.pc, .slice PA1 g.wr.length Pc1, .slice PA2 g.lv.length Pc2, .int .i64 g.t.1, .int .i64 g.t.2.1, .bool g.t.2.2, .int .i64 g.pd, .int .i64 g.x.1, .int .i64 g.x.2.1, .bool g.x.2.2.1, .int .i64 g.x.2.2.2, .bool g.hl, .slice PA3 g.seen.length Pc3]] (.bool (canRun g)) (fun w S => by exact impl_canRun g _ _ hn hc (St.old S hr)) ?_
 refine Sx.G.p (.bool (!(canRun g))) ?_
 refine Sx.G.p (.bool (!(canRun g))) ?_
 refine Sx.G.nil (Sx.E.next ?_)
 cases hc2 : (canRun g)
 ·
  have hb2 := hc2
  refine Sx.C.yy ?_
  refine Sx.C.seq (Sx.C.region ?_)
  refine Sx.G.p (.int .i64 0) ?_
  refine Sx.G.nil (Sx.E.next (Sx.C.ret (Sx.E.block_ret ?_)))
  refine Sx.E.ret1 (.int .i64 0) rfl (by kernel_rfl) (fun w S => ?_)
  exact ⟨congrArg Ending.returned (congrArg (Value.int .i64) (by simp [wantG, hb2])), S.below⟩
 ·
  have hb2 := hc2
  refine Sx.C.nn ?_
  refine Sx.C.seq (Sx.C.region ?_)
  refine Sx.G.lw .m0 ?_
  refine Sx.G.cp 153 #[.agg #[.slice PA0 g.prog.length Pc0, .int .i64 g.a, .int .i64 g.pc, .slice PA1 g.wr.length Pc1, .slice PA2 g.lv.length Pc2, .int .i64 g.t.1, .int .i64 g.t.2.1, .bool g.t.2.2, .int .i64 g.pd, .int .i64 g.x.1, .int .i64 g.x.2.1, .bool g.x.2.2.1, .int .i64 g.x.2.2.2, .bool g.hl, .slice PA3 g.seen.length Pc3]] (.bool (takesI g)) (fun w S => by exact impl_takes g _ _ hn hc (St.old S hr)) ?_
  refine Sx.G.p (.bool (takesI g)) ?_
  refine Sx.G.nil (Sx.E.next ?_)
  cases hc3 : (takesI g)
  ·
   have hb3 := hc3
   refine Sx.C.nn ?_
   refine Sx.C.seq (Sx.C.region ?_)
   refine Sx.G.lw .m0 ?_
   refine Sx.G.cp 109 #[.agg #[.slice PA0 g.prog.length Pc0, .int .i64 g.a, .int .i64 g.pc, .slice PA1 g.wr.length Pc1, .slice PA2 g.lv.length Pc2, .int .i64 g.t.1, .int .i64 g.t.2.1, .bool g.t.2.2, .int .i64 g.pd, .int .i64 g.x.1, .int .i64 g.x.2.1, .bool g.x.2.2.1, .int .i64 g.x.2.2.2, .bool g.hl, .slice PA3 g.seen.length Pc3]] (.agg #[.int .i64 (insAt g.prog g.pc).1, .int .i64 (insAt g.prog g.pc).2]) (fun w S => by exact impl_next g _ _ hn hc (St.old S hr)) ?_
   refine Sx.G.p (.int .i64 (insAt g.prog g.pc).1) ?_
   refine Sx.G.cp 154 #[.int .i64 (insAt g.prog g.pc).1] (.int .i64 (opWant ((insAt g.prog g.pc).1))) (fun w S => by exact impl_op ((insAt g.prog g.pc).1) _) ?_
   refine Sx.G.p (.int .i64 (opWant ((insAt g.prog g.pc).1))) ?_
   refine Sx.G.nil (Sx.E.next (Sx.C.ret (Sx.E.block_ret ?_)))
   refine Sx.E.ret1 (.int .i64 (opWant ((insAt g.prog g.pc).1))) rfl (by kernel_rfl) (fun w S => ?_)
   exact ⟨congrArg Ending.returned (congrArg (Value.int .i64) (by simp [wantG, hb2, hb3])), S.below⟩
  ·
   have hb3 := hc3
   refine Sx.C.yy ?_
   refine Sx.C.seq (Sx.C.region ?_)
   refine Sx.G.p (.int .i64 1) ?_
   refine Sx.G.nil (Sx.E.next (Sx.C.ret (Sx.E.block_ret ?_)))
   refine Sx.E.ret1 (.int .i64 1) rfl (by kernel_rfl) (fun w S => ?_)
   exact ⟨congrArg Ending.returned (congrArg (Value.int .i64) (by simp [wantG, hb2, hb3])), S.below⟩
theorem impl_addr (g : gT) (cs : List Value) (w : World) (hn : gnum g) (hc : rG.cap g) (h : rG.rd w 0 w.heap.size g cs) : Calls Tryz.prog 159 #[.agg cs.toArray] w (fun e w' => e = .returned (.int .i64 (addrG g)) ∧ Below w.heap.size w w') := by
 have hr := h
 obtain ⟨P0, P1, P2, P3, rfl, h0, h1, h2, h3⟩ := rG_rd h
 obtain ⟨PA0, Pc0, e0, hP0⟩ := lst_val h0
 subst e0
 obtain ⟨PA1, Pc1, e1, hP1⟩ := lst_val h1
 subst e1
 obtain ⟨PA2, Pc2, e2, hP2⟩ := lst_val h2
 subst e2
 obtain ⟨PA3, Pc3, e3, hP3⟩ := lst_val h3
 subst e3
 refine Sx.enter (args := [.agg #[.slice PA0 g.prog.length Pc0, .int .i64 g.a, .int .i64 g.pc, .slice PA1 g.wr.length Pc1, .slice PA2 g.lv.length Pc2, .int .i64 g.t.1, .int .i64 g.t.2.1, .bool g.t.2.2, .int .i64 g.pd, .int .i64 g.x.1, .int .i64 g.x.2.1, .bool g.x.2.2.1, .int .i64 g.x.2.2.2, .bool g.hl, .slice PA3 g.seen.length Pc3]]) Tryz.func159 rfl Tryz.ntmps159 rfl ?_
 refine Sx.C.seq (Sx.C.region ?_)
 refine Sx.G.b [.slice PA0 g.prog.length Pc0, .int .i64 g.a, .int .i64 g.pc, .slice PA1 g.wr.length Pc1, .slice PA2 g.lv.length Pc2, .int .i64 g.t.1, .int .i64 g.t.2.1, .bool g.t.2.2, .int .i64 g.pd, .int .i64 g.x.1, .int .i64 g.x.2.1, .bool g.x.2.2.1, .int .i64 g.x.2.2.2, .bool g.hl, .slice PA3 g.seen.length Pc3] (fun b1 => ?_)
 refine Sx.G.p (.int .i64 0) ?_
 refine Sx.G.nil (Sx.E.next (Sx.C.seq (Sx.C.region ?_)))
 refine Sx.G.lw .m0 ?_
 refine Sx.G.cp 99 #[.agg #[.slice PA0 g.prog.length Pc0, .int .i64 g.a, .int .i64 g.pc, .slice PA1 g.wr.length Pc1, .slice PA2 g.lv.length Pc2, .int .i64 g.t.1, .int .i64 g.t.2.1, .bool g.t.2.2, .int .i64 g.pd, .int .i64 g.x.1, .int .i64 g.x.2.1, .bool g.x.2.2.1, .int .i64 g.x.2.2.2, .bool g.hl, .slice PA3 g.seen.length Pc3]] (.int .i64 (wantG g)) (fun w S => by exact impl_want g _ _ hn hc (St.old S hr)) ?_
 refine Sx.G.nil (Sx.E.next (Sx.C.block (Sx.C.seq (Sx.C.seq (Sx.C.region ?_)))))
 refine Sx.G.p (.bool ((wantG g) == 3)) ?_
 refine Sx.G.p (.bool ((wantG g) == 3)) ?_
 refine Sx.G.nil (Sx.E.next ?_)
 cases hc2 : ((wantG g) == 3)
 ·
  have hb2 := hc2
  refine Sx.C.nn (Sx.C.region ?_)
  refine Sx.G.p (.bool ((wantG g) == 4)) ?_
  refine Sx.G.p (.bool ((wantG g) == 4)) ?_
  refine Sx.G.nil (Sx.E.next ?_)
  cases hc3 : ((wantG g) == 4)
  ·
   have hb3 := hc3
   refine Sx.C.nn ?_
   refine Sx.C.seq (Sx.C.region ?_)
   refine Sx.G.p (.int .i64 (-1)) ?_
   refine Sx.G.nil (Sx.E.next (Sx.C.ret (Sx.E.block_ret ?_)))
   refine Sx.E.ret1 (.int .i64 (-1)) rfl (by kernel_rfl) (fun w S => ?_)
   exact ⟨congrArg Ending.returned (congrArg (Value.int .i64) (by simp only [addrG, hb2, hb3, Bool.and_true, Bool.and_false, Bool.false_and, Bool.true_and, Bool.or_true, Bool.or_false, Bool.true_or, Bool.false_or, Bool.not_true, Bool.not_false, Bool.false_eq_true, if_true, if_false, bne, ite_true, ite_false, reduceIte])), S.below⟩
  ·
   have hb3 := hc3
   refine Sx.C.yy ?_
   refine Sx.C.seq (Sx.C.region ?_)
   refine Sx.G.lw .m0 ?_
   refine Sx.G.cp 109 #[.agg #[.slice PA0 g.prog.length Pc0, .int .i64 g.a, .int .i64 g.pc, .slice PA1 g.wr.length Pc1, .slice PA2 g.lv.length Pc2, .int .i64 g.t.1, .int .i64 g.t.2.1, .bool g.t.2.2, .int .i64 g.pd, .int .i64 g.x.1, .int .i64 g.x.2.1, .bool g.x.2.2.1, .int .i64 g.x.2.2.2, .bool g.hl, .slice PA3 g.seen.length Pc3]] (.agg #[.int .i64 (insAt g.prog g.pc).1, .int .i64 (insAt g.prog g.pc).2]) (fun w S => by exact impl_next g _ _ hn hc (St.old S hr)) ?_
   refine Sx.G.p (.int .i64 (insAt g.prog g.pc).2) ?_
   refine Sx.G.p (.int .i64 (insAt g.prog g.pc).2) ?_
   refine Sx.G.nil (Sx.E.next (Sx.C.ret (Sx.E.block_ret ?_)))
   refine Sx.E.ret1 (.int .i64 (insAt g.prog g.pc).2) rfl (by kernel_rfl) (fun w S => ?_)
   exact ⟨congrArg Ending.returned (congrArg (Value.int .i64) (by simp only [addrG, hb2, hb3, Bool.and_true, Bool.and_false, Bool.false_and, Bool.true_and, Bool.or_true, Bool.or_false, Bool.true_or, Bool.false_or, Bool.not_true, Bool.not_false, Bool.false_eq_true, if_true, if_false, bne, ite_true, ite_false, reduceIte])), S.below⟩
 ·
  have hb2 := hc2
  refine Sx.C.yy ?_
  refine Sx.C.skip (Sx.E.next ?_)
  refine Sx.C.yy ?_
  refine Sx.C.seq (Sx.C.region ?_)
  refine Sx.G.lw .m0 ?_
  refine Sx.G.cp 109 #[.agg #[.slice PA0 g.prog.length Pc0, .int .i64 g.a, .int .i64 g.pc, .slice PA1 g.wr.length Pc1, .slice PA2 g.lv.length Pc2, .int .i64 g.t.1, .int .i64 g.t.2.1, .bool g.t.2.2, .int .i64 g.pd, .int .i64 g.x.1, .int .i64 g.x.2.1, .bool g.x.2.2.1, .int .i64 g.x.2.2.2, .bool g.hl, .slice PA3 g.seen.length Pc3]] (.agg #[.int .i64 (insAt g.prog g.pc).1, .int .i64 (insAt g.prog g.pc).2]) (fun w S => by exact impl_next g _ _ hn hc (St.old S hr)) ?_
  refine Sx.G.p (.int .i64 (insAt g.prog g.pc).2) ?_
  refine Sx.G.p (.int .i64 (insAt g.prog g.pc).2) ?_
  refine Sx.G.nil (Sx.E.next (Sx.C.ret (Sx.E.block_ret ?_)))
  refine Sx.E.ret1 (.int .i64 (insAt g.prog g.pc).2) rfl (by kernel_rfl) (fun w S => ?_)
  exact ⟨congrArg Ending.returned (congrArg (Value.int .i64) (by simp only [addrG, hb2, Bool.and_true, Bool.and_false, Bool.false_and, Bool.true_and, Bool.or_true, Bool.or_false, Bool.true_or, Bool.false_or, Bool.not_true, Bool.not_false, Bool.false_eq_true, if_true, if_false, bne, ite_true, ite_false, reduceIte])), S.below⟩
theorem impl_moved_g (g : gT) (cs : List Value) (w : World) (hc : rG.cap g) (h : rG.rd w 0 w.heap.size g cs) : Calls Tryz.prog 165 #[.agg cs.toArray] w (Gives rG w (movedG g)) := by
 have hr := h
 obtain ⟨P0, P1, P2, P3, rfl, h0, h1, h2, h3⟩ := rG_rd h
 obtain ⟨PA0, Pc0, e0, hP0⟩ := lst_val h0
 subst e0
 obtain ⟨PA1, Pc1, e1, hP1⟩ := lst_val h1
 subst e1
 obtain ⟨PA2, Pc2, e2, hP2⟩ := lst_val h2
 subst e2
 obtain ⟨PA3, Pc3, e3, hP3⟩ := lst_val h3
 subst e3
 refine Sx.enter (args := [.agg #[.slice PA0 g.prog.length Pc0, .int .i64 g.a, .int .i64 g.pc, .slice PA1 g.wr.length Pc1, .slice PA2 g.lv.length Pc2, .int .i64 g.t.1, .int .i64 g.t.2.1, .bool g.t.2.2, .int .i64 g.pd, .int .i64 g.x.1, .int .i64 g.x.2.1, .bool g.x.2.2.1, .int .i64 g.x.2.2.2, .bool g.hl, .slice PA3 g.seen.length Pc3]]) Tryz.func165 rfl Tryz.ntmps165 rfl ?_
 refine Sx.C.seq (Sx.C.region ?_)
 refine Sx.G.b [.slice PA0 g.prog.length Pc0, .int .i64 g.a, .int .i64 g.pc, .slice PA1 g.wr.length Pc1, .slice PA2 g.lv.length Pc2, .int .i64 g.t.1, .int .i64 g.t.2.1, .bool g.t.2.2, .int .i64 g.pd, .int .i64 g.x.1, .int .i64 g.x.2.1, .bool g.x.2.2.1, .int .i64 g.x.2.2.2, .bool g.hl, .slice PA3 g.seen.length Pc3] (fun b1 => ?_)
 refine Sx.G.ar [.slice none 0 0, .int .i64 0, .int .i64 0, .slice none 0 0, .slice none 0 0, .int .i64 0, .int .i64 0, .bool false, .int .i64 0, .int .i64 0, .int .i64 0, .bool false, .int .i64 0, .bool false, .slice none 0 0] (fun b2 => ?_)
 refine Sx.G.nil (Sx.E.next (Sx.C.seq (Sx.C.region ?_)))
 refine Sx.G.lw .m1 ?_
 refine Sx.G.c 168 #[.agg #[.slice PA0 g.prog.length Pc0, .int .i64 g.a, .int .i64 g.pc, .slice PA1 g.wr.length Pc1, .slice PA2 g.lv.length Pc2, .int .i64 g.t.1, .int .i64 g.t.2.1, .bool g.t.2.2, .int .i64 g.pd, .int .i64 g.x.1, .int .i64 g.x.2.1, .bool g.x.2.2.1, .int .i64 g.x.2.2.2, .bool g.hl, .slice PA3 g.seen.length Pc3], .func (.func 207) #[] #[], .int .i64 0] (fun w3 S => (after_moveOn g _ 0 _ (by exact hc) (St.old S hr)).mono fun e w3' hp => ?_)
 obtain ⟨cs, F, rfl, ho, hF, hb⟩ := hp
 obtain ⟨q3_0, q3_1, q3_2, q3_3, G3_0, G3_1, G3_2, G3_3, rfl, S'⟩ := rG_open (S.got hb ho hF)
 obtain ⟨q3A0, q3c0, e0, -⟩ := lst_val (S'.reads 0 rfl)
 subst e0
 obtain ⟨q3A1, q3c1, e1, -⟩ := lst_val (S'.reads 1 rfl)
 subst e1
 obtain ⟨q3A2, q3c2, e2, -⟩ := lst_val (S'.reads 2 rfl)
 subst e2
 obtain ⟨q3A3, q3c3, e3, -⟩ := lst_val (S'.reads 3 rfl)
 subst e3
 refine ⟨_, _, rfl, S', ?_⟩
 clear S S' ho hF hb
 refine Sx.G.sw [.slice q3A0 (movedG g).prog.length q3c0, .int .i64 (movedG g).a, .int .i64 (movedG g).pc, .slice q3A1 (movedG g).wr.length q3c1, .slice q3A2 (movedG g).lv.length q3c2, .int .i64 (movedG g).t.1, .int .i64 (movedG g).t.2.1, .bool (movedG g).t.2.2, .int .i64 (movedG g).pd, .int .i64 (movedG g).x.1, .int .i64 (movedG g).x.2.1, .bool (movedG g).x.2.2.1, .int .i64 (movedG g).x.2.2.2, .bool (movedG g).hl, .slice q3A3 (movedG g).seen.length q3c3] .a4 ?_
 refine Sx.G.nil (Sx.E.next (Sx.C.ret ?_))
 refine Sx.E.retc b2 4 [.slice q3A0 (movedG g).prog.length q3c0, .int .i64 (movedG g).a, .int .i64 (movedG g).pc, .slice q3A1 (movedG g).wr.length q3c1, .slice q3A2 (movedG g).lv.length q3c2, .int .i64 (movedG g).t.1, .int .i64 (movedG g).t.2.1, .bool (movedG g).t.2.2, .int .i64 (movedG g).pd, .int .i64 (movedG g).x.1, .int .i64 (movedG g).x.2.1, .bool (movedG g).x.2.2.1, .int .i64 (movedG g).x.2.2.2, .bool (movedG g).hl, .slice q3A3 (movedG g).seen.length q3c3] rfl (by kernel_rfl) rfl (by kernel_rfl) (by kernel_rfl) (fun w S => ?_)
 obtain ⟨ho, hF⟩ := rG_shut (g := movedG g) S 0 rfl 1 rfl 2 rfl 3 rfl (by decide) (by decide) (by decide) (by decide) (by decide) (by decide)
 exact ⟨_, _, rfl, ho, hF, S.below⟩
theorem impl_stored_g (g : gT) (cs : List Value) (w : World) (hc : rG.cap g) (h : rG.rd w 0 w.heap.size g cs) : Calls Tryz.prog 163 #[.agg cs.toArray] w (Gives rG w (movedG g)) := by
 have hr := h
 obtain ⟨P0, P1, P2, P3, rfl, h0, h1, h2, h3⟩ := rG_rd h
 obtain ⟨PA0, Pc0, e0, hP0⟩ := lst_val h0
 subst e0
 obtain ⟨PA1, Pc1, e1, hP1⟩ := lst_val h1
 subst e1
 obtain ⟨PA2, Pc2, e2, hP2⟩ := lst_val h2
 subst e2
 obtain ⟨PA3, Pc3, e3, hP3⟩ := lst_val h3
 subst e3
 refine Sx.enter (args := [.agg #[.slice PA0 g.prog.length Pc0, .int .i64 g.a, .int .i64 g.pc, .slice PA1 g.wr.length Pc1, .slice PA2 g.lv.length Pc2, .int .i64 g.t.1, .int .i64 g.t.2.1, .bool g.t.2.2, .int .i64 g.pd, .int .i64 g.x.1, .int .i64 g.x.2.1, .bool g.x.2.2.1, .int .i64 g.x.2.2.2, .bool g.hl, .slice PA3 g.seen.length Pc3]]) Tryz.func163 rfl Tryz.ntmps163 rfl ?_
 refine Sx.C.seq (Sx.C.region ?_)
 refine Sx.G.b [.slice PA0 g.prog.length Pc0, .int .i64 g.a, .int .i64 g.pc, .slice PA1 g.wr.length Pc1, .slice PA2 g.lv.length Pc2, .int .i64 g.t.1, .int .i64 g.t.2.1, .bool g.t.2.2, .int .i64 g.pd, .int .i64 g.x.1, .int .i64 g.x.2.1, .bool g.x.2.2.1, .int .i64 g.x.2.2.2, .bool g.hl, .slice PA3 g.seen.length Pc3] (fun b1 => ?_)
 refine Sx.G.ar [.slice none 0 0, .int .i64 0, .int .i64 0, .slice none 0 0, .slice none 0 0, .int .i64 0, .int .i64 0, .bool false, .int .i64 0, .int .i64 0, .int .i64 0, .bool false, .int .i64 0, .bool false, .slice none 0 0] (fun b2 => ?_)
 refine Sx.G.nil (Sx.E.next (Sx.C.seq (Sx.C.region ?_)))
 refine Sx.G.lw .m1 ?_
 refine Sx.G.c 165 #[.agg #[.slice PA0 g.prog.length Pc0, .int .i64 g.a, .int .i64 g.pc, .slice PA1 g.wr.length Pc1, .slice PA2 g.lv.length Pc2, .int .i64 g.t.1, .int .i64 g.t.2.1, .bool g.t.2.2, .int .i64 g.pd, .int .i64 g.x.1, .int .i64 g.x.2.1, .bool g.x.2.2.1, .int .i64 g.x.2.2.2, .bool g.hl, .slice PA3 g.seen.length Pc3]] (fun w3 S => (impl_moved_g g _ _ hc (St.old S hr)).mono fun e w3' hp => ?_)
 obtain ⟨cs, F, rfl, ho, hF, hb⟩ := hp
 obtain ⟨q3_0, q3_1, q3_2, q3_3, G3_0, G3_1, G3_2, G3_3, rfl, S'⟩ := rG_open (S.got hb ho hF)
 obtain ⟨q3A0, q3c0, e0, -⟩ := lst_val (S'.reads 0 rfl)
 subst e0
 obtain ⟨q3A1, q3c1, e1, -⟩ := lst_val (S'.reads 1 rfl)
 subst e1
 obtain ⟨q3A2, q3c2, e2, -⟩ := lst_val (S'.reads 2 rfl)
 subst e2
 obtain ⟨q3A3, q3c3, e3, -⟩ := lst_val (S'.reads 3 rfl)
 subst e3
 refine ⟨_, _, rfl, S', ?_⟩
 clear S S' ho hF hb
 refine Sx.G.sw [.slice q3A0 (movedG g).prog.length q3c0, .int .i64 (movedG g).a, .int .i64 (movedG g).pc, .slice q3A1 (movedG g).wr.length q3c1, .slice q3A2 (movedG g).lv.length q3c2, .int .i64 (movedG g).t.1, .int .i64 (movedG g).t.2.1, .bool (movedG g).t.2.2, .int .i64 (movedG g).pd, .int .i64 (movedG g).x.1, .int .i64 (movedG g).x.2.1, .bool (movedG g).x.2.2.1, .int .i64 (movedG g).x.2.2.2, .bool (movedG g).hl, .slice q3A3 (movedG g).seen.length q3c3] .a4 ?_
 refine Sx.G.nil (Sx.E.next (Sx.C.ret ?_))
 refine Sx.E.retc b2 4 [.slice q3A0 (movedG g).prog.length q3c0, .int .i64 (movedG g).a, .int .i64 (movedG g).pc, .slice q3A1 (movedG g).wr.length q3c1, .slice q3A2 (movedG g).lv.length q3c2, .int .i64 (movedG g).t.1, .int .i64 (movedG g).t.2.1, .bool (movedG g).t.2.2, .int .i64 (movedG g).pd, .int .i64 (movedG g).x.1, .int .i64 (movedG g).x.2.1, .bool (movedG g).x.2.2.1, .int .i64 (movedG g).x.2.2.2, .bool (movedG g).hl, .slice q3A3 (movedG g).seen.length q3c3] rfl (by kernel_rfl) rfl (by kernel_rfl) (by kernel_rfl) (fun w S => ?_)
 obtain ⟨ho, hF⟩ := rG_shut (g := movedG g) S 0 rfl 1 rfl 2 rfl 3 rfl (by decide) (by decide) (by decide) (by decide) (by decide) (by decide)
 exact ⟨_, _, rfl, ho, hF, S.below⟩
theorem impl_held_g (g : gT) (cs : List Value) (w : World) (hc : rG.cap g) (h : rG.rd w 0 w.heap.size g cs) : Calls Tryz.prog 167 #[.agg cs.toArray] w (Gives rG w (heldG g)) := by
 have hr := h
 obtain ⟨P0, P1, P2, P3, rfl, h0, h1, h2, h3⟩ := rG_rd h
 obtain ⟨PA0, Pc0, e0, hP0⟩ := lst_val h0
 subst e0
 obtain ⟨PA1, Pc1, e1, hP1⟩ := lst_val h1
 subst e1
 obtain ⟨PA2, Pc2, e2, hP2⟩ := lst_val h2
 subst e2
 obtain ⟨PA3, Pc3, e3, hP3⟩ := lst_val h3
 subst e3
 refine Sx.enter (args := [.agg #[.slice PA0 g.prog.length Pc0, .int .i64 g.a, .int .i64 g.pc, .slice PA1 g.wr.length Pc1, .slice PA2 g.lv.length Pc2, .int .i64 g.t.1, .int .i64 g.t.2.1, .bool g.t.2.2, .int .i64 g.pd, .int .i64 g.x.1, .int .i64 g.x.2.1, .bool g.x.2.2.1, .int .i64 g.x.2.2.2, .bool g.hl, .slice PA3 g.seen.length Pc3]]) Tryz.func167 rfl Tryz.ntmps167 rfl ?_
 refine Sx.C.seq (Sx.C.region ?_)
 refine Sx.G.b [.slice PA0 g.prog.length Pc0, .int .i64 g.a, .int .i64 g.pc, .slice PA1 g.wr.length Pc1, .slice PA2 g.lv.length Pc2, .int .i64 g.t.1, .int .i64 g.t.2.1, .bool g.t.2.2, .int .i64 g.pd, .int .i64 g.x.1, .int .i64 g.x.2.1, .bool g.x.2.2.1, .int .i64 g.x.2.2.2, .bool g.hl, .slice PA3 g.seen.length Pc3] (fun b1 => ?_)
 refine Sx.G.ar [.slice none 0 0, .int .i64 0, .int .i64 0, .slice none 0 0, .slice none 0 0, .int .i64 0, .int .i64 0, .bool false, .int .i64 0, .int .i64 0, .int .i64 0, .bool false, .int .i64 0, .bool false, .slice none 0 0] (fun b2 => ?_)
 refine Sx.G.nil (Sx.E.next (Sx.C.seq (Sx.C.region ?_)))
 refine Sx.G.lw .m1 ?_
 refine Sx.G.c 168 #[.agg #[.slice PA0 g.prog.length Pc0, .int .i64 g.a, .int .i64 g.pc, .slice PA1 g.wr.length Pc1, .slice PA2 g.lv.length Pc2, .int .i64 g.t.1, .int .i64 g.t.2.1, .bool g.t.2.2, .int .i64 g.pd, .int .i64 g.x.1, .int .i64 g.x.2.1, .bool g.x.2.2.1, .int .i64 g.x.2.2.2, .bool g.hl, .slice PA3 g.seen.length Pc3], .func (.func 208) #[] #[], .int .i64 0] (fun w3 S => (after_hold g _ 0 _ (by exact hc) (St.old S hr)).mono fun e w3' hp => ?_)
 obtain ⟨cs, F, rfl, ho, hF, hb⟩ := hp
 obtain ⟨q3_0, q3_1, q3_2, q3_3, G3_0, G3_1, G3_2, G3_3, rfl, S'⟩ := rG_open (S.got hb ho hF)
 obtain ⟨q3A0, q3c0, e0, -⟩ := lst_val (S'.reads 0 rfl)
 subst e0
 obtain ⟨q3A1, q3c1, e1, -⟩ := lst_val (S'.reads 1 rfl)
 subst e1
 obtain ⟨q3A2, q3c2, e2, -⟩ := lst_val (S'.reads 2 rfl)
 subst e2
 obtain ⟨q3A3, q3c3, e3, -⟩ := lst_val (S'.reads 3 rfl)
 subst e3
 refine ⟨_, _, rfl, S', ?_⟩
 clear S S' ho hF hb
 refine Sx.G.sw [.slice q3A0 (heldG g).prog.length q3c0, .int .i64 (heldG g).a, .int .i64 (heldG g).pc, .slice q3A1 (heldG g).wr.length q3c1, .slice q3A2 (heldG g).lv.length q3c2, .int .i64 (heldG g).t.1, .int .i64 (heldG g).t.2.1, .bool (heldG g).t.2.2, .int .i64 (heldG g).pd, .int .i64 (heldG g).x.1, .int .i64 (heldG g).x.2.1, .bool (heldG g).x.2.2.1, .int .i64 (heldG g).x.2.2.2, .bool (heldG g).hl, .slice q3A3 (heldG g).seen.length q3c3] .a4 ?_
 refine Sx.G.nil (Sx.E.next (Sx.C.ret ?_))
 refine Sx.E.retc b2 4 [.slice q3A0 (heldG g).prog.length q3c0, .int .i64 (heldG g).a, .int .i64 (heldG g).pc, .slice q3A1 (heldG g).wr.length q3c1, .slice q3A2 (heldG g).lv.length q3c2, .int .i64 (heldG g).t.1, .int .i64 (heldG g).t.2.1, .bool (heldG g).t.2.2, .int .i64 (heldG g).pd, .int .i64 (heldG g).x.1, .int .i64 (heldG g).x.2.1, .bool (heldG g).x.2.2.1, .int .i64 (heldG g).x.2.2.2, .bool (heldG g).hl, .slice q3A3 (heldG g).seen.length q3c3] rfl (by kernel_rfl) rfl (by kernel_rfl) (by kernel_rfl) (fun w S => ?_)
 obtain ⟨ho, hF⟩ := rG_shut (g := heldG g) S 0 rfl 1 rfl 2 rfl 3 rfl (by decide) (by decide) (by decide) (by decide) (by decide) (by decide)
 exact ⟨_, _, rfl, ho, hF, S.below⟩
theorem impl_loaded_g (g : gT) (cs : List Value) (v : Int) (w : World) (hc : rG.cap g) (h : rG.rd w 0 w.heap.size g cs) : Calls Tryz.prog 162 #[.agg cs.toArray, .int .i64 v] w (Gives rG w (loadedG g v)) := by
 have hr := h
 obtain ⟨P0, P1, P2, P3, rfl, h0, h1, h2, h3⟩ := rG_rd h
 obtain ⟨PA0, Pc0, e0, hP0⟩ := lst_val h0
 subst e0
 obtain ⟨PA1, Pc1, e1, hP1⟩ := lst_val h1
 subst e1
 obtain ⟨PA2, Pc2, e2, hP2⟩ := lst_val h2
 subst e2
 obtain ⟨PA3, Pc3, e3, hP3⟩ := lst_val h3
 subst e3
 refine Sx.enter (args := [.agg #[.slice PA0 g.prog.length Pc0, .int .i64 g.a, .int .i64 g.pc, .slice PA1 g.wr.length Pc1, .slice PA2 g.lv.length Pc2, .int .i64 g.t.1, .int .i64 g.t.2.1, .bool g.t.2.2, .int .i64 g.pd, .int .i64 g.x.1, .int .i64 g.x.2.1, .bool g.x.2.2.1, .int .i64 g.x.2.2.2, .bool g.hl, .slice PA3 g.seen.length Pc3], .int .i64 v]) Tryz.func162 rfl Tryz.ntmps162 rfl ?_
 refine Sx.C.seq (Sx.C.region ?_)
 refine Sx.G.b [.slice PA0 g.prog.length Pc0, .int .i64 g.a, .int .i64 g.pc, .slice PA1 g.wr.length Pc1, .slice PA2 g.lv.length Pc2, .int .i64 g.t.1, .int .i64 g.t.2.1, .bool g.t.2.2, .int .i64 g.pd, .int .i64 g.x.1, .int .i64 g.x.2.1, .bool g.x.2.2.1, .int .i64 g.x.2.2.2, .bool g.hl, .slice PA3 g.seen.length Pc3] (fun b1 => ?_)
 refine Sx.G.ar [.slice none 0 0, .int .i64 0, .int .i64 0, .slice none 0 0, .slice none 0 0, .int .i64 0, .int .i64 0, .bool false, .int .i64 0, .int .i64 0, .int .i64 0, .bool false, .int .i64 0, .bool false, .slice none 0 0] (fun b2 => ?_)
 refine Sx.G.nil (Sx.E.next (Sx.C.seq (Sx.C.region ?_)))
 refine Sx.G.lw .m1 ?_
 refine Sx.G.p (.int .i64 v) ?_
 refine Sx.G.c 168 #[.agg #[.slice PA0 g.prog.length Pc0, .int .i64 g.a, .int .i64 g.pc, .slice PA1 g.wr.length Pc1, .slice PA2 g.lv.length Pc2, .int .i64 g.t.1, .int .i64 g.t.2.1, .bool g.t.2.2, .int .i64 g.pd, .int .i64 g.x.1, .int .i64 g.x.2.1, .bool g.x.2.2.1, .int .i64 g.x.2.2.2, .bool g.hl, .slice PA3 g.seen.length Pc3], .func (.func 206) #[] #[], .int .i64 v] (fun w3 S => (after_loadIntoA g _ v _ (by exact hc) (St.old S hr)).mono fun e w3' hp => ?_)
 obtain ⟨cs, F, rfl, ho, hF, hb⟩ := hp
 obtain ⟨q3_0, q3_1, q3_2, q3_3, G3_0, G3_1, G3_2, G3_3, rfl, S'⟩ := rG_open (S.got hb ho hF)
 obtain ⟨q3A0, q3c0, e0, -⟩ := lst_val (S'.reads 0 rfl)
 subst e0
 obtain ⟨q3A1, q3c1, e1, -⟩ := lst_val (S'.reads 1 rfl)
 subst e1
 obtain ⟨q3A2, q3c2, e2, -⟩ := lst_val (S'.reads 2 rfl)
 subst e2
 obtain ⟨q3A3, q3c3, e3, -⟩ := lst_val (S'.reads 3 rfl)
 subst e3
 refine ⟨_, _, rfl, S', ?_⟩
 clear S S' ho hF hb
 refine Sx.G.sw [.slice q3A0 (loadedG g v).prog.length q3c0, .int .i64 (loadedG g v).a, .int .i64 (loadedG g v).pc, .slice q3A1 (loadedG g v).wr.length q3c1, .slice q3A2 (loadedG g v).lv.length q3c2, .int .i64 (loadedG g v).t.1, .int .i64 (loadedG g v).t.2.1, .bool (loadedG g v).t.2.2, .int .i64 (loadedG g v).pd, .int .i64 (loadedG g v).x.1, .int .i64 (loadedG g v).x.2.1, .bool (loadedG g v).x.2.2.1, .int .i64 (loadedG g v).x.2.2.2, .bool (loadedG g v).hl, .slice q3A3 (loadedG g v).seen.length q3c3] .a4 ?_
 refine Sx.G.nil (Sx.E.next (Sx.C.ret ?_))
 refine Sx.E.retc b2 4 [.slice q3A0 (loadedG g v).prog.length q3c0, .int .i64 (loadedG g v).a, .int .i64 (loadedG g v).pc, .slice q3A1 (loadedG g v).wr.length q3c1, .slice q3A2 (loadedG g v).lv.length q3c2, .int .i64 (loadedG g v).t.1, .int .i64 (loadedG g v).t.2.1, .bool (loadedG g v).t.2.2, .int .i64 (loadedG g v).pd, .int .i64 (loadedG g v).x.1, .int .i64 (loadedG g v).x.2.1, .bool (loadedG g v).x.2.2.1, .int .i64 (loadedG g v).x.2.2.2, .bool (loadedG g v).hl, .slice q3A3 (loadedG g v).seen.length q3c3] rfl (by kernel_rfl) rfl (by kernel_rfl) (by kernel_rfl) (fun w S => ?_)
 obtain ⟨ho, hF⟩ := rG_shut (g := loadedG g v) S 0 rfl 1 rfl 2 rfl 3 rfl (by decide) (by decide) (by decide) (by decide) (by decide) (by decide)
 exact ⟨_, _, rfl, ho, hF, S.below⟩
theorem plain_a (g : gT) (cs : List Value) (w : World) (hn : gnum g) (hc : rG.cap g) (h : rG.rd w 0 w.heap.size g cs) (z1 : (inB g.a 0 99 && inB (insAt g.prog g.pc).2 0 99) = true) (z2 : ((insAt g.prog g.pc).1 == 1) = true) : Calls Tryz.prog 111 #[.agg cs.toArray] w (Gives rG w (plainG g)) := by
 have he : effV g.a (insAt g.prog g.pc) = .func (.func 210) #[] #[] := by simp only [effV, z1, z2, Bool.and_true, Bool.and_false, Bool.false_and, Bool.true_and, Bool.false_eq_true, if_true, if_false, reduceIte]
 have hr := h
 obtain ⟨P0, P1, P2, P3, rfl, h0, h1, h2, h3⟩ := rG_rd h
 obtain ⟨PA0, Pc0, e0, hP0⟩ := lst_val h0
 subst e0
 obtain ⟨PA1, Pc1, e1, hP1⟩ := lst_val h1
 subst e1
 obtain ⟨PA2, Pc2, e2, hP2⟩ := lst_val h2
 subst e2
 obtain ⟨PA3, Pc3, e3, hP3⟩ := lst_val h3
 subst e3
 refine Sx.enter (args := [.agg #[.slice PA0 g.prog.length Pc0, .int .i64 g.a, .int .i64 g.pc, .slice PA1 g.wr.length Pc1, .slice PA2 g.lv.length Pc2, .int .i64 g.t.1, .int .i64 g.t.2.1, .bool g.t.2.2, .int .i64 g.pd, .int .i64 g.x.1, .int .i64 g.x.2.1, .bool g.x.2.2.1, .int .i64 g.x.2.2.2, .bool g.hl, .slice PA3 g.seen.length Pc3]]) Tryz.func111 rfl Tryz.ntmps111 rfl ?_
 refine Sx.C.seq (Sx.C.region ?_)
 refine Sx.G.b [.slice PA0 g.prog.length Pc0, .int .i64 g.a, .int .i64 g.pc, .slice PA1 g.wr.length Pc1, .slice PA2 g.lv.length Pc2, .int .i64 g.t.1, .int .i64 g.t.2.1, .bool g.t.2.2, .int .i64 g.pd, .int .i64 g.x.1, .int .i64 g.x.2.1, .bool g.x.2.2.1, .int .i64 g.x.2.2.2, .bool g.hl, .slice PA3 g.seen.length Pc3] (fun b1 => ?_)
 refine Sx.G.ar [.slice none 0 0, .int .i64 0, .int .i64 0, .slice none 0 0, .slice none 0 0, .int .i64 0, .int .i64 0, .bool false, .int .i64 0, .int .i64 0, .int .i64 0, .bool false, .int .i64 0, .bool false, .slice none 0 0] (fun b2 => ?_)
 refine Sx.G.nil (Sx.E.next (Sx.C.seq (Sx.C.seq (Sx.C.region ?_))))
 refine Sx.G.lw .m1 ?_
 refine Sx.G.cp 99 #[.agg #[.slice PA0 g.prog.length Pc0, .int .i64 g.a, .int .i64 g.pc, .slice PA1 g.wr.length Pc1, .slice PA2 g.lv.length Pc2, .int .i64 g.t.1, .int .i64 g.t.2.1, .bool g.t.2.2, .int .i64 g.pd, .int .i64 g.x.1, .int .i64 g.x.2.1, .bool g.x.2.2.1, .int .i64 g.x.2.2.2, .bool g.hl, .slice PA3 g.seen.length Pc3]] (.int .i64 (wantG g)) (fun w S => by exact impl_want g _ _ hn hc (St.old S hr)) ?_
 refine Sx.G.p (.bool ((wantG g) != 2)) ?_
 refine Sx.G.nil (Sx.E.next ?_)
 cases hc3 : ((wantG g) != 2)
 ·
  have hb3 := hc3
  refine Sx.C.nn ?_
  refine Sx.C.skip (Sx.E.next (Sx.C.seq (Sx.C.region ?_)))
  refine Sx.G.lw .m1 ?_
  refine Sx.G.cp 109 #[.agg #[.slice PA0 g.prog.length Pc0, .int .i64 g.a, .int .i64 g.pc, .slice PA1 g.wr.length Pc1, .slice PA2 g.lv.length Pc2, .int .i64 g.t.1, .int .i64 g.t.2.1, .bool g.t.2.2, .int .i64 g.pd, .int .i64 g.x.1, .int .i64 g.x.2.1, .bool g.x.2.2.1, .int .i64 g.x.2.2.2, .bool g.hl, .slice PA3 g.seen.length Pc3]] (.agg #[.int .i64 (insAt g.prog g.pc).1, .int .i64 (insAt g.prog g.pc).2]) (fun w S => by exact impl_next g _ _ hn hc (St.old S hr)) ?_
  refine Sx.G.ar [.int .i64 0, .int .i64 0] (fun b4 => ?_)
  refine Sx.G.sw [.int .i64 (insAt g.prog g.pc).1, .int .i64 (insAt g.prog g.pc).2] .a0 ?_
  refine Sx.G.nil (Sx.E.next (Sx.C.seq ?_))
  refine Sx.C.draw (.take 0 (.take 1 (.take 2 (.take 3 (.take 5 (.take 6 (.alone 4 (.alone 7 (.alone 8 .nil))))))))) [vr b4 [.int .i64 (insAt g.prog g.pc).1, .int .i64 (insAt g.prog g.pc).2], vr b1 [.slice PA0 g.prog.length Pc0, .int .i64 g.a, .int .i64 g.pc, .slice PA1 g.wr.length Pc1, .slice PA2 g.lv.length Pc2, .int .i64 g.t.1, .int .i64 g.t.2.1, .bool g.t.2.2, .int .i64 g.pd, .int .i64 g.x.1, .int .i64 g.x.2.1, .bool g.x.2.2.1, .int .i64 g.x.2.2.2, .bool g.hl, .slice PA3 g.seen.length Pc3]] (fun w S => St.pick S [0, 2] _ rfl (by decide)) (by kernel_rfl) (by kernel_rfl) (by kernel_rfl) ?_
  refine Sx.GT.lw .m1 ?_
  refine Sx.GT.p (.pointer (some ⟨b1, 1, none⟩)) ?_
  refine Sx.GT.g (.int .i64 g.a) .m1 .m1 ?_
  refine Sx.GT.lw .m0 ?_
  refine Sx.GT.p (.pointer (some ⟨b4, 1, none⟩)) ?_
  refine Sx.GT.g (.int .i64 (insAt g.prog g.pc).2) .m0 .m1 ?_
  refine Sx.GT.alone (Sx.Alone.cp 170 #[.int .i64 g.a, .agg #[.int .i64 (insAt g.prog g.pc).1, .int .i64 (insAt g.prog g.pc).2]] (.func (.func 210) #[] #[]) (fun w S => by exact ((impl_effect g.a (insAt g.prog g.pc) _).mono fun e w' h => And.intro (h.1.trans (congrArg Ending.returned he)) h.2)) (fun w S => St.pick S [0, 2] _ rfl (by decide)) ?_)
  refine Sx.GT.alone (Sx.Alone.c 168 #[.agg #[.slice PA0 g.prog.length Pc0, .int .i64 g.a, .int .i64 g.pc, .slice PA1 g.wr.length Pc1, .slice PA2 g.lv.length Pc2, .int .i64 g.t.1, .int .i64 g.t.2.1, .bool g.t.2.2, .int .i64 g.pd, .int .i64 g.x.1, .int .i64 g.x.2.1, .bool g.x.2.2.1, .int .i64 g.x.2.2.2, .bool g.hl, .slice PA3 g.seen.length Pc3], .func (.func 210) #[] #[], .int .i64 (insAt g.prog g.pc).2] (fun w5 S => (after_setA g _ ((insAt g.prog g.pc).2) _ (by exact hc) (St.old S hr)).mono fun e w5' hp => ?_))
  obtain ⟨cs, F, rfl, ho, hF, hb⟩ := hp
  obtain ⟨q5_0, q5_1, q5_2, q5_3, G5_0, G5_1, G5_2, G5_3, rfl, S'⟩ := rG_open (S.got hb ho hF)
  obtain ⟨q5A0, q5c0, e0, -⟩ := lst_val (S'.reads 0 rfl)
  subst e0
  obtain ⟨q5A1, q5c1, e1, -⟩ := lst_val (S'.reads 1 rfl)
  subst e1
  obtain ⟨q5A2, q5c2, e2, -⟩ := lst_val (S'.reads 2 rfl)
  subst e2
  obtain ⟨q5A3, q5c3, e3, -⟩ := lst_val (S'.reads 3 rfl)
  subst e3
  refine ⟨_, _, rfl, S', (fun w S => St.pick S [4, 6] _ rfl (by decide)), ?_⟩
  clear S S' ho hF hb
  refine Sx.GT.alone (Sx.Alone.sw [.slice q5A0 (movedG { g with a := ((insAt g.prog g.pc).2) }).prog.length q5c0, .int .i64 (movedG { g with a := ((insAt g.prog g.pc).2) }).a, .int .i64 (movedG { g with a := ((insAt g.prog g.pc).2) }).pc, .slice q5A1 (movedG { g with a := ((insAt g.prog g.pc).2) }).wr.length q5c1, .slice q5A2 (movedG { g with a := ((insAt g.prog g.pc).2) }).lv.length q5c2, .int .i64 (movedG { g with a := ((insAt g.prog g.pc).2) }).t.1, .int .i64 (movedG { g with a := ((insAt g.prog g.pc).2) }).t.2.1, .bool (movedG { g with a := ((insAt g.prog g.pc).2) }).t.2.2, .int .i64 (movedG { g with a := ((insAt g.prog g.pc).2) }).pd, .int .i64 (movedG { g with a := ((insAt g.prog g.pc).2) }).x.1, .int .i64 (movedG { g with a := ((insAt g.prog g.pc).2) }).x.2.1, .bool (movedG { g with a := ((insAt g.prog g.pc).2) }).x.2.2.1, .int .i64 (movedG { g with a := ((insAt g.prog g.pc).2) }).x.2.2.2, .bool (movedG { g with a := ((insAt g.prog g.pc).2) }).hl, .slice q5A3 (movedG { g with a := ((insAt g.prog g.pc).2) }).seen.length q5c3] .a5 (fun w S => St.pick S [4, 6] _ rfl (by decide)) ?_)
  refine Sx.GT.nil (Sx.E.next (Sx.C.ret ?_))
  refine Sx.E.retc b2 5 [.slice q5A0 (movedG { g with a := ((insAt g.prog g.pc).2) }).prog.length q5c0, .int .i64 (movedG { g with a := ((insAt g.prog g.pc).2) }).a, .int .i64 (movedG { g with a := ((insAt g.prog g.pc).2) }).pc, .slice q5A1 (movedG { g with a := ((insAt g.prog g.pc).2) }).wr.length q5c1, .slice q5A2 (movedG { g with a := ((insAt g.prog g.pc).2) }).lv.length q5c2, .int .i64 (movedG { g with a := ((insAt g.prog g.pc).2) }).t.1, .int .i64 (movedG { g with a := ((insAt g.prog g.pc).2) }).t.2.1, .bool (movedG { g with a := ((insAt g.prog g.pc).2) }).t.2.2, .int .i64 (movedG { g with a := ((insAt g.prog g.pc).2) }).pd, .int .i64 (movedG { g with a := ((insAt g.prog g.pc).2) }).x.1, .int .i64 (movedG { g with a := ((insAt g.prog g.pc).2) }).x.2.1, .bool (movedG { g with a := ((insAt g.prog g.pc).2) }).x.2.2.1, .int .i64 (movedG { g with a := ((insAt g.prog g.pc).2) }).x.2.2.2, .bool (movedG { g with a := ((insAt g.prog g.pc).2) }).hl, .slice q5A3 (movedG { g with a := ((insAt g.prog g.pc).2) }).seen.length q5c3] rfl (by kernel_rfl) rfl (by kernel_rfl) (by kernel_rfl) (fun w S => ?_)
  have HW : plainG g = movedG { g with a := ((insAt g.prog g.pc).2) } := by simp only [plainG, jumpG, z1, z2, hb3, Bool.and_true, Bool.and_false, Bool.false_and, Bool.true_and, Bool.false_eq_true, if_true, if_false, reduceIte]
  obtain ⟨ho, hF⟩ := rG_shut (g := movedG { g with a := ((insAt g.prog g.pc).2) }) S 0 rfl 1 rfl 2 rfl 3 rfl (by decide) (by decide) (by decide) (by decide) (by decide) (by decide)
  rw [HW]; exact ⟨_, _, rfl, ho, hF, S.below⟩
 ·
  have hb3 := hc3
  refine Sx.C.yy ?_
  refine Sx.C.seq (Sx.C.region ?_)
  refine Sx.G.lw .m1 ?_
  refine Sx.G.c 168 #[.agg #[.slice PA0 g.prog.length Pc0, .int .i64 g.a, .int .i64 g.pc, .slice PA1 g.wr.length Pc1, .slice PA2 g.lv.length Pc2, .int .i64 g.t.1, .int .i64 g.t.2.1, .bool g.t.2.2, .int .i64 g.pd, .int .i64 g.x.1, .int .i64 g.x.2.1, .bool g.x.2.2.1, .int .i64 g.x.2.2.2, .bool g.hl, .slice PA3 g.seen.length Pc3], .func (.func 169) #[] #[], .int .i64 0] (fun w6 S => (after_stay g _ 0 _ (by exact hc) (St.old S hr)).mono fun e w6' hp => ?_)
  obtain ⟨cs, F, rfl, ho, hF, hb⟩ := hp
  obtain ⟨q6_0, q6_1, q6_2, q6_3, G6_0, G6_1, G6_2, G6_3, rfl, S'⟩ := rG_open (S.got hb ho hF)
  obtain ⟨q6A0, q6c0, e0, -⟩ := lst_val (S'.reads 0 rfl)
  subst e0
  obtain ⟨q6A1, q6c1, e1, -⟩ := lst_val (S'.reads 1 rfl)
  subst e1
  obtain ⟨q6A2, q6c2, e2, -⟩ := lst_val (S'.reads 2 rfl)
  subst e2
  obtain ⟨q6A3, q6c3, e3, -⟩ := lst_val (S'.reads 3 rfl)
  subst e3
  refine ⟨_, _, rfl, S', ?_⟩
  clear S S' ho hF hb
  refine Sx.G.sw [.slice q6A0 g.prog.length q6c0, .int .i64 g.a, .int .i64 g.pc, .slice q6A1 g.wr.length q6c1, .slice q6A2 g.lv.length q6c2, .int .i64 g.t.1, .int .i64 g.t.2.1, .bool g.t.2.2, .int .i64 g.pd, .int .i64 g.x.1, .int .i64 g.x.2.1, .bool g.x.2.2.1, .int .i64 g.x.2.2.2, .bool g.hl, .slice q6A3 g.seen.length q6c3] .a4 ?_
  refine Sx.G.nil (Sx.E.next (Sx.C.ret (Sx.E.then_ret ?_)))
  refine Sx.E.retc b2 4 [.slice q6A0 g.prog.length q6c0, .int .i64 g.a, .int .i64 g.pc, .slice q6A1 g.wr.length q6c1, .slice q6A2 g.lv.length q6c2, .int .i64 g.t.1, .int .i64 g.t.2.1, .bool g.t.2.2, .int .i64 g.pd, .int .i64 g.x.1, .int .i64 g.x.2.1, .bool g.x.2.2.1, .int .i64 g.x.2.2.2, .bool g.hl, .slice q6A3 g.seen.length q6c3] rfl (by kernel_rfl) rfl (by kernel_rfl) (by kernel_rfl) (fun w S => ?_)
  have HW : plainG g = g := by simp only [plainG, jumpG, z1, z2, hb3, Bool.and_true, Bool.and_false, Bool.false_and, Bool.true_and, Bool.false_eq_true, if_true, if_false, reduceIte]
  obtain ⟨ho, hF⟩ := rG_shut (g := g) S 0 rfl 1 rfl 2 rfl 3 rfl (by decide) (by decide) (by decide) (by decide) (by decide) (by decide)
  rw [HW]; exact ⟨_, _, rfl, ho, hF, S.below⟩
theorem plain_b (g : gT) (cs : List Value) (w : World) (hn : gnum g) (hc : rG.cap g) (h : rG.rd w 0 w.heap.size g cs) (z1 : (inB g.a 0 99 && inB (insAt g.prog g.pc).2 0 99) = true) (z2 : ((insAt g.prog g.pc).1 == 2) = true) : Calls Tryz.prog 111 #[.agg cs.toArray] w (Gives rG w (plainG g)) := by
 have z2a : ((insAt g.prog g.pc).1 == 1) = false := by have := beq_iff_eq.1 z2; rw [this]; rfl
 have he : effV g.a (insAt g.prog g.pc) = .func (.func 211) #[] #[] := by simp only [effV, z1, z2, z2a, Bool.and_true, Bool.and_false, Bool.false_and, Bool.true_and, Bool.false_eq_true, if_true, if_false, reduceIte]
 have hr := h
 obtain ⟨P0, P1, P2, P3, rfl, h0, h1, h2, h3⟩ := rG_rd h
 obtain ⟨PA0, Pc0, e0, hP0⟩ := lst_val h0
 subst e0
 obtain ⟨PA1, Pc1, e1, hP1⟩ := lst_val h1
 subst e1
 obtain ⟨PA2, Pc2, e2, hP2⟩ := lst_val h2
 subst e2
 obtain ⟨PA3, Pc3, e3, hP3⟩ := lst_val h3
 subst e3
 refine Sx.enter (args := [.agg #[.slice PA0 g.prog.length Pc0, .int .i64 g.a, .int .i64 g.pc, .slice PA1 g.wr.length Pc1, .slice PA2 g.lv.length Pc2, .int .i64 g.t.1, .int .i64 g.t.2.1, .bool g.t.2.2, .int .i64 g.pd, .int .i64 g.x.1, .int .i64 g.x.2.1, .bool g.x.2.2.1, .int .i64 g.x.2.2.2, .bool g.hl, .slice PA3 g.seen.length Pc3]]) Tryz.func111 rfl Tryz.ntmps111 rfl ?_
 refine Sx.C.seq (Sx.C.region ?_)
 refine Sx.G.b [.slice PA0 g.prog.length Pc0, .int .i64 g.a, .int .i64 g.pc, .slice PA1 g.wr.length Pc1, .slice PA2 g.lv.length Pc2, .int .i64 g.t.1, .int .i64 g.t.2.1, .bool g.t.2.2, .int .i64 g.pd, .int .i64 g.x.1, .int .i64 g.x.2.1, .bool g.x.2.2.1, .int .i64 g.x.2.2.2, .bool g.hl, .slice PA3 g.seen.length Pc3] (fun b1 => ?_)
 refine Sx.G.ar [.slice none 0 0, .int .i64 0, .int .i64 0, .slice none 0 0, .slice none 0 0, .int .i64 0, .int .i64 0, .bool false, .int .i64 0, .int .i64 0, .int .i64 0, .bool false, .int .i64 0, .bool false, .slice none 0 0] (fun b2 => ?_)
 refine Sx.G.nil (Sx.E.next (Sx.C.seq (Sx.C.seq (Sx.C.region ?_))))
 refine Sx.G.lw .m1 ?_
 refine Sx.G.cp 99 #[.agg #[.slice PA0 g.prog.length Pc0, .int .i64 g.a, .int .i64 g.pc, .slice PA1 g.wr.length Pc1, .slice PA2 g.lv.length Pc2, .int .i64 g.t.1, .int .i64 g.t.2.1, .bool g.t.2.2, .int .i64 g.pd, .int .i64 g.x.1, .int .i64 g.x.2.1, .bool g.x.2.2.1, .int .i64 g.x.2.2.2, .bool g.hl, .slice PA3 g.seen.length Pc3]] (.int .i64 (wantG g)) (fun w S => by exact impl_want g _ _ hn hc (St.old S hr)) ?_
 refine Sx.G.p (.bool ((wantG g) != 2)) ?_
 refine Sx.G.nil (Sx.E.next ?_)
 cases hc3 : ((wantG g) != 2)
 ·
  have hb3 := hc3
  refine Sx.C.nn ?_
  refine Sx.C.skip (Sx.E.next (Sx.C.seq (Sx.C.region ?_)))
  refine Sx.G.lw .m1 ?_
  refine Sx.G.cp 109 #[.agg #[.slice PA0 g.prog.length Pc0, .int .i64 g.a, .int .i64 g.pc, .slice PA1 g.wr.length Pc1, .slice PA2 g.lv.length Pc2, .int .i64 g.t.1, .int .i64 g.t.2.1, .bool g.t.2.2, .int .i64 g.pd, .int .i64 g.x.1, .int .i64 g.x.2.1, .bool g.x.2.2.1, .int .i64 g.x.2.2.2, .bool g.hl, .slice PA3 g.seen.length Pc3]] (.agg #[.int .i64 (insAt g.prog g.pc).1, .int .i64 (insAt g.prog g.pc).2]) (fun w S => by exact impl_next g _ _ hn hc (St.old S hr)) ?_
  refine Sx.G.ar [.int .i64 0, .int .i64 0] (fun b4 => ?_)
  refine Sx.G.sw [.int .i64 (insAt g.prog g.pc).1, .int .i64 (insAt g.prog g.pc).2] .a0 ?_
  refine Sx.G.nil (Sx.E.next (Sx.C.seq ?_))
  refine Sx.C.draw (.take 0 (.take 1 (.take 2 (.take 3 (.take 5 (.take 6 (.alone 4 (.alone 7 (.alone 8 .nil))))))))) [vr b4 [.int .i64 (insAt g.prog g.pc).1, .int .i64 (insAt g.prog g.pc).2], vr b1 [.slice PA0 g.prog.length Pc0, .int .i64 g.a, .int .i64 g.pc, .slice PA1 g.wr.length Pc1, .slice PA2 g.lv.length Pc2, .int .i64 g.t.1, .int .i64 g.t.2.1, .bool g.t.2.2, .int .i64 g.pd, .int .i64 g.x.1, .int .i64 g.x.2.1, .bool g.x.2.2.1, .int .i64 g.x.2.2.2, .bool g.hl, .slice PA3 g.seen.length Pc3]] (fun w S => St.pick S [0, 2] _ rfl (by decide)) (by kernel_rfl) (by kernel_rfl) (by kernel_rfl) ?_
  refine Sx.GT.lw .m1 ?_
  refine Sx.GT.p (.pointer (some ⟨b1, 1, none⟩)) ?_
  refine Sx.GT.g (.int .i64 g.a) .m1 .m1 ?_
  refine Sx.GT.lw .m0 ?_
  refine Sx.GT.p (.pointer (some ⟨b4, 1, none⟩)) ?_
  refine Sx.GT.g (.int .i64 (insAt g.prog g.pc).2) .m0 .m1 ?_
  refine Sx.GT.alone (Sx.Alone.cp 170 #[.int .i64 g.a, .agg #[.int .i64 (insAt g.prog g.pc).1, .int .i64 (insAt g.prog g.pc).2]] (.func (.func 211) #[] #[]) (fun w S => by exact ((impl_effect g.a (insAt g.prog g.pc) _).mono fun e w' h => And.intro (h.1.trans (congrArg Ending.returned he)) h.2)) (fun w S => St.pick S [0, 2] _ rfl (by decide)) ?_)
  refine Sx.GT.alone (Sx.Alone.c 168 #[.agg #[.slice PA0 g.prog.length Pc0, .int .i64 g.a, .int .i64 g.pc, .slice PA1 g.wr.length Pc1, .slice PA2 g.lv.length Pc2, .int .i64 g.t.1, .int .i64 g.t.2.1, .bool g.t.2.2, .int .i64 g.pd, .int .i64 g.x.1, .int .i64 g.x.2.1, .bool g.x.2.2.1, .int .i64 g.x.2.2.2, .bool g.hl, .slice PA3 g.seen.length Pc3], .func (.func 211) #[] #[], .int .i64 (insAt g.prog g.pc).2] (fun w5 S => (after_addToA g _ ((insAt g.prog g.pc).2) _ (by exact hc) (St.old S hr)).mono fun e w5' hp => ?_))
  obtain ⟨cs, F, rfl, ho, hF, hb⟩ := hp
  obtain ⟨q5_0, q5_1, q5_2, q5_3, G5_0, G5_1, G5_2, G5_3, rfl, S'⟩ := rG_open (S.got hb ho hF)
  obtain ⟨q5A0, q5c0, e0, -⟩ := lst_val (S'.reads 0 rfl)
  subst e0
  obtain ⟨q5A1, q5c1, e1, -⟩ := lst_val (S'.reads 1 rfl)
  subst e1
  obtain ⟨q5A2, q5c2, e2, -⟩ := lst_val (S'.reads 2 rfl)
  subst e2
  obtain ⟨q5A3, q5c3, e3, -⟩ := lst_val (S'.reads 3 rfl)
  subst e3
  refine ⟨_, _, rfl, S', (fun w S => St.pick S [4, 6] _ rfl (by decide)), ?_⟩
  clear S S' ho hF hb
  refine Sx.GT.alone (Sx.Alone.sw [.slice q5A0 (movedG { g with a := (IntKind.i64.wrap (g.a + ((insAt g.prog g.pc).2))).tmod 100 }).prog.length q5c0, .int .i64 (movedG { g with a := (IntKind.i64.wrap (g.a + ((insAt g.prog g.pc).2))).tmod 100 }).a, .int .i64 (movedG { g with a := (IntKind.i64.wrap (g.a + ((insAt g.prog g.pc).2))).tmod 100 }).pc, .slice q5A1 (movedG { g with a := (IntKind.i64.wrap (g.a + ((insAt g.prog g.pc).2))).tmod 100 }).wr.length q5c1, .slice q5A2 (movedG { g with a := (IntKind.i64.wrap (g.a + ((insAt g.prog g.pc).2))).tmod 100 }).lv.length q5c2, .int .i64 (movedG { g with a := (IntKind.i64.wrap (g.a + ((insAt g.prog g.pc).2))).tmod 100 }).t.1, .int .i64 (movedG { g with a := (IntKind.i64.wrap (g.a + ((insAt g.prog g.pc).2))).tmod 100 }).t.2.1, .bool (movedG { g with a := (IntKind.i64.wrap (g.a + ((insAt g.prog g.pc).2))).tmod 100 }).t.2.2, .int .i64 (movedG { g with a := (IntKind.i64.wrap (g.a + ((insAt g.prog g.pc).2))).tmod 100 }).pd, .int .i64 (movedG { g with a := (IntKind.i64.wrap (g.a + ((insAt g.prog g.pc).2))).tmod 100 }).x.1, .int .i64 (movedG { g with a := (IntKind.i64.wrap (g.a + ((insAt g.prog g.pc).2))).tmod 100 }).x.2.1, .bool (movedG { g with a := (IntKind.i64.wrap (g.a + ((insAt g.prog g.pc).2))).tmod 100 }).x.2.2.1, .int .i64 (movedG { g with a := (IntKind.i64.wrap (g.a + ((insAt g.prog g.pc).2))).tmod 100 }).x.2.2.2, .bool (movedG { g with a := (IntKind.i64.wrap (g.a + ((insAt g.prog g.pc).2))).tmod 100 }).hl, .slice q5A3 (movedG { g with a := (IntKind.i64.wrap (g.a + ((insAt g.prog g.pc).2))).tmod 100 }).seen.length q5c3] .a5 (fun w S => St.pick S [4, 6] _ rfl (by decide)) ?_)
  refine Sx.GT.nil (Sx.E.next (Sx.C.ret ?_))
  refine Sx.E.retc b2 5 [.slice q5A0 (movedG { g with a := (IntKind.i64.wrap (g.a + ((insAt g.prog g.pc).2))).tmod 100 }).prog.length q5c0, .int .i64 (movedG { g with a := (IntKind.i64.wrap (g.a + ((insAt g.prog g.pc).2))).tmod 100 }).a, .int .i64 (movedG { g with a := (IntKind.i64.wrap (g.a + ((insAt g.prog g.pc).2))).tmod 100 }).pc, .slice q5A1 (movedG { g with a := (IntKind.i64.wrap (g.a + ((insAt g.prog g.pc).2))).tmod 100 }).wr.length q5c1, .slice q5A2 (movedG { g with a := (IntKind.i64.wrap (g.a + ((insAt g.prog g.pc).2))).tmod 100 }).lv.length q5c2, .int .i64 (movedG { g with a := (IntKind.i64.wrap (g.a + ((insAt g.prog g.pc).2))).tmod 100 }).t.1, .int .i64 (movedG { g with a := (IntKind.i64.wrap (g.a + ((insAt g.prog g.pc).2))).tmod 100 }).t.2.1, .bool (movedG { g with a := (IntKind.i64.wrap (g.a + ((insAt g.prog g.pc).2))).tmod 100 }).t.2.2, .int .i64 (movedG { g with a := (IntKind.i64.wrap (g.a + ((insAt g.prog g.pc).2))).tmod 100 }).pd, .int .i64 (movedG { g with a := (IntKind.i64.wrap (g.a + ((insAt g.prog g.pc).2))).tmod 100 }).x.1, .int .i64 (movedG { g with a := (IntKind.i64.wrap (g.a + ((insAt g.prog g.pc).2))).tmod 100 }).x.2.1, .bool (movedG { g with a := (IntKind.i64.wrap (g.a + ((insAt g.prog g.pc).2))).tmod 100 }).x.2.2.1, .int .i64 (movedG { g with a := (IntKind.i64.wrap (g.a + ((insAt g.prog g.pc).2))).tmod 100 }).x.2.2.2, .bool (movedG { g with a := (IntKind.i64.wrap (g.a + ((insAt g.prog g.pc).2))).tmod 100 }).hl, .slice q5A3 (movedG { g with a := (IntKind.i64.wrap (g.a + ((insAt g.prog g.pc).2))).tmod 100 }).seen.length q5c3] rfl (by kernel_rfl) rfl (by kernel_rfl) (by kernel_rfl) (fun w S => ?_)
  have HW : plainG g = movedG { g with a := (IntKind.i64.wrap (g.a + ((insAt g.prog g.pc).2))).tmod 100 } := by simp only [plainG, jumpG, z1, z2, z2a, hb3, Bool.and_true, Bool.and_false, Bool.false_and, Bool.true_and, Bool.false_eq_true, if_true, if_false, reduceIte]
  obtain ⟨ho, hF⟩ := rG_shut (g := movedG { g with a := (IntKind.i64.wrap (g.a + ((insAt g.prog g.pc).2))).tmod 100 }) S 0 rfl 1 rfl 2 rfl 3 rfl (by decide) (by decide) (by decide) (by decide) (by decide) (by decide)
  rw [HW]; exact ⟨_, _, rfl, ho, hF, S.below⟩
 ·
  have hb3 := hc3
  refine Sx.C.yy ?_
  refine Sx.C.seq (Sx.C.region ?_)
  refine Sx.G.lw .m1 ?_
  refine Sx.G.c 168 #[.agg #[.slice PA0 g.prog.length Pc0, .int .i64 g.a, .int .i64 g.pc, .slice PA1 g.wr.length Pc1, .slice PA2 g.lv.length Pc2, .int .i64 g.t.1, .int .i64 g.t.2.1, .bool g.t.2.2, .int .i64 g.pd, .int .i64 g.x.1, .int .i64 g.x.2.1, .bool g.x.2.2.1, .int .i64 g.x.2.2.2, .bool g.hl, .slice PA3 g.seen.length Pc3], .func (.func 169) #[] #[], .int .i64 0] (fun w6 S => (after_stay g _ 0 _ (by exact hc) (St.old S hr)).mono fun e w6' hp => ?_)
  obtain ⟨cs, F, rfl, ho, hF, hb⟩ := hp
  obtain ⟨q6_0, q6_1, q6_2, q6_3, G6_0, G6_1, G6_2, G6_3, rfl, S'⟩ := rG_open (S.got hb ho hF)
  obtain ⟨q6A0, q6c0, e0, -⟩ := lst_val (S'.reads 0 rfl)
  subst e0
  obtain ⟨q6A1, q6c1, e1, -⟩ := lst_val (S'.reads 1 rfl)
  subst e1
  obtain ⟨q6A2, q6c2, e2, -⟩ := lst_val (S'.reads 2 rfl)
  subst e2
  obtain ⟨q6A3, q6c3, e3, -⟩ := lst_val (S'.reads 3 rfl)
  subst e3
  refine ⟨_, _, rfl, S', ?_⟩
  clear S S' ho hF hb
  refine Sx.G.sw [.slice q6A0 g.prog.length q6c0, .int .i64 g.a, .int .i64 g.pc, .slice q6A1 g.wr.length q6c1, .slice q6A2 g.lv.length q6c2, .int .i64 g.t.1, .int .i64 g.t.2.1, .bool g.t.2.2, .int .i64 g.pd, .int .i64 g.x.1, .int .i64 g.x.2.1, .bool g.x.2.2.1, .int .i64 g.x.2.2.2, .bool g.hl, .slice q6A3 g.seen.length q6c3] .a4 ?_
  refine Sx.G.nil (Sx.E.next (Sx.C.ret (Sx.E.then_ret ?_)))
  refine Sx.E.retc b2 4 [.slice q6A0 g.prog.length q6c0, .int .i64 g.a, .int .i64 g.pc, .slice q6A1 g.wr.length q6c1, .slice q6A2 g.lv.length q6c2, .int .i64 g.t.1, .int .i64 g.t.2.1, .bool g.t.2.2, .int .i64 g.pd, .int .i64 g.x.1, .int .i64 g.x.2.1, .bool g.x.2.2.1, .int .i64 g.x.2.2.2, .bool g.hl, .slice q6A3 g.seen.length q6c3] rfl (by kernel_rfl) rfl (by kernel_rfl) (by kernel_rfl) (fun w S => ?_)
  have HW : plainG g = g := by simp only [plainG, jumpG, z1, z2, z2a, hb3, Bool.and_true, Bool.and_false, Bool.false_and, Bool.true_and, Bool.false_eq_true, if_true, if_false, reduceIte]
  obtain ⟨ho, hF⟩ := rG_shut (g := g) S 0 rfl 1 rfl 2 rfl 3 rfl (by decide) (by decide) (by decide) (by decide) (by decide) (by decide)
  rw [HW]; exact ⟨_, _, rfl, ho, hF, S.below⟩
theorem plain_c (g : gT) (cs : List Value) (w : World) (hn : gnum g) (hc : rG.cap g) (h : rG.rd w 0 w.heap.size g cs) (z1 : (inB g.a 0 99 && inB (insAt g.prog g.pc).2 0 99) = true) (z2 : ((insAt g.prog g.pc).1 == 8) = true) : Calls Tryz.prog 111 #[.agg cs.toArray] w (Gives rG w (plainG g)) := by
 have z2a : ((insAt g.prog g.pc).1 == 1) = false := by have := beq_iff_eq.1 z2; rw [this]; rfl
 have z2b : ((insAt g.prog g.pc).1 == 2) = false := by have := beq_iff_eq.1 z2; rw [this]; rfl
 have he : effV g.a (insAt g.prog g.pc) = .func (.func 212) #[] #[] := by simp only [effV, z1, z2, z2a, z2b, Bool.and_true, Bool.and_false, Bool.false_and, Bool.true_and, Bool.false_eq_true, if_true, if_false, reduceIte]
 have hr := h
 obtain ⟨P0, P1, P2, P3, rfl, h0, h1, h2, h3⟩ := rG_rd h
 obtain ⟨PA0, Pc0, e0, hP0⟩ := lst_val h0
 subst e0
 obtain ⟨PA1, Pc1, e1, hP1⟩ := lst_val h1
 subst e1
 obtain ⟨PA2, Pc2, e2, hP2⟩ := lst_val h2
 subst e2
 obtain ⟨PA3, Pc3, e3, hP3⟩ := lst_val h3
 subst e3
 refine Sx.enter (args := [.agg #[.slice PA0 g.prog.length Pc0, .int .i64 g.a, .int .i64 g.pc, .slice PA1 g.wr.length Pc1, .slice PA2 g.lv.length Pc2, .int .i64 g.t.1, .int .i64 g.t.2.1, .bool g.t.2.2, .int .i64 g.pd, .int .i64 g.x.1, .int .i64 g.x.2.1, .bool g.x.2.2.1, .int .i64 g.x.2.2.2, .bool g.hl, .slice PA3 g.seen.length Pc3]]) Tryz.func111 rfl Tryz.ntmps111 rfl ?_
 refine Sx.C.seq (Sx.C.region ?_)
 refine Sx.G.b [.slice PA0 g.prog.length Pc0, .int .i64 g.a, .int .i64 g.pc, .slice PA1 g.wr.length Pc1, .slice PA2 g.lv.length Pc2, .int .i64 g.t.1, .int .i64 g.t.2.1, .bool g.t.2.2, .int .i64 g.pd, .int .i64 g.x.1, .int .i64 g.x.2.1, .bool g.x.2.2.1, .int .i64 g.x.2.2.2, .bool g.hl, .slice PA3 g.seen.length Pc3] (fun b1 => ?_)
 refine Sx.G.ar [.slice none 0 0, .int .i64 0, .int .i64 0, .slice none 0 0, .slice none 0 0, .int .i64 0, .int .i64 0, .bool false, .int .i64 0, .int .i64 0, .int .i64 0, .bool false, .int .i64 0, .bool false, .slice none 0 0] (fun b2 => ?_)
 refine Sx.G.nil (Sx.E.next (Sx.C.seq (Sx.C.seq (Sx.C.region ?_))))
 refine Sx.G.lw .m1 ?_
 refine Sx.G.cp 99 #[.agg #[.slice PA0 g.prog.length Pc0, .int .i64 g.a, .int .i64 g.pc, .slice PA1 g.wr.length Pc1, .slice PA2 g.lv.length Pc2, .int .i64 g.t.1, .int .i64 g.t.2.1, .bool g.t.2.2, .int .i64 g.pd, .int .i64 g.x.1, .int .i64 g.x.2.1, .bool g.x.2.2.1, .int .i64 g.x.2.2.2, .bool g.hl, .slice PA3 g.seen.length Pc3]] (.int .i64 (wantG g)) (fun w S => by exact impl_want g _ _ hn hc (St.old S hr)) ?_
 refine Sx.G.p (.bool ((wantG g) != 2)) ?_
 refine Sx.G.nil (Sx.E.next ?_)
 cases hc3 : ((wantG g) != 2)
 ·
  have hb3 := hc3
  refine Sx.C.nn ?_
  refine Sx.C.skip (Sx.E.next (Sx.C.seq (Sx.C.region ?_)))
  refine Sx.G.lw .m1 ?_
  refine Sx.G.cp 109 #[.agg #[.slice PA0 g.prog.length Pc0, .int .i64 g.a, .int .i64 g.pc, .slice PA1 g.wr.length Pc1, .slice PA2 g.lv.length Pc2, .int .i64 g.t.1, .int .i64 g.t.2.1, .bool g.t.2.2, .int .i64 g.pd, .int .i64 g.x.1, .int .i64 g.x.2.1, .bool g.x.2.2.1, .int .i64 g.x.2.2.2, .bool g.hl, .slice PA3 g.seen.length Pc3]] (.agg #[.int .i64 (insAt g.prog g.pc).1, .int .i64 (insAt g.prog g.pc).2]) (fun w S => by exact impl_next g _ _ hn hc (St.old S hr)) ?_
  refine Sx.G.ar [.int .i64 0, .int .i64 0] (fun b4 => ?_)
  refine Sx.G.sw [.int .i64 (insAt g.prog g.pc).1, .int .i64 (insAt g.prog g.pc).2] .a0 ?_
  refine Sx.G.nil (Sx.E.next (Sx.C.seq ?_))
  refine Sx.C.draw (.take 0 (.take 1 (.take 2 (.take 3 (.take 5 (.take 6 (.alone 4 (.alone 7 (.alone 8 .nil))))))))) [vr b4 [.int .i64 (insAt g.prog g.pc).1, .int .i64 (insAt g.prog g.pc).2], vr b1 [.slice PA0 g.prog.length Pc0, .int .i64 g.a, .int .i64 g.pc, .slice PA1 g.wr.length Pc1, .slice PA2 g.lv.length Pc2, .int .i64 g.t.1, .int .i64 g.t.2.1, .bool g.t.2.2, .int .i64 g.pd, .int .i64 g.x.1, .int .i64 g.x.2.1, .bool g.x.2.2.1, .int .i64 g.x.2.2.2, .bool g.hl, .slice PA3 g.seen.length Pc3]] (fun w S => St.pick S [0, 2] _ rfl (by decide)) (by kernel_rfl) (by kernel_rfl) (by kernel_rfl) ?_
  refine Sx.GT.lw .m1 ?_
  refine Sx.GT.p (.pointer (some ⟨b1, 1, none⟩)) ?_
  refine Sx.GT.g (.int .i64 g.a) .m1 .m1 ?_
  refine Sx.GT.lw .m0 ?_
  refine Sx.GT.p (.pointer (some ⟨b4, 1, none⟩)) ?_
  refine Sx.GT.g (.int .i64 (insAt g.prog g.pc).2) .m0 .m1 ?_
  refine Sx.GT.alone (Sx.Alone.cp 170 #[.int .i64 g.a, .agg #[.int .i64 (insAt g.prog g.pc).1, .int .i64 (insAt g.prog g.pc).2]] (.func (.func 212) #[] #[]) (fun w S => by exact ((impl_effect g.a (insAt g.prog g.pc) _).mono fun e w' h => And.intro (h.1.trans (congrArg Ending.returned he)) h.2)) (fun w S => St.pick S [0, 2] _ rfl (by decide)) ?_)
  refine Sx.GT.alone (Sx.Alone.c 168 #[.agg #[.slice PA0 g.prog.length Pc0, .int .i64 g.a, .int .i64 g.pc, .slice PA1 g.wr.length Pc1, .slice PA2 g.lv.length Pc2, .int .i64 g.t.1, .int .i64 g.t.2.1, .bool g.t.2.2, .int .i64 g.pd, .int .i64 g.x.1, .int .i64 g.x.2.1, .bool g.x.2.2.1, .int .i64 g.x.2.2.2, .bool g.hl, .slice PA3 g.seen.length Pc3], .func (.func 212) #[] #[], .int .i64 (insAt g.prog g.pc).2] (fun w5 S => (after_jumpAtZero g _ ((insAt g.prog g.pc).2) _ (by exact hc) (St.old S hr)).mono fun e w5' hp => ?_))
  obtain ⟨cs, F, rfl, ho, hF, hb⟩ := hp
  obtain ⟨q5_0, q5_1, q5_2, q5_3, G5_0, G5_1, G5_2, G5_3, rfl, S'⟩ := rG_open (S.got hb ho hF)
  obtain ⟨q5A0, q5c0, e0, -⟩ := lst_val (S'.reads 0 rfl)
  subst e0
  obtain ⟨q5A1, q5c1, e1, -⟩ := lst_val (S'.reads 1 rfl)
  subst e1
  obtain ⟨q5A2, q5c2, e2, -⟩ := lst_val (S'.reads 2 rfl)
  subst e2
  obtain ⟨q5A3, q5c3, e3, -⟩ := lst_val (S'.reads 3 rfl)
  subst e3
  refine ⟨_, _, rfl, S', (fun w S => St.pick S [4, 6] _ rfl (by decide)), ?_⟩
  clear S S' ho hF hb
  refine Sx.GT.alone (Sx.Alone.sw [.slice q5A0 (jumpG g ((insAt g.prog g.pc).2)).prog.length q5c0, .int .i64 (jumpG g ((insAt g.prog g.pc).2)).a, .int .i64 (jumpG g ((insAt g.prog g.pc).2)).pc, .slice q5A1 (jumpG g ((insAt g.prog g.pc).2)).wr.length q5c1, .slice q5A2 (jumpG g ((insAt g.prog g.pc).2)).lv.length q5c2, .int .i64 (jumpG g ((insAt g.prog g.pc).2)).t.1, .int .i64 (jumpG g ((insAt g.prog g.pc).2)).t.2.1, .bool (jumpG g ((insAt g.prog g.pc).2)).t.2.2, .int .i64 (jumpG g ((insAt g.prog g.pc).2)).pd, .int .i64 (jumpG g ((insAt g.prog g.pc).2)).x.1, .int .i64 (jumpG g ((insAt g.prog g.pc).2)).x.2.1, .bool (jumpG g ((insAt g.prog g.pc).2)).x.2.2.1, .int .i64 (jumpG g ((insAt g.prog g.pc).2)).x.2.2.2, .bool (jumpG g ((insAt g.prog g.pc).2)).hl, .slice q5A3 (jumpG g ((insAt g.prog g.pc).2)).seen.length q5c3] .a5 (fun w S => St.pick S [4, 6] _ rfl (by decide)) ?_)
  refine Sx.GT.nil (Sx.E.next (Sx.C.ret ?_))
  refine Sx.E.retc b2 5 [.slice q5A0 (jumpG g ((insAt g.prog g.pc).2)).prog.length q5c0, .int .i64 (jumpG g ((insAt g.prog g.pc).2)).a, .int .i64 (jumpG g ((insAt g.prog g.pc).2)).pc, .slice q5A1 (jumpG g ((insAt g.prog g.pc).2)).wr.length q5c1, .slice q5A2 (jumpG g ((insAt g.prog g.pc).2)).lv.length q5c2, .int .i64 (jumpG g ((insAt g.prog g.pc).2)).t.1, .int .i64 (jumpG g ((insAt g.prog g.pc).2)).t.2.1, .bool (jumpG g ((insAt g.prog g.pc).2)).t.2.2, .int .i64 (jumpG g ((insAt g.prog g.pc).2)).pd, .int .i64 (jumpG g ((insAt g.prog g.pc).2)).x.1, .int .i64 (jumpG g ((insAt g.prog g.pc).2)).x.2.1, .bool (jumpG g ((insAt g.prog g.pc).2)).x.2.2.1, .int .i64 (jumpG g ((insAt g.prog g.pc).2)).x.2.2.2, .bool (jumpG g ((insAt g.prog g.pc).2)).hl, .slice q5A3 (jumpG g ((insAt g.prog g.pc).2)).seen.length q5c3] rfl (by kernel_rfl) rfl (by kernel_rfl) (by kernel_rfl) (fun w S => ?_)
  have HW : plainG g = jumpG g ((insAt g.prog g.pc).2) := by simp only [plainG, jumpG, z1, z2, z2a, z2b, hb3, Bool.and_true, Bool.and_false, Bool.false_and, Bool.true_and, Bool.false_eq_true, if_true, if_false, reduceIte]
  obtain ⟨ho, hF⟩ := rG_shut (g := jumpG g ((insAt g.prog g.pc).2)) S 0 rfl 1 rfl 2 rfl 3 rfl (by decide) (by decide) (by decide) (by decide) (by decide) (by decide)
  rw [HW]; exact ⟨_, _, rfl, ho, hF, S.below⟩
 ·
  have hb3 := hc3
  refine Sx.C.yy ?_
  refine Sx.C.seq (Sx.C.region ?_)
  refine Sx.G.lw .m1 ?_
  refine Sx.G.c 168 #[.agg #[.slice PA0 g.prog.length Pc0, .int .i64 g.a, .int .i64 g.pc, .slice PA1 g.wr.length Pc1, .slice PA2 g.lv.length Pc2, .int .i64 g.t.1, .int .i64 g.t.2.1, .bool g.t.2.2, .int .i64 g.pd, .int .i64 g.x.1, .int .i64 g.x.2.1, .bool g.x.2.2.1, .int .i64 g.x.2.2.2, .bool g.hl, .slice PA3 g.seen.length Pc3], .func (.func 169) #[] #[], .int .i64 0] (fun w6 S => (after_stay g _ 0 _ (by exact hc) (St.old S hr)).mono fun e w6' hp => ?_)
  obtain ⟨cs, F, rfl, ho, hF, hb⟩ := hp
  obtain ⟨q6_0, q6_1, q6_2, q6_3, G6_0, G6_1, G6_2, G6_3, rfl, S'⟩ := rG_open (S.got hb ho hF)
  obtain ⟨q6A0, q6c0, e0, -⟩ := lst_val (S'.reads 0 rfl)
  subst e0
  obtain ⟨q6A1, q6c1, e1, -⟩ := lst_val (S'.reads 1 rfl)
  subst e1
  obtain ⟨q6A2, q6c2, e2, -⟩ := lst_val (S'.reads 2 rfl)
  subst e2
  obtain ⟨q6A3, q6c3, e3, -⟩ := lst_val (S'.reads 3 rfl)
  subst e3
  refine ⟨_, _, rfl, S', ?_⟩
  clear S S' ho hF hb
  refine Sx.G.sw [.slice q6A0 g.prog.length q6c0, .int .i64 g.a, .int .i64 g.pc, .slice q6A1 g.wr.length q6c1, .slice q6A2 g.lv.length q6c2, .int .i64 g.t.1, .int .i64 g.t.2.1, .bool g.t.2.2, .int .i64 g.pd, .int .i64 g.x.1, .int .i64 g.x.2.1, .bool g.x.2.2.1, .int .i64 g.x.2.2.2, .bool g.hl, .slice q6A3 g.seen.length q6c3] .a4 ?_
  refine Sx.G.nil (Sx.E.next (Sx.C.ret (Sx.E.then_ret ?_)))
  refine Sx.E.retc b2 4 [.slice q6A0 g.prog.length q6c0, .int .i64 g.a, .int .i64 g.pc, .slice q6A1 g.wr.length q6c1, .slice q6A2 g.lv.length q6c2, .int .i64 g.t.1, .int .i64 g.t.2.1, .bool g.t.2.2, .int .i64 g.pd, .int .i64 g.x.1, .int .i64 g.x.2.1, .bool g.x.2.2.1, .int .i64 g.x.2.2.2, .bool g.hl, .slice q6A3 g.seen.length q6c3] rfl (by kernel_rfl) rfl (by kernel_rfl) (by kernel_rfl) (fun w S => ?_)
  have HW : plainG g = g := by simp only [plainG, jumpG, z1, z2, z2a, z2b, hb3, Bool.and_true, Bool.and_false, Bool.false_and, Bool.true_and, Bool.false_eq_true, if_true, if_false, reduceIte]
  obtain ⟨ho, hF⟩ := rG_shut (g := g) S 0 rfl 1 rfl 2 rfl 3 rfl (by decide) (by decide) (by decide) (by decide) (by decide) (by decide)
  rw [HW]; exact ⟨_, _, rfl, ho, hF, S.below⟩
theorem plain_d (g : gT) (cs : List Value) (w : World) (hn : gnum g) (hc : rG.cap g) (h : rG.rd w 0 w.heap.size g cs) (z1 : (inB g.a 0 99 && inB (insAt g.prog g.pc).2 0 99) = true) (z2 : ((insAt g.prog g.pc).1 == 1) = false) (z3 : ((insAt g.prog g.pc).1 == 2) = false) (z4 : ((insAt g.prog g.pc).1 == 8) = false) : Calls Tryz.prog 111 #[.agg cs.toArray] w (Gives rG w (plainG g)) := by
 have he : effV g.a (insAt g.prog g.pc) = .func (.func 207) #[] #[] := by simp only [effV, z1, z2, z3, z4, Bool.and_true, Bool.and_false, Bool.false_and, Bool.true_and, Bool.false_eq_true, if_true, if_false, reduceIte]
 have hr := h
 obtain ⟨P0, P1, P2, P3, rfl, h0, h1, h2, h3⟩ := rG_rd h
 obtain ⟨PA0, Pc0, e0, hP0⟩ := lst_val h0
 subst e0
 obtain ⟨PA1, Pc1, e1, hP1⟩ := lst_val h1
 subst e1
 obtain ⟨PA2, Pc2, e2, hP2⟩ := lst_val h2
 subst e2
 obtain ⟨PA3, Pc3, e3, hP3⟩ := lst_val h3
 subst e3
 refine Sx.enter (args := [.agg #[.slice PA0 g.prog.length Pc0, .int .i64 g.a, .int .i64 g.pc, .slice PA1 g.wr.length Pc1, .slice PA2 g.lv.length Pc2, .int .i64 g.t.1, .int .i64 g.t.2.1, .bool g.t.2.2, .int .i64 g.pd, .int .i64 g.x.1, .int .i64 g.x.2.1, .bool g.x.2.2.1, .int .i64 g.x.2.2.2, .bool g.hl, .slice PA3 g.seen.length Pc3]]) Tryz.func111 rfl Tryz.ntmps111 rfl ?_
 refine Sx.C.seq (Sx.C.region ?_)
 refine Sx.G.b [.slice PA0 g.prog.length Pc0, .int .i64 g.a, .int .i64 g.pc, .slice PA1 g.wr.length Pc1, .slice PA2 g.lv.length Pc2, .int .i64 g.t.1, .int .i64 g.t.2.1, .bool g.t.2.2, .int .i64 g.pd, .int .i64 g.x.1, .int .i64 g.x.2.1, .bool g.x.2.2.1, .int .i64 g.x.2.2.2, .bool g.hl, .slice PA3 g.seen.length Pc3] (fun b1 => ?_)
 refine Sx.G.ar [.slice none 0 0, .int .i64 0, .int .i64 0, .slice none 0 0, .slice none 0 0, .int .i64 0, .int .i64 0, .bool false, .int .i64 0, .int .i64 0, .int .i64 0, .bool false, .int .i64 0, .bool false, .slice none 0 0] (fun b2 => ?_)
 refine Sx.G.nil (Sx.E.next (Sx.C.seq (Sx.C.seq (Sx.C.region ?_))))
 refine Sx.G.lw .m1 ?_
 refine Sx.G.cp 99 #[.agg #[.slice PA0 g.prog.length Pc0, .int .i64 g.a, .int .i64 g.pc, .slice PA1 g.wr.length Pc1, .slice PA2 g.lv.length Pc2, .int .i64 g.t.1, .int .i64 g.t.2.1, .bool g.t.2.2, .int .i64 g.pd, .int .i64 g.x.1, .int .i64 g.x.2.1, .bool g.x.2.2.1, .int .i64 g.x.2.2.2, .bool g.hl, .slice PA3 g.seen.length Pc3]] (.int .i64 (wantG g)) (fun w S => by exact impl_want g _ _ hn hc (St.old S hr)) ?_
 refine Sx.G.p (.bool ((wantG g) != 2)) ?_
 refine Sx.G.nil (Sx.E.next ?_)
 cases hc3 : ((wantG g) != 2)
 ·
  have hb3 := hc3
  refine Sx.C.nn ?_
  refine Sx.C.skip (Sx.E.next (Sx.C.seq (Sx.C.region ?_)))
  refine Sx.G.lw .m1 ?_
  refine Sx.G.cp 109 #[.agg #[.slice PA0 g.prog.length Pc0, .int .i64 g.a, .int .i64 g.pc, .slice PA1 g.wr.length Pc1, .slice PA2 g.lv.length Pc2, .int .i64 g.t.1, .int .i64 g.t.2.1, .bool g.t.2.2, .int .i64 g.pd, .int .i64 g.x.1, .int .i64 g.x.2.1, .bool g.x.2.2.1, .int .i64 g.x.2.2.2, .bool g.hl, .slice PA3 g.seen.length Pc3]] (.agg #[.int .i64 (insAt g.prog g.pc).1, .int .i64 (insAt g.prog g.pc).2]) (fun w S => by exact impl_next g _ _ hn hc (St.old S hr)) ?_
  refine Sx.G.ar [.int .i64 0, .int .i64 0] (fun b4 => ?_)
  refine Sx.G.sw [.int .i64 (insAt g.prog g.pc).1, .int .i64 (insAt g.prog g.pc).2] .a0 ?_
  refine Sx.G.nil (Sx.E.next (Sx.C.seq ?_))
  refine Sx.C.draw (.take 0 (.take 1 (.take 2 (.take 3 (.take 5 (.take 6 (.alone 4 (.alone 7 (.alone 8 .nil))))))))) [vr b4 [.int .i64 (insAt g.prog g.pc).1, .int .i64 (insAt g.prog g.pc).2], vr b1 [.slice PA0 g.prog.length Pc0, .int .i64 g.a, .int .i64 g.pc, .slice PA1 g.wr.length Pc1, .slice PA2 g.lv.length Pc2, .int .i64 g.t.1, .int .i64 g.t.2.1, .bool g.t.2.2, .int .i64 g.pd, .int .i64 g.x.1, .int .i64 g.x.2.1, .bool g.x.2.2.1, .int .i64 g.x.2.2.2, .bool g.hl, .slice PA3 g.seen.length Pc3]] (fun w S => St.pick S [0, 2] _ rfl (by decide)) (by kernel_rfl) (by kernel_rfl) (by kernel_rfl) ?_
  refine Sx.GT.lw .m1 ?_
  refine Sx.GT.p (.pointer (some ⟨b1, 1, none⟩)) ?_
  refine Sx.GT.g (.int .i64 g.a) .m1 .m1 ?_
  refine Sx.GT.lw .m0 ?_
  refine Sx.GT.p (.pointer (some ⟨b4, 1, none⟩)) ?_
  refine Sx.GT.g (.int .i64 (insAt g.prog g.pc).2) .m0 .m1 ?_
  refine Sx.GT.alone (Sx.Alone.cp 170 #[.int .i64 g.a, .agg #[.int .i64 (insAt g.prog g.pc).1, .int .i64 (insAt g.prog g.pc).2]] (.func (.func 207) #[] #[]) (fun w S => by exact ((impl_effect g.a (insAt g.prog g.pc) _).mono fun e w' h => And.intro (h.1.trans (congrArg Ending.returned he)) h.2)) (fun w S => St.pick S [0, 2] _ rfl (by decide)) ?_)
  refine Sx.GT.alone (Sx.Alone.c 168 #[.agg #[.slice PA0 g.prog.length Pc0, .int .i64 g.a, .int .i64 g.pc, .slice PA1 g.wr.length Pc1, .slice PA2 g.lv.length Pc2, .int .i64 g.t.1, .int .i64 g.t.2.1, .bool g.t.2.2, .int .i64 g.pd, .int .i64 g.x.1, .int .i64 g.x.2.1, .bool g.x.2.2.1, .int .i64 g.x.2.2.2, .bool g.hl, .slice PA3 g.seen.length Pc3], .func (.func 207) #[] #[], .int .i64 (insAt g.prog g.pc).2] (fun w5 S => (after_moveOn g _ ((insAt g.prog g.pc).2) _ (by exact hc) (St.old S hr)).mono fun e w5' hp => ?_))
  obtain ⟨cs, F, rfl, ho, hF, hb⟩ := hp
  obtain ⟨q5_0, q5_1, q5_2, q5_3, G5_0, G5_1, G5_2, G5_3, rfl, S'⟩ := rG_open (S.got hb ho hF)
  obtain ⟨q5A0, q5c0, e0, -⟩ := lst_val (S'.reads 0 rfl)
  subst e0
  obtain ⟨q5A1, q5c1, e1, -⟩ := lst_val (S'.reads 1 rfl)
  subst e1
  obtain ⟨q5A2, q5c2, e2, -⟩ := lst_val (S'.reads 2 rfl)
  subst e2
  obtain ⟨q5A3, q5c3, e3, -⟩ := lst_val (S'.reads 3 rfl)
  subst e3
  refine ⟨_, _, rfl, S', (fun w S => St.pick S [4, 6] _ rfl (by decide)), ?_⟩
  clear S S' ho hF hb
  refine Sx.GT.alone (Sx.Alone.sw [.slice q5A0 (movedG g).prog.length q5c0, .int .i64 (movedG g).a, .int .i64 (movedG g).pc, .slice q5A1 (movedG g).wr.length q5c1, .slice q5A2 (movedG g).lv.length q5c2, .int .i64 (movedG g).t.1, .int .i64 (movedG g).t.2.1, .bool (movedG g).t.2.2, .int .i64 (movedG g).pd, .int .i64 (movedG g).x.1, .int .i64 (movedG g).x.2.1, .bool (movedG g).x.2.2.1, .int .i64 (movedG g).x.2.2.2, .bool (movedG g).hl, .slice q5A3 (movedG g).seen.length q5c3] .a5 (fun w S => St.pick S [4, 6] _ rfl (by decide)) ?_)
  refine Sx.GT.nil (Sx.E.next (Sx.C.ret ?_))
  refine Sx.E.retc b2 5 [.slice q5A0 (movedG g).prog.length q5c0, .int .i64 (movedG g).a, .int .i64 (movedG g).pc, .slice q5A1 (movedG g).wr.length q5c1, .slice q5A2 (movedG g).lv.length q5c2, .int .i64 (movedG g).t.1, .int .i64 (movedG g).t.2.1, .bool (movedG g).t.2.2, .int .i64 (movedG g).pd, .int .i64 (movedG g).x.1, .int .i64 (movedG g).x.2.1, .bool (movedG g).x.2.2.1, .int .i64 (movedG g).x.2.2.2, .bool (movedG g).hl, .slice q5A3 (movedG g).seen.length q5c3] rfl (by kernel_rfl) rfl (by kernel_rfl) (by kernel_rfl) (fun w S => ?_)
  have HW : plainG g = movedG g := by simp only [plainG, jumpG, z1, z2, z3, z4, hb3, Bool.and_true, Bool.and_false, Bool.false_and, Bool.true_and, Bool.false_eq_true, if_true, if_false, reduceIte]
  obtain ⟨ho, hF⟩ := rG_shut (g := movedG g) S 0 rfl 1 rfl 2 rfl 3 rfl (by decide) (by decide) (by decide) (by decide) (by decide) (by decide)
  rw [HW]; exact ⟨_, _, rfl, ho, hF, S.below⟩
 ·
  have hb3 := hc3
  refine Sx.C.yy ?_
  refine Sx.C.seq (Sx.C.region ?_)
  refine Sx.G.lw .m1 ?_
  refine Sx.G.c 168 #[.agg #[.slice PA0 g.prog.length Pc0, .int .i64 g.a, .int .i64 g.pc, .slice PA1 g.wr.length Pc1, .slice PA2 g.lv.length Pc2, .int .i64 g.t.1, .int .i64 g.t.2.1, .bool g.t.2.2, .int .i64 g.pd, .int .i64 g.x.1, .int .i64 g.x.2.1, .bool g.x.2.2.1, .int .i64 g.x.2.2.2, .bool g.hl, .slice PA3 g.seen.length Pc3], .func (.func 169) #[] #[], .int .i64 0] (fun w6 S => (after_stay g _ 0 _ (by exact hc) (St.old S hr)).mono fun e w6' hp => ?_)
  obtain ⟨cs, F, rfl, ho, hF, hb⟩ := hp
  obtain ⟨q6_0, q6_1, q6_2, q6_3, G6_0, G6_1, G6_2, G6_3, rfl, S'⟩ := rG_open (S.got hb ho hF)
  obtain ⟨q6A0, q6c0, e0, -⟩ := lst_val (S'.reads 0 rfl)
  subst e0
  obtain ⟨q6A1, q6c1, e1, -⟩ := lst_val (S'.reads 1 rfl)
  subst e1
  obtain ⟨q6A2, q6c2, e2, -⟩ := lst_val (S'.reads 2 rfl)
  subst e2
  obtain ⟨q6A3, q6c3, e3, -⟩ := lst_val (S'.reads 3 rfl)
  subst e3
  refine ⟨_, _, rfl, S', ?_⟩
  clear S S' ho hF hb
  refine Sx.G.sw [.slice q6A0 g.prog.length q6c0, .int .i64 g.a, .int .i64 g.pc, .slice q6A1 g.wr.length q6c1, .slice q6A2 g.lv.length q6c2, .int .i64 g.t.1, .int .i64 g.t.2.1, .bool g.t.2.2, .int .i64 g.pd, .int .i64 g.x.1, .int .i64 g.x.2.1, .bool g.x.2.2.1, .int .i64 g.x.2.2.2, .bool g.hl, .slice q6A3 g.seen.length q6c3] .a4 ?_
  refine Sx.G.nil (Sx.E.next (Sx.C.ret (Sx.E.then_ret ?_)))
  refine Sx.E.retc b2 4 [.slice q6A0 g.prog.length q6c0, .int .i64 g.a, .int .i64 g.pc, .slice q6A1 g.wr.length q6c1, .slice q6A2 g.lv.length q6c2, .int .i64 g.t.1, .int .i64 g.t.2.1, .bool g.t.2.2, .int .i64 g.pd, .int .i64 g.x.1, .int .i64 g.x.2.1, .bool g.x.2.2.1, .int .i64 g.x.2.2.2, .bool g.hl, .slice q6A3 g.seen.length q6c3] rfl (by kernel_rfl) rfl (by kernel_rfl) (by kernel_rfl) (fun w S => ?_)
  have HW : plainG g = g := by simp only [plainG, jumpG, z1, z2, z3, z4, hb3, Bool.and_true, Bool.and_false, Bool.false_and, Bool.true_and, Bool.false_eq_true, if_true, if_false, reduceIte]
  obtain ⟨ho, hF⟩ := rG_shut (g := g) S 0 rfl 1 rfl 2 rfl 3 rfl (by decide) (by decide) (by decide) (by decide) (by decide) (by decide)
  rw [HW]; exact ⟨_, _, rfl, ho, hF, S.below⟩
theorem plain_e (g : gT) (cs : List Value) (w : World) (hn : gnum g) (hc : rG.cap g) (h : rG.rd w 0 w.heap.size g cs) (z1 : (inB g.a 0 99 && inB (insAt g.prog g.pc).2 0 99) = false) : Calls Tryz.prog 111 #[.agg cs.toArray] w (Gives rG w (plainG g)) := by
 have he : effV g.a (insAt g.prog g.pc) = .func (.func 207) #[] #[] := by simp only [effV, z1, Bool.and_true, Bool.and_false, Bool.false_and, Bool.true_and, Bool.false_eq_true, if_true, if_false, reduceIte]
 have hr := h
 obtain ⟨P0, P1, P2, P3, rfl, h0, h1, h2, h3⟩ := rG_rd h
 obtain ⟨PA0, Pc0, e0, hP0⟩ := lst_val h0
 subst e0
 obtain ⟨PA1, Pc1, e1, hP1⟩ := lst_val h1
 subst e1
 obtain ⟨PA2, Pc2, e2, hP2⟩ := lst_val h2
 subst e2
 obtain ⟨PA3, Pc3, e3, hP3⟩ := lst_val h3
 subst e3
 refine Sx.enter (args := [.agg #[.slice PA0 g.prog.length Pc0, .int .i64 g.a, .int .i64 g.pc, .slice PA1 g.wr.length Pc1, .slice PA2 g.lv.length Pc2, .int .i64 g.t.1, .int .i64 g.t.2.1, .bool g.t.2.2, .int .i64 g.pd, .int .i64 g.x.1, .int .i64 g.x.2.1, .bool g.x.2.2.1, .int .i64 g.x.2.2.2, .bool g.hl, .slice PA3 g.seen.length Pc3]]) Tryz.func111 rfl Tryz.ntmps111 rfl ?_
 refine Sx.C.seq (Sx.C.region ?_)
 refine Sx.G.b [.slice PA0 g.prog.length Pc0, .int .i64 g.a, .int .i64 g.pc, .slice PA1 g.wr.length Pc1, .slice PA2 g.lv.length Pc2, .int .i64 g.t.1, .int .i64 g.t.2.1, .bool g.t.2.2, .int .i64 g.pd, .int .i64 g.x.1, .int .i64 g.x.2.1, .bool g.x.2.2.1, .int .i64 g.x.2.2.2, .bool g.hl, .slice PA3 g.seen.length Pc3] (fun b1 => ?_)
 refine Sx.G.ar [.slice none 0 0, .int .i64 0, .int .i64 0, .slice none 0 0, .slice none 0 0, .int .i64 0, .int .i64 0, .bool false, .int .i64 0, .int .i64 0, .int .i64 0, .bool false, .int .i64 0, .bool false, .slice none 0 0] (fun b2 => ?_)
 refine Sx.G.nil (Sx.E.next (Sx.C.seq (Sx.C.seq (Sx.C.region ?_))))
 refine Sx.G.lw .m1 ?_
 refine Sx.G.cp 99 #[.agg #[.slice PA0 g.prog.length Pc0, .int .i64 g.a, .int .i64 g.pc, .slice PA1 g.wr.length Pc1, .slice PA2 g.lv.length Pc2, .int .i64 g.t.1, .int .i64 g.t.2.1, .bool g.t.2.2, .int .i64 g.pd, .int .i64 g.x.1, .int .i64 g.x.2.1, .bool g.x.2.2.1, .int .i64 g.x.2.2.2, .bool g.hl, .slice PA3 g.seen.length Pc3]] (.int .i64 (wantG g)) (fun w S => by exact impl_want g _ _ hn hc (St.old S hr)) ?_
 refine Sx.G.p (.bool ((wantG g) != 2)) ?_
 refine Sx.G.nil (Sx.E.next ?_)
 cases hc3 : ((wantG g) != 2)
 ·
  have hb3 := hc3
  refine Sx.C.nn ?_
  refine Sx.C.skip (Sx.E.next (Sx.C.seq (Sx.C.region ?_)))
  refine Sx.G.lw .m1 ?_
  refine Sx.G.cp 109 #[.agg #[.slice PA0 g.prog.length Pc0, .int .i64 g.a, .int .i64 g.pc, .slice PA1 g.wr.length Pc1, .slice PA2 g.lv.length Pc2, .int .i64 g.t.1, .int .i64 g.t.2.1, .bool g.t.2.2, .int .i64 g.pd, .int .i64 g.x.1, .int .i64 g.x.2.1, .bool g.x.2.2.1, .int .i64 g.x.2.2.2, .bool g.hl, .slice PA3 g.seen.length Pc3]] (.agg #[.int .i64 (insAt g.prog g.pc).1, .int .i64 (insAt g.prog g.pc).2]) (fun w S => by exact impl_next g _ _ hn hc (St.old S hr)) ?_
  refine Sx.G.ar [.int .i64 0, .int .i64 0] (fun b4 => ?_)
  refine Sx.G.sw [.int .i64 (insAt g.prog g.pc).1, .int .i64 (insAt g.prog g.pc).2] .a0 ?_
  refine Sx.G.nil (Sx.E.next (Sx.C.seq ?_))
  refine Sx.C.draw (.take 0 (.take 1 (.take 2 (.take 3 (.take 5 (.take 6 (.alone 4 (.alone 7 (.alone 8 .nil))))))))) [vr b4 [.int .i64 (insAt g.prog g.pc).1, .int .i64 (insAt g.prog g.pc).2], vr b1 [.slice PA0 g.prog.length Pc0, .int .i64 g.a, .int .i64 g.pc, .slice PA1 g.wr.length Pc1, .slice PA2 g.lv.length Pc2, .int .i64 g.t.1, .int .i64 g.t.2.1, .bool g.t.2.2, .int .i64 g.pd, .int .i64 g.x.1, .int .i64 g.x.2.1, .bool g.x.2.2.1, .int .i64 g.x.2.2.2, .bool g.hl, .slice PA3 g.seen.length Pc3]] (fun w S => St.pick S [0, 2] _ rfl (by decide)) (by kernel_rfl) (by kernel_rfl) (by kernel_rfl) ?_
  refine Sx.GT.lw .m1 ?_
  refine Sx.GT.p (.pointer (some ⟨b1, 1, none⟩)) ?_
  refine Sx.GT.g (.int .i64 g.a) .m1 .m1 ?_
  refine Sx.GT.lw .m0 ?_
  refine Sx.GT.p (.pointer (some ⟨b4, 1, none⟩)) ?_
  refine Sx.GT.g (.int .i64 (insAt g.prog g.pc).2) .m0 .m1 ?_
  refine Sx.GT.alone (Sx.Alone.cp 170 #[.int .i64 g.a, .agg #[.int .i64 (insAt g.prog g.pc).1, .int .i64 (insAt g.prog g.pc).2]] (.func (.func 207) #[] #[]) (fun w S => by exact ((impl_effect g.a (insAt g.prog g.pc) _).mono fun e w' h => And.intro (h.1.trans (congrArg Ending.returned he)) h.2)) (fun w S => St.pick S [0, 2] _ rfl (by decide)) ?_)
  refine Sx.GT.alone (Sx.Alone.c 168 #[.agg #[.slice PA0 g.prog.length Pc0, .int .i64 g.a, .int .i64 g.pc, .slice PA1 g.wr.length Pc1, .slice PA2 g.lv.length Pc2, .int .i64 g.t.1, .int .i64 g.t.2.1, .bool g.t.2.2, .int .i64 g.pd, .int .i64 g.x.1, .int .i64 g.x.2.1, .bool g.x.2.2.1, .int .i64 g.x.2.2.2, .bool g.hl, .slice PA3 g.seen.length Pc3], .func (.func 207) #[] #[], .int .i64 (insAt g.prog g.pc).2] (fun w5 S => (after_moveOn g _ ((insAt g.prog g.pc).2) _ (by exact hc) (St.old S hr)).mono fun e w5' hp => ?_))
  obtain ⟨cs, F, rfl, ho, hF, hb⟩ := hp
  obtain ⟨q5_0, q5_1, q5_2, q5_3, G5_0, G5_1, G5_2, G5_3, rfl, S'⟩ := rG_open (S.got hb ho hF)
  obtain ⟨q5A0, q5c0, e0, -⟩ := lst_val (S'.reads 0 rfl)
  subst e0
  obtain ⟨q5A1, q5c1, e1, -⟩ := lst_val (S'.reads 1 rfl)
  subst e1
  obtain ⟨q5A2, q5c2, e2, -⟩ := lst_val (S'.reads 2 rfl)
  subst e2
  obtain ⟨q5A3, q5c3, e3, -⟩ := lst_val (S'.reads 3 rfl)
  subst e3
  refine ⟨_, _, rfl, S', (fun w S => St.pick S [4, 6] _ rfl (by decide)), ?_⟩
  clear S S' ho hF hb
  refine Sx.GT.alone (Sx.Alone.sw [.slice q5A0 (movedG g).prog.length q5c0, .int .i64 (movedG g).a, .int .i64 (movedG g).pc, .slice q5A1 (movedG g).wr.length q5c1, .slice q5A2 (movedG g).lv.length q5c2, .int .i64 (movedG g).t.1, .int .i64 (movedG g).t.2.1, .bool (movedG g).t.2.2, .int .i64 (movedG g).pd, .int .i64 (movedG g).x.1, .int .i64 (movedG g).x.2.1, .bool (movedG g).x.2.2.1, .int .i64 (movedG g).x.2.2.2, .bool (movedG g).hl, .slice q5A3 (movedG g).seen.length q5c3] .a5 (fun w S => St.pick S [4, 6] _ rfl (by decide)) ?_)
  refine Sx.GT.nil (Sx.E.next (Sx.C.ret ?_))
  refine Sx.E.retc b2 5 [.slice q5A0 (movedG g).prog.length q5c0, .int .i64 (movedG g).a, .int .i64 (movedG g).pc, .slice q5A1 (movedG g).wr.length q5c1, .slice q5A2 (movedG g).lv.length q5c2, .int .i64 (movedG g).t.1, .int .i64 (movedG g).t.2.1, .bool (movedG g).t.2.2, .int .i64 (movedG g).pd, .int .i64 (movedG g).x.1, .int .i64 (movedG g).x.2.1, .bool (movedG g).x.2.2.1, .int .i64 (movedG g).x.2.2.2, .bool (movedG g).hl, .slice q5A3 (movedG g).seen.length q5c3] rfl (by kernel_rfl) rfl (by kernel_rfl) (by kernel_rfl) (fun w S => ?_)
  have HW : plainG g = movedG g := by simp only [plainG, jumpG, z1, hb3, Bool.and_true, Bool.and_false, Bool.false_and, Bool.true_and, Bool.false_eq_true, if_true, if_false, reduceIte]
  obtain ⟨ho, hF⟩ := rG_shut (g := movedG g) S 0 rfl 1 rfl 2 rfl 3 rfl (by decide) (by decide) (by decide) (by decide) (by decide) (by decide)
  rw [HW]; exact ⟨_, _, rfl, ho, hF, S.below⟩
 ·
  have hb3 := hc3
  refine Sx.C.yy ?_
  refine Sx.C.seq (Sx.C.region ?_)
  refine Sx.G.lw .m1 ?_
  refine Sx.G.c 168 #[.agg #[.slice PA0 g.prog.length Pc0, .int .i64 g.a, .int .i64 g.pc, .slice PA1 g.wr.length Pc1, .slice PA2 g.lv.length Pc2, .int .i64 g.t.1, .int .i64 g.t.2.1, .bool g.t.2.2, .int .i64 g.pd, .int .i64 g.x.1, .int .i64 g.x.2.1, .bool g.x.2.2.1, .int .i64 g.x.2.2.2, .bool g.hl, .slice PA3 g.seen.length Pc3], .func (.func 169) #[] #[], .int .i64 0] (fun w6 S => (after_stay g _ 0 _ (by exact hc) (St.old S hr)).mono fun e w6' hp => ?_)
  obtain ⟨cs, F, rfl, ho, hF, hb⟩ := hp
  obtain ⟨q6_0, q6_1, q6_2, q6_3, G6_0, G6_1, G6_2, G6_3, rfl, S'⟩ := rG_open (S.got hb ho hF)
  obtain ⟨q6A0, q6c0, e0, -⟩ := lst_val (S'.reads 0 rfl)
  subst e0
  obtain ⟨q6A1, q6c1, e1, -⟩ := lst_val (S'.reads 1 rfl)
  subst e1
  obtain ⟨q6A2, q6c2, e2, -⟩ := lst_val (S'.reads 2 rfl)
  subst e2
  obtain ⟨q6A3, q6c3, e3, -⟩ := lst_val (S'.reads 3 rfl)
  subst e3
  refine ⟨_, _, rfl, S', ?_⟩
  clear S S' ho hF hb
  refine Sx.G.sw [.slice q6A0 g.prog.length q6c0, .int .i64 g.a, .int .i64 g.pc, .slice q6A1 g.wr.length q6c1, .slice q6A2 g.lv.length q6c2, .int .i64 g.t.1, .int .i64 g.t.2.1, .bool g.t.2.2, .int .i64 g.pd, .int .i64 g.x.1, .int .i64 g.x.2.1, .bool g.x.2.2.1, .int .i64 g.x.2.2.2, .bool g.hl, .slice q6A3 g.seen.length q6c3] .a4 ?_
  refine Sx.G.nil (Sx.E.next (Sx.C.ret (Sx.E.then_ret ?_)))
  refine Sx.E.retc b2 4 [.slice q6A0 g.prog.length q6c0, .int .i64 g.a, .int .i64 g.pc, .slice q6A1 g.wr.length q6c1, .slice q6A2 g.lv.length q6c2, .int .i64 g.t.1, .int .i64 g.t.2.1, .bool g.t.2.2, .int .i64 g.pd, .int .i64 g.x.1, .int .i64 g.x.2.1, .bool g.x.2.2.1, .int .i64 g.x.2.2.2, .bool g.hl, .slice q6A3 g.seen.length q6c3] rfl (by kernel_rfl) rfl (by kernel_rfl) (by kernel_rfl) (fun w S => ?_)
  have HW : plainG g = g := by simp only [plainG, jumpG, z1, hb3, Bool.and_true, Bool.and_false, Bool.false_and, Bool.true_and, Bool.false_eq_true, if_true, if_false, reduceIte]
  obtain ⟨ho, hF⟩ := rG_shut (g := g) S 0 rfl 1 rfl 2 rfl 3 rfl (by decide) (by decide) (by decide) (by decide) (by decide) (by decide)
  rw [HW]; exact ⟨_, _, rfl, ho, hF, S.below⟩
theorem impl_plain_g (g : gT) (cs : List Value) (w : World) (hn : gnum g) (hc : rG.cap g) (h : rG.rd w 0 w.heap.size g cs) : Calls Tryz.prog 111 #[.agg cs.toArray] w (Gives rG w (plainG g)) := by
 cases z1 : (inB g.a 0 99 && inB (insAt g.prog g.pc).2 0 99)
 ·
  exact plain_e g cs w hn hc h z1
 cases z2 : ((insAt g.prog g.pc).1 == 1)
 ·
  cases z3 : ((insAt g.prog g.pc).1 == 2)
  ·
   cases z4 : ((insAt g.prog g.pc).1 == 8)
   ·
    exact plain_d g cs w hn hc h z1 z2 z3 z4
   ·
    exact plain_c g cs w hn hc h z1 z4
  ·
   exact plain_b g cs w hn hc h z1 z3
 ·
  exact plain_a g cs w hn hc h z1 z2
end Go.Proofs.YtmiokacihcpepaaGreat.Guests
namespace Go.Proofs.YtmiokacihcpepaaGreat.Slots
set_option maxHeartbeats 8000000
set_option maxRecDepth 100000
set_option maxRecDepth 100000
open Go.ChangeShapes Go.WideShapes Go.ChangeAt Go.RowKit
open Go.Proofs.YtmiokacihcpepaaGreat.Base Go.Proofs.YtmiokacihcpepaaGreat.Mem Go.Proofs.YtmiokacihcpepaaGreat.Ints
set_option linter.unusedVariables false
def Sent1 (W : World) (a : Addr) : Prop := W.cell? ⟨0, 0, none⟩ = some (.iface 240 (.pointer (some a)))
theorem Sent1.below {W W' : World} {a : Addr} (h : Sent1 W a) (hb : Below W.heap.size W W') : Sent1 W' a := (hb.cell (World.block_lt_of_cell? W _ h)).trans h
theorem impl_permits (p r need : Int) (w : World) (hr : (Lit.int .i64 r).wf = true) (hn : (Lit.int .i64 need).wf = true) :
  Calls Tryz.prog 273 #[.agg #[.int .i64 p, .int .i64 r], .int .i64 need] w fun e w' => e = .returned (.bool (perm (p, r) need)) ∧ Below w.heap.size w w' := by
 have HR := Lib.hid hr
 have HN := Lib.hid hn
 clear hr hn
 obtain ⟨k0, k1, hW, hsz⟩ := boxed w (.int .i64 p) (.int .i64 r) 58
 have HB := Lib.hid hW
 by_cases h1 : p = -1
 ·
  subst h1
  rw [perm_no1]
  go_enter Tryz.func273, Tryz.ntmps273
  go_wp2
  go_ret
  exact ⟨rfl, HB.out⟩
 ·
  have h1' : (p != -1) = true := by simpa using h1
  by_cases h2 : need = 0
  ·
   subst h2
   rw [perm_no0]
   clear h1
   go_enter Tryz.func273, Tryz.ntmps273
   go_wp2
   go_ret
   exact ⟨rfl, HB.out⟩
  ·
   have h2' : (need != 0) = true := by simpa using h2
   rw [perm_en h1 h2]
   clear h1 h2
   go_enter Tryz.func273, Tryz.ntmps273
   go_wp2_with (go_at_call 275; refine (Rights.impl_enough r need _ HR.out HN.out).mono ?_; rintro e w' ⟨rfl, rfl⟩)
   go_ret
   exact ⟨rfl, HB.out⟩
section
variable (A : Option Addr) (n c : Nat) (page need : Int) (l : List Sl) (w : World)
theorem impl_level_yes (f : Value) (hn : n ≤ 1048576) (hl : l.length = n) (wl : wfL l) (hneed : (Lit.int .i64 need).wf = true) (h1 : Lies w 0 w.heap.size A (scells l)) (hp : perm (atS l page) need = true) :
  Calls Tryz.prog 270 #[.slice A n c, .int .i64 page, .int .i64 need, f] w fun e w' => e = .returned (.tuple #[.int .i64 (atS l page).1, .nilIface]) ∧ Below w.heap.size w w' := by
 have hK := impl_at A n c 0 page l w hn hl h1
 have hwf := (wf_atS wl page).2
 have HP := fun V : World => impl_permits (atS l page).1 (atS l page).2 need V hwf hneed
 rw [show ((atS l page).1, (atS l page).2) = atS l page from rfl, hp] at HP
 clear hwf hp
 generalize atS l page = s at hK HP ⊢
 obtain ⟨x, y⟩ := s
 have HK := Lib.hid hK
 have HP := Lib.hid HP
 clear hK h1 hl
 go_enter Tryz.func270, Tryz.ntmps270
 go_wp2_with fail
 refine (HK.out).mono ?_
 rintro e w1 ⟨rfl, hb1⟩
 have hT := Two.new w1 (.int .i64 x) (.int .i64 y) 58
 have HB := Lib.hid (hb1.alloc hb1.size (.cells #[.int .i64 x, .int .i64 y] 58))
 clear hb1
 go_wp2_with fail
 refine (HP.out _).mono ?_
 rintro e w2 ⟨rfl, hb2⟩
 obtain ⟨j0, j1, _, _, _⟩ := hT.below hb2
 have HB2 := Lib.hid (btr HB.out hb2)
 clear hb2 hT
 go_wp2_with fail
 go_ret2
 exact ⟨rfl, HB2.out⟩
end
section
variable (A B : Option Addr) (n m c d : Nat) (page need : Int) (l o : List Sl) (w : World) (a b : Addr)
end
end Go.Proofs.YtmiokacihcpepaaGreat.Slots
