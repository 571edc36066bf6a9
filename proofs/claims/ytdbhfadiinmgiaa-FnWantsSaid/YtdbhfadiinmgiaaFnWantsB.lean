/-
  For every slice of bytes the law FnWants returns true: a guest wants nothing exactly if it cannot run, and a plain step changes neither tables nor exits. No condition.
-/
import Derived.Test.YtdbhfadiinmgiaaFnWantsB5
namespace Go.Proofs.Ytdbhfadiinmgiaa.Draw
set_option maxRecDepth 100000
open Go.ChangeShapes Go.WideShapes Go.ChangeAt Go.RowKit
open Go.Proofs.Ytdbhfadiinmgiaa.Base
theorem big_yes (A : Option Addr) (n c : Nat) (w : World) (hn : n ≤ 9223372036854775807) (h : 1048576 < n) :
    Calls Try.prog 12 #[.slice A n c] w fun e w' => e = .returned (.bool true) ∧ w = w' := by
  go_enter Try.func12, Try.ntmps12
  go_wp2
  go_ret
  exact ⟨by simp; omega, rfl⟩
theorem big_no (A : Option Addr) (n c : Nat) (w : World) (h : n ≤ 1048576) :
    Calls Try.prog 12 #[.slice A n c] w fun e w' => e = .returned (.bool false) ∧ w = w' := by
  go_enter Try.func12, Try.ntmps12
  go_wp2
  go_ret
  exact ⟨by simp; omega, rfl⟩
end Go.Proofs.Ytdbhfadiinmgiaa.Draw
namespace Go.Proofs.Ytdbhfadiinmgiaa.fnWants
set_option maxRecDepth 100000
open Go.ChangeShapes Go.WideShapes Go.ChangeAt Go.RowKit
open Go.Proofs.Ytdbhfadiinmgiaa.Base Go.Proofs.Ytdbhfadiinmgiaa.Mem Go.Proofs.Ytdbhfadiinmgiaa.Data Go.Proofs.Ytdbhfadiinmgiaa.Slots Go.Proofs.Ytdbhfadiinmgiaa.Ints Go.Proofs.Ytdbhfadiinmgiaa.Ctls Go.Proofs.Ytdbhfadiinmgiaa.Exits Go.Proofs.Ytdbhfadiinmgiaa.Stt Go.Proofs.Ytdbhfadiinmgiaa.Irqs Go.Proofs.Ytdbhfadiinmgiaa.Inss Go.Proofs.Ytdbhfadiinmgiaa.Draw Go.Proofs.Ytdbhfadiinmgiaa.Guests
set_option linter.unusedVariables false
set_option linter.unusedSimpArgs false
set_option maxRecDepth 100000 in
set_option maxHeartbeats 8000000 in
theorem walk (A : Option Addr) (n c : Nat) (hn : n ≤ maxLen) {w : World} (hcode : CodeAt w A n) :
    Calls Try.prog 3 #[.slice A n c] w fun e w' => e = .returned (.bool true) ∧ Below w.heap.size w w' := by
  replace hn : n ≤ 9223372036854775807 := hn
  by_cases h1 : 1048576 < n
  · refine Sx.enter (args := [.slice A n c]) Try.func3 rfl Try.ntmps3 rfl ?_
    refine Sx.C.seq ?_
    refine Sx.C.region ?_
    refine Sx.G.pure (.bool false) (by kernel_rfl) (fun w => by kernel_rfl) ?_
    refine Sx.G.nil ?_
    refine Sx.E.next ?_
    refine Sx.C.seq ?_
    refine Sx.C.seq ?_
    refine Sx.C.region ?_
    refine Sx.G.pure (.slice A n c) (by kernel_rfl) (fun w => by kernel_rfl) ?_
    refine Sx.G.plain 12 #[.slice A n c] (.bool true) (by kernel_rfl) (fun w => by kernel_rfl) (fun w S => by exact ((big_yes A n c _ hn h1).mono fun e w' h => And.intro h.1 (below_eq h.2))) ?_
    refine Sx.G.nil ?_
    refine Sx.E.next ?_
    refine Sx.C.yes (by kernel_rfl) (by kernel_rfl) ?_
    refine Sx.C.seq ?_
    refine Sx.C.region ?_
    refine Sx.G.pure (.bool true) (by kernel_rfl) (fun w => by kernel_rfl) ?_
    refine Sx.G.nil ?_
    refine Sx.E.next ?_
    refine Sx.C.ret ?_
    refine Sx.E.then_ret ?_
    refine Sx.E.ret1 (.bool true) rfl (by kernel_rfl) (fun w S => ?_)
    exact ⟨rfl, S.below⟩
  · have hn2 : n ≤ 1048576 := by omega
    refine Sx.enter (args := [.slice A n c]) Try.func3 rfl Try.ntmps3 rfl ?_
    refine Sx.C.seq ?_
    refine Sx.C.region ?_
    refine Sx.G.pure (.bool false) (by kernel_rfl) (fun w => by kernel_rfl) ?_
    refine Sx.G.nil ?_
    refine Sx.E.next ?_
    refine Sx.C.seq ?_
    refine Sx.C.seq ?_
    refine Sx.C.region ?_
    refine Sx.G.pure (.slice A n c) (by kernel_rfl) (fun w => by kernel_rfl) ?_
    refine Sx.G.plain 12 #[.slice A n c] (.bool false) (by kernel_rfl) (fun w => by kernel_rfl) (fun w S => by exact ((big_no A n c _ hn2).mono fun e w' h => And.intro h.1 (below_eq h.2))) ?_
    refine Sx.G.nil ?_
    refine Sx.E.next ?_
    refine Sx.C.no (by kernel_rfl) (by kernel_rfl) ?_
    refine Sx.C.skip ?_
    refine Sx.E.next ?_
    refine Sx.C.seq ?_
    refine Sx.C.region ?_
    refine Sx.G.pure (.slice A n c) (by kernel_rfl) (fun w => by kernel_rfl) ?_
    refine Sx.G.call 13 #[.slice A n c] (by kernel_rfl) (fun w => by kernel_rfl) (fun w1 S => (drawPlainly A n c _ hn2 (hcode.below S.below)).mono fun e w1' hp => ?_)
    obtain ⟨g1, cs, rfl, hwf1, hsm1, hr, hb⟩ := hp
    have hrd := hr
    obtain ⟨P1_0, P1_1, P1_2, P1_3, rfl, r0, r1, r2, r3⟩ := rG_rd hrd
    obtain ⟨PA1_0, Pc1_0, e0, -⟩ := (lst_val r0)
    subst e0
    obtain ⟨PA1_1, Pc1_1, e0, -⟩ := (lst_val r1)
    subst e0
    obtain ⟨PA1_2, Pc1_2, e0, -⟩ := (lst_val r2)
    subst e0
    obtain ⟨PA1_3, Pc1_3, e0, -⟩ := (lst_val r3)
    subst e0
    clear hr
    refine ⟨_, _, rfl, (Sx.St.gotR S hb hrd), ?_⟩
    clear S hb hrd
    refine Sx.G.alloc 32 (.agg #[.slice none 0 0, .int .i64 0, .int .i64 0, .slice none 0 0, .slice none 0 0, .int .i64 0, .int .i64 0, .bool false, .int .i64 0, .int .i64 0, .int .i64 0, .bool false, .int .i64 0, .bool false, .slice none 0 0]) [.slice none 0 0, .int .i64 0, .int .i64 0, .slice none 0 0, .slice none 0 0, .int .i64 0, .int .i64 0, .bool false, .int .i64 0, .int .i64 0, .int .i64 0, .bool false, .int .i64 0, .bool false, .slice none 0 0] rfl (by kernel_rfl) (fun w => by kernel_rfl) (by kernel_rfl) (fun b2 => ?_)
    refine Sx.G.sto 32 (.tmp 3) (.tmp 12) b2 0 0 [.slice none 0 0, .int .i64 0, .int .i64 0, .slice none 0 0, .slice none 0 0, .int .i64 0, .int .i64 0, .bool false, .int .i64 0, .int .i64 0, .int .i64 0, .bool false, .int .i64 0, .bool false, .slice none 0 0] [.slice PA1_0 g1.prog.length Pc1_0, .int .i64 g1.a, .int .i64 g1.pc, .slice PA1_1 g1.wr.length Pc1_1, .slice PA1_2 g1.lv.length Pc1_2, .int .i64 g1.t.1, .int .i64 g1.t.2.1, .bool g1.t.2.2, .int .i64 g1.pd, .int .i64 g1.x.1, .int .i64 g1.x.2.1, .bool g1.x.2.2.1, .int .i64 g1.x.2.2.2, .bool g1.hl, .slice PA1_3 g1.seen.length Pc1_3] [.slice PA1_0 g1.prog.length Pc1_0, .int .i64 g1.a, .int .i64 g1.pc, .slice PA1_1 g1.wr.length Pc1_1, .slice PA1_2 g1.lv.length Pc1_2, .int .i64 g1.t.1, .int .i64 g1.t.2.1, .bool g1.t.2.2, .int .i64 g1.pd, .int .i64 g1.x.1, .int .i64 g1.x.2.1, .bool g1.x.2.2.1, .int .i64 g1.x.2.2.2, .bool g1.hl, .slice PA1_3 g1.seen.length Pc1_3] [vr b2 [.slice PA1_0 g1.prog.length Pc1_0, .int .i64 g1.a, .int .i64 g1.pc, .slice PA1_1 g1.wr.length Pc1_1, .slice PA1_2 g1.lv.length Pc1_2, .int .i64 g1.t.1, .int .i64 g1.t.2.1, .bool g1.t.2.2, .int .i64 g1.pd, .int .i64 g1.x.1, .int .i64 g1.x.2.1, .bool g1.x.2.2.1, .int .i64 g1.x.2.2.2, .bool g1.hl, .slice PA1_3 g1.seen.length Pc1_3], Sx.rdc rG w1.heap.size w1'.heap.size g1 [.slice PA1_0 g1.prog.length Pc1_0, .int .i64 g1.a, .int .i64 g1.pc, .slice PA1_1 g1.wr.length Pc1_1, .slice PA1_2 g1.lv.length Pc1_2, .int .i64 g1.t.1, .int .i64 g1.t.2.1, .bool g1.t.2.2, .int .i64 g1.pd, .int .i64 g1.x.1, .int .i64 g1.x.2.1, .bool g1.x.2.2.1, .int .i64 g1.x.2.2.2, .bool g1.hl, .slice PA1_3 g1.seen.length Pc1_3]] rfl (by kernel_rfl) (by kernel_rfl) (by kernel_rfl) rfl (by kernel_rfl) rfl (by kernel_rfl) (by kernel_rfl) (by kernel_rfl) ?_
    refine Sx.G.nil ?_
    refine Sx.E.next ?_
    refine Sx.C.seq ?_
    refine Sx.C.region ?_
    refine Sx.G.ld 32 (.tmp 3) b2 0 0 [.slice PA1_0 g1.prog.length Pc1_0, .int .i64 g1.a, .int .i64 g1.pc, .slice PA1_1 g1.wr.length Pc1_1, .slice PA1_2 g1.lv.length Pc1_2, .int .i64 g1.t.1, .int .i64 g1.t.2.1, .bool g1.t.2.2, .int .i64 g1.pd, .int .i64 g1.x.1, .int .i64 g1.x.2.1, .bool g1.x.2.2.1, .int .i64 g1.x.2.2.2, .bool g1.hl, .slice PA1_3 g1.seen.length Pc1_3] [.slice PA1_0 g1.prog.length Pc1_0, .int .i64 g1.a, .int .i64 g1.pc, .slice PA1_1 g1.wr.length Pc1_1, .slice PA1_2 g1.lv.length Pc1_2, .int .i64 g1.t.1, .int .i64 g1.t.2.1, .bool g1.t.2.2, .int .i64 g1.pd, .int .i64 g1.x.1, .int .i64 g1.x.2.1, .bool g1.x.2.2.1, .int .i64 g1.x.2.2.2, .bool g1.hl, .slice PA1_3 g1.seen.length Pc1_3] rfl (by kernel_rfl) (by kernel_rfl) rfl (by kernel_rfl) (by kernel_rfl) (by kernel_rfl) ?_
    refine Sx.G.call 14 #[.agg #[.slice PA1_0 g1.prog.length Pc1_0, .int .i64 g1.a, .int .i64 g1.pc, .slice PA1_1 g1.wr.length Pc1_1, .slice PA1_2 g1.lv.length Pc1_2, .int .i64 g1.t.1, .int .i64 g1.t.2.1, .bool g1.t.2.2, .int .i64 g1.pd, .int .i64 g1.x.1, .int .i64 g1.x.2.1, .bool g1.x.2.2.1, .int .i64 g1.x.2.2.2, .bool g1.hl, .slice PA1_3 g1.seen.length Pc1_3]] (by kernel_rfl) (fun w => by kernel_rfl) (fun w3 S => (impl_plain g1 _ _ hwf1 (small_cap hsm1) (Sx.St.rdc S 1 rfl)).mono fun e w3' hp => ?_)
    obtain ⟨y0, y1, y2, y3, rfl, ho, hb⟩ := hp
    obtain ⟨PA3_0, Pc3_0, e0, -⟩ := ho.r0
    subst e0
    obtain ⟨PA3_1, Pc3_1, e0, -⟩ := ho.r1
    subst e0
    obtain ⟨PA3_2, Pc3_2, e0, -⟩ := ho.r2
    subst e0
    obtain ⟨PA3_3, Pc3_3, e0, -⟩ := ho.r3
    subst e0
    have hrd := ho.rg
    refine ⟨_, _, rfl, (Sx.St.gotR S hb hrd), ?_⟩
    clear S ho hb hrd
    refine Sx.G.alloc 32 (.agg #[.slice none 0 0, .int .i64 0, .int .i64 0, .slice none 0 0, .slice none 0 0, .int .i64 0, .int .i64 0, .bool false, .int .i64 0, .int .i64 0, .int .i64 0, .bool false, .int .i64 0, .bool false, .slice none 0 0]) [.slice none 0 0, .int .i64 0, .int .i64 0, .slice none 0 0, .slice none 0 0, .int .i64 0, .int .i64 0, .bool false, .int .i64 0, .int .i64 0, .int .i64 0, .bool false, .int .i64 0, .bool false, .slice none 0 0] rfl (by kernel_rfl) (fun w => by kernel_rfl) (by kernel_rfl) (fun b4 => ?_)
    refine Sx.G.sto 32 (.tmp 4) (.tmp 14) b4 0 0 [.slice none 0 0, .int .i64 0, .int .i64 0, .slice none 0 0, .slice none 0 0, .int .i64 0, .int .i64 0, .bool false, .int .i64 0, .int .i64 0, .int .i64 0, .bool false, .int .i64 0, .bool false, .slice none 0 0] [.slice PA3_0 (plainG g1).prog.length Pc3_0, .int .i64 (plainG g1).a, .int .i64 (plainG g1).pc, .slice PA3_1 (plainG g1).wr.length Pc3_1, .slice PA3_2 (plainG g1).lv.length Pc3_2, .int .i64 (plainG g1).t.1, .int .i64 (plainG g1).t.2.1, .bool (plainG g1).t.2.2, .int .i64 (plainG g1).pd, .int .i64 (plainG g1).x.1, .int .i64 (plainG g1).x.2.1, .bool (plainG g1).x.2.2.1, .int .i64 (plainG g1).x.2.2.2, .bool (plainG g1).hl, .slice PA3_3 (plainG g1).seen.length Pc3_3] [.slice PA3_0 (plainG g1).prog.length Pc3_0, .int .i64 (plainG g1).a, .int .i64 (plainG g1).pc, .slice PA3_1 (plainG g1).wr.length Pc3_1, .slice PA3_2 (plainG g1).lv.length Pc3_2, .int .i64 (plainG g1).t.1, .int .i64 (plainG g1).t.2.1, .bool (plainG g1).t.2.2, .int .i64 (plainG g1).pd, .int .i64 (plainG g1).x.1, .int .i64 (plainG g1).x.2.1, .bool (plainG g1).x.2.2.1, .int .i64 (plainG g1).x.2.2.2, .bool (plainG g1).hl, .slice PA3_3 (plainG g1).seen.length Pc3_3] [vr b4 [.slice PA3_0 (plainG g1).prog.length Pc3_0, .int .i64 (plainG g1).a, .int .i64 (plainG g1).pc, .slice PA3_1 (plainG g1).wr.length Pc3_1, .slice PA3_2 (plainG g1).lv.length Pc3_2, .int .i64 (plainG g1).t.1, .int .i64 (plainG g1).t.2.1, .bool (plainG g1).t.2.2, .int .i64 (plainG g1).pd, .int .i64 (plainG g1).x.1, .int .i64 (plainG g1).x.2.1, .bool (plainG g1).x.2.2.1, .int .i64 (plainG g1).x.2.2.2, .bool (plainG g1).hl, .slice PA3_3 (plainG g1).seen.length Pc3_3], Sx.rdc rG w3.heap.size w3'.heap.size (plainG g1) [.slice PA3_0 (plainG g1).prog.length Pc3_0, .int .i64 (plainG g1).a, .int .i64 (plainG g1).pc, .slice PA3_1 (plainG g1).wr.length Pc3_1, .slice PA3_2 (plainG g1).lv.length Pc3_2, .int .i64 (plainG g1).t.1, .int .i64 (plainG g1).t.2.1, .bool (plainG g1).t.2.2, .int .i64 (plainG g1).pd, .int .i64 (plainG g1).x.1, .int .i64 (plainG g1).x.2.1, .bool (plainG g1).x.2.2.1, .int .i64 (plainG g1).x.2.2.2, .bool (plainG g1).hl, .slice PA3_3 (plainG g1).seen.length Pc3_3], vr b2 [.slice PA1_0 g1.prog.length Pc1_0, .int .i64 g1.a, .int .i64 g1.pc, .slice PA1_1 g1.wr.length Pc1_1, .slice PA1_2 g1.lv.length Pc1_2, .int .i64 g1.t.1, .int .i64 g1.t.2.1, .bool g1.t.2.2, .int .i64 g1.pd, .int .i64 g1.x.1, .int .i64 g1.x.2.1, .bool g1.x.2.2.1, .int .i64 g1.x.2.2.2, .bool g1.hl, .slice PA1_3 g1.seen.length Pc1_3], Sx.rdc rG w1.heap.size w1'.heap.size g1 [.slice PA1_0 g1.prog.length Pc1_0, .int .i64 g1.a, .int .i64 g1.pc, .slice PA1_1 g1.wr.length Pc1_1, .slice PA1_2 g1.lv.length Pc1_2, .int .i64 g1.t.1, .int .i64 g1.t.2.1, .bool g1.t.2.2, .int .i64 g1.pd, .int .i64 g1.x.1, .int .i64 g1.x.2.1, .bool g1.x.2.2.1, .int .i64 g1.x.2.2.2, .bool g1.hl, .slice PA1_3 g1.seen.length Pc1_3]] rfl (by kernel_rfl) (by kernel_rfl) (by kernel_rfl) rfl (by kernel_rfl) rfl (by kernel_rfl) (by kernel_rfl) (by kernel_rfl) ?_
    refine Sx.G.nil ?_
    refine Sx.E.next ?_
    refine Sx.C.seq ?_
    refine Sx.C.region ?_
    refine Sx.G.pure (.slice A n c) (by kernel_rfl) (fun w => by kernel_rfl) ?_
    refine Sx.G.call 15 #[.slice A n c] (by kernel_rfl) (fun w => by kernel_rfl) (fun w5 S => (drawLoaded A n c _ hn2 (hcode.below S.below)).mono fun e w5' hp => ?_)
    obtain ⟨g5, cs, n5, rfl, hwf5, hsm5, hr, hwn5, hb⟩ := hp
    have hrd := hr
    obtain ⟨P5_0, P5_1, P5_2, P5_3, rfl, r0, r1, r2, r3⟩ := rG_rd hrd
    obtain ⟨PA5_0, Pc5_0, e0, -⟩ := (lst_val r0)
    subst e0
    obtain ⟨PA5_1, Pc5_1, e0, -⟩ := (lst_val r1)
    subst e0
    obtain ⟨PA5_2, Pc5_2, e0, -⟩ := (lst_val r2)
    subst e0
    obtain ⟨PA5_3, Pc5_3, e0, -⟩ := (lst_val r3)
    subst e0
    clear hr
    refine ⟨_, _, rfl, (Sx.St.gotR S hb hrd), ?_⟩
    clear S hb hrd
    refine Sx.G.pure (.tuple #[.agg #[.slice PA5_0 g5.prog.length Pc5_0, .int .i64 g5.a, .int .i64 g5.pc, .slice PA5_1 g5.wr.length Pc5_1, .slice PA5_2 g5.lv.length Pc5_2, .int .i64 g5.t.1, .int .i64 g5.t.2.1, .bool g5.t.2.2, .int .i64 g5.pd, .int .i64 g5.x.1, .int .i64 g5.x.2.1, .bool g5.x.2.2.1, .int .i64 g5.x.2.2.2, .bool g5.hl, .slice PA5_3 g5.seen.length Pc5_3], .int .i64 n5]) (by kernel_rfl) (fun w => by kernel_rfl) ?_
    refine Sx.G.pure (.agg #[.slice PA5_0 g5.prog.length Pc5_0, .int .i64 g5.a, .int .i64 g5.pc, .slice PA5_1 g5.wr.length Pc5_1, .slice PA5_2 g5.lv.length Pc5_2, .int .i64 g5.t.1, .int .i64 g5.t.2.1, .bool g5.t.2.2, .int .i64 g5.pd, .int .i64 g5.x.1, .int .i64 g5.x.2.1, .bool g5.x.2.2.1, .int .i64 g5.x.2.2.2, .bool g5.hl, .slice PA5_3 g5.seen.length Pc5_3]) (by kernel_rfl) (fun w => by kernel_rfl) ?_
    refine Sx.G.pure (.int .i64 n5) (by kernel_rfl) (fun w => by kernel_rfl) ?_
    refine Sx.G.alloc 32 (.agg #[.slice none 0 0, .int .i64 0, .int .i64 0, .slice none 0 0, .slice none 0 0, .int .i64 0, .int .i64 0, .bool false, .int .i64 0, .int .i64 0, .int .i64 0, .bool false, .int .i64 0, .bool false, .slice none 0 0]) [.slice none 0 0, .int .i64 0, .int .i64 0, .slice none 0 0, .slice none 0 0, .int .i64 0, .int .i64 0, .bool false, .int .i64 0, .int .i64 0, .int .i64 0, .bool false, .int .i64 0, .bool false, .slice none 0 0] rfl (by kernel_rfl) (fun w => by kernel_rfl) (by kernel_rfl) (fun b6 => ?_)
    refine Sx.G.sto 32 (.tmp 5) (.tmp 18) b6 0 0 [.slice none 0 0, .int .i64 0, .int .i64 0, .slice none 0 0, .slice none 0 0, .int .i64 0, .int .i64 0, .bool false, .int .i64 0, .int .i64 0, .int .i64 0, .bool false, .int .i64 0, .bool false, .slice none 0 0] [.slice PA5_0 g5.prog.length Pc5_0, .int .i64 g5.a, .int .i64 g5.pc, .slice PA5_1 g5.wr.length Pc5_1, .slice PA5_2 g5.lv.length Pc5_2, .int .i64 g5.t.1, .int .i64 g5.t.2.1, .bool g5.t.2.2, .int .i64 g5.pd, .int .i64 g5.x.1, .int .i64 g5.x.2.1, .bool g5.x.2.2.1, .int .i64 g5.x.2.2.2, .bool g5.hl, .slice PA5_3 g5.seen.length Pc5_3] [.slice PA5_0 g5.prog.length Pc5_0, .int .i64 g5.a, .int .i64 g5.pc, .slice PA5_1 g5.wr.length Pc5_1, .slice PA5_2 g5.lv.length Pc5_2, .int .i64 g5.t.1, .int .i64 g5.t.2.1, .bool g5.t.2.2, .int .i64 g5.pd, .int .i64 g5.x.1, .int .i64 g5.x.2.1, .bool g5.x.2.2.1, .int .i64 g5.x.2.2.2, .bool g5.hl, .slice PA5_3 g5.seen.length Pc5_3] [vr b6 [.slice PA5_0 g5.prog.length Pc5_0, .int .i64 g5.a, .int .i64 g5.pc, .slice PA5_1 g5.wr.length Pc5_1, .slice PA5_2 g5.lv.length Pc5_2, .int .i64 g5.t.1, .int .i64 g5.t.2.1, .bool g5.t.2.2, .int .i64 g5.pd, .int .i64 g5.x.1, .int .i64 g5.x.2.1, .bool g5.x.2.2.1, .int .i64 g5.x.2.2.2, .bool g5.hl, .slice PA5_3 g5.seen.length Pc5_3], Sx.rdc rG w5.heap.size w5'.heap.size g5 [.slice PA5_0 g5.prog.length Pc5_0, .int .i64 g5.a, .int .i64 g5.pc, .slice PA5_1 g5.wr.length Pc5_1, .slice PA5_2 g5.lv.length Pc5_2, .int .i64 g5.t.1, .int .i64 g5.t.2.1, .bool g5.t.2.2, .int .i64 g5.pd, .int .i64 g5.x.1, .int .i64 g5.x.2.1, .bool g5.x.2.2.1, .int .i64 g5.x.2.2.2, .bool g5.hl, .slice PA5_3 g5.seen.length Pc5_3], vr b4 [.slice PA3_0 (plainG g1).prog.length Pc3_0, .int .i64 (plainG g1).a, .int .i64 (plainG g1).pc, .slice PA3_1 (plainG g1).wr.length Pc3_1, .slice PA3_2 (plainG g1).lv.length Pc3_2, .int .i64 (plainG g1).t.1, .int .i64 (plainG g1).t.2.1, .bool (plainG g1).t.2.2, .int .i64 (plainG g1).pd, .int .i64 (plainG g1).x.1, .int .i64 (plainG g1).x.2.1, .bool (plainG g1).x.2.2.1, .int .i64 (plainG g1).x.2.2.2, .bool (plainG g1).hl, .slice PA3_3 (plainG g1).seen.length Pc3_3], Sx.rdc rG w3.heap.size w3'.heap.size (plainG g1) [.slice PA3_0 (plainG g1).prog.length Pc3_0, .int .i64 (plainG g1).a, .int .i64 (plainG g1).pc, .slice PA3_1 (plainG g1).wr.length Pc3_1, .slice PA3_2 (plainG g1).lv.length Pc3_2, .int .i64 (plainG g1).t.1, .int .i64 (plainG g1).t.2.1, .bool (plainG g1).t.2.2, .int .i64 (plainG g1).pd, .int .i64 (plainG g1).x.1, .int .i64 (plainG g1).x.2.1, .bool (plainG g1).x.2.2.1, .int .i64 (plainG g1).x.2.2.2, .bool (plainG g1).hl, .slice PA3_3 (plainG g1).seen.length Pc3_3], vr b2 [.slice PA1_0 g1.prog.length Pc1_0, .int .i64 g1.a, .int .i64 g1.pc, .slice PA1_1 g1.wr.length Pc1_1, .slice PA1_2 g1.lv.length Pc1_2, .int .i64 g1.t.1, .int .i64 g1.t.2.1, .bool g1.t.2.2, .int .i64 g1.pd, .int .i64 g1.x.1, .int .i64 g1.x.2.1, .bool g1.x.2.2.1, .int .i64 g1.x.2.2.2, .bool g1.hl, .slice PA1_3 g1.seen.length Pc1_3], Sx.rdc rG w1.heap.size w1'.heap.size g1 [.slice PA1_0 g1.prog.length Pc1_0, .int .i64 g1.a, .int .i64 g1.pc, .slice PA1_1 g1.wr.length Pc1_1, .slice PA1_2 g1.lv.length Pc1_2, .int .i64 g1.t.1, .int .i64 g1.t.2.1, .bool g1.t.2.2, .int .i64 g1.pd, .int .i64 g1.x.1, .int .i64 g1.x.2.1, .bool g1.x.2.2.1, .int .i64 g1.x.2.2.2, .bool g1.hl, .slice PA1_3 g1.seen.length Pc1_3]] rfl (by kernel_rfl) (by kernel_rfl) (by kernel_rfl) rfl (by kernel_rfl) rfl (by kernel_rfl) (by kernel_rfl) (by kernel_rfl) ?_
    refine Sx.G.pure (.int .i64 n5) (by kernel_rfl) (fun w => by kernel_rfl) ?_
    refine Sx.G.nil ?_
    refine Sx.E.next ?_
    refine Sx.C.seq ?_
    refine Sx.C.region ?_
    refine Sx.G.pure (.slice A n c) (by kernel_rfl) (fun w => by kernel_rfl) ?_
    refine Sx.G.call 16 #[.slice A n c] (by kernel_rfl) (fun w => by kernel_rfl) (fun w7 S => (drawMoved A n c _ hn2 (hcode.below S.below)).mono fun e w7' hp => ?_)
    obtain ⟨g7, cs, rfl, hwf7, hsm7, hr, hb⟩ := hp
    have hrd := hr
    obtain ⟨P7_0, P7_1, P7_2, P7_3, rfl, r0, r1, r2, r3⟩ := rG_rd hrd
    obtain ⟨PA7_0, Pc7_0, e0, -⟩ := (lst_val r0)
    subst e0
    obtain ⟨PA7_1, Pc7_1, e0, -⟩ := (lst_val r1)
    subst e0
    obtain ⟨PA7_2, Pc7_2, e0, -⟩ := (lst_val r2)
    subst e0
    obtain ⟨PA7_3, Pc7_3, e0, -⟩ := (lst_val r3)
    subst e0
    clear hr
    refine ⟨_, _, rfl, (Sx.St.gotR S hb hrd), ?_⟩
    clear S hb hrd
    refine Sx.G.alloc 32 (.agg #[.slice none 0 0, .int .i64 0, .int .i64 0, .slice none 0 0, .slice none 0 0, .int .i64 0, .int .i64 0, .bool false, .int .i64 0, .int .i64 0, .int .i64 0, .bool false, .int .i64 0, .bool false, .slice none 0 0]) [.slice none 0 0, .int .i64 0, .int .i64 0, .slice none 0 0, .slice none 0 0, .int .i64 0, .int .i64 0, .bool false, .int .i64 0, .int .i64 0, .int .i64 0, .bool false, .int .i64 0, .bool false, .slice none 0 0] rfl (by kernel_rfl) (fun w => by kernel_rfl) (by kernel_rfl) (fun b8 => ?_)
    refine Sx.G.sto 32 (.tmp 7) (.tmp 21) b8 0 0 [.slice none 0 0, .int .i64 0, .int .i64 0, .slice none 0 0, .slice none 0 0, .int .i64 0, .int .i64 0, .bool false, .int .i64 0, .int .i64 0, .int .i64 0, .bool false, .int .i64 0, .bool false, .slice none 0 0] [.slice PA7_0 g7.prog.length Pc7_0, .int .i64 g7.a, .int .i64 g7.pc, .slice PA7_1 g7.wr.length Pc7_1, .slice PA7_2 g7.lv.length Pc7_2, .int .i64 g7.t.1, .int .i64 g7.t.2.1, .bool g7.t.2.2, .int .i64 g7.pd, .int .i64 g7.x.1, .int .i64 g7.x.2.1, .bool g7.x.2.2.1, .int .i64 g7.x.2.2.2, .bool g7.hl, .slice PA7_3 g7.seen.length Pc7_3] [.slice PA7_0 g7.prog.length Pc7_0, .int .i64 g7.a, .int .i64 g7.pc, .slice PA7_1 g7.wr.length Pc7_1, .slice PA7_2 g7.lv.length Pc7_2, .int .i64 g7.t.1, .int .i64 g7.t.2.1, .bool g7.t.2.2, .int .i64 g7.pd, .int .i64 g7.x.1, .int .i64 g7.x.2.1, .bool g7.x.2.2.1, .int .i64 g7.x.2.2.2, .bool g7.hl, .slice PA7_3 g7.seen.length Pc7_3] [vr b8 [.slice PA7_0 g7.prog.length Pc7_0, .int .i64 g7.a, .int .i64 g7.pc, .slice PA7_1 g7.wr.length Pc7_1, .slice PA7_2 g7.lv.length Pc7_2, .int .i64 g7.t.1, .int .i64 g7.t.2.1, .bool g7.t.2.2, .int .i64 g7.pd, .int .i64 g7.x.1, .int .i64 g7.x.2.1, .bool g7.x.2.2.1, .int .i64 g7.x.2.2.2, .bool g7.hl, .slice PA7_3 g7.seen.length Pc7_3], Sx.rdc rG w7.heap.size w7'.heap.size g7 [.slice PA7_0 g7.prog.length Pc7_0, .int .i64 g7.a, .int .i64 g7.pc, .slice PA7_1 g7.wr.length Pc7_1, .slice PA7_2 g7.lv.length Pc7_2, .int .i64 g7.t.1, .int .i64 g7.t.2.1, .bool g7.t.2.2, .int .i64 g7.pd, .int .i64 g7.x.1, .int .i64 g7.x.2.1, .bool g7.x.2.2.1, .int .i64 g7.x.2.2.2, .bool g7.hl, .slice PA7_3 g7.seen.length Pc7_3], vr b6 [.slice PA5_0 g5.prog.length Pc5_0, .int .i64 g5.a, .int .i64 g5.pc, .slice PA5_1 g5.wr.length Pc5_1, .slice PA5_2 g5.lv.length Pc5_2, .int .i64 g5.t.1, .int .i64 g5.t.2.1, .bool g5.t.2.2, .int .i64 g5.pd, .int .i64 g5.x.1, .int .i64 g5.x.2.1, .bool g5.x.2.2.1, .int .i64 g5.x.2.2.2, .bool g5.hl, .slice PA5_3 g5.seen.length Pc5_3], Sx.rdc rG w5.heap.size w5'.heap.size g5 [.slice PA5_0 g5.prog.length Pc5_0, .int .i64 g5.a, .int .i64 g5.pc, .slice PA5_1 g5.wr.length Pc5_1, .slice PA5_2 g5.lv.length Pc5_2, .int .i64 g5.t.1, .int .i64 g5.t.2.1, .bool g5.t.2.2, .int .i64 g5.pd, .int .i64 g5.x.1, .int .i64 g5.x.2.1, .bool g5.x.2.2.1, .int .i64 g5.x.2.2.2, .bool g5.hl, .slice PA5_3 g5.seen.length Pc5_3], vr b4 [.slice PA3_0 (plainG g1).prog.length Pc3_0, .int .i64 (plainG g1).a, .int .i64 (plainG g1).pc, .slice PA3_1 (plainG g1).wr.length Pc3_1, .slice PA3_2 (plainG g1).lv.length Pc3_2, .int .i64 (plainG g1).t.1, .int .i64 (plainG g1).t.2.1, .bool (plainG g1).t.2.2, .int .i64 (plainG g1).pd, .int .i64 (plainG g1).x.1, .int .i64 (plainG g1).x.2.1, .bool (plainG g1).x.2.2.1, .int .i64 (plainG g1).x.2.2.2, .bool (plainG g1).hl, .slice PA3_3 (plainG g1).seen.length Pc3_3], Sx.rdc rG w3.heap.size w3'.heap.size (plainG g1) [.slice PA3_0 (plainG g1).prog.length Pc3_0, .int .i64 (plainG g1).a, .int .i64 (plainG g1).pc, .slice PA3_1 (plainG g1).wr.length Pc3_1, .slice PA3_2 (plainG g1).lv.length Pc3_2, .int .i64 (plainG g1).t.1, .int .i64 (plainG g1).t.2.1, .bool (plainG g1).t.2.2, .int .i64 (plainG g1).pd, .int .i64 (plainG g1).x.1, .int .i64 (plainG g1).x.2.1, .bool (plainG g1).x.2.2.1, .int .i64 (plainG g1).x.2.2.2, .bool (plainG g1).hl, .slice PA3_3 (plainG g1).seen.length Pc3_3], vr b2 [.slice PA1_0 g1.prog.length Pc1_0, .int .i64 g1.a, .int .i64 g1.pc, .slice PA1_1 g1.wr.length Pc1_1, .slice PA1_2 g1.lv.length Pc1_2, .int .i64 g1.t.1, .int .i64 g1.t.2.1, .bool g1.t.2.2, .int .i64 g1.pd, .int .i64 g1.x.1, .int .i64 g1.x.2.1, .bool g1.x.2.2.1, .int .i64 g1.x.2.2.2, .bool g1.hl, .slice PA1_3 g1.seen.length Pc1_3], Sx.rdc rG w1.heap.size w1'.heap.size g1 [.slice PA1_0 g1.prog.length Pc1_0, .int .i64 g1.a, .int .i64 g1.pc, .slice PA1_1 g1.wr.length Pc1_1, .slice PA1_2 g1.lv.length Pc1_2, .int .i64 g1.t.1, .int .i64 g1.t.2.1, .bool g1.t.2.2, .int .i64 g1.pd, .int .i64 g1.x.1, .int .i64 g1.x.2.1, .bool g1.x.2.2.1, .int .i64 g1.x.2.2.2, .bool g1.hl, .slice PA1_3 g1.seen.length Pc1_3]] rfl (by kernel_rfl) (by kernel_rfl) (by kernel_rfl) rfl (by kernel_rfl) rfl (by kernel_rfl) (by kernel_rfl) (by kernel_rfl) ?_
    refine Sx.G.nil ?_
    refine Sx.E.next ?_
    refine Sx.C.seq ?_
    refine Sx.C.seq ?_
    refine Sx.C.draw (.take 0 (.take 1 (.alone 2 (.alone 3 (.take 4 (.take 5 (.take 6 (.take 7 (.take 9 (.take 10 (.alone 8 (.alone 11 (.alone 12 (.take 13 (.take 14 (.take 15 (.take 16 (.take 18 (.alone 17 (.alone 19 (.alone 20 (.take 21 (.take 22 (.take 23 (.take 24 (.take 26 (.alone 25 (.alone 27 (.alone 28 (.take 29 (.take 30 (.take 31 (.take 32 (.take 34 (.alone 33 (.alone 35 (.alone 36 (.take 37 (.take 38 (.take 39 (.take 40 (.take 42 (.alone 41 (.alone 43 (.take 44 (.take 45 (.take 46 (.take 47 (.take 49 (.alone 48 (.alone 50 (.take 51 (.take 52 .nil))))))))))))))))))))))))))))))))))))))))))))))))))))) [vr b8 [.slice PA7_0 g7.prog.length Pc7_0, .int .i64 g7.a, .int .i64 g7.pc, .slice PA7_1 g7.wr.length Pc7_1, .slice PA7_2 g7.lv.length Pc7_2, .int .i64 g7.t.1, .int .i64 g7.t.2.1, .bool g7.t.2.2, .int .i64 g7.pd, .int .i64 g7.x.1, .int .i64 g7.x.2.1, .bool g7.x.2.2.1, .int .i64 g7.x.2.2.2, .bool g7.hl, .slice PA7_3 g7.seen.length Pc7_3], vr b6 [.slice PA5_0 g5.prog.length Pc5_0, .int .i64 g5.a, .int .i64 g5.pc, .slice PA5_1 g5.wr.length Pc5_1, .slice PA5_2 g5.lv.length Pc5_2, .int .i64 g5.t.1, .int .i64 g5.t.2.1, .bool g5.t.2.2, .int .i64 g5.pd, .int .i64 g5.x.1, .int .i64 g5.x.2.1, .bool g5.x.2.2.1, .int .i64 g5.x.2.2.2, .bool g5.hl, .slice PA5_3 g5.seen.length Pc5_3], vr b4 [.slice PA3_0 (plainG g1).prog.length Pc3_0, .int .i64 (plainG g1).a, .int .i64 (plainG g1).pc, .slice PA3_1 (plainG g1).wr.length Pc3_1, .slice PA3_2 (plainG g1).lv.length Pc3_2, .int .i64 (plainG g1).t.1, .int .i64 (plainG g1).t.2.1, .bool (plainG g1).t.2.2, .int .i64 (plainG g1).pd, .int .i64 (plainG g1).x.1, .int .i64 (plainG g1).x.2.1, .bool (plainG g1).x.2.2.1, .int .i64 (plainG g1).x.2.2.2, .bool (plainG g1).hl, .slice PA3_3 (plainG g1).seen.length Pc3_3], vr b2 [.slice PA1_0 g1.prog.length Pc1_0, .int .i64 g1.a, .int .i64 g1.pc, .slice PA1_1 g1.wr.length Pc1_1, .slice PA1_2 g1.lv.length Pc1_2, .int .i64 g1.t.1, .int .i64 g1.t.2.1, .bool g1.t.2.2, .int .i64 g1.pd, .int .i64 g1.x.1, .int .i64 g1.x.2.1, .bool g1.x.2.2.1, .int .i64 g1.x.2.2.2, .bool g1.hl, .slice PA1_3 g1.seen.length Pc1_3]] (fun w S => St.pick S [0, 2, 4, 6] _ rfl (by decide)) (by kernel_rfl) (by kernel_rfl) (by kernel_rfl) ?_
    refine Sx.GT.ld 32 (.tmp 4) b4 0 2 [.slice PA3_0 (plainG g1).prog.length Pc3_0, .int .i64 (plainG g1).a, .int .i64 (plainG g1).pc, .slice PA3_1 (plainG g1).wr.length Pc3_1, .slice PA3_2 (plainG g1).lv.length Pc3_2, .int .i64 (plainG g1).t.1, .int .i64 (plainG g1).t.2.1, .bool (plainG g1).t.2.2, .int .i64 (plainG g1).pd, .int .i64 (plainG g1).x.1, .int .i64 (plainG g1).x.2.1, .bool (plainG g1).x.2.2.1, .int .i64 (plainG g1).x.2.2.2, .bool (plainG g1).hl, .slice PA3_3 (plainG g1).seen.length Pc3_3] [.slice PA3_0 (plainG g1).prog.length Pc3_0, .int .i64 (plainG g1).a, .int .i64 (plainG g1).pc, .slice PA3_1 (plainG g1).wr.length Pc3_1, .slice PA3_2 (plainG g1).lv.length Pc3_2, .int .i64 (plainG g1).t.1, .int .i64 (plainG g1).t.2.1, .bool (plainG g1).t.2.2, .int .i64 (plainG g1).pd, .int .i64 (plainG g1).x.1, .int .i64 (plainG g1).x.2.1, .bool (plainG g1).x.2.2.1, .int .i64 (plainG g1).x.2.2.2, .bool (plainG g1).hl, .slice PA3_3 (plainG g1).seen.length Pc3_3] 0 (by rfl) (by rfl) (by kernel_rfl) (by kernel_rfl) (by rfl) (by kernel_rfl) (by kernel_rfl) (by kernel_rfl) ?_
    refine Sx.GT.ld 32 (.tmp 3) b2 0 3 [.slice PA1_0 g1.prog.length Pc1_0, .int .i64 g1.a, .int .i64 g1.pc, .slice PA1_1 g1.wr.length Pc1_1, .slice PA1_2 g1.lv.length Pc1_2, .int .i64 g1.t.1, .int .i64 g1.t.2.1, .bool g1.t.2.2, .int .i64 g1.pd, .int .i64 g1.x.1, .int .i64 g1.x.2.1, .bool g1.x.2.2.1, .int .i64 g1.x.2.2.2, .bool g1.hl, .slice PA1_3 g1.seen.length Pc1_3] [.slice PA1_0 g1.prog.length Pc1_0, .int .i64 g1.a, .int .i64 g1.pc, .slice PA1_1 g1.wr.length Pc1_1, .slice PA1_2 g1.lv.length Pc1_2, .int .i64 g1.t.1, .int .i64 g1.t.2.1, .bool g1.t.2.2, .int .i64 g1.pd, .int .i64 g1.x.1, .int .i64 g1.x.2.1, .bool g1.x.2.2.1, .int .i64 g1.x.2.2.2, .bool g1.hl, .slice PA1_3 g1.seen.length Pc1_3] 1 (by rfl) (by rfl) (by kernel_rfl) (by kernel_rfl) (by rfl) (by kernel_rfl) (by kernel_rfl) (by kernel_rfl) ?_
    refine Sx.GT.alone (Sx.Alone.call 18 #[.agg #[.slice PA1_0 g1.prog.length Pc1_0, .int .i64 g1.a, .int .i64 g1.pc, .slice PA1_1 g1.wr.length Pc1_1, .slice PA1_2 g1.lv.length Pc1_2, .int .i64 g1.t.1, .int .i64 g1.t.2.1, .bool g1.t.2.2, .int .i64 g1.pd, .int .i64 g1.x.1, .int .i64 g1.x.2.1, .bool g1.x.2.2.1, .int .i64 g1.x.2.2.2, .bool g1.hl, .slice PA1_3 g1.seen.length Pc1_3]] (by rfl) (by kernel_rfl) (fun w => by kernel_rfl) (fun w9 S => (specx_plain g1 _ _ (small_cap hsm1) (Sx.St.rdc S 7 rfl)).mono fun e w9' hp => ?_))
    obtain ⟨cs, F, rfl, ho, hF, hb⟩ := hp
    have hrd := rG.reads ho
    obtain ⟨P9_0, P9_1, P9_2, P9_3, rfl, r0, r1, r2, r3⟩ := rG_rd hrd
    obtain ⟨PA9_0, Pc9_0, e0, -⟩ := (lst_val r0)
    subst e0
    obtain ⟨PA9_1, Pc9_1, e0, -⟩ := (lst_val r1)
    subst e0
    obtain ⟨PA9_2, Pc9_2, e0, -⟩ := (lst_val r2)
    subst e0
    obtain ⟨PA9_3, Pc9_3, e0, -⟩ := (lst_val r3)
    subst e0
    refine ⟨_, _, rfl, (Sx.St.gotR S hb hrd), (fun w S => St.pick S [1, 3, 5, 7] _ rfl (by decide)), ?_⟩
    clear S ho hF hb hrd
    refine Sx.GT.alone (Sx.Alone.plain 17 #[.agg #[.slice PA3_0 (plainG g1).prog.length Pc3_0, .int .i64 (plainG g1).a, .int .i64 (plainG g1).pc, .slice PA3_1 (plainG g1).wr.length Pc3_1, .slice PA3_2 (plainG g1).lv.length Pc3_2, .int .i64 (plainG g1).t.1, .int .i64 (plainG g1).t.2.1, .bool (plainG g1).t.2.2, .int .i64 (plainG g1).pd, .int .i64 (plainG g1).x.1, .int .i64 (plainG g1).x.2.1, .bool (plainG g1).x.2.2.1, .int .i64 (plainG g1).x.2.2.2, .bool (plainG g1).hl, .slice PA3_3 (plainG g1).seen.length Pc3_3], .agg #[.slice PA9_0 (plainG g1).prog.length Pc9_0, .int .i64 (plainG g1).a, .int .i64 (plainG g1).pc, .slice PA9_1 (plainG g1).wr.length Pc9_1, .slice PA9_2 (plainG g1).lv.length Pc9_2, .int .i64 (plainG g1).t.1, .int .i64 (plainG g1).t.2.1, .bool (plainG g1).t.2.2, .int .i64 (plainG g1).pd, .int .i64 (plainG g1).x.1, .int .i64 (plainG g1).x.2.1, .bool (plainG g1).x.2.2.1, .int .i64 (plainG g1).x.2.2.2, .bool (plainG g1).hl, .slice PA9_3 (plainG g1).seen.length Pc9_3]] (.bool true) (by rfl) (by kernel_rfl) (fun w => by kernel_rfl) (fun w S => by exact ((law_sameG (plainG g1) (plainG g1) _ _ _ (small_plain hsm1) (small_plain hsm1) (Sx.St.rdc S 6 rfl) (Sx.St.rdc S 0 rfl)).mono fun e w' h => And.intro (h.1.trans (by rw [sameG_refl])) h.2)) (fun w S => St.pick S [1, 3, 5, 7] _ rfl (by decide)) ?_)
    refine Sx.GT.pure (.bool false) 4 (by rfl) (by kernel_rfl) (fun w => by kernel_rfl) ?_
    refine Sx.GT.pure (.bool false) 5 (by rfl) (by kernel_rfl) (fun w => by kernel_rfl) ?_
    refine Sx.GT.ld 32 (.tmp 5) b6 0 1 [.slice PA5_0 g5.prog.length Pc5_0, .int .i64 g5.a, .int .i64 g5.pc, .slice PA5_1 g5.wr.length Pc5_1, .slice PA5_2 g5.lv.length Pc5_2, .int .i64 g5.t.1, .int .i64 g5.t.2.1, .bool g5.t.2.2, .int .i64 g5.pd, .int .i64 g5.x.1, .int .i64 g5.x.2.1, .bool g5.x.2.2.1, .int .i64 g5.x.2.2.2, .bool g5.hl, .slice PA5_3 g5.seen.length Pc5_3] [.slice PA5_0 g5.prog.length Pc5_0, .int .i64 g5.a, .int .i64 g5.pc, .slice PA5_1 g5.wr.length Pc5_1, .slice PA5_2 g5.lv.length Pc5_2, .int .i64 g5.t.1, .int .i64 g5.t.2.1, .bool g5.t.2.2, .int .i64 g5.pd, .int .i64 g5.x.1, .int .i64 g5.x.2.1, .bool g5.x.2.2.1, .int .i64 g5.x.2.2.2, .bool g5.hl, .slice PA5_3 g5.seen.length Pc5_3] 6 (by rfl) (by rfl) (by kernel_rfl) (by kernel_rfl) (by rfl) (by kernel_rfl) (by kernel_rfl) (by kernel_rfl) ?_
    refine Sx.GT.pure (.int .i64 n5) 7 (by rfl) (by kernel_rfl) (fun w => by kernel_rfl) ?_
    refine Sx.GT.ld 32 (.tmp 5) b6 0 1 [.slice PA5_0 g5.prog.length Pc5_0, .int .i64 g5.a, .int .i64 g5.pc, .slice PA5_1 g5.wr.length Pc5_1, .slice PA5_2 g5.lv.length Pc5_2, .int .i64 g5.t.1, .int .i64 g5.t.2.1, .bool g5.t.2.2, .int .i64 g5.pd, .int .i64 g5.x.1, .int .i64 g5.x.2.1, .bool g5.x.2.2.1, .int .i64 g5.x.2.2.2, .bool g5.hl, .slice PA5_3 g5.seen.length Pc5_3] [.slice PA5_0 g5.prog.length Pc5_0, .int .i64 g5.a, .int .i64 g5.pc, .slice PA5_1 g5.wr.length Pc5_1, .slice PA5_2 g5.lv.length Pc5_2, .int .i64 g5.t.1, .int .i64 g5.t.2.1, .bool g5.t.2.2, .int .i64 g5.pd, .int .i64 g5.x.1, .int .i64 g5.x.2.1, .bool g5.x.2.2.1, .int .i64 g5.x.2.2.2, .bool g5.hl, .slice PA5_3 g5.seen.length Pc5_3] 9 (by rfl) (by rfl) (by kernel_rfl) (by kernel_rfl) (by rfl) (by kernel_rfl) (by kernel_rfl) (by kernel_rfl) ?_
    refine Sx.GT.pure (.int .i64 n5) 10 (by rfl) (by kernel_rfl) (fun w => by kernel_rfl) ?_
    refine Sx.GT.alone (Sx.Alone.call 19 #[.agg #[.slice PA5_0 g5.prog.length Pc5_0, .int .i64 g5.a, .int .i64 g5.pc, .slice PA5_1 g5.wr.length Pc5_1, .slice PA5_2 g5.lv.length Pc5_2, .int .i64 g5.t.1, .int .i64 g5.t.2.1, .bool g5.t.2.2, .int .i64 g5.pd, .int .i64 g5.x.1, .int .i64 g5.x.2.1, .bool g5.x.2.2.1, .int .i64 g5.x.2.2.2, .bool g5.hl, .slice PA5_3 g5.seen.length Pc5_3], .int .i64 n5] (by rfl) (by kernel_rfl) (fun w => by kernel_rfl) (fun w10 S => (impl_loaded g5 _ n5 _ hwf5 hwn5 (small_cap hsm5) (Sx.St.rdc S 4 rfl)).mono fun e w10' hp => ?_))
    obtain ⟨y0, y1, y2, y3, rfl, ho, hb⟩ := hp
    obtain ⟨PA10_0, Pc10_0, e0, -⟩ := ho.r0
    subst e0
    obtain ⟨PA10_1, Pc10_1, e0, -⟩ := ho.r1
    subst e0
    obtain ⟨PA10_2, Pc10_2, e0, -⟩ := ho.r2
    subst e0
    obtain ⟨PA10_3, Pc10_3, e0, -⟩ := ho.r3
    subst e0
    have hrd := ho.rg
    refine ⟨_, _, rfl, (Sx.St.gotR S hb hrd), (fun w S => St.pick S [2, 4, 6, 8] _ rfl (by decide)), ?_⟩
    clear S ho hb hrd
    refine Sx.GT.alone (Sx.Alone.call 20 #[.agg #[.slice PA5_0 g5.prog.length Pc5_0, .int .i64 g5.a, .int .i64 g5.pc, .slice PA5_1 g5.wr.length Pc5_1, .slice PA5_2 g5.lv.length Pc5_2, .int .i64 g5.t.1, .int .i64 g5.t.2.1, .bool g5.t.2.2, .int .i64 g5.pd, .int .i64 g5.x.1, .int .i64 g5.x.2.1, .bool g5.x.2.2.1, .int .i64 g5.x.2.2.2, .bool g5.hl, .slice PA5_3 g5.seen.length Pc5_3], .int .i64 n5] (by rfl) (by kernel_rfl) (fun w => by kernel_rfl) (fun w11 S => (specx_loaded g5 _ n5 _ (small_cap hsm5) (Sx.St.rdc S 5 rfl) (small_loaded hsm5)).mono fun e w11' hp => ?_))
    obtain ⟨cs, F, rfl, ho, hF, hb⟩ := hp
    have hrd := rG.reads ho
    obtain ⟨P11_0, P11_1, P11_2, P11_3, rfl, r0, r1, r2, r3⟩ := rG_rd hrd
    obtain ⟨PA11_0, Pc11_0, e0, -⟩ := (lst_val r0)
    subst e0
    obtain ⟨PA11_1, Pc11_1, e0, -⟩ := (lst_val r1)
    subst e0
    obtain ⟨PA11_2, Pc11_2, e0, -⟩ := (lst_val r2)
    subst e0
    obtain ⟨PA11_3, Pc11_3, e0, -⟩ := (lst_val r3)
    subst e0
    refine ⟨_, _, rfl, (Sx.St.gotR S hb hrd), (fun w S => St.pick S [3, 5, 7, 9] _ rfl (by decide)), ?_⟩
    clear S ho hF hb hrd
    refine Sx.GT.alone (Sx.Alone.plain 17 #[.agg #[.slice PA10_0 (loadedG g5 n5).prog.length Pc10_0, .int .i64 (loadedG g5 n5).a, .int .i64 (loadedG g5 n5).pc, .slice PA10_1 (loadedG g5 n5).wr.length Pc10_1, .slice PA10_2 (loadedG g5 n5).lv.length Pc10_2, .int .i64 (loadedG g5 n5).t.1, .int .i64 (loadedG g5 n5).t.2.1, .bool (loadedG g5 n5).t.2.2, .int .i64 (loadedG g5 n5).pd, .int .i64 (loadedG g5 n5).x.1, .int .i64 (loadedG g5 n5).x.2.1, .bool (loadedG g5 n5).x.2.2.1, .int .i64 (loadedG g5 n5).x.2.2.2, .bool (loadedG g5 n5).hl, .slice PA10_3 (loadedG g5 n5).seen.length Pc10_3], .agg #[.slice PA11_0 (loadedG g5 n5).prog.length Pc11_0, .int .i64 (loadedG g5 n5).a, .int .i64 (loadedG g5 n5).pc, .slice PA11_1 (loadedG g5 n5).wr.length Pc11_1, .slice PA11_2 (loadedG g5 n5).lv.length Pc11_2, .int .i64 (loadedG g5 n5).t.1, .int .i64 (loadedG g5 n5).t.2.1, .bool (loadedG g5 n5).t.2.2, .int .i64 (loadedG g5 n5).pd, .int .i64 (loadedG g5 n5).x.1, .int .i64 (loadedG g5 n5).x.2.1, .bool (loadedG g5 n5).x.2.2.1, .int .i64 (loadedG g5 n5).x.2.2.2, .bool (loadedG g5 n5).hl, .slice PA11_3 (loadedG g5 n5).seen.length Pc11_3]] (.bool true) (by rfl) (by kernel_rfl) (fun w => by kernel_rfl) (fun w S => by exact ((law_sameG (loadedG g5 n5) (loadedG g5 n5) _ _ _ (small_loaded hsm5) (small_loaded hsm5) (Sx.St.rdc S 1 rfl) (Sx.St.rdc S 0 rfl)).mono fun e w' h => And.intro (h.1.trans (by rw [sameG_refl])) h.2)) (fun w S => St.pick S [3, 5, 7, 9] _ rfl (by decide)) ?_)
    refine Sx.GT.pure (.bool false) 13 (by rfl) (by kernel_rfl) (fun w => by kernel_rfl) ?_
    refine Sx.GT.pure (.bool false) 14 (by rfl) (by kernel_rfl) (fun w => by kernel_rfl) ?_
    refine Sx.GT.pure (.bool false) 15 (by rfl) (by kernel_rfl) (fun w => by kernel_rfl) ?_
    refine Sx.GT.ld 32 (.tmp 7) b8 0 0 [.slice PA7_0 g7.prog.length Pc7_0, .int .i64 g7.a, .int .i64 g7.pc, .slice PA7_1 g7.wr.length Pc7_1, .slice PA7_2 g7.lv.length Pc7_2, .int .i64 g7.t.1, .int .i64 g7.t.2.1, .bool g7.t.2.2, .int .i64 g7.pd, .int .i64 g7.x.1, .int .i64 g7.x.2.1, .bool g7.x.2.2.1, .int .i64 g7.x.2.2.2, .bool g7.hl, .slice PA7_3 g7.seen.length Pc7_3] [.slice PA7_0 g7.prog.length Pc7_0, .int .i64 g7.a, .int .i64 g7.pc, .slice PA7_1 g7.wr.length Pc7_1, .slice PA7_2 g7.lv.length Pc7_2, .int .i64 g7.t.1, .int .i64 g7.t.2.1, .bool g7.t.2.2, .int .i64 g7.pd, .int .i64 g7.x.1, .int .i64 g7.x.2.1, .bool g7.x.2.2.1, .int .i64 g7.x.2.2.2, .bool g7.hl, .slice PA7_3 g7.seen.length Pc7_3] 16 (by rfl) (by rfl) (by kernel_rfl) (by kernel_rfl) (by rfl) (by kernel_rfl) (by kernel_rfl) (by kernel_rfl) ?_
    refine Sx.GT.ld 32 (.tmp 7) b8 0 0 [.slice PA7_0 g7.prog.length Pc7_0, .int .i64 g7.a, .int .i64 g7.pc, .slice PA7_1 g7.wr.length Pc7_1, .slice PA7_2 g7.lv.length Pc7_2, .int .i64 g7.t.1, .int .i64 g7.t.2.1, .bool g7.t.2.2, .int .i64 g7.pd, .int .i64 g7.x.1, .int .i64 g7.x.2.1, .bool g7.x.2.2.1, .int .i64 g7.x.2.2.2, .bool g7.hl, .slice PA7_3 g7.seen.length Pc7_3] [.slice PA7_0 g7.prog.length Pc7_0, .int .i64 g7.a, .int .i64 g7.pc, .slice PA7_1 g7.wr.length Pc7_1, .slice PA7_2 g7.lv.length Pc7_2, .int .i64 g7.t.1, .int .i64 g7.t.2.1, .bool g7.t.2.2, .int .i64 g7.pd, .int .i64 g7.x.1, .int .i64 g7.x.2.1, .bool g7.x.2.2.1, .int .i64 g7.x.2.2.2, .bool g7.hl, .slice PA7_3 g7.seen.length Pc7_3] 18 (by rfl) (by rfl) (by kernel_rfl) (by kernel_rfl) (by rfl) (by kernel_rfl) (by kernel_rfl) (by kernel_rfl) ?_
    refine Sx.GT.alone (Sx.Alone.call 21 #[.agg #[.slice PA7_0 g7.prog.length Pc7_0, .int .i64 g7.a, .int .i64 g7.pc, .slice PA7_1 g7.wr.length Pc7_1, .slice PA7_2 g7.lv.length Pc7_2, .int .i64 g7.t.1, .int .i64 g7.t.2.1, .bool g7.t.2.2, .int .i64 g7.pd, .int .i64 g7.x.1, .int .i64 g7.x.2.1, .bool g7.x.2.2.1, .int .i64 g7.x.2.2.2, .bool g7.hl, .slice PA7_3 g7.seen.length Pc7_3]] (by rfl) (by kernel_rfl) (fun w => by kernel_rfl) (fun w12 S => (impl_moved g7 _ _ hwf7 (small_cap hsm7) (Sx.St.rdc S 4 rfl)).mono fun e w12' hp => ?_))
    obtain ⟨y0, y1, y2, y3, rfl, ho, hb⟩ := hp
    obtain ⟨PA12_0, Pc12_0, e0, -⟩ := ho.r0
    subst e0
    obtain ⟨PA12_1, Pc12_1, e0, -⟩ := ho.r1
    subst e0
    obtain ⟨PA12_2, Pc12_2, e0, -⟩ := ho.r2
    subst e0
    obtain ⟨PA12_3, Pc12_3, e0, -⟩ := ho.r3
    subst e0
    have hrd := ho.rg
    refine ⟨_, _, rfl, (Sx.St.gotR S hb hrd), (fun w S => St.pick S [4, 6, 8, 10] _ rfl (by decide)), ?_⟩
    clear S ho hb hrd
    refine Sx.GT.alone (Sx.Alone.call 22 #[.agg #[.slice PA7_0 g7.prog.length Pc7_0, .int .i64 g7.a, .int .i64 g7.pc, .slice PA7_1 g7.wr.length Pc7_1, .slice PA7_2 g7.lv.length Pc7_2, .int .i64 g7.t.1, .int .i64 g7.t.2.1, .bool g7.t.2.2, .int .i64 g7.pd, .int .i64 g7.x.1, .int .i64 g7.x.2.1, .bool g7.x.2.2.1, .int .i64 g7.x.2.2.2, .bool g7.hl, .slice PA7_3 g7.seen.length Pc7_3]] (by rfl) (by kernel_rfl) (fun w => by kernel_rfl) (fun w13 S => (specx_moved g7 _ _ (small_cap hsm7) (Sx.St.rdc S 5 rfl)).mono fun e w13' hp => ?_))
    obtain ⟨cs, F, rfl, ho, hF, hb⟩ := hp
    have hrd := rG.reads ho
    obtain ⟨P13_0, P13_1, P13_2, P13_3, rfl, r0, r1, r2, r3⟩ := rG_rd hrd
    obtain ⟨PA13_0, Pc13_0, e0, -⟩ := (lst_val r0)
    subst e0
    obtain ⟨PA13_1, Pc13_1, e0, -⟩ := (lst_val r1)
    subst e0
    obtain ⟨PA13_2, Pc13_2, e0, -⟩ := (lst_val r2)
    subst e0
    obtain ⟨PA13_3, Pc13_3, e0, -⟩ := (lst_val r3)
    subst e0
    refine ⟨_, _, rfl, (Sx.St.gotR S hb hrd), (fun w S => St.pick S [5, 7, 9, 11] _ rfl (by decide)), ?_⟩
    clear S ho hF hb hrd
    refine Sx.GT.alone (Sx.Alone.plain 17 #[.agg #[.slice PA12_0 (movedG g7).prog.length Pc12_0, .int .i64 (movedG g7).a, .int .i64 (movedG g7).pc, .slice PA12_1 (movedG g7).wr.length Pc12_1, .slice PA12_2 (movedG g7).lv.length Pc12_2, .int .i64 (movedG g7).t.1, .int .i64 (movedG g7).t.2.1, .bool (movedG g7).t.2.2, .int .i64 (movedG g7).pd, .int .i64 (movedG g7).x.1, .int .i64 (movedG g7).x.2.1, .bool (movedG g7).x.2.2.1, .int .i64 (movedG g7).x.2.2.2, .bool (movedG g7).hl, .slice PA12_3 (movedG g7).seen.length Pc12_3], .agg #[.slice PA13_0 (movedG g7).prog.length Pc13_0, .int .i64 (movedG g7).a, .int .i64 (movedG g7).pc, .slice PA13_1 (movedG g7).wr.length Pc13_1, .slice PA13_2 (movedG g7).lv.length Pc13_2, .int .i64 (movedG g7).t.1, .int .i64 (movedG g7).t.2.1, .bool (movedG g7).t.2.2, .int .i64 (movedG g7).pd, .int .i64 (movedG g7).x.1, .int .i64 (movedG g7).x.2.1, .bool (movedG g7).x.2.2.1, .int .i64 (movedG g7).x.2.2.2, .bool (movedG g7).hl, .slice PA13_3 (movedG g7).seen.length Pc13_3]] (.bool true) (by rfl) (by kernel_rfl) (fun w => by kernel_rfl) (fun w S => by exact ((law_sameG (movedG g7) (movedG g7) _ _ _ (small_moved hsm7) (small_moved hsm7) (Sx.St.rdc S 1 rfl) (Sx.St.rdc S 0 rfl)).mono fun e w' h => And.intro (h.1.trans (by rw [sameG_refl])) h.2)) (fun w S => St.pick S [5, 7, 9, 11] _ rfl (by decide)) ?_)
    refine Sx.GT.pure (.bool false) 21 (by rfl) (by kernel_rfl) (fun w => by kernel_rfl) ?_
    refine Sx.GT.pure (.bool false) 22 (by rfl) (by kernel_rfl) (fun w => by kernel_rfl) ?_
    refine Sx.GT.pure (.bool false) 23 (by rfl) (by kernel_rfl) (fun w => by kernel_rfl) ?_
    refine Sx.GT.ld 32 (.tmp 7) b8 0 0 [.slice PA7_0 g7.prog.length Pc7_0, .int .i64 g7.a, .int .i64 g7.pc, .slice PA7_1 g7.wr.length Pc7_1, .slice PA7_2 g7.lv.length Pc7_2, .int .i64 g7.t.1, .int .i64 g7.t.2.1, .bool g7.t.2.2, .int .i64 g7.pd, .int .i64 g7.x.1, .int .i64 g7.x.2.1, .bool g7.x.2.2.1, .int .i64 g7.x.2.2.2, .bool g7.hl, .slice PA7_3 g7.seen.length Pc7_3] [.slice PA7_0 g7.prog.length Pc7_0, .int .i64 g7.a, .int .i64 g7.pc, .slice PA7_1 g7.wr.length Pc7_1, .slice PA7_2 g7.lv.length Pc7_2, .int .i64 g7.t.1, .int .i64 g7.t.2.1, .bool g7.t.2.2, .int .i64 g7.pd, .int .i64 g7.x.1, .int .i64 g7.x.2.1, .bool g7.x.2.2.1, .int .i64 g7.x.2.2.2, .bool g7.hl, .slice PA7_3 g7.seen.length Pc7_3] 24 (by rfl) (by rfl) (by kernel_rfl) (by kernel_rfl) (by rfl) (by kernel_rfl) (by kernel_rfl) (by kernel_rfl) ?_
    refine Sx.GT.ld 32 (.tmp 7) b8 0 0 [.slice PA7_0 g7.prog.length Pc7_0, .int .i64 g7.a, .int .i64 g7.pc, .slice PA7_1 g7.wr.length Pc7_1, .slice PA7_2 g7.lv.length Pc7_2, .int .i64 g7.t.1, .int .i64 g7.t.2.1, .bool g7.t.2.2, .int .i64 g7.pd, .int .i64 g7.x.1, .int .i64 g7.x.2.1, .bool g7.x.2.2.1, .int .i64 g7.x.2.2.2, .bool g7.hl, .slice PA7_3 g7.seen.length Pc7_3] [.slice PA7_0 g7.prog.length Pc7_0, .int .i64 g7.a, .int .i64 g7.pc, .slice PA7_1 g7.wr.length Pc7_1, .slice PA7_2 g7.lv.length Pc7_2, .int .i64 g7.t.1, .int .i64 g7.t.2.1, .bool g7.t.2.2, .int .i64 g7.pd, .int .i64 g7.x.1, .int .i64 g7.x.2.1, .bool g7.x.2.2.1, .int .i64 g7.x.2.2.2, .bool g7.hl, .slice PA7_3 g7.seen.length Pc7_3] 26 (by rfl) (by rfl) (by kernel_rfl) (by kernel_rfl) (by rfl) (by kernel_rfl) (by kernel_rfl) (by kernel_rfl) ?_
    refine Sx.GT.alone (Sx.Alone.call 23 #[.agg #[.slice PA7_0 g7.prog.length Pc7_0, .int .i64 g7.a, .int .i64 g7.pc, .slice PA7_1 g7.wr.length Pc7_1, .slice PA7_2 g7.lv.length Pc7_2, .int .i64 g7.t.1, .int .i64 g7.t.2.1, .bool g7.t.2.2, .int .i64 g7.pd, .int .i64 g7.x.1, .int .i64 g7.x.2.1, .bool g7.x.2.2.1, .int .i64 g7.x.2.2.2, .bool g7.hl, .slice PA7_3 g7.seen.length Pc7_3]] (by rfl) (by kernel_rfl) (fun w => by kernel_rfl) (fun w14 S => (impl_stored g7 _ _ hwf7 (small_cap hsm7) (Sx.St.rdc S 6 rfl)).mono fun e w14' hp => ?_))
    obtain ⟨y0, y1, y2, y3, rfl, ho, hb⟩ := hp
    obtain ⟨PA14_0, Pc14_0, e0, -⟩ := ho.r0
    subst e0
    obtain ⟨PA14_1, Pc14_1, e0, -⟩ := ho.r1
    subst e0
    obtain ⟨PA14_2, Pc14_2, e0, -⟩ := ho.r2
    subst e0
    obtain ⟨PA14_3, Pc14_3, e0, -⟩ := ho.r3
    subst e0
    have hrd := ho.rg
    refine ⟨_, _, rfl, (Sx.St.gotR S hb hrd), (fun w S => St.pick S [6, 8, 10, 12] _ rfl (by decide)), ?_⟩
    clear S ho hb hrd
    refine Sx.GT.alone (Sx.Alone.call 24 #[.agg #[.slice PA7_0 g7.prog.length Pc7_0, .int .i64 g7.a, .int .i64 g7.pc, .slice PA7_1 g7.wr.length Pc7_1, .slice PA7_2 g7.lv.length Pc7_2, .int .i64 g7.t.1, .int .i64 g7.t.2.1, .bool g7.t.2.2, .int .i64 g7.pd, .int .i64 g7.x.1, .int .i64 g7.x.2.1, .bool g7.x.2.2.1, .int .i64 g7.x.2.2.2, .bool g7.hl, .slice PA7_3 g7.seen.length Pc7_3]] (by rfl) (by kernel_rfl) (fun w => by kernel_rfl) (fun w15 S => (specx_stored g7 _ _ (small_cap hsm7) (Sx.St.rdc S 7 rfl)).mono fun e w15' hp => ?_))
    obtain ⟨cs, F, rfl, ho, hF, hb⟩ := hp
    have hrd := rG.reads ho
    obtain ⟨P15_0, P15_1, P15_2, P15_3, rfl, r0, r1, r2, r3⟩ := rG_rd hrd
    obtain ⟨PA15_0, Pc15_0, e0, -⟩ := (lst_val r0)
    subst e0
    obtain ⟨PA15_1, Pc15_1, e0, -⟩ := (lst_val r1)
    subst e0
    obtain ⟨PA15_2, Pc15_2, e0, -⟩ := (lst_val r2)
    subst e0
    obtain ⟨PA15_3, Pc15_3, e0, -⟩ := (lst_val r3)
    subst e0
    refine ⟨_, _, rfl, (Sx.St.gotR S hb hrd), (fun w S => St.pick S [7, 9, 11, 13] _ rfl (by decide)), ?_⟩
    clear S ho hF hb hrd
    refine Sx.GT.alone (Sx.Alone.plain 17 #[.agg #[.slice PA14_0 (movedG g7).prog.length Pc14_0, .int .i64 (movedG g7).a, .int .i64 (movedG g7).pc, .slice PA14_1 (movedG g7).wr.length Pc14_1, .slice PA14_2 (movedG g7).lv.length Pc14_2, .int .i64 (movedG g7).t.1, .int .i64 (movedG g7).t.2.1, .bool (movedG g7).t.2.2, .int .i64 (movedG g7).pd, .int .i64 (movedG g7).x.1, .int .i64 (movedG g7).x.2.1, .bool (movedG g7).x.2.2.1, .int .i64 (movedG g7).x.2.2.2, .bool (movedG g7).hl, .slice PA14_3 (movedG g7).seen.length Pc14_3], .agg #[.slice PA15_0 (movedG g7).prog.length Pc15_0, .int .i64 (movedG g7).a, .int .i64 (movedG g7).pc, .slice PA15_1 (movedG g7).wr.length Pc15_1, .slice PA15_2 (movedG g7).lv.length Pc15_2, .int .i64 (movedG g7).t.1, .int .i64 (movedG g7).t.2.1, .bool (movedG g7).t.2.2, .int .i64 (movedG g7).pd, .int .i64 (movedG g7).x.1, .int .i64 (movedG g7).x.2.1, .bool (movedG g7).x.2.2.1, .int .i64 (movedG g7).x.2.2.2, .bool (movedG g7).hl, .slice PA15_3 (movedG g7).seen.length Pc15_3]] (.bool true) (by rfl) (by kernel_rfl) (fun w => by kernel_rfl) (fun w S => by exact ((law_sameG (movedG g7) (movedG g7) _ _ _ (small_moved hsm7) (small_moved hsm7) (Sx.St.rdc S 1 rfl) (Sx.St.rdc S 0 rfl)).mono fun e w' h => And.intro (h.1.trans (by rw [sameG_refl])) h.2)) (fun w S => St.pick S [7, 9, 11, 13] _ rfl (by decide)) ?_)
    refine Sx.GT.pure (.bool false) 29 (by rfl) (by kernel_rfl) (fun w => by kernel_rfl) ?_
    refine Sx.GT.pure (.bool false) 30 (by rfl) (by kernel_rfl) (fun w => by kernel_rfl) ?_
    refine Sx.GT.pure (.bool false) 31 (by rfl) (by kernel_rfl) (fun w => by kernel_rfl) ?_
    refine Sx.GT.ld 32 (.tmp 7) b8 0 0 [.slice PA7_0 g7.prog.length Pc7_0, .int .i64 g7.a, .int .i64 g7.pc, .slice PA7_1 g7.wr.length Pc7_1, .slice PA7_2 g7.lv.length Pc7_2, .int .i64 g7.t.1, .int .i64 g7.t.2.1, .bool g7.t.2.2, .int .i64 g7.pd, .int .i64 g7.x.1, .int .i64 g7.x.2.1, .bool g7.x.2.2.1, .int .i64 g7.x.2.2.2, .bool g7.hl, .slice PA7_3 g7.seen.length Pc7_3] [.slice PA7_0 g7.prog.length Pc7_0, .int .i64 g7.a, .int .i64 g7.pc, .slice PA7_1 g7.wr.length Pc7_1, .slice PA7_2 g7.lv.length Pc7_2, .int .i64 g7.t.1, .int .i64 g7.t.2.1, .bool g7.t.2.2, .int .i64 g7.pd, .int .i64 g7.x.1, .int .i64 g7.x.2.1, .bool g7.x.2.2.1, .int .i64 g7.x.2.2.2, .bool g7.hl, .slice PA7_3 g7.seen.length Pc7_3] 32 (by rfl) (by rfl) (by kernel_rfl) (by kernel_rfl) (by rfl) (by kernel_rfl) (by kernel_rfl) (by kernel_rfl) ?_
    refine Sx.GT.ld 32 (.tmp 7) b8 0 0 [.slice PA7_0 g7.prog.length Pc7_0, .int .i64 g7.a, .int .i64 g7.pc, .slice PA7_1 g7.wr.length Pc7_1, .slice PA7_2 g7.lv.length Pc7_2, .int .i64 g7.t.1, .int .i64 g7.t.2.1, .bool g7.t.2.2, .int .i64 g7.pd, .int .i64 g7.x.1, .int .i64 g7.x.2.1, .bool g7.x.2.2.1, .int .i64 g7.x.2.2.2, .bool g7.hl, .slice PA7_3 g7.seen.length Pc7_3] [.slice PA7_0 g7.prog.length Pc7_0, .int .i64 g7.a, .int .i64 g7.pc, .slice PA7_1 g7.wr.length Pc7_1, .slice PA7_2 g7.lv.length Pc7_2, .int .i64 g7.t.1, .int .i64 g7.t.2.1, .bool g7.t.2.2, .int .i64 g7.pd, .int .i64 g7.x.1, .int .i64 g7.x.2.1, .bool g7.x.2.2.1, .int .i64 g7.x.2.2.2, .bool g7.hl, .slice PA7_3 g7.seen.length Pc7_3] 34 (by rfl) (by rfl) (by kernel_rfl) (by kernel_rfl) (by rfl) (by kernel_rfl) (by kernel_rfl) (by kernel_rfl) ?_
    refine Sx.GT.alone (Sx.Alone.call 25 #[.agg #[.slice PA7_0 g7.prog.length Pc7_0, .int .i64 g7.a, .int .i64 g7.pc, .slice PA7_1 g7.wr.length Pc7_1, .slice PA7_2 g7.lv.length Pc7_2, .int .i64 g7.t.1, .int .i64 g7.t.2.1, .bool g7.t.2.2, .int .i64 g7.pd, .int .i64 g7.x.1, .int .i64 g7.x.2.1, .bool g7.x.2.2.1, .int .i64 g7.x.2.2.2, .bool g7.hl, .slice PA7_3 g7.seen.length Pc7_3]] (by rfl) (by kernel_rfl) (fun w => by kernel_rfl) (fun w16 S => (impl_held g7 _ _ hwf7 (small_cap hsm7) (Sx.St.rdc S 8 rfl)).mono fun e w16' hp => ?_))
    obtain ⟨y0, y1, y2, y3, rfl, ho, hb⟩ := hp
    obtain ⟨PA16_0, Pc16_0, e0, -⟩ := ho.r0
    subst e0
    obtain ⟨PA16_1, Pc16_1, e0, -⟩ := ho.r1
    subst e0
    obtain ⟨PA16_2, Pc16_2, e0, -⟩ := ho.r2
    subst e0
    obtain ⟨PA16_3, Pc16_3, e0, -⟩ := ho.r3
    subst e0
    have hrd := ho.rg
    refine ⟨_, _, rfl, (Sx.St.gotR S hb hrd), (fun w S => St.pick S [8, 10, 12, 14] _ rfl (by decide)), ?_⟩
    clear S ho hb hrd
    refine Sx.GT.alone (Sx.Alone.call 26 #[.agg #[.slice PA7_0 g7.prog.length Pc7_0, .int .i64 g7.a, .int .i64 g7.pc, .slice PA7_1 g7.wr.length Pc7_1, .slice PA7_2 g7.lv.length Pc7_2, .int .i64 g7.t.1, .int .i64 g7.t.2.1, .bool g7.t.2.2, .int .i64 g7.pd, .int .i64 g7.x.1, .int .i64 g7.x.2.1, .bool g7.x.2.2.1, .int .i64 g7.x.2.2.2, .bool g7.hl, .slice PA7_3 g7.seen.length Pc7_3]] (by rfl) (by kernel_rfl) (fun w => by kernel_rfl) (fun w17 S => (specx_held g7 _ _ (small_cap hsm7) (Sx.St.rdc S 9 rfl)).mono fun e w17' hp => ?_))
    obtain ⟨cs, F, rfl, ho, hF, hb⟩ := hp
    have hrd := rG.reads ho
    obtain ⟨P17_0, P17_1, P17_2, P17_3, rfl, r0, r1, r2, r3⟩ := rG_rd hrd
    obtain ⟨PA17_0, Pc17_0, e0, -⟩ := (lst_val r0)
    subst e0
    obtain ⟨PA17_1, Pc17_1, e0, -⟩ := (lst_val r1)
    subst e0
    obtain ⟨PA17_2, Pc17_2, e0, -⟩ := (lst_val r2)
    subst e0
    obtain ⟨PA17_3, Pc17_3, e0, -⟩ := (lst_val r3)
    subst e0
    refine ⟨_, _, rfl, (Sx.St.gotR S hb hrd), (fun w S => St.pick S [9, 11, 13, 15] _ rfl (by decide)), ?_⟩
    clear S ho hF hb hrd
    refine Sx.GT.alone (Sx.Alone.plain 17 #[.agg #[.slice PA16_0 (heldG g7).prog.length Pc16_0, .int .i64 (heldG g7).a, .int .i64 (heldG g7).pc, .slice PA16_1 (heldG g7).wr.length Pc16_1, .slice PA16_2 (heldG g7).lv.length Pc16_2, .int .i64 (heldG g7).t.1, .int .i64 (heldG g7).t.2.1, .bool (heldG g7).t.2.2, .int .i64 (heldG g7).pd, .int .i64 (heldG g7).x.1, .int .i64 (heldG g7).x.2.1, .bool (heldG g7).x.2.2.1, .int .i64 (heldG g7).x.2.2.2, .bool (heldG g7).hl, .slice PA16_3 (heldG g7).seen.length Pc16_3], .agg #[.slice PA17_0 (heldG g7).prog.length Pc17_0, .int .i64 (heldG g7).a, .int .i64 (heldG g7).pc, .slice PA17_1 (heldG g7).wr.length Pc17_1, .slice PA17_2 (heldG g7).lv.length Pc17_2, .int .i64 (heldG g7).t.1, .int .i64 (heldG g7).t.2.1, .bool (heldG g7).t.2.2, .int .i64 (heldG g7).pd, .int .i64 (heldG g7).x.1, .int .i64 (heldG g7).x.2.1, .bool (heldG g7).x.2.2.1, .int .i64 (heldG g7).x.2.2.2, .bool (heldG g7).hl, .slice PA17_3 (heldG g7).seen.length Pc17_3]] (.bool true) (by rfl) (by kernel_rfl) (fun w => by kernel_rfl) (fun w S => by exact ((law_sameG (heldG g7) (heldG g7) _ _ _ (small_held hsm7) (small_held hsm7) (Sx.St.rdc S 1 rfl) (Sx.St.rdc S 0 rfl)).mono fun e w' h => And.intro (h.1.trans (by rw [sameG_refl])) h.2)) (fun w S => St.pick S [9, 11, 13, 15] _ rfl (by decide)) ?_)
    refine Sx.GT.pure (.bool false) 37 (by rfl) (by kernel_rfl) (fun w => by kernel_rfl) ?_
    refine Sx.GT.pure (.bool false) 38 (by rfl) (by kernel_rfl) (fun w => by kernel_rfl) ?_
    refine Sx.GT.pure (.bool false) 39 (by rfl) (by kernel_rfl) (fun w => by kernel_rfl) ?_
    refine Sx.GT.ld 32 (.tmp 3) b2 0 3 [.slice PA1_0 g1.prog.length Pc1_0, .int .i64 g1.a, .int .i64 g1.pc, .slice PA1_1 g1.wr.length Pc1_1, .slice PA1_2 g1.lv.length Pc1_2, .int .i64 g1.t.1, .int .i64 g1.t.2.1, .bool g1.t.2.2, .int .i64 g1.pd, .int .i64 g1.x.1, .int .i64 g1.x.2.1, .bool g1.x.2.2.1, .int .i64 g1.x.2.2.2, .bool g1.hl, .slice PA1_3 g1.seen.length Pc1_3] [.slice PA1_0 g1.prog.length Pc1_0, .int .i64 g1.a, .int .i64 g1.pc, .slice PA1_1 g1.wr.length Pc1_1, .slice PA1_2 g1.lv.length Pc1_2, .int .i64 g1.t.1, .int .i64 g1.t.2.1, .bool g1.t.2.2, .int .i64 g1.pd, .int .i64 g1.x.1, .int .i64 g1.x.2.1, .bool g1.x.2.2.1, .int .i64 g1.x.2.2.2, .bool g1.hl, .slice PA1_3 g1.seen.length Pc1_3] 40 (by rfl) (by rfl) (by kernel_rfl) (by kernel_rfl) (by rfl) (by kernel_rfl) (by kernel_rfl) (by kernel_rfl) ?_
    refine Sx.GT.ld 32 (.tmp 3) b2 0 3 [.slice PA1_0 g1.prog.length Pc1_0, .int .i64 g1.a, .int .i64 g1.pc, .slice PA1_1 g1.wr.length Pc1_1, .slice PA1_2 g1.lv.length Pc1_2, .int .i64 g1.t.1, .int .i64 g1.t.2.1, .bool g1.t.2.2, .int .i64 g1.pd, .int .i64 g1.x.1, .int .i64 g1.x.2.1, .bool g1.x.2.2.1, .int .i64 g1.x.2.2.2, .bool g1.hl, .slice PA1_3 g1.seen.length Pc1_3] [.slice PA1_0 g1.prog.length Pc1_0, .int .i64 g1.a, .int .i64 g1.pc, .slice PA1_1 g1.wr.length Pc1_1, .slice PA1_2 g1.lv.length Pc1_2, .int .i64 g1.t.1, .int .i64 g1.t.2.1, .bool g1.t.2.2, .int .i64 g1.pd, .int .i64 g1.x.1, .int .i64 g1.x.2.1, .bool g1.x.2.2.1, .int .i64 g1.x.2.2.2, .bool g1.hl, .slice PA1_3 g1.seen.length Pc1_3] 42 (by rfl) (by rfl) (by kernel_rfl) (by kernel_rfl) (by rfl) (by kernel_rfl) (by kernel_rfl) (by kernel_rfl) ?_
    refine Sx.GT.alone (Sx.Alone.plain 27 #[.agg #[.slice PA1_0 g1.prog.length Pc1_0, .int .i64 g1.a, .int .i64 g1.pc, .slice PA1_1 g1.wr.length Pc1_1, .slice PA1_2 g1.lv.length Pc1_2, .int .i64 g1.t.1, .int .i64 g1.t.2.1, .bool g1.t.2.2, .int .i64 g1.pd, .int .i64 g1.x.1, .int .i64 g1.x.2.1, .bool g1.x.2.2.1, .int .i64 g1.x.2.2.2, .bool g1.hl, .slice PA1_3 g1.seen.length Pc1_3]] (.int .i64 (wantG g1)) (by rfl) (by kernel_rfl) (fun w => by kernel_rfl) (fun w S => by exact impl_want g1 _ _ hwf1 (small_cap hsm1) (Sx.St.rdc S 16 rfl)) (fun w S => St.pick S [9, 11, 13, 15] _ rfl (by decide)) ?_)
    refine Sx.GT.alone (Sx.Alone.plain 28 #[.agg #[.slice PA1_0 g1.prog.length Pc1_0, .int .i64 g1.a, .int .i64 g1.pc, .slice PA1_1 g1.wr.length Pc1_1, .slice PA1_2 g1.lv.length Pc1_2, .int .i64 g1.t.1, .int .i64 g1.t.2.1, .bool g1.t.2.2, .int .i64 g1.pd, .int .i64 g1.x.1, .int .i64 g1.x.2.1, .bool g1.x.2.2.1, .int .i64 g1.x.2.2.2, .bool g1.hl, .slice PA1_3 g1.seen.length Pc1_3]] (.int .i64 (wantG g1)) (by rfl) (by kernel_rfl) (fun w => by kernel_rfl) (fun w S => by exact specx_want g1 _ _ (small_cap hsm1) (Sx.St.rdc S 16 rfl)) (fun w S => St.pick S [9, 11, 13, 15] _ rfl (by decide)) ?_)
    refine Sx.GT.pureq (.bool ((wantG g1) != (wantG g1))) (.bool false) 44 (by rfl) (by kernel_rfl) (fun w => by kernel_rfl) (congrArg Value.bool (bne_self_eq_false _)) ?_
    refine Sx.GT.pure (.bool false) 45 (by rfl) (by kernel_rfl) (fun w => by kernel_rfl) ?_
    refine Sx.GT.pure (.bool false) 46 (by rfl) (by kernel_rfl) (fun w => by kernel_rfl) ?_
    refine Sx.GT.ld 32 (.tmp 3) b2 0 3 [.slice PA1_0 g1.prog.length Pc1_0, .int .i64 g1.a, .int .i64 g1.pc, .slice PA1_1 g1.wr.length Pc1_1, .slice PA1_2 g1.lv.length Pc1_2, .int .i64 g1.t.1, .int .i64 g1.t.2.1, .bool g1.t.2.2, .int .i64 g1.pd, .int .i64 g1.x.1, .int .i64 g1.x.2.1, .bool g1.x.2.2.1, .int .i64 g1.x.2.2.2, .bool g1.hl, .slice PA1_3 g1.seen.length Pc1_3] [.slice PA1_0 g1.prog.length Pc1_0, .int .i64 g1.a, .int .i64 g1.pc, .slice PA1_1 g1.wr.length Pc1_1, .slice PA1_2 g1.lv.length Pc1_2, .int .i64 g1.t.1, .int .i64 g1.t.2.1, .bool g1.t.2.2, .int .i64 g1.pd, .int .i64 g1.x.1, .int .i64 g1.x.2.1, .bool g1.x.2.2.1, .int .i64 g1.x.2.2.2, .bool g1.hl, .slice PA1_3 g1.seen.length Pc1_3] 47 (by rfl) (by rfl) (by kernel_rfl) (by kernel_rfl) (by rfl) (by kernel_rfl) (by kernel_rfl) (by kernel_rfl) ?_
    refine Sx.GT.ld 32 (.tmp 3) b2 0 3 [.slice PA1_0 g1.prog.length Pc1_0, .int .i64 g1.a, .int .i64 g1.pc, .slice PA1_1 g1.wr.length Pc1_1, .slice PA1_2 g1.lv.length Pc1_2, .int .i64 g1.t.1, .int .i64 g1.t.2.1, .bool g1.t.2.2, .int .i64 g1.pd, .int .i64 g1.x.1, .int .i64 g1.x.2.1, .bool g1.x.2.2.1, .int .i64 g1.x.2.2.2, .bool g1.hl, .slice PA1_3 g1.seen.length Pc1_3] [.slice PA1_0 g1.prog.length Pc1_0, .int .i64 g1.a, .int .i64 g1.pc, .slice PA1_1 g1.wr.length Pc1_1, .slice PA1_2 g1.lv.length Pc1_2, .int .i64 g1.t.1, .int .i64 g1.t.2.1, .bool g1.t.2.2, .int .i64 g1.pd, .int .i64 g1.x.1, .int .i64 g1.x.2.1, .bool g1.x.2.2.1, .int .i64 g1.x.2.2.2, .bool g1.hl, .slice PA1_3 g1.seen.length Pc1_3] 49 (by rfl) (by rfl) (by kernel_rfl) (by kernel_rfl) (by rfl) (by kernel_rfl) (by kernel_rfl) (by kernel_rfl) ?_
    refine Sx.GT.alone (Sx.Alone.plain 29 #[.agg #[.slice PA1_0 g1.prog.length Pc1_0, .int .i64 g1.a, .int .i64 g1.pc, .slice PA1_1 g1.wr.length Pc1_1, .slice PA1_2 g1.lv.length Pc1_2, .int .i64 g1.t.1, .int .i64 g1.t.2.1, .bool g1.t.2.2, .int .i64 g1.pd, .int .i64 g1.x.1, .int .i64 g1.x.2.1, .bool g1.x.2.2.1, .int .i64 g1.x.2.2.2, .bool g1.hl, .slice PA1_3 g1.seen.length Pc1_3]] (.int .i64 (addrG g1)) (by rfl) (by kernel_rfl) (fun w => by kernel_rfl) (fun w S => by exact impl_addr g1 _ _ hwf1 (small_cap hsm1) (Sx.St.rdc S 16 rfl)) (fun w S => St.pick S [9, 11, 13, 15] _ rfl (by decide)) ?_)
    refine Sx.GT.alone (Sx.Alone.plain 30 #[.agg #[.slice PA1_0 g1.prog.length Pc1_0, .int .i64 g1.a, .int .i64 g1.pc, .slice PA1_1 g1.wr.length Pc1_1, .slice PA1_2 g1.lv.length Pc1_2, .int .i64 g1.t.1, .int .i64 g1.t.2.1, .bool g1.t.2.2, .int .i64 g1.pd, .int .i64 g1.x.1, .int .i64 g1.x.2.1, .bool g1.x.2.2.1, .int .i64 g1.x.2.2.2, .bool g1.hl, .slice PA1_3 g1.seen.length Pc1_3]] (.int .i64 (addrG g1)) (by rfl) (by kernel_rfl) (fun w => by kernel_rfl) (fun w S => by exact specx_addr g1 _ _ (small_cap hsm1) (Sx.St.rdc S 16 rfl)) (fun w S => St.pick S [9, 11, 13, 15] _ rfl (by decide)) ?_)
    refine Sx.GT.pureq (.bool ((addrG g1) != (addrG g1))) (.bool false) 51 (by rfl) (by kernel_rfl) (fun w => by kernel_rfl) (congrArg Value.bool (bne_self_eq_false _)) ?_
    refine Sx.GT.pure (.bool false) 52 (by rfl) (by kernel_rfl) (fun w => by kernel_rfl) ?_
    refine Sx.GT.nil ?_
    refine Sx.E.next ?_
    refine Sx.C.no (by kernel_rfl) (by kernel_rfl) ?_
    refine Sx.C.skip ?_
    refine Sx.E.next ?_
    refine Sx.C.seq ?_
    refine Sx.C.region ?_
    refine Sx.G.pure (.agg #[.int .i64 1, .int .i64 7]) (by kernel_rfl) (fun w => by kernel_rfl) ?_
    refine Sx.G.block 42 [.int .i64 1, .int .i64 7] 1 (by kernel_rfl) (fun w => by kernel_rfl) (fun b18 => ?_)
    refine Sx.G.call 31 #[.slice (some ⟨b18, 0, none⟩) 1 1] (by kernel_rfl) (fun w => by kernel_rfl) (fun w19 S => (specx_new [(1, 7)] _ _ _ (by decide) (Sx.bk_pair S 0 rfl)).mono fun e w19' hp => ?_)
    obtain ⟨cs, F, rfl, ho, hF, hb⟩ := hp
    have hrd := rG.reads ho
    obtain ⟨P19_0, P19_1, P19_2, P19_3, rfl, r0, r1, r2, r3⟩ := rG_rd hrd
    obtain ⟨PA19_0, Pc19_0, e0, -⟩ := (lst_val r0)
    subst e0
    obtain ⟨PA19_1, Pc19_1, e0, -⟩ := (lst_val r1)
    subst e0
    obtain ⟨PA19_2, Pc19_2, e0, -⟩ := (lst_val r2)
    subst e0
    obtain ⟨PA19_3, Pc19_3, e0, -⟩ := (lst_val r3)
    subst e0
    refine ⟨_, _, rfl, (Sx.St.gotR S hb hrd), ?_⟩
    clear S ho hF hb hrd
    obtain ⟨one, hone⟩ : ∃ x, plainG (newG [(1, 7)]) = x := ⟨_, rfl⟩
    have hone1 : one.a = 7 ∧ one.pc = 1 := hone ▸ one_set
    refine Sx.G.call 14 #[.agg #[.slice PA19_0 (newG [(1, 7)]).prog.length Pc19_0, .int .i64 (newG [(1, 7)]).a, .int .i64 (newG [(1, 7)]).pc, .slice PA19_1 (newG [(1, 7)]).wr.length Pc19_1, .slice PA19_2 (newG [(1, 7)]).lv.length Pc19_2, .int .i64 (newG [(1, 7)]).t.1, .int .i64 (newG [(1, 7)]).t.2.1, .bool (newG [(1, 7)]).t.2.2, .int .i64 (newG [(1, 7)]).pd, .int .i64 (newG [(1, 7)]).x.1, .int .i64 (newG [(1, 7)]).x.2.1, .bool (newG [(1, 7)]).x.2.2.1, .int .i64 (newG [(1, 7)]).x.2.2.2, .bool (newG [(1, 7)]).hl, .slice PA19_3 (newG [(1, 7)]).seen.length Pc19_3]] (by kernel_rfl) (fun w => by kernel_rfl) (fun w20 S => ((show Calls _ _ _ _ (gP _ one) from hone ▸ impl_plain (newG [(1, 7)]) _ _ one_wf one_cap (Sx.St.rdc S 0 rfl))).mono fun e w20' hp => ?_)
    obtain ⟨y0, y1, y2, y3, rfl, ho, hb⟩ := hp
    obtain ⟨PA20_0, Pc20_0, e0, -⟩ := ho.r0
    subst e0
    obtain ⟨PA20_1, Pc20_1, e0, -⟩ := ho.r1
    subst e0
    obtain ⟨PA20_2, Pc20_2, e0, -⟩ := ho.r2
    subst e0
    obtain ⟨PA20_3, Pc20_3, e0, -⟩ := ho.r3
    subst e0
    have hrd := ho.rg
    refine ⟨_, _, rfl, (Sx.St.gotR S hb hrd), ?_⟩
    clear S ho hb hrd
    refine Sx.G.alloc 32 (.agg #[.slice none 0 0, .int .i64 0, .int .i64 0, .slice none 0 0, .slice none 0 0, .int .i64 0, .int .i64 0, .bool false, .int .i64 0, .int .i64 0, .int .i64 0, .bool false, .int .i64 0, .bool false, .slice none 0 0]) [.slice none 0 0, .int .i64 0, .int .i64 0, .slice none 0 0, .slice none 0 0, .int .i64 0, .int .i64 0, .bool false, .int .i64 0, .int .i64 0, .int .i64 0, .bool false, .int .i64 0, .bool false, .slice none 0 0] rfl (by kernel_rfl) (fun w => by kernel_rfl) (by kernel_rfl) (fun b21 => ?_)
    refine Sx.G.sto 32 (.tmp 8) (.tmp 78) b21 0 0 [.slice none 0 0, .int .i64 0, .int .i64 0, .slice none 0 0, .slice none 0 0, .int .i64 0, .int .i64 0, .bool false, .int .i64 0, .int .i64 0, .int .i64 0, .bool false, .int .i64 0, .bool false, .slice none 0 0] [.slice PA20_0 one.prog.length Pc20_0, .int .i64 one.a, .int .i64 one.pc, .slice PA20_1 one.wr.length Pc20_1, .slice PA20_2 one.lv.length Pc20_2, .int .i64 one.t.1, .int .i64 one.t.2.1, .bool one.t.2.2, .int .i64 one.pd, .int .i64 one.x.1, .int .i64 one.x.2.1, .bool one.x.2.2.1, .int .i64 one.x.2.2.2, .bool one.hl, .slice PA20_3 one.seen.length Pc20_3] [.slice PA20_0 one.prog.length Pc20_0, .int .i64 one.a, .int .i64 one.pc, .slice PA20_1 one.wr.length Pc20_1, .slice PA20_2 one.lv.length Pc20_2, .int .i64 one.t.1, .int .i64 one.t.2.1, .bool one.t.2.2, .int .i64 one.pd, .int .i64 one.x.1, .int .i64 one.x.2.1, .bool one.x.2.2.1, .int .i64 one.x.2.2.2, .bool one.hl, .slice PA20_3 one.seen.length Pc20_3] [vr b21 [.slice PA20_0 one.prog.length Pc20_0, .int .i64 one.a, .int .i64 one.pc, .slice PA20_1 one.wr.length Pc20_1, .slice PA20_2 one.lv.length Pc20_2, .int .i64 one.t.1, .int .i64 one.t.2.1, .bool one.t.2.2, .int .i64 one.pd, .int .i64 one.x.1, .int .i64 one.x.2.1, .bool one.x.2.2.1, .int .i64 one.x.2.2.2, .bool one.hl, .slice PA20_3 one.seen.length Pc20_3], Sx.rdc rG w20.heap.size w20'.heap.size one [.slice PA20_0 one.prog.length Pc20_0, .int .i64 one.a, .int .i64 one.pc, .slice PA20_1 one.wr.length Pc20_1, .slice PA20_2 one.lv.length Pc20_2, .int .i64 one.t.1, .int .i64 one.t.2.1, .bool one.t.2.2, .int .i64 one.pd, .int .i64 one.x.1, .int .i64 one.x.2.1, .bool one.x.2.2.1, .int .i64 one.x.2.2.2, .bool one.hl, .slice PA20_3 one.seen.length Pc20_3], Sx.rdc rG w19.heap.size w19'.heap.size (newG [(1, 7)]) [.slice PA19_0 (newG [(1, 7)]).prog.length Pc19_0, .int .i64 (newG [(1, 7)]).a, .int .i64 (newG [(1, 7)]).pc, .slice PA19_1 (newG [(1, 7)]).wr.length Pc19_1, .slice PA19_2 (newG [(1, 7)]).lv.length Pc19_2, .int .i64 (newG [(1, 7)]).t.1, .int .i64 (newG [(1, 7)]).t.2.1, .bool (newG [(1, 7)]).t.2.2, .int .i64 (newG [(1, 7)]).pd, .int .i64 (newG [(1, 7)]).x.1, .int .i64 (newG [(1, 7)]).x.2.1, .bool (newG [(1, 7)]).x.2.2.1, .int .i64 (newG [(1, 7)]).x.2.2.2, .bool (newG [(1, 7)]).hl, .slice PA19_3 (newG [(1, 7)]).seen.length Pc19_3], Sx.bk b18 [.int .i64 1, .int .i64 7] 42, Sx.rdc rG w17.heap.size w17'.heap.size (heldG g7) [.slice PA17_0 (heldG g7).prog.length Pc17_0, .int .i64 (heldG g7).a, .int .i64 (heldG g7).pc, .slice PA17_1 (heldG g7).wr.length Pc17_1, .slice PA17_2 (heldG g7).lv.length Pc17_2, .int .i64 (heldG g7).t.1, .int .i64 (heldG g7).t.2.1, .bool (heldG g7).t.2.2, .int .i64 (heldG g7).pd, .int .i64 (heldG g7).x.1, .int .i64 (heldG g7).x.2.1, .bool (heldG g7).x.2.2.1, .int .i64 (heldG g7).x.2.2.2, .bool (heldG g7).hl, .slice PA17_3 (heldG g7).seen.length Pc17_3], Sx.rdc rG w16.heap.size w16'.heap.size (heldG g7) [.slice PA16_0 (heldG g7).prog.length Pc16_0, .int .i64 (heldG g7).a, .int .i64 (heldG g7).pc, .slice PA16_1 (heldG g7).wr.length Pc16_1, .slice PA16_2 (heldG g7).lv.length Pc16_2, .int .i64 (heldG g7).t.1, .int .i64 (heldG g7).t.2.1, .bool (heldG g7).t.2.2, .int .i64 (heldG g7).pd, .int .i64 (heldG g7).x.1, .int .i64 (heldG g7).x.2.1, .bool (heldG g7).x.2.2.1, .int .i64 (heldG g7).x.2.2.2, .bool (heldG g7).hl, .slice PA16_3 (heldG g7).seen.length Pc16_3], Sx.rdc rG w15.heap.size w15'.heap.size (movedG g7) [.slice PA15_0 (movedG g7).prog.length Pc15_0, .int .i64 (movedG g7).a, .int .i64 (movedG g7).pc, .slice PA15_1 (movedG g7).wr.length Pc15_1, .slice PA15_2 (movedG g7).lv.length Pc15_2, .int .i64 (movedG g7).t.1, .int .i64 (movedG g7).t.2.1, .bool (movedG g7).t.2.2, .int .i64 (movedG g7).pd, .int .i64 (movedG g7).x.1, .int .i64 (movedG g7).x.2.1, .bool (movedG g7).x.2.2.1, .int .i64 (movedG g7).x.2.2.2, .bool (movedG g7).hl, .slice PA15_3 (movedG g7).seen.length Pc15_3], Sx.rdc rG w14.heap.size w14'.heap.size (movedG g7) [.slice PA14_0 (movedG g7).prog.length Pc14_0, .int .i64 (movedG g7).a, .int .i64 (movedG g7).pc, .slice PA14_1 (movedG g7).wr.length Pc14_1, .slice PA14_2 (movedG g7).lv.length Pc14_2, .int .i64 (movedG g7).t.1, .int .i64 (movedG g7).t.2.1, .bool (movedG g7).t.2.2, .int .i64 (movedG g7).pd, .int .i64 (movedG g7).x.1, .int .i64 (movedG g7).x.2.1, .bool (movedG g7).x.2.2.1, .int .i64 (movedG g7).x.2.2.2, .bool (movedG g7).hl, .slice PA14_3 (movedG g7).seen.length Pc14_3], Sx.rdc rG w13.heap.size w13'.heap.size (movedG g7) [.slice PA13_0 (movedG g7).prog.length Pc13_0, .int .i64 (movedG g7).a, .int .i64 (movedG g7).pc, .slice PA13_1 (movedG g7).wr.length Pc13_1, .slice PA13_2 (movedG g7).lv.length Pc13_2, .int .i64 (movedG g7).t.1, .int .i64 (movedG g7).t.2.1, .bool (movedG g7).t.2.2, .int .i64 (movedG g7).pd, .int .i64 (movedG g7).x.1, .int .i64 (movedG g7).x.2.1, .bool (movedG g7).x.2.2.1, .int .i64 (movedG g7).x.2.2.2, .bool (movedG g7).hl, .slice PA13_3 (movedG g7).seen.length Pc13_3], Sx.rdc rG w12.heap.size w12'.heap.size (movedG g7) [.slice PA12_0 (movedG g7).prog.length Pc12_0, .int .i64 (movedG g7).a, .int .i64 (movedG g7).pc, .slice PA12_1 (movedG g7).wr.length Pc12_1, .slice PA12_2 (movedG g7).lv.length Pc12_2, .int .i64 (movedG g7).t.1, .int .i64 (movedG g7).t.2.1, .bool (movedG g7).t.2.2, .int .i64 (movedG g7).pd, .int .i64 (movedG g7).x.1, .int .i64 (movedG g7).x.2.1, .bool (movedG g7).x.2.2.1, .int .i64 (movedG g7).x.2.2.2, .bool (movedG g7).hl, .slice PA12_3 (movedG g7).seen.length Pc12_3], Sx.rdc rG w11.heap.size w11'.heap.size (loadedG g5 n5) [.slice PA11_0 (loadedG g5 n5).prog.length Pc11_0, .int .i64 (loadedG g5 n5).a, .int .i64 (loadedG g5 n5).pc, .slice PA11_1 (loadedG g5 n5).wr.length Pc11_1, .slice PA11_2 (loadedG g5 n5).lv.length Pc11_2, .int .i64 (loadedG g5 n5).t.1, .int .i64 (loadedG g5 n5).t.2.1, .bool (loadedG g5 n5).t.2.2, .int .i64 (loadedG g5 n5).pd, .int .i64 (loadedG g5 n5).x.1, .int .i64 (loadedG g5 n5).x.2.1, .bool (loadedG g5 n5).x.2.2.1, .int .i64 (loadedG g5 n5).x.2.2.2, .bool (loadedG g5 n5).hl, .slice PA11_3 (loadedG g5 n5).seen.length Pc11_3], Sx.rdc rG w10.heap.size w10'.heap.size (loadedG g5 n5) [.slice PA10_0 (loadedG g5 n5).prog.length Pc10_0, .int .i64 (loadedG g5 n5).a, .int .i64 (loadedG g5 n5).pc, .slice PA10_1 (loadedG g5 n5).wr.length Pc10_1, .slice PA10_2 (loadedG g5 n5).lv.length Pc10_2, .int .i64 (loadedG g5 n5).t.1, .int .i64 (loadedG g5 n5).t.2.1, .bool (loadedG g5 n5).t.2.2, .int .i64 (loadedG g5 n5).pd, .int .i64 (loadedG g5 n5).x.1, .int .i64 (loadedG g5 n5).x.2.1, .bool (loadedG g5 n5).x.2.2.1, .int .i64 (loadedG g5 n5).x.2.2.2, .bool (loadedG g5 n5).hl, .slice PA10_3 (loadedG g5 n5).seen.length Pc10_3], Sx.rdc rG w9.heap.size w9'.heap.size (plainG g1) [.slice PA9_0 (plainG g1).prog.length Pc9_0, .int .i64 (plainG g1).a, .int .i64 (plainG g1).pc, .slice PA9_1 (plainG g1).wr.length Pc9_1, .slice PA9_2 (plainG g1).lv.length Pc9_2, .int .i64 (plainG g1).t.1, .int .i64 (plainG g1).t.2.1, .bool (plainG g1).t.2.2, .int .i64 (plainG g1).pd, .int .i64 (plainG g1).x.1, .int .i64 (plainG g1).x.2.1, .bool (plainG g1).x.2.2.1, .int .i64 (plainG g1).x.2.2.2, .bool (plainG g1).hl, .slice PA9_3 (plainG g1).seen.length Pc9_3], vr b8 [.slice PA7_0 g7.prog.length Pc7_0, .int .i64 g7.a, .int .i64 g7.pc, .slice PA7_1 g7.wr.length Pc7_1, .slice PA7_2 g7.lv.length Pc7_2, .int .i64 g7.t.1, .int .i64 g7.t.2.1, .bool g7.t.2.2, .int .i64 g7.pd, .int .i64 g7.x.1, .int .i64 g7.x.2.1, .bool g7.x.2.2.1, .int .i64 g7.x.2.2.2, .bool g7.hl, .slice PA7_3 g7.seen.length Pc7_3], Sx.rdc rG w7.heap.size w7'.heap.size g7 [.slice PA7_0 g7.prog.length Pc7_0, .int .i64 g7.a, .int .i64 g7.pc, .slice PA7_1 g7.wr.length Pc7_1, .slice PA7_2 g7.lv.length Pc7_2, .int .i64 g7.t.1, .int .i64 g7.t.2.1, .bool g7.t.2.2, .int .i64 g7.pd, .int .i64 g7.x.1, .int .i64 g7.x.2.1, .bool g7.x.2.2.1, .int .i64 g7.x.2.2.2, .bool g7.hl, .slice PA7_3 g7.seen.length Pc7_3], vr b6 [.slice PA5_0 g5.prog.length Pc5_0, .int .i64 g5.a, .int .i64 g5.pc, .slice PA5_1 g5.wr.length Pc5_1, .slice PA5_2 g5.lv.length Pc5_2, .int .i64 g5.t.1, .int .i64 g5.t.2.1, .bool g5.t.2.2, .int .i64 g5.pd, .int .i64 g5.x.1, .int .i64 g5.x.2.1, .bool g5.x.2.2.1, .int .i64 g5.x.2.2.2, .bool g5.hl, .slice PA5_3 g5.seen.length Pc5_3], Sx.rdc rG w5.heap.size w5'.heap.size g5 [.slice PA5_0 g5.prog.length Pc5_0, .int .i64 g5.a, .int .i64 g5.pc, .slice PA5_1 g5.wr.length Pc5_1, .slice PA5_2 g5.lv.length Pc5_2, .int .i64 g5.t.1, .int .i64 g5.t.2.1, .bool g5.t.2.2, .int .i64 g5.pd, .int .i64 g5.x.1, .int .i64 g5.x.2.1, .bool g5.x.2.2.1, .int .i64 g5.x.2.2.2, .bool g5.hl, .slice PA5_3 g5.seen.length Pc5_3], vr b4 [.slice PA3_0 (plainG g1).prog.length Pc3_0, .int .i64 (plainG g1).a, .int .i64 (plainG g1).pc, .slice PA3_1 (plainG g1).wr.length Pc3_1, .slice PA3_2 (plainG g1).lv.length Pc3_2, .int .i64 (plainG g1).t.1, .int .i64 (plainG g1).t.2.1, .bool (plainG g1).t.2.2, .int .i64 (plainG g1).pd, .int .i64 (plainG g1).x.1, .int .i64 (plainG g1).x.2.1, .bool (plainG g1).x.2.2.1, .int .i64 (plainG g1).x.2.2.2, .bool (plainG g1).hl, .slice PA3_3 (plainG g1).seen.length Pc3_3], Sx.rdc rG w3.heap.size w3'.heap.size (plainG g1) [.slice PA3_0 (plainG g1).prog.length Pc3_0, .int .i64 (plainG g1).a, .int .i64 (plainG g1).pc, .slice PA3_1 (plainG g1).wr.length Pc3_1, .slice PA3_2 (plainG g1).lv.length Pc3_2, .int .i64 (plainG g1).t.1, .int .i64 (plainG g1).t.2.1, .bool (plainG g1).t.2.2, .int .i64 (plainG g1).pd, .int .i64 (plainG g1).x.1, .int .i64 (plainG g1).x.2.1, .bool (plainG g1).x.2.2.1, .int .i64 (plainG g1).x.2.2.2, .bool (plainG g1).hl, .slice PA3_3 (plainG g1).seen.length Pc3_3], vr b2 [.slice PA1_0 g1.prog.length Pc1_0, .int .i64 g1.a, .int .i64 g1.pc, .slice PA1_1 g1.wr.length Pc1_1, .slice PA1_2 g1.lv.length Pc1_2, .int .i64 g1.t.1, .int .i64 g1.t.2.1, .bool g1.t.2.2, .int .i64 g1.pd, .int .i64 g1.x.1, .int .i64 g1.x.2.1, .bool g1.x.2.2.1, .int .i64 g1.x.2.2.2, .bool g1.hl, .slice PA1_3 g1.seen.length Pc1_3], Sx.rdc rG w1.heap.size w1'.heap.size g1 [.slice PA1_0 g1.prog.length Pc1_0, .int .i64 g1.a, .int .i64 g1.pc, .slice PA1_1 g1.wr.length Pc1_1, .slice PA1_2 g1.lv.length Pc1_2, .int .i64 g1.t.1, .int .i64 g1.t.2.1, .bool g1.t.2.2, .int .i64 g1.pd, .int .i64 g1.x.1, .int .i64 g1.x.2.1, .bool g1.x.2.2.1, .int .i64 g1.x.2.2.2, .bool g1.hl, .slice PA1_3 g1.seen.length Pc1_3]] rfl (by kernel_rfl) (by kernel_rfl) (by kernel_rfl) rfl (by kernel_rfl) rfl (by kernel_rfl) (by kernel_rfl) (by kernel_rfl) ?_
    refine Sx.G.nil ?_
    refine Sx.E.next ?_
    refine Sx.C.seq ?_
    refine Sx.C.draw (.take 0 (.take 3 (.alone 1 (.take 2 (.alone 4 (.take 5 (.take 6 (.take 7 (.take 8 (.take 9 (.take 10 (.take 11 (.alone 12 (.take 13 (.take 14 (.take 15 (.take 16 (.take 17 (.take 18 (.alone 19 (.take 20 (.take 21 (.take 22 (.alone 23 (.take 24 (.take 25 (.take 26 (.take 27 (.alone 28 (.take 29 (.take 30 (.take 31 (.take 32 (.take 33 (.take 34 (.take 35 (.take 36 (.take 37 (.take 38 (.take 39 (.take 40 (.take 41 .nil)))))))))))))))))))))))))))))))))))))))))) [vr b21 [.slice PA20_0 one.prog.length Pc20_0, .int .i64 one.a, .int .i64 one.pc, .slice PA20_1 one.wr.length Pc20_1, .slice PA20_2 one.lv.length Pc20_2, .int .i64 one.t.1, .int .i64 one.t.2.1, .bool one.t.2.2, .int .i64 one.pd, .int .i64 one.x.1, .int .i64 one.x.2.1, .bool one.x.2.2.1, .int .i64 one.x.2.2.2, .bool one.hl, .slice PA20_3 one.seen.length Pc20_3], vr b4 [.slice PA3_0 (plainG g1).prog.length Pc3_0, .int .i64 (plainG g1).a, .int .i64 (plainG g1).pc, .slice PA3_1 (plainG g1).wr.length Pc3_1, .slice PA3_2 (plainG g1).lv.length Pc3_2, .int .i64 (plainG g1).t.1, .int .i64 (plainG g1).t.2.1, .bool (plainG g1).t.2.2, .int .i64 (plainG g1).pd, .int .i64 (plainG g1).x.1, .int .i64 (plainG g1).x.2.1, .bool (plainG g1).x.2.2.1, .int .i64 (plainG g1).x.2.2.2, .bool (plainG g1).hl, .slice PA3_3 (plainG g1).seen.length Pc3_3], vr b2 [.slice PA1_0 g1.prog.length Pc1_0, .int .i64 g1.a, .int .i64 g1.pc, .slice PA1_1 g1.wr.length Pc1_1, .slice PA1_2 g1.lv.length Pc1_2, .int .i64 g1.t.1, .int .i64 g1.t.2.1, .bool g1.t.2.2, .int .i64 g1.pd, .int .i64 g1.x.1, .int .i64 g1.x.2.1, .bool g1.x.2.2.1, .int .i64 g1.x.2.2.2, .bool g1.hl, .slice PA1_3 g1.seen.length Pc1_3]] (fun w S => St.pick S [0, 17, 19] _ rfl (by decide)) (by kernel_rfl) (by kernel_rfl) (by kernel_rfl) ?_
    refine Sx.GT.ld 32 (.tmp 3) b2 0 2 [.slice PA1_0 g1.prog.length Pc1_0, .int .i64 g1.a, .int .i64 g1.pc, .slice PA1_1 g1.wr.length Pc1_1, .slice PA1_2 g1.lv.length Pc1_2, .int .i64 g1.t.1, .int .i64 g1.t.2.1, .bool g1.t.2.2, .int .i64 g1.pd, .int .i64 g1.x.1, .int .i64 g1.x.2.1, .bool g1.x.2.2.1, .int .i64 g1.x.2.2.2, .bool g1.hl, .slice PA1_3 g1.seen.length Pc1_3] [.slice PA1_0 g1.prog.length Pc1_0, .int .i64 g1.a, .int .i64 g1.pc, .slice PA1_1 g1.wr.length Pc1_1, .slice PA1_2 g1.lv.length Pc1_2, .int .i64 g1.t.1, .int .i64 g1.t.2.1, .bool g1.t.2.2, .int .i64 g1.pd, .int .i64 g1.x.1, .int .i64 g1.x.2.1, .bool g1.x.2.2.1, .int .i64 g1.x.2.2.2, .bool g1.hl, .slice PA1_3 g1.seen.length Pc1_3] 0 (by rfl) (by rfl) (by kernel_rfl) (by kernel_rfl) (by rfl) (by kernel_rfl) (by kernel_rfl) (by kernel_rfl) ?_
    refine Sx.GT.ld 32 (.tmp 3) b2 0 2 [.slice PA1_0 g1.prog.length Pc1_0, .int .i64 g1.a, .int .i64 g1.pc, .slice PA1_1 g1.wr.length Pc1_1, .slice PA1_2 g1.lv.length Pc1_2, .int .i64 g1.t.1, .int .i64 g1.t.2.1, .bool g1.t.2.2, .int .i64 g1.pd, .int .i64 g1.x.1, .int .i64 g1.x.2.1, .bool g1.x.2.2.1, .int .i64 g1.x.2.2.2, .bool g1.hl, .slice PA1_3 g1.seen.length Pc1_3] [.slice PA1_0 g1.prog.length Pc1_0, .int .i64 g1.a, .int .i64 g1.pc, .slice PA1_1 g1.wr.length Pc1_1, .slice PA1_2 g1.lv.length Pc1_2, .int .i64 g1.t.1, .int .i64 g1.t.2.1, .bool g1.t.2.2, .int .i64 g1.pd, .int .i64 g1.x.1, .int .i64 g1.x.2.1, .bool g1.x.2.2.1, .int .i64 g1.x.2.2.2, .bool g1.hl, .slice PA1_3 g1.seen.length Pc1_3] 3 (by rfl) (by rfl) (by kernel_rfl) (by kernel_rfl) (by rfl) (by kernel_rfl) (by kernel_rfl) (by kernel_rfl) ?_
    refine Sx.GT.alone (Sx.Alone.plain 27 #[.agg #[.slice PA1_0 g1.prog.length Pc1_0, .int .i64 g1.a, .int .i64 g1.pc, .slice PA1_1 g1.wr.length Pc1_1, .slice PA1_2 g1.lv.length Pc1_2, .int .i64 g1.t.1, .int .i64 g1.t.2.1, .bool g1.t.2.2, .int .i64 g1.pd, .int .i64 g1.x.1, .int .i64 g1.x.2.1, .bool g1.x.2.2.1, .int .i64 g1.x.2.2.2, .bool g1.hl, .slice PA1_3 g1.seen.length Pc1_3]] (.int .i64 (wantG g1)) (by rfl) (by kernel_rfl) (fun w => by kernel_rfl) (fun w S => by exact impl_want g1 _ _ hwf1 (small_cap hsm1) (Sx.St.rdc S 20 rfl)) (fun w S => St.pick S [0, 17, 19] _ rfl (by decide)) ?_)
    refine Sx.GT.pure (.bool ((wantG g1) == 0)) 2 (by rfl) (by kernel_rfl) (fun w => by kernel_rfl) ?_
    refine Sx.GT.alone (Sx.Alone.plain 32 #[.agg #[.slice PA1_0 g1.prog.length Pc1_0, .int .i64 g1.a, .int .i64 g1.pc, .slice PA1_1 g1.wr.length Pc1_1, .slice PA1_2 g1.lv.length Pc1_2, .int .i64 g1.t.1, .int .i64 g1.t.2.1, .bool g1.t.2.2, .int .i64 g1.pd, .int .i64 g1.x.1, .int .i64 g1.x.2.1, .bool g1.x.2.2.1, .int .i64 g1.x.2.2.2, .bool g1.hl, .slice PA1_3 g1.seen.length Pc1_3]] (.bool (canRun g1)) (by rfl) (by kernel_rfl) (fun w => by kernel_rfl) (fun w S => by exact spec_canRun g1 (.slice PA1_0 g1.prog.length Pc1_0) (.slice PA1_1 g1.wr.length Pc1_1) (.slice PA1_2 g1.lv.length Pc1_2) (.slice PA1_3 g1.seen.length Pc1_3) _) (fun w S => St.pick S [0, 17, 19] _ rfl (by decide)) ?_)
    refine Sx.GT.pure (.bool (!(canRun g1))) 5 (by rfl) (by kernel_rfl) (fun w => by kernel_rfl) ?_
    refine Sx.GT.pureq (.bool (((wantG g1) == 0) == (!(canRun g1)))) (.bool true) 6 (by rfl) (by kernel_rfl) (fun w => by kernel_rfl) (congrArg Value.bool (by rw [want_none]; exact beq_self_eq_true _)) ?_
    refine Sx.GT.pure (.bool true) 7 (by rfl) (by kernel_rfl) (fun w => by kernel_rfl) ?_
    refine Sx.GT.pure (.pointer (some ⟨b4, 4, none⟩)) 8 (by rfl) (by kernel_rfl) (fun w => by kernel_rfl) ?_
    refine Sx.GT.ld1 25 (.tmp 87) b4 4 1 [.slice PA3_0 (plainG g1).prog.length Pc3_0, .int .i64 (plainG g1).a, .int .i64 (plainG g1).pc, .slice PA3_1 (plainG g1).wr.length Pc3_1, .slice PA3_2 (plainG g1).lv.length Pc3_2, .int .i64 (plainG g1).t.1, .int .i64 (plainG g1).t.2.1, .bool (plainG g1).t.2.2, .int .i64 (plainG g1).pd, .int .i64 (plainG g1).x.1, .int .i64 (plainG g1).x.2.1, .bool (plainG g1).x.2.2.1, .int .i64 (plainG g1).x.2.2.2, .bool (plainG g1).hl, .slice PA3_3 (plainG g1).seen.length Pc3_3] (.slice PA3_2 (plainG g1).lv.length Pc3_2) 9 (by rfl) (by rfl) (by kernel_rfl) (by kernel_rfl) (by rfl) (by kernel_rfl) (by kernel_rfl) ?_
    refine Sx.GT.pure (.pointer (some ⟨b2, 4, none⟩)) 10 (by rfl) (by kernel_rfl) (fun w => by kernel_rfl) ?_
    refine Sx.GT.ld1 25 (.tmp 89) b2 4 2 [.slice PA1_0 g1.prog.length Pc1_0, .int .i64 g1.a, .int .i64 g1.pc, .slice PA1_1 g1.wr.length Pc1_1, .slice PA1_2 g1.lv.length Pc1_2, .int .i64 g1.t.1, .int .i64 g1.t.2.1, .bool g1.t.2.2, .int .i64 g1.pd, .int .i64 g1.x.1, .int .i64 g1.x.2.1, .bool g1.x.2.2.1, .int .i64 g1.x.2.2.2, .bool g1.hl, .slice PA1_3 g1.seen.length Pc1_3] (.slice PA1_2 g1.lv.length Pc1_2) 11 (by rfl) (by rfl) (by kernel_rfl) (by kernel_rfl) (by rfl) (by kernel_rfl) (by kernel_rfl) ?_
    refine Sx.GT.alone (Sx.Alone.plain 33 #[.slice PA3_2 (plainG g1).lv.length Pc3_2, .slice PA1_2 g1.lv.length Pc1_2] (.bool true) (by rfl) (by kernel_rfl) (fun w => by kernel_rfl) (fun w S => by exact ((((Slots.law_same PA3_2 PA1_2 ((plainG g1).lv.length) g1.lv.length Pc3_2 Pc1_2 0 0 _ _ ((plainG g1).lv) g1.lv _ (Nat.le_trans (show (plainG g1).lv.length ≤ 4 by rw [plain_lv]; omega) (by decide)) (Nat.le_trans (show g1.lv.length ≤ 4 by omega) (by decide)) rfl rfl (by rw [← pcells_s]; exact p2_lies (rG_p (Sx.St.rdc S 18 rfl)).2.2) (by rw [← pcells_s]; exact p2_lies (rG_p (Sx.St.rdc S 20 rfl)).2.2)).mono fun e w' h => And.intro h.1 (drew_below h.2))).mono fun e w' h => And.intro (h.1.trans (by rw [decide_eq_true (plain_lv g1)])) h.2)) (fun w S => St.pick S [0, 17, 19] _ rfl (by decide)) ?_)
    refine Sx.GT.pure (.bool true) 13 (by rfl) (by kernel_rfl) (fun w => by kernel_rfl) ?_
    refine Sx.GT.pure (.bool true) 14 (by rfl) (by kernel_rfl) (fun w => by kernel_rfl) ?_
    refine Sx.GT.pure (.pointer (some ⟨b4, 3, none⟩)) 15 (by rfl) (by kernel_rfl) (fun w => by kernel_rfl) ?_
    refine Sx.GT.ld1 25 (.tmp 94) b4 3 1 [.slice PA3_0 (plainG g1).prog.length Pc3_0, .int .i64 (plainG g1).a, .int .i64 (plainG g1).pc, .slice PA3_1 (plainG g1).wr.length Pc3_1, .slice PA3_2 (plainG g1).lv.length Pc3_2, .int .i64 (plainG g1).t.1, .int .i64 (plainG g1).t.2.1, .bool (plainG g1).t.2.2, .int .i64 (plainG g1).pd, .int .i64 (plainG g1).x.1, .int .i64 (plainG g1).x.2.1, .bool (plainG g1).x.2.2.1, .int .i64 (plainG g1).x.2.2.2, .bool (plainG g1).hl, .slice PA3_3 (plainG g1).seen.length Pc3_3] (.slice PA3_1 (plainG g1).wr.length Pc3_1) 16 (by rfl) (by rfl) (by kernel_rfl) (by kernel_rfl) (by rfl) (by kernel_rfl) (by kernel_rfl) ?_
    refine Sx.GT.pure (.pointer (some ⟨b2, 3, none⟩)) 17 (by rfl) (by kernel_rfl) (fun w => by kernel_rfl) ?_
    refine Sx.GT.ld1 25 (.tmp 96) b2 3 2 [.slice PA1_0 g1.prog.length Pc1_0, .int .i64 g1.a, .int .i64 g1.pc, .slice PA1_1 g1.wr.length Pc1_1, .slice PA1_2 g1.lv.length Pc1_2, .int .i64 g1.t.1, .int .i64 g1.t.2.1, .bool g1.t.2.2, .int .i64 g1.pd, .int .i64 g1.x.1, .int .i64 g1.x.2.1, .bool g1.x.2.2.1, .int .i64 g1.x.2.2.2, .bool g1.hl, .slice PA1_3 g1.seen.length Pc1_3] (.slice PA1_1 g1.wr.length Pc1_1) 18 (by rfl) (by rfl) (by kernel_rfl) (by kernel_rfl) (by rfl) (by kernel_rfl) (by kernel_rfl) ?_
    refine Sx.GT.alone (Sx.Alone.plain 33 #[.slice PA3_1 (plainG g1).wr.length Pc3_1, .slice PA1_1 g1.wr.length Pc1_1] (.bool true) (by rfl) (by kernel_rfl) (fun w => by kernel_rfl) (fun w S => by exact ((((Slots.law_same PA3_1 PA1_1 ((plainG g1).wr.length) g1.wr.length Pc3_1 Pc1_1 0 0 _ _ ((plainG g1).wr) g1.wr _ (Nat.le_trans (show (plainG g1).wr.length ≤ 4 by rw [plain_wr]; omega) (by decide)) (Nat.le_trans (show g1.wr.length ≤ 4 by omega) (by decide)) rfl rfl (by rw [← pcells_s]; exact p2_lies (rG_p (Sx.St.rdc S 18 rfl)).2.1) (by rw [← pcells_s]; exact p2_lies (rG_p (Sx.St.rdc S 20 rfl)).2.1)).mono fun e w' h => And.intro h.1 (drew_below h.2))).mono fun e w' h => And.intro (h.1.trans (by rw [decide_eq_true (plain_wr g1)])) h.2)) (fun w S => St.pick S [0, 17, 19] _ rfl (by decide)) ?_)
    refine Sx.GT.pure (.bool true) 20 (by rfl) (by kernel_rfl) (fun w => by kernel_rfl) ?_
    refine Sx.GT.pure (.bool true) 21 (by rfl) (by kernel_rfl) (fun w => by kernel_rfl) ?_
    refine Sx.GT.ld 32 (.tmp 3) b2 0 2 [.slice PA1_0 g1.prog.length Pc1_0, .int .i64 g1.a, .int .i64 g1.pc, .slice PA1_1 g1.wr.length Pc1_1, .slice PA1_2 g1.lv.length Pc1_2, .int .i64 g1.t.1, .int .i64 g1.t.2.1, .bool g1.t.2.2, .int .i64 g1.pd, .int .i64 g1.x.1, .int .i64 g1.x.2.1, .bool g1.x.2.2.1, .int .i64 g1.x.2.2.2, .bool g1.hl, .slice PA1_3 g1.seen.length Pc1_3] [.slice PA1_0 g1.prog.length Pc1_0, .int .i64 g1.a, .int .i64 g1.pc, .slice PA1_1 g1.wr.length Pc1_1, .slice PA1_2 g1.lv.length Pc1_2, .int .i64 g1.t.1, .int .i64 g1.t.2.1, .bool g1.t.2.2, .int .i64 g1.pd, .int .i64 g1.x.1, .int .i64 g1.x.2.1, .bool g1.x.2.2.1, .int .i64 g1.x.2.2.2, .bool g1.hl, .slice PA1_3 g1.seen.length Pc1_3] 22 (by rfl) (by rfl) (by kernel_rfl) (by kernel_rfl) (by rfl) (by kernel_rfl) (by kernel_rfl) (by kernel_rfl) ?_
    refine Sx.GT.alone (Sx.Alone.plain 27 #[.agg #[.slice PA1_0 g1.prog.length Pc1_0, .int .i64 g1.a, .int .i64 g1.pc, .slice PA1_1 g1.wr.length Pc1_1, .slice PA1_2 g1.lv.length Pc1_2, .int .i64 g1.t.1, .int .i64 g1.t.2.1, .bool g1.t.2.2, .int .i64 g1.pd, .int .i64 g1.x.1, .int .i64 g1.x.2.1, .bool g1.x.2.2.1, .int .i64 g1.x.2.2.2, .bool g1.hl, .slice PA1_3 g1.seen.length Pc1_3]] (.int .i64 (wantG g1)) (by rfl) (by kernel_rfl) (fun w => by kernel_rfl) (fun w S => by exact impl_want g1 _ _ hwf1 (small_cap hsm1) (Sx.St.rdc S 20 rfl)) (fun w S => St.pick S [0, 17, 19] _ rfl (by decide)) ?_)
    refine Sx.GT.pure (.bool ((wantG g1) == 2)) 24 (by rfl) (by kernel_rfl) (fun w => by kernel_rfl) ?_
    refine Sx.GT.pure (.bool ((wantG g1) == 2)) 25 (by rfl) (by kernel_rfl) (fun w => by kernel_rfl) ?_
    cases hc22 : ((wantG g1) == 2)
    · have hb22 := hc22
      refine Sx.GT.ld 32 (.tmp 4) b4 0 1 [.slice PA3_0 (plainG g1).prog.length Pc3_0, .int .i64 (plainG g1).a, .int .i64 (plainG g1).pc, .slice PA3_1 (plainG g1).wr.length Pc3_1, .slice PA3_2 (plainG g1).lv.length Pc3_2, .int .i64 (plainG g1).t.1, .int .i64 (plainG g1).t.2.1, .bool (plainG g1).t.2.2, .int .i64 (plainG g1).pd, .int .i64 (plainG g1).x.1, .int .i64 (plainG g1).x.2.1, .bool (plainG g1).x.2.2.1, .int .i64 (plainG g1).x.2.2.2, .bool (plainG g1).hl, .slice PA3_3 (plainG g1).seen.length Pc3_3] [.slice PA3_0 (plainG g1).prog.length Pc3_0, .int .i64 (plainG g1).a, .int .i64 (plainG g1).pc, .slice PA3_1 (plainG g1).wr.length Pc3_1, .slice PA3_2 (plainG g1).lv.length Pc3_2, .int .i64 (plainG g1).t.1, .int .i64 (plainG g1).t.2.1, .bool (plainG g1).t.2.2, .int .i64 (plainG g1).pd, .int .i64 (plainG g1).x.1, .int .i64 (plainG g1).x.2.1, .bool (plainG g1).x.2.2.1, .int .i64 (plainG g1).x.2.2.2, .bool (plainG g1).hl, .slice PA3_3 (plainG g1).seen.length Pc3_3] 26 (by rfl) (by rfl) (by kernel_rfl) (by kernel_rfl) (by rfl) (by kernel_rfl) (by kernel_rfl) (by kernel_rfl) ?_
      refine Sx.GT.ld 32 (.tmp 3) b2 0 2 [.slice PA1_0 g1.prog.length Pc1_0, .int .i64 g1.a, .int .i64 g1.pc, .slice PA1_1 g1.wr.length Pc1_1, .slice PA1_2 g1.lv.length Pc1_2, .int .i64 g1.t.1, .int .i64 g1.t.2.1, .bool g1.t.2.2, .int .i64 g1.pd, .int .i64 g1.x.1, .int .i64 g1.x.2.1, .bool g1.x.2.2.1, .int .i64 g1.x.2.2.2, .bool g1.hl, .slice PA1_3 g1.seen.length Pc1_3] [.slice PA1_0 g1.prog.length Pc1_0, .int .i64 g1.a, .int .i64 g1.pc, .slice PA1_1 g1.wr.length Pc1_1, .slice PA1_2 g1.lv.length Pc1_2, .int .i64 g1.t.1, .int .i64 g1.t.2.1, .bool g1.t.2.2, .int .i64 g1.pd, .int .i64 g1.x.1, .int .i64 g1.x.2.1, .bool g1.x.2.2.1, .int .i64 g1.x.2.2.2, .bool g1.hl, .slice PA1_3 g1.seen.length Pc1_3] 27 (by rfl) (by rfl) (by kernel_rfl) (by kernel_rfl) (by rfl) (by kernel_rfl) (by kernel_rfl) (by kernel_rfl) ?_
      refine Sx.GT.alone (Sx.Alone.plain 17 #[.agg #[.slice PA3_0 (plainG g1).prog.length Pc3_0, .int .i64 (plainG g1).a, .int .i64 (plainG g1).pc, .slice PA3_1 (plainG g1).wr.length Pc3_1, .slice PA3_2 (plainG g1).lv.length Pc3_2, .int .i64 (plainG g1).t.1, .int .i64 (plainG g1).t.2.1, .bool (plainG g1).t.2.2, .int .i64 (plainG g1).pd, .int .i64 (plainG g1).x.1, .int .i64 (plainG g1).x.2.1, .bool (plainG g1).x.2.2.1, .int .i64 (plainG g1).x.2.2.2, .bool (plainG g1).hl, .slice PA3_3 (plainG g1).seen.length Pc3_3], .agg #[.slice PA1_0 g1.prog.length Pc1_0, .int .i64 g1.a, .int .i64 g1.pc, .slice PA1_1 g1.wr.length Pc1_1, .slice PA1_2 g1.lv.length Pc1_2, .int .i64 g1.t.1, .int .i64 g1.t.2.1, .bool g1.t.2.2, .int .i64 g1.pd, .int .i64 g1.x.1, .int .i64 g1.x.2.1, .bool g1.x.2.2.1, .int .i64 g1.x.2.2.2, .bool g1.hl, .slice PA1_3 g1.seen.length Pc1_3]] (.bool (sameG (plainG g1) g1)) (by rfl) (by kernel_rfl) (fun w => by kernel_rfl) (fun w S => by exact law_sameG (plainG g1) g1 _ _ _ (small_plain hsm1) (small_cap hsm1) (Sx.St.rdc S 18 rfl) (Sx.St.rdc S 20 rfl)) (fun w S => St.pick S [0, 17, 19] _ rfl (by decide)) ?_)
      refine Sx.GT.pure (.bool (sameG (plainG g1) g1)) 29 (by rfl) (by kernel_rfl) (fun w => by kernel_rfl) ?_
      refine Sx.GT.pure (.bool (sameG (plainG g1) g1)) 30 (by rfl) (by kernel_rfl) (fun w => by kernel_rfl) ?_
      refine Sx.GT.pure (.bool (sameG (plainG g1) g1)) 31 (by rfl) (by kernel_rfl) (fun w => by kernel_rfl) ?_
      cases hc23 : (sameG (plainG g1) g1)
      · have hb23 := hc23
        exact absurd (hc23.symm.trans (by rw [plain_no hc22, sameG_refl])) (by decide)
      · have hb23 := hc23
        refine Sx.GT.pure (.pointer (some ⟨b21, 1, none⟩)) 32 (by rfl) (by kernel_rfl) (fun w => by kernel_rfl) ?_
        refine Sx.GT.ld1 3 (.tmp 111) b21 1 0 [.slice PA20_0 one.prog.length Pc20_0, .int .i64 one.a, .int .i64 one.pc, .slice PA20_1 one.wr.length Pc20_1, .slice PA20_2 one.lv.length Pc20_2, .int .i64 one.t.1, .int .i64 one.t.2.1, .bool one.t.2.2, .int .i64 one.pd, .int .i64 one.x.1, .int .i64 one.x.2.1, .bool one.x.2.2.1, .int .i64 one.x.2.2.2, .bool one.hl, .slice PA20_3 one.seen.length Pc20_3] (.int .i64 one.a) 33 (by rfl) (by rfl) (by kernel_rfl) (by kernel_rfl) (by rfl) (by kernel_rfl) (by kernel_rfl) ?_
        refine Sx.GT.pureq (.bool (one.a == 7)) (.bool true) 34 (by rfl) (by kernel_rfl) (fun w => by kernel_rfl) (congrArg Value.bool (by rw [hone1.1]; rfl)) ?_
        refine Sx.GT.pure (.bool true) 35 (by rfl) (by kernel_rfl) (fun w => by kernel_rfl) ?_
        refine Sx.GT.pure (.bool true) 36 (by rfl) (by kernel_rfl) (fun w => by kernel_rfl) ?_
        refine Sx.GT.pure (.pointer (some ⟨b21, 2, none⟩)) 37 (by rfl) (by kernel_rfl) (fun w => by kernel_rfl) ?_
        refine Sx.GT.ld1 3 (.tmp 116) b21 2 0 [.slice PA20_0 one.prog.length Pc20_0, .int .i64 one.a, .int .i64 one.pc, .slice PA20_1 one.wr.length Pc20_1, .slice PA20_2 one.lv.length Pc20_2, .int .i64 one.t.1, .int .i64 one.t.2.1, .bool one.t.2.2, .int .i64 one.pd, .int .i64 one.x.1, .int .i64 one.x.2.1, .bool one.x.2.2.1, .int .i64 one.x.2.2.2, .bool one.hl, .slice PA20_3 one.seen.length Pc20_3] (.int .i64 one.pc) 38 (by rfl) (by rfl) (by kernel_rfl) (by kernel_rfl) (by rfl) (by kernel_rfl) (by kernel_rfl) ?_
        refine Sx.GT.pureq (.bool (one.pc == 1)) (.bool true) 39 (by rfl) (by kernel_rfl) (fun w => by kernel_rfl) (congrArg Value.bool (by rw [hone1.2]; rfl)) ?_
        refine Sx.GT.pure (.bool true) 40 (by rfl) (by kernel_rfl) (fun w => by kernel_rfl) ?_
        refine Sx.GT.pure (.bool true) 41 (by rfl) (by kernel_rfl) (fun w => by kernel_rfl) ?_
        refine Sx.GT.nil ?_
        refine Sx.E.next ?_
        refine Sx.C.ret ?_
        refine Sx.E.ret1 (.bool true) rfl (by kernel_rfl) (fun w S => ?_)
        exact ⟨rfl, S.below⟩
    · have hb22 := hc22
      refine Sx.GT.skip 26 (by rfl) (by kernel_rfl) ?_
      refine Sx.GT.skip 27 (by rfl) (by kernel_rfl) ?_
      refine Sx.GT.alone (Sx.Alone.skip (by rfl) (by kernel_rfl) (fun w S => St.pick S [0, 17, 19] _ rfl (by decide)) ?_)
      refine Sx.GT.pure (.bool true) 29 (by rfl) (by kernel_rfl) (fun w => by kernel_rfl) ?_
      refine Sx.GT.pure (.bool true) 30 (by rfl) (by kernel_rfl) (fun w => by kernel_rfl) ?_
      refine Sx.GT.pure (.bool true) 31 (by rfl) (by kernel_rfl) (fun w => by kernel_rfl) ?_
      refine Sx.GT.pure (.pointer (some ⟨b21, 1, none⟩)) 32 (by rfl) (by kernel_rfl) (fun w => by kernel_rfl) ?_
      refine Sx.GT.ld1 3 (.tmp 111) b21 1 0 [.slice PA20_0 one.prog.length Pc20_0, .int .i64 one.a, .int .i64 one.pc, .slice PA20_1 one.wr.length Pc20_1, .slice PA20_2 one.lv.length Pc20_2, .int .i64 one.t.1, .int .i64 one.t.2.1, .bool one.t.2.2, .int .i64 one.pd, .int .i64 one.x.1, .int .i64 one.x.2.1, .bool one.x.2.2.1, .int .i64 one.x.2.2.2, .bool one.hl, .slice PA20_3 one.seen.length Pc20_3] (.int .i64 one.a) 33 (by rfl) (by rfl) (by kernel_rfl) (by kernel_rfl) (by rfl) (by kernel_rfl) (by kernel_rfl) ?_
      refine Sx.GT.pureq (.bool (one.a == 7)) (.bool true) 34 (by rfl) (by kernel_rfl) (fun w => by kernel_rfl) (congrArg Value.bool (by rw [hone1.1]; rfl)) ?_
      refine Sx.GT.pure (.bool true) 35 (by rfl) (by kernel_rfl) (fun w => by kernel_rfl) ?_
      refine Sx.GT.pure (.bool true) 36 (by rfl) (by kernel_rfl) (fun w => by kernel_rfl) ?_
      refine Sx.GT.pure (.pointer (some ⟨b21, 2, none⟩)) 37 (by rfl) (by kernel_rfl) (fun w => by kernel_rfl) ?_
      refine Sx.GT.ld1 3 (.tmp 116) b21 2 0 [.slice PA20_0 one.prog.length Pc20_0, .int .i64 one.a, .int .i64 one.pc, .slice PA20_1 one.wr.length Pc20_1, .slice PA20_2 one.lv.length Pc20_2, .int .i64 one.t.1, .int .i64 one.t.2.1, .bool one.t.2.2, .int .i64 one.pd, .int .i64 one.x.1, .int .i64 one.x.2.1, .bool one.x.2.2.1, .int .i64 one.x.2.2.2, .bool one.hl, .slice PA20_3 one.seen.length Pc20_3] (.int .i64 one.pc) 38 (by rfl) (by rfl) (by kernel_rfl) (by kernel_rfl) (by rfl) (by kernel_rfl) (by kernel_rfl) ?_
      refine Sx.GT.pureq (.bool (one.pc == 1)) (.bool true) 39 (by rfl) (by kernel_rfl) (fun w => by kernel_rfl) (congrArg Value.bool (by rw [hone1.2]; rfl)) ?_
      refine Sx.GT.pure (.bool true) 40 (by rfl) (by kernel_rfl) (fun w => by kernel_rfl) ?_
      refine Sx.GT.pure (.bool true) 41 (by rfl) (by kernel_rfl) (fun w => by kernel_rfl) ?_
      refine Sx.GT.nil ?_
      refine Sx.E.next ?_
      refine Sx.C.ret ?_
      refine Sx.E.ret1 (.bool true) rfl (by kernel_rfl) (fun w S => ?_)
      exact ⟨rfl, S.below⟩
set_option maxRecDepth 100000 in
theorem lifted (os : Os) (started : os.Started) (H : Type) (enc : TypeId × Value → H) :
    ReturnsInHanded {} Try.checked os 3 .any (Rows.fnWantsSpec.pre6 enc Try.prog Try.f3 Rows.fnWantsRow.domain false) (Rows.fnWantsSpec.post enc Try.prog Try.f3 false true false false) := by
  refine returnsInHanded_of_change (C := Try.checked) Base.own started (by kernel_rfl) Try.func3
    (ChangeSpec.witness6 (enc := enc) (C := Try.checked) false ⟨#[], #[.slice none 0 0], []⟩ 8 (by kernel_rfl) (by kernel_rfl) (by kernel_rfl) (by kernel_rfl)) ?_
  intro W base args ds gs before hval0 hW hcnd _
  have hval : ∀ (j : Nat) t v, Try.f3.params[j]? = some t → args[j]? = some v → Value.okWide Try.prog W .any base t v := hval0
  have hW' := hW
  obtain ⟨p, q, hA0, hV, rfl, hfz, hnd⟩ := hW
  have hA : DataW.TrodAll enc Try.prog W 0 (fun _ => true) true Try.f3.params.toList args.toList ds p := hA0
  have hA1 := hA
  rw [Try.params3] at hA hval
  obtain ⟨v0, vs0, d0, ds0, p0, q0, hargs, rfl, rfl, h0, r0⟩ := trodAll_cons hA
  obtain ⟨rfl, rfl, rfl⟩ := trodAll_nil r0
  obtain rfl : args = #[v0] := by cases args; simp_all
  obtain ⟨rfl, rfl⟩ := trodVars_none hV
  obtain ⟨A0, n0, c0, rfl, hn0, hcode0, _⟩ := Draw.open_code (hval 0 22 v0 rfl rfl) h0
  clear hA0 hval0
  rw [List.append_nil] at hW'
  refine (walk A0 n0 c0 hn0 hcode0).mono fun e W' ⟨he, hg⟩ => ?_
  subst he
  exact ⟨_, rfl, Mem.post_args Slots.laid (by kernel_rfl) rfl rfl rfl hW' hA1 hg (fun _ _ _ => (trodAll_cons_mk (shut_bool Try.underlying4 _) trodAll_mk0)) (ok_one (by kernel_rfl) rfl (okWide_bool_mk Try.underlying4 _))⟩
theorem over : Rows.fnWantsRow.holds Try.pinned (OpenSpec.ofChange Rows.fnWantsSpec) :=
  OpenClaim.holds_of_wide 3 Try.f3 rfl rfl rfl rfl rfl rfl rfl ⟨rfl, rfl, rfl, rfl, rfl⟩ rfl rfl rfl rfl rfl (by kernel_rfl) Try.func3 (by kernel_rfl)
    (of_decide_eq_true (by kernel_rfl)) (by unfold Func.isWrapper; first | (rw [if_pos (by decide +kernel)]; kernel_rfl) | (rw [if_neg (by decide +kernel)]; exact ⟨rfl, rfl⟩))
    (fun os started H enc _ => lifted os started H enc)
/-- The given statement. -/
theorem proved : Rows.FnWantsSaid :=
  over
#print axioms proved
end Go.Proofs.Ytdbhfadiinmgiaa.fnWants
