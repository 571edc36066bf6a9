/-
  At every argument the law FnExactStored returns true: the project's Stored answers as the given model's Stored, changes no argument, and what it returns is its own. No condition.
-/
import Derived.Test.YtdbhfadiinmgiaaMd03b00d1
namespace Go.Proofs.Ytdbhfadiinmgiaa.fnExactStored
set_option maxRecDepth 100000
open Go.ChangeShapes Go.WideShapes Go.ChangeAt Go.RowKit
open Go.Proofs.Ytdbhfadiinmgiaa.Base Go.Proofs.Ytdbhfadiinmgiaa.Mem Go.Proofs.Ytdbhfadiinmgiaa.Data Go.Proofs.Ytdbhfadiinmgiaa.Slots Go.Proofs.Ytdbhfadiinmgiaa.Ints Go.Proofs.Ytdbhfadiinmgiaa.Stt Go.Proofs.Ytdbhfadiinmgiaa.Part Go.Proofs.Ytdbhfadiinmgiaa.Guests Go.Proofs.Ytdbhfadiinmgiaa.Exits
set_option linter.unusedVariables false
set_option linter.unusedSimpArgs false
set_option maxRecDepth 100000 in
set_option maxHeartbeats 8000000 in
theorem walk (g0 : gT) (A0 A1 A2 A3 : Value) {w : World} (hw0 : wfGuest g0) (h0 : gR w 0 w.heap.size g0 A0 A1 A2 A3) :
    Calls Try.prog 9 #[.agg (gV g0 A0 A1 A2 A3).toArray] w fun e w' => e = .returned (.bool true) ∧ Below w.heap.size w w' := by
  by_cases hz0 : gsize g0 ≤ 1048576
  · have hcg0 : gcap g0 := by unfold gsize at *; exact ⟨by omega, by omega, by omega, by omega⟩
    have hcr0 := gcap_rg hcg0
    have hrs : gsize (movedG g0) = gsize g0 := rfl
    have hcres : gcap (movedG g0) := hcg0
    obtain ⟨q1, hq1⟩ : ∃ q : Int, q = ((1 + gcnt g0 : Nat) : Int) := ⟨_, rfl⟩
    obtain ⟨q2, hq2⟩ : ∃ q : Int, q = ((1 + gcnt (movedG g0) : Nat) : Int) := ⟨_, rfl⟩
    have hp1 : ¬ (q1 < 0) := by omega
    have hp2 : ¬ (q2 < 0) := by omega
    have HQ1 := Lib.hid hq1
    have HQ2 := Lib.hid hq2
    clear hq1 hq2
    refine Sx.enter (args := [.agg (gV g0 A0 A1 A2 A3).toArray]) Try.func9 rfl Try.ntmps9 rfl ?_
    refine Sx.C.seq ?_
    refine Sx.C.region ?_
    refine Sx.G.box 51 (.tmp 0) (gV g0 A0 A1 A2 A3) rfl (by kernel_rfl) (by kernel_rfl) (fun b1 => ?_)
    refine Sx.G.pure (.bool false) (by kernel_rfl) (fun w => by kernel_rfl) ?_
    refine Sx.G.nil ?_
    refine Sx.E.next ?_
    refine Sx.C.seq ?_
    refine Sx.C.region ?_
    refine Sx.G.pure (.int .i64 1048576) (by kernel_rfl) (fun w => by kernel_rfl) ?_
    refine Sx.G.nil ?_
    refine Sx.E.next ?_
    refine Sx.C.seq ?_
    refine Sx.C.region ?_
    refine Sx.G.ld 51 (.tmp 1) b1 0 0 (gV g0 A0 A1 A2 A3) ((gV g0 A0 A1 A2 A3)) rfl (by kernel_rfl) (by kernel_rfl) rfl (by kernel_rfl) (by kernel_rfl) (by kernel_rfl) ?_
    refine Sx.G.pure (.int .i64 1048576) (by kernel_rfl) (fun w => by kernel_rfl) ?_
    refine Sx.G.plain 37 #[.agg ((gV g0 A0 A1 A2 A3)).toArray, .int .i64 1048576] (.int .i64 (1048576 - (gsize g0 : Int))) (by kernel_rfl) (fun w => by kernel_rfl) (fun w S => by exact szGuest_yes _ _ g0 A0 A1 A2 A3 1048576 _ (by omega) (by omega) (Nat.le_refl _) (St.oldG S h0)) ?_
    refine Sx.G.pure (.int .i64 (1048576 - (gsize g0 : Int))) (by kernel_rfl) (fun w => by kernel_rfl) ?_
    refine Sx.G.nil ?_
    refine Sx.E.next ?_
    refine Sx.C.seq ?_
    refine Sx.C.seq ?_
    refine Sx.C.region ?_
    refine Sx.G.pure (.int .i64 (1048576 - (gsize g0 : Int))) (by kernel_rfl) (fun w => by kernel_rfl) ?_
    refine Sx.G.pureq (.bool (decide ((1048576 - (gsize g0 : Int)) < 0))) (.bool false) (by kernel_rfl) (fun w => by kernel_rfl) (congrArg Value.bool (decide_eq_false (by omega))) ?_
    refine Sx.G.nil ?_
    refine Sx.E.next ?_
    refine Sx.C.no (by kernel_rfl) (by kernel_rfl) ?_
    refine Sx.C.skip ?_
    refine Sx.E.next ?_
    refine Sx.C.seq ?_
    refine Sx.C.region ?_
    refine Sx.G.ld 51 (.tmp 1) b1 0 0 (gV g0 A0 A1 A2 A3) ((gV g0 A0 A1 A2 A3)) rfl (by kernel_rfl) (by kernel_rfl) rfl (by kernel_rfl) (by kernel_rfl) (by kernel_rfl) ?_
    refine Sx.G.call 38 #[.agg ((gV g0 A0 A1 A2 A3)).toArray] (by kernel_rfl) (fun w => by kernel_rfl) (fun w2 S => (toGuest_any 0 g0 A0 A1 A2 A3 _ hcg0 (St.oldG S h0)).mono fun e w2' hp => ?_)
    obtain ⟨x2_0, x2_1, x2_2, x2_3, rfl, ho, hb⟩ := hp
    obtain ⟨x2A0, x2c0, e0, -⟩ := ho.r0
    subst e0
    obtain ⟨x2A1, x2c1, e1, -⟩ := ho.r1
    subst e1
    obtain ⟨x2A2, x2c2, e2, -⟩ := ho.r2
    subst e2
    obtain ⟨x2A3, x2c3, e3, -⟩ := ho.r3
    subst e3
    refine ⟨_, _, rfl, St.gotG S hb ho, ?_⟩
    clear S ho hb
    refine Sx.G.call 24 #[.agg (gV g0 (.slice x2A0 g0.prog.length x2c0) (.slice x2A1 g0.wr.length x2c1) (.slice x2A2 g0.lv.length x2c2) (.slice x2A3 g0.seen.length x2c3)).toArray] (by kernel_rfl) (fun w => by kernel_rfl) (fun w3 S => (specx_stored g0 _ _ hcr0 (St.rgG S 0 rfl)).mono fun e w3' hp => ?_)
    replace hp := gives_gP e w3' hp
    obtain ⟨x3_0, x3_1, x3_2, x3_3, rfl, ho, hb⟩ := hp
    obtain ⟨x3A0, x3c0, e0, -⟩ := ho.r0
    subst e0
    obtain ⟨x3A1, x3c1, e1, -⟩ := ho.r1
    subst e1
    obtain ⟨x3A2, x3c2, e2, -⟩ := ho.r2
    subst e2
    obtain ⟨x3A3, x3c3, e3, -⟩ := ho.r3
    subst e3
    refine ⟨_, _, rfl, St.gotG S hb ho, ?_⟩
    clear S ho hb
    refine Sx.G.alloc 32 (.agg #[.slice none 0 0, .int .i64 0, .int .i64 0, .slice none 0 0, .slice none 0 0, .int .i64 0, .int .i64 0, .bool false, .int .i64 0, .int .i64 0, .int .i64 0, .bool false, .int .i64 0, .bool false, .slice none 0 0]) [.slice none 0 0, .int .i64 0, .int .i64 0, .slice none 0 0, .slice none 0 0, .int .i64 0, .int .i64 0, .bool false, .int .i64 0, .int .i64 0, .int .i64 0, .bool false, .int .i64 0, .bool false, .slice none 0 0] rfl (by kernel_rfl) (fun w => by kernel_rfl) (by kernel_rfl) (fun b4 => ?_)
    refine Sx.G.sto 32 (.tmp 4) (.tmp 18) b4 0 0 [.slice none 0 0, .int .i64 0, .int .i64 0, .slice none 0 0, .slice none 0 0, .int .i64 0, .int .i64 0, .bool false, .int .i64 0, .int .i64 0, .int .i64 0, .bool false, .int .i64 0, .bool false, .slice none 0 0] (gV (movedG g0) (.slice x3A0 (movedG g0).prog.length x3c0) (.slice x3A1 (movedG g0).wr.length x3c1) (.slice x3A2 (movedG g0).lv.length x3c2) (.slice x3A3 (movedG g0).seen.length x3c3)) (gV (movedG g0) (.slice x3A0 (movedG g0).prog.length x3c0) (.slice x3A1 (movedG g0).wr.length x3c1) (.slice x3A2 (movedG g0).lv.length x3c2) (.slice x3A3 (movedG g0).seen.length x3c3)) [vr b4 (gV (movedG g0) (.slice x3A0 (movedG g0).prog.length x3c0) (.slice x3A1 (movedG g0).wr.length x3c1) (.slice x3A2 (movedG g0).lv.length x3c2) (.slice x3A3 (movedG g0).seen.length x3c3)), gI (w3.heap.size) (w3'.heap.size) (movedG g0) (.slice x3A0 (movedG g0).prog.length x3c0) (.slice x3A1 (movedG g0).wr.length x3c1) (.slice x3A2 (movedG g0).lv.length x3c2) (.slice x3A3 (movedG g0).seen.length x3c3), gI (w2.heap.size) (w2'.heap.size) g0 (.slice x2A0 g0.prog.length x2c0) (.slice x2A1 g0.wr.length x2c1) (.slice x2A2 g0.lv.length x2c2) (.slice x2A3 g0.seen.length x2c3), vr b1 (gV g0 A0 A1 A2 A3)] rfl (by kernel_rfl) (by kernel_rfl) (by kernel_rfl) rfl (by kernel_rfl) rfl (by kernel_rfl) (by kernel_rfl) (by kernel_rfl) ?_
    refine Sx.G.nil ?_
    refine Sx.E.next ?_
    refine Sx.C.seq ?_
    refine Sx.C.region ?_
    refine Sx.G.ld 51 (.tmp 1) b1 0 3 (gV g0 A0 A1 A2 A3) ((gV g0 A0 A1 A2 A3)) rfl (by kernel_rfl) (by kernel_rfl) rfl (by kernel_rfl) (by kernel_rfl) (by kernel_rfl) ?_
    refine Sx.G.call 38 #[.agg ((gV g0 A0 A1 A2 A3)).toArray] (by kernel_rfl) (fun w => by kernel_rfl) (fun w5 S => (toGuest_any 0 g0 A0 A1 A2 A3 _ hcg0 (St.oldG S h0)).mono fun e w5' hp => ?_)
    obtain ⟨x5_0, x5_1, x5_2, x5_3, rfl, ho, hb⟩ := hp
    obtain ⟨x5A0, x5c0, e0, -⟩ := ho.r0
    subst e0
    obtain ⟨x5A1, x5c1, e1, -⟩ := ho.r1
    subst e1
    obtain ⟨x5A2, x5c2, e2, -⟩ := ho.r2
    subst e2
    obtain ⟨x5A3, x5c3, e3, -⟩ := ho.r3
    subst e3
    refine ⟨_, _, rfl, St.gotG S hb ho, ?_⟩
    clear S ho hb
    refine Sx.G.alloc 32 (.agg #[.slice none 0 0, .int .i64 0, .int .i64 0, .slice none 0 0, .slice none 0 0, .int .i64 0, .int .i64 0, .bool false, .int .i64 0, .int .i64 0, .int .i64 0, .bool false, .int .i64 0, .bool false, .slice none 0 0]) [.slice none 0 0, .int .i64 0, .int .i64 0, .slice none 0 0, .slice none 0 0, .int .i64 0, .int .i64 0, .bool false, .int .i64 0, .int .i64 0, .int .i64 0, .bool false, .int .i64 0, .bool false, .slice none 0 0] rfl (by kernel_rfl) (fun w => by kernel_rfl) (by kernel_rfl) (fun b6 => ?_)
    refine Sx.G.sto 32 (.tmp 5) (.tmp 20) b6 0 0 [.slice none 0 0, .int .i64 0, .int .i64 0, .slice none 0 0, .slice none 0 0, .int .i64 0, .int .i64 0, .bool false, .int .i64 0, .int .i64 0, .int .i64 0, .bool false, .int .i64 0, .bool false, .slice none 0 0] (gV g0 (.slice x5A0 g0.prog.length x5c0) (.slice x5A1 g0.wr.length x5c1) (.slice x5A2 g0.lv.length x5c2) (.slice x5A3 g0.seen.length x5c3)) (gV g0 (.slice x5A0 g0.prog.length x5c0) (.slice x5A1 g0.wr.length x5c1) (.slice x5A2 g0.lv.length x5c2) (.slice x5A3 g0.seen.length x5c3)) [vr b6 (gV g0 (.slice x5A0 g0.prog.length x5c0) (.slice x5A1 g0.wr.length x5c1) (.slice x5A2 g0.lv.length x5c2) (.slice x5A3 g0.seen.length x5c3)), gI (w5.heap.size) (w5'.heap.size) g0 (.slice x5A0 g0.prog.length x5c0) (.slice x5A1 g0.wr.length x5c1) (.slice x5A2 g0.lv.length x5c2) (.slice x5A3 g0.seen.length x5c3), vr b4 (gV (movedG g0) (.slice x3A0 (movedG g0).prog.length x3c0) (.slice x3A1 (movedG g0).wr.length x3c1) (.slice x3A2 (movedG g0).lv.length x3c2) (.slice x3A3 (movedG g0).seen.length x3c3)), gI (w3.heap.size) (w3'.heap.size) (movedG g0) (.slice x3A0 (movedG g0).prog.length x3c0) (.slice x3A1 (movedG g0).wr.length x3c1) (.slice x3A2 (movedG g0).lv.length x3c2) (.slice x3A3 (movedG g0).seen.length x3c3), gI (w2.heap.size) (w2'.heap.size) g0 (.slice x2A0 g0.prog.length x2c0) (.slice x2A1 g0.wr.length x2c1) (.slice x2A2 g0.lv.length x2c2) (.slice x2A3 g0.seen.length x2c3), vr b1 (gV g0 A0 A1 A2 A3)] rfl (by kernel_rfl) (by kernel_rfl) (by kernel_rfl) rfl (by kernel_rfl) rfl (by kernel_rfl) (by kernel_rfl) (by kernel_rfl) ?_
    refine Sx.G.nil ?_
    refine Sx.E.next ?_
    refine Sx.C.seq ?_
    refine Sx.C.region ?_
    refine Sx.G.ld 32 (.tmp 5) b6 0 0 (gV g0 (.slice x5A0 g0.prog.length x5c0) (.slice x5A1 g0.wr.length x5c1) (.slice x5A2 g0.lv.length x5c2) (.slice x5A3 g0.seen.length x5c3)) ((gV g0 (.slice x5A0 g0.prog.length x5c0) (.slice x5A1 g0.wr.length x5c1) (.slice x5A2 g0.lv.length x5c2) (.slice x5A3 g0.seen.length x5c3))) rfl (by kernel_rfl) (by kernel_rfl) rfl (by kernel_rfl) (by kernel_rfl) (by kernel_rfl) ?_
    refine Sx.G.call 23 #[.agg ((gV g0 (.slice x5A0 g0.prog.length x5c0) (.slice x5A1 g0.wr.length x5c1) (.slice x5A2 g0.lv.length x5c2) (.slice x5A3 g0.seen.length x5c3))).toArray] (by kernel_rfl) (fun w => by kernel_rfl) (fun w7 S => (impl_stored g0 _ _ hw0 hcr0 (St.rgG S 1 rfl)).mono fun e w7' hp => ?_)
    obtain ⟨x7_0, x7_1, x7_2, x7_3, rfl, ho, hb⟩ := hp
    obtain ⟨x7A0, x7c0, e0, -⟩ := ho.r0
    subst e0
    obtain ⟨x7A1, x7c1, e1, -⟩ := ho.r1
    subst e1
    obtain ⟨x7A2, x7c2, e2, -⟩ := ho.r2
    subst e2
    obtain ⟨x7A3, x7c3, e3, -⟩ := ho.r3
    subst e3
    refine ⟨_, _, rfl, St.gotG S hb ho, ?_⟩
    clear S ho hb
    refine Sx.G.alloc 32 (.agg #[.slice none 0 0, .int .i64 0, .int .i64 0, .slice none 0 0, .slice none 0 0, .int .i64 0, .int .i64 0, .bool false, .int .i64 0, .int .i64 0, .int .i64 0, .bool false, .int .i64 0, .bool false, .slice none 0 0]) [.slice none 0 0, .int .i64 0, .int .i64 0, .slice none 0 0, .slice none 0 0, .int .i64 0, .int .i64 0, .bool false, .int .i64 0, .int .i64 0, .int .i64 0, .bool false, .int .i64 0, .bool false, .slice none 0 0] rfl (by kernel_rfl) (fun w => by kernel_rfl) (by kernel_rfl) (fun b8 => ?_)
    refine Sx.G.sto 32 (.tmp 6) (.tmp 22) b8 0 0 [.slice none 0 0, .int .i64 0, .int .i64 0, .slice none 0 0, .slice none 0 0, .int .i64 0, .int .i64 0, .bool false, .int .i64 0, .int .i64 0, .int .i64 0, .bool false, .int .i64 0, .bool false, .slice none 0 0] (gV (movedG g0) (.slice x7A0 (movedG g0).prog.length x7c0) (.slice x7A1 (movedG g0).wr.length x7c1) (.slice x7A2 (movedG g0).lv.length x7c2) (.slice x7A3 (movedG g0).seen.length x7c3)) (gV (movedG g0) (.slice x7A0 (movedG g0).prog.length x7c0) (.slice x7A1 (movedG g0).wr.length x7c1) (.slice x7A2 (movedG g0).lv.length x7c2) (.slice x7A3 (movedG g0).seen.length x7c3)) [vr b8 (gV (movedG g0) (.slice x7A0 (movedG g0).prog.length x7c0) (.slice x7A1 (movedG g0).wr.length x7c1) (.slice x7A2 (movedG g0).lv.length x7c2) (.slice x7A3 (movedG g0).seen.length x7c3)), gI (w7.heap.size) (w7'.heap.size) (movedG g0) (.slice x7A0 (movedG g0).prog.length x7c0) (.slice x7A1 (movedG g0).wr.length x7c1) (.slice x7A2 (movedG g0).lv.length x7c2) (.slice x7A3 (movedG g0).seen.length x7c3), vr b6 (gV g0 (.slice x5A0 g0.prog.length x5c0) (.slice x5A1 g0.wr.length x5c1) (.slice x5A2 g0.lv.length x5c2) (.slice x5A3 g0.seen.length x5c3)), gI (w5.heap.size) (w5'.heap.size) g0 (.slice x5A0 g0.prog.length x5c0) (.slice x5A1 g0.wr.length x5c1) (.slice x5A2 g0.lv.length x5c2) (.slice x5A3 g0.seen.length x5c3), vr b4 (gV (movedG g0) (.slice x3A0 (movedG g0).prog.length x3c0) (.slice x3A1 (movedG g0).wr.length x3c1) (.slice x3A2 (movedG g0).lv.length x3c2) (.slice x3A3 (movedG g0).seen.length x3c3)), gI (w3.heap.size) (w3'.heap.size) (movedG g0) (.slice x3A0 (movedG g0).prog.length x3c0) (.slice x3A1 (movedG g0).wr.length x3c1) (.slice x3A2 (movedG g0).lv.length x3c2) (.slice x3A3 (movedG g0).seen.length x3c3), gI (w2.heap.size) (w2'.heap.size) g0 (.slice x2A0 g0.prog.length x2c0) (.slice x2A1 g0.wr.length x2c1) (.slice x2A2 g0.lv.length x2c2) (.slice x2A3 g0.seen.length x2c3), vr b1 (gV g0 A0 A1 A2 A3)] rfl (by kernel_rfl) (by kernel_rfl) (by kernel_rfl) rfl (by kernel_rfl) rfl (by kernel_rfl) (by kernel_rfl) (by kernel_rfl) ?_
    refine Sx.G.nil ?_
    refine Sx.E.next ?_
    refine Sx.C.seq ?_
    refine Sx.C.seq ?_
    refine Sx.C.region ?_
    refine Sx.G.ld 32 (.tmp 6) b8 0 0 (gV (movedG g0) (.slice x7A0 (movedG g0).prog.length x7c0) (.slice x7A1 (movedG g0).wr.length x7c1) (.slice x7A2 (movedG g0).lv.length x7c2) (.slice x7A3 (movedG g0).seen.length x7c3)) ((gV (movedG g0) (.slice x7A0 (movedG g0).prog.length x7c0) (.slice x7A1 (movedG g0).wr.length x7c1) (.slice x7A2 (movedG g0).lv.length x7c2) (.slice x7A3 (movedG g0).seen.length x7c3))) rfl (by kernel_rfl) (by kernel_rfl) rfl (by kernel_rfl) (by kernel_rfl) (by kernel_rfl) ?_
    refine Sx.G.ld 32 (.tmp 4) b4 0 4 (gV (movedG g0) (.slice x3A0 (movedG g0).prog.length x3c0) (.slice x3A1 (movedG g0).wr.length x3c1) (.slice x3A2 (movedG g0).lv.length x3c2) (.slice x3A3 (movedG g0).seen.length x3c3)) ((gV (movedG g0) (.slice x3A0 (movedG g0).prog.length x3c0) (.slice x3A1 (movedG g0).wr.length x3c1) (.slice x3A2 (movedG g0).lv.length x3c2) (.slice x3A3 (movedG g0).seen.length x3c3))) rfl (by kernel_rfl) (by kernel_rfl) rfl (by kernel_rfl) (by kernel_rfl) (by kernel_rfl) ?_
    refine Sx.G.plain 39 #[.agg ((gV (movedG g0) (.slice x7A0 (movedG g0).prog.length x7c0) (.slice x7A1 (movedG g0).wr.length x7c1) (.slice x7A2 (movedG g0).lv.length x7c2) (.slice x7A3 (movedG g0).seen.length x7c3))).toArray, .agg ((gV (movedG g0) (.slice x3A0 (movedG g0).prog.length x3c0) (.slice x3A1 (movedG g0).wr.length x3c1) (.slice x3A2 (movedG g0).lv.length x3c2) (.slice x3A3 (movedG g0).seen.length x3c3))).toArray] (.bool true) (by kernel_rfl) (fun w => by kernel_rfl) (fun w S => by exact eqGuest_same _ _ _ _ (movedG g0) (.slice x7A0 (movedG g0).prog.length x7c0) (.slice x7A1 (movedG g0).wr.length x7c1) (.slice x7A2 (movedG g0).lv.length x7c2) (.slice x7A3 (movedG g0).seen.length x7c3) (.slice x3A0 (movedG g0).prog.length x3c0) (.slice x3A1 (movedG g0).wr.length x3c1) (.slice x3A2 (movedG g0).lv.length x3c2) (.slice x3A3 (movedG g0).seen.length x3c3) _ hcres (St.hiG S 1 rfl) (St.hiG S 5 rfl) (St.gRG S 1 rfl) (St.gRG S 5 rfl)) ?_
    refine Sx.G.pure (.bool false) (by kernel_rfl) (fun w => by kernel_rfl) ?_
    refine Sx.G.nil ?_
    refine Sx.E.next ?_
    refine Sx.C.no (by kernel_rfl) (by kernel_rfl) ?_
    refine Sx.C.skip ?_
    refine Sx.E.next ?_
    refine Sx.C.seq ?_
    refine Sx.C.seq ?_
    refine Sx.C.draw (.take 0 (.take 1 (.alone 2 (.alone 3 (.take 4 .nil))))) [vr b6 (gV g0 (.slice x5A0 g0.prog.length x5c0) (.slice x5A1 g0.wr.length x5c1) (.slice x5A2 g0.lv.length x5c2) (.slice x5A3 g0.seen.length x5c3)), vr b1 (gV g0 A0 A1 A2 A3)] (fun w S => St.pick S [2, 7] _ rfl (by decide)) (by kernel_rfl) (by kernel_rfl) (by kernel_rfl) ?_
    refine Sx.GT.ld 32 (.tmp 5) b6 0 0 (gV g0 (.slice x5A0 g0.prog.length x5c0) (.slice x5A1 g0.wr.length x5c1) (.slice x5A2 g0.lv.length x5c2) (.slice x5A3 g0.seen.length x5c3)) ((gV g0 (.slice x5A0 g0.prog.length x5c0) (.slice x5A1 g0.wr.length x5c1) (.slice x5A2 g0.lv.length x5c2) (.slice x5A3 g0.seen.length x5c3))) 0 (by rfl) (by rfl) (by kernel_rfl) (by kernel_rfl) (by rfl) (by kernel_rfl) (by kernel_rfl) (by kernel_rfl) ?_
    refine Sx.GT.ld 51 (.tmp 1) b1 0 1 (gV g0 A0 A1 A2 A3) ((gV g0 A0 A1 A2 A3)) 1 (by rfl) (by rfl) (by kernel_rfl) (by kernel_rfl) (by rfl) (by kernel_rfl) (by kernel_rfl) (by kernel_rfl) ?_
    refine Sx.GT.alone (Sx.Alone.call 38 #[.agg ((gV g0 A0 A1 A2 A3)).toArray] (by rfl) (by kernel_rfl) (fun w => by kernel_rfl) (fun w9 S => (toGuest_any 0 g0 A0 A1 A2 A3 _ hcg0 (St.oldG S h0)).mono fun e w9' hp => ?_))
    obtain ⟨x9_0, x9_1, x9_2, x9_3, rfl, ho, hb⟩ := hp
    obtain ⟨x9A0, x9c0, e0, -⟩ := ho.r0
    subst e0
    obtain ⟨x9A1, x9c1, e1, -⟩ := ho.r1
    subst e1
    obtain ⟨x9A2, x9c2, e2, -⟩ := ho.r2
    subst e2
    obtain ⟨x9A3, x9c3, e3, -⟩ := ho.r3
    subst e3
    refine ⟨_, _, rfl, St.gotG S hb ho, (fun w S => St.pick S [3, 8] _ rfl (by decide)), ?_⟩
    clear S ho hb
    refine Sx.GT.alone (Sx.Alone.plain 39 #[.agg ((gV g0 (.slice x5A0 g0.prog.length x5c0) (.slice x5A1 g0.wr.length x5c1) (.slice x5A2 g0.lv.length x5c2) (.slice x5A3 g0.seen.length x5c3))).toArray, .agg (gV g0 (.slice x9A0 g0.prog.length x9c0) (.slice x9A1 g0.wr.length x9c1) (.slice x9A2 g0.lv.length x9c2) (.slice x9A3 g0.seen.length x9c3)).toArray] (.bool true) (by rfl) (by kernel_rfl) (fun w => by kernel_rfl) (fun w S => by exact eqGuest_same _ _ _ _ g0 (.slice x5A0 g0.prog.length x5c0) (.slice x5A1 g0.wr.length x5c1) (.slice x5A2 g0.lv.length x5c2) (.slice x5A3 g0.seen.length x5c3) (.slice x9A0 g0.prog.length x9c0) (.slice x9A1 g0.wr.length x9c1) (.slice x9A2 g0.lv.length x9c2) (.slice x9A3 g0.seen.length x9c3) _ hcg0 (St.hiG S 4 rfl) (St.hiG S 0 rfl) (St.gRG S 4 rfl) (St.gRG S 0 rfl)) (fun w S => St.pick S [3, 8] _ rfl (by decide)) ?_)
    refine Sx.GT.pure (.bool false) 4 (by rfl) (by kernel_rfl) (fun w => by kernel_rfl) ?_
    refine Sx.GT.nil ?_
    refine Sx.E.next ?_
    refine Sx.C.no (by kernel_rfl) (by kernel_rfl) ?_
    refine Sx.C.skip ?_
    refine Sx.E.next ?_
    refine Sx.C.seq ?_
    refine Sx.C.region ?_
    refine Sx.G.pure (.int .i64 1) (by kernel_rfl) (fun w => by kernel_rfl) ?_
    refine Sx.G.nil ?_
    refine Sx.E.next ?_
    refine Sx.C.seq ?_
    refine Sx.C.region ?_
    refine Sx.G.ld 32 (.tmp 5) b6 0 3 (gV g0 (.slice x5A0 g0.prog.length x5c0) (.slice x5A1 g0.wr.length x5c1) (.slice x5A2 g0.lv.length x5c2) (.slice x5A3 g0.seen.length x5c3)) ((gV g0 (.slice x5A0 g0.prog.length x5c0) (.slice x5A1 g0.wr.length x5c1) (.slice x5A2 g0.lv.length x5c2) (.slice x5A3 g0.seen.length x5c3))) rfl (by kernel_rfl) (by kernel_rfl) rfl (by kernel_rfl) (by kernel_rfl) (by kernel_rfl) ?_
    refine Sx.G.pure (.int .i64 1) (by kernel_rfl) (fun w => by kernel_rfl) ?_
    refine Sx.G.call 40 #[.agg ((gV g0 (.slice x5A0 g0.prog.length x5c0) (.slice x5A1 g0.wr.length x5c1) (.slice x5A2 g0.lv.length x5c2) (.slice x5A3 g0.seen.length x5c3))).toArray, .int .i64 1] (by kernel_rfl) (fun w => by kernel_rfl) (fun w10 S => (markGuest_any _ _ 1 g0 (.slice x5A0 g0.prog.length x5c0) (.slice x5A1 g0.wr.length x5c1) (.slice x5A2 g0.lv.length x5c2) (.slice x5A3 g0.seen.length x5c3) _ hcg0 (by omega) (St.hiG S 4 rfl) (St.at_ S 4 rfl)).mono fun e w10' hp => ?_)
    obtain ⟨he, ho, ht⟩ := hp
    rw [← HQ1.out] at he
    subst he
    refine ⟨_, _, rfl, St.markG S 4 rfl ht ho, ?_⟩
    clear S ht ho
    refine Sx.G.pure (.int .i64 q1) (by kernel_rfl) (fun w => by kernel_rfl) ?_
    refine Sx.G.nil ?_
    refine Sx.E.next ?_
    refine Sx.C.seq ?_
    refine Sx.C.seq ?_
    refine Sx.C.region ?_
    refine Sx.G.pure (.int .i64 q1) (by kernel_rfl) (fun w => by kernel_rfl) ?_
    refine Sx.G.pureq (.bool (decide (q1 < 0))) (.bool false) (by kernel_rfl) (fun w => by kernel_rfl) (congrArg Value.bool (decide_eq_false hp1)) ?_
    refine Sx.G.pure (.bool false) (by kernel_rfl) (fun w => by kernel_rfl) ?_
    refine Sx.G.ld 32 (.tmp 6) b8 0 1 (gV (movedG g0) (.slice x7A0 (movedG g0).prog.length x7c0) (.slice x7A1 (movedG g0).wr.length x7c1) (.slice x7A2 (movedG g0).lv.length x7c2) (.slice x7A3 (movedG g0).seen.length x7c3)) ((gV (movedG g0) (.slice x7A0 (movedG g0).prog.length x7c0) (.slice x7A1 (movedG g0).wr.length x7c1) (.slice x7A2 (movedG g0).lv.length x7c2) (.slice x7A3 (movedG g0).seen.length x7c3))) rfl (by kernel_rfl) (by kernel_rfl) rfl (by kernel_rfl) (by kernel_rfl) (by kernel_rfl) ?_
    refine Sx.G.ld 32 (.tmp 4) b4 0 5 (gV (movedG g0) (.slice x3A0 (movedG g0).prog.length x3c0) (.slice x3A1 (movedG g0).wr.length x3c1) (.slice x3A2 (movedG g0).lv.length x3c2) (.slice x3A3 (movedG g0).seen.length x3c3)) ((gV (movedG g0) (.slice x3A0 (movedG g0).prog.length x3c0) (.slice x3A1 (movedG g0).wr.length x3c1) (.slice x3A2 (movedG g0).lv.length x3c2) (.slice x3A3 (movedG g0).seen.length x3c3))) rfl (by kernel_rfl) (by kernel_rfl) rfl (by kernel_rfl) (by kernel_rfl) (by kernel_rfl) ?_
    refine Sx.G.plain 39 #[.agg ((gV (movedG g0) (.slice x7A0 (movedG g0).prog.length x7c0) (.slice x7A1 (movedG g0).wr.length x7c1) (.slice x7A2 (movedG g0).lv.length x7c2) (.slice x7A3 (movedG g0).seen.length x7c3))).toArray, .agg ((gV (movedG g0) (.slice x3A0 (movedG g0).prog.length x3c0) (.slice x3A1 (movedG g0).wr.length x3c1) (.slice x3A2 (movedG g0).lv.length x3c2) (.slice x3A3 (movedG g0).seen.length x3c3))).toArray] (.bool true) (by kernel_rfl) (fun w => by kernel_rfl) (fun w S => by exact eqGuest_same _ _ _ _ (movedG g0) (.slice x7A0 (movedG g0).prog.length x7c0) (.slice x7A1 (movedG g0).wr.length x7c1) (.slice x7A2 (movedG g0).lv.length x7c2) (.slice x7A3 (movedG g0).seen.length x7c3) (.slice x3A0 (movedG g0).prog.length x3c0) (.slice x3A1 (movedG g0).wr.length x3c1) (.slice x3A2 (movedG g0).lv.length x3c2) (.slice x3A3 (movedG g0).seen.length x3c3) _ hcres (St.hiG S 2 rfl) (St.hiG S 6 rfl) (St.gRG S 2 rfl) (St.gRG S 6 rfl)) ?_
    refine Sx.G.pure (.bool false) (by kernel_rfl) (fun w => by kernel_rfl) ?_
    refine Sx.G.pure (.bool false) (by kernel_rfl) (fun w => by kernel_rfl) ?_
    refine Sx.G.nil ?_
    refine Sx.E.next ?_
    refine Sx.C.no (by kernel_rfl) (by kernel_rfl) ?_
    refine Sx.C.skip ?_
    refine Sx.E.next ?_
    refine Sx.C.seq ?_
    refine Sx.C.region ?_
    refine Sx.G.pure (.int .i64 1) (by kernel_rfl) (fun w => by kernel_rfl) ?_
    refine Sx.G.nil ?_
    refine Sx.E.next ?_
    refine Sx.C.seq ?_
    refine Sx.C.region ?_
    refine Sx.G.ld 32 (.tmp 6) b8 0 1 (gV (movedG g0) (.slice x7A0 (movedG g0).prog.length x7c0) (.slice x7A1 (movedG g0).wr.length x7c1) (.slice x7A2 (movedG g0).lv.length x7c2) (.slice x7A3 (movedG g0).seen.length x7c3)) ((gV (movedG g0) (.slice x7A0 (movedG g0).prog.length x7c0) (.slice x7A1 (movedG g0).wr.length x7c1) (.slice x7A2 (movedG g0).lv.length x7c2) (.slice x7A3 (movedG g0).seen.length x7c3))) rfl (by kernel_rfl) (by kernel_rfl) rfl (by kernel_rfl) (by kernel_rfl) (by kernel_rfl) ?_
    refine Sx.G.pure (.int .i64 1) (by kernel_rfl) (fun w => by kernel_rfl) ?_
    refine Sx.G.call 40 #[.agg ((gV (movedG g0) (.slice x7A0 (movedG g0).prog.length x7c0) (.slice x7A1 (movedG g0).wr.length x7c1) (.slice x7A2 (movedG g0).lv.length x7c2) (.slice x7A3 (movedG g0).seen.length x7c3))).toArray, .int .i64 1] (by kernel_rfl) (fun w => by kernel_rfl) (fun w11 S => (markGuest_any _ _ 1 (movedG g0) (.slice x7A0 (movedG g0).prog.length x7c0) (.slice x7A1 (movedG g0).wr.length x7c1) (.slice x7A2 (movedG g0).lv.length x7c2) (.slice x7A3 (movedG g0).seen.length x7c3) _ hcres (by omega) (St.hiG S 2 rfl) (St.at_ S 2 rfl)).mono fun e w11' hp => ?_)
    obtain ⟨he, ho, ht⟩ := hp
    rw [← HQ2.out] at he
    subst he
    refine ⟨_, _, rfl, St.markG S 2 rfl ht ho, ?_⟩
    clear S ht ho
    refine Sx.G.pure (.int .i64 q2) (by kernel_rfl) (fun w => by kernel_rfl) ?_
    refine Sx.G.nil ?_
    refine Sx.E.next ?_
    refine Sx.C.seq ?_
    refine Sx.C.region ?_
    refine Sx.G.pure (.int .i64 1) (by kernel_rfl) (fun w => by kernel_rfl) ?_
    refine Sx.G.nil ?_
    refine Sx.E.next ?_
    refine Sx.C.seq ?_
    refine Sx.C.region ?_
    refine Sx.G.ld 32 (.tmp 6) b8 0 1 (gV (movedG g0) (.slice x7A0 (movedG g0).prog.length x7c0) (.slice x7A1 (movedG g0).wr.length x7c1) (.slice x7A2 (movedG g0).lv.length x7c2) (.slice x7A3 (movedG g0).seen.length x7c3)) ((gV (movedG g0) (.slice x7A0 (movedG g0).prog.length x7c0) (.slice x7A1 (movedG g0).wr.length x7c1) (.slice x7A2 (movedG g0).lv.length x7c2) (.slice x7A3 (movedG g0).seen.length x7c3))) rfl (by kernel_rfl) (by kernel_rfl) rfl (by kernel_rfl) (by kernel_rfl) (by kernel_rfl) ?_
    refine Sx.G.pure (.int .i64 1) (by kernel_rfl) (fun w => by kernel_rfl) ?_
    refine Sx.G.call 41 #[.agg ((gV (movedG g0) (.slice x7A0 (movedG g0).prog.length x7c0) (.slice x7A1 (movedG g0).wr.length x7c1) (.slice x7A2 (movedG g0).lv.length x7c2) (.slice x7A3 (movedG g0).seen.length x7c3))).toArray, .int .i64 1] (by kernel_rfl) (fun w => by kernel_rfl) (fun w12 S => (heldGuest_any _ _ 1 (movedG g0) (.slice x7A0 (movedG g0).prog.length x7c0) (.slice x7A1 (movedG g0).wr.length x7c1) (.slice x7A2 (movedG g0).lv.length x7c2) (.slice x7A3 (movedG g0).seen.length x7c3) _ hcres (by omega) (St.hiG S 2 rfl) (St.gRG S 2 rfl)).mono fun e w12' hp => ?_)
    obtain ⟨he, hb⟩ := hp
    rw [← HQ2.out] at he
    subst he
    refine ⟨_, _, rfl, S.call hb, ?_⟩
    clear S hb
    refine Sx.G.pure (.int .i64 q2) (by kernel_rfl) (fun w => by kernel_rfl) ?_
    refine Sx.G.nil ?_
    refine Sx.E.next ?_
    refine Sx.C.seq ?_
    refine Sx.C.seq ?_
    refine Sx.C.region ?_
    refine Sx.G.pure (.int .i64 q2) (by kernel_rfl) (fun w => by kernel_rfl) ?_
    refine Sx.G.pureq (.bool (decide (q2 < 0))) (.bool false) (by kernel_rfl) (fun w => by kernel_rfl) (congrArg Value.bool (decide_eq_false hp2)) ?_
    refine Sx.G.nil ?_
    refine Sx.E.next ?_
    refine Sx.C.no (by kernel_rfl) (by kernel_rfl) ?_
    refine Sx.C.skip ?_
    refine Sx.E.next ?_
    refine Sx.C.seq ?_
    refine Sx.C.seq ?_
    refine Sx.C.region ?_
    refine Sx.G.pure (.int .i64 q2) (by kernel_rfl) (fun w => by kernel_rfl) ?_
    refine Sx.G.pure (.int .i64 q2) (by kernel_rfl) (fun w => by kernel_rfl) ?_
    refine Sx.G.pureq (.bool (q2 != q2)) (.bool false) (by kernel_rfl) (fun w => by kernel_rfl) (congrArg Value.bool (bne_self_eq_false _)) ?_
    refine Sx.G.nil ?_
    refine Sx.E.next ?_
    refine Sx.C.no (by kernel_rfl) (by kernel_rfl) ?_
    refine Sx.C.skip ?_
    refine Sx.E.next ?_
    refine Sx.C.seq ?_
    refine Sx.C.region ?_
    refine Sx.G.ld 51 (.tmp 1) b1 0 8 (gV g0 A0 A1 A2 A3) ((gV g0 A0 A1 A2 A3)) rfl (by kernel_rfl) (by kernel_rfl) rfl (by kernel_rfl) (by kernel_rfl) (by kernel_rfl) ?_
    refine Sx.G.call 38 #[.agg ((gV g0 A0 A1 A2 A3)).toArray] (by kernel_rfl) (fun w => by kernel_rfl) (fun w13 S => (toGuest_any 0 g0 A0 A1 A2 A3 _ hcg0 (St.oldG S h0)).mono fun e w13' hp => ?_)
    obtain ⟨x13_0, x13_1, x13_2, x13_3, rfl, ho, hb⟩ := hp
    obtain ⟨x13A0, x13c0, e0, -⟩ := ho.r0
    subst e0
    obtain ⟨x13A1, x13c1, e1, -⟩ := ho.r1
    subst e1
    obtain ⟨x13A2, x13c2, e2, -⟩ := ho.r2
    subst e2
    obtain ⟨x13A3, x13c3, e3, -⟩ := ho.r3
    subst e3
    refine ⟨_, _, rfl, St.gotG S hb ho, ?_⟩
    clear S ho hb
    refine Sx.G.call 23 #[.agg (gV g0 (.slice x13A0 g0.prog.length x13c0) (.slice x13A1 g0.wr.length x13c1) (.slice x13A2 g0.lv.length x13c2) (.slice x13A3 g0.seen.length x13c3)).toArray] (by kernel_rfl) (fun w => by kernel_rfl) (fun w14 S => (impl_stored g0 _ _ hw0 hcr0 (St.rgG S 0 rfl)).mono fun e w14' hp => ?_)
    obtain ⟨x14_0, x14_1, x14_2, x14_3, rfl, ho, hb⟩ := hp
    obtain ⟨x14A0, x14c0, e0, -⟩ := ho.r0
    subst e0
    obtain ⟨x14A1, x14c1, e1, -⟩ := ho.r1
    subst e1
    obtain ⟨x14A2, x14c2, e2, -⟩ := ho.r2
    subst e2
    obtain ⟨x14A3, x14c3, e3, -⟩ := ho.r3
    subst e3
    refine ⟨_, _, rfl, St.gotG S hb ho, ?_⟩
    clear S ho hb
    refine Sx.G.alloc 32 (.agg #[.slice none 0 0, .int .i64 0, .int .i64 0, .slice none 0 0, .slice none 0 0, .int .i64 0, .int .i64 0, .bool false, .int .i64 0, .int .i64 0, .int .i64 0, .bool false, .int .i64 0, .bool false, .slice none 0 0]) [.slice none 0 0, .int .i64 0, .int .i64 0, .slice none 0 0, .slice none 0 0, .int .i64 0, .int .i64 0, .bool false, .int .i64 0, .int .i64 0, .int .i64 0, .bool false, .int .i64 0, .bool false, .slice none 0 0] rfl (by kernel_rfl) (fun w => by kernel_rfl) (by kernel_rfl) (fun b15 => ?_)
    refine Sx.G.sto 32 (.tmp 10) (.tmp 56) b15 0 0 [.slice none 0 0, .int .i64 0, .int .i64 0, .slice none 0 0, .slice none 0 0, .int .i64 0, .int .i64 0, .bool false, .int .i64 0, .int .i64 0, .int .i64 0, .bool false, .int .i64 0, .bool false, .slice none 0 0] (gV (movedG g0) (.slice x14A0 (movedG g0).prog.length x14c0) (.slice x14A1 (movedG g0).wr.length x14c1) (.slice x14A2 (movedG g0).lv.length x14c2) (.slice x14A3 (movedG g0).seen.length x14c3)) (gV (movedG g0) (.slice x14A0 (movedG g0).prog.length x14c0) (.slice x14A1 (movedG g0).wr.length x14c1) (.slice x14A2 (movedG g0).lv.length x14c2) (.slice x14A3 (movedG g0).seen.length x14c3)) [vr b15 (gV (movedG g0) (.slice x14A0 (movedG g0).prog.length x14c0) (.slice x14A1 (movedG g0).wr.length x14c1) (.slice x14A2 (movedG g0).lv.length x14c2) (.slice x14A3 (movedG g0).seen.length x14c3)), gI (w14.heap.size) (w14'.heap.size) (movedG g0) (.slice x14A0 (movedG g0).prog.length x14c0) (.slice x14A1 (movedG g0).wr.length x14c1) (.slice x14A2 (movedG g0).lv.length x14c2) (.slice x14A3 (movedG g0).seen.length x14c3), gI (w13.heap.size) (w13'.heap.size) g0 (.slice x13A0 g0.prog.length x13c0) (.slice x13A1 g0.wr.length x13c1) (.slice x13A2 g0.lv.length x13c2) (.slice x13A3 g0.seen.length x13c3), gI (w9.heap.size) (w9'.heap.size) g0 (.slice x9A0 g0.prog.length x9c0) (.slice x9A1 g0.wr.length x9c1) (.slice x9A2 g0.lv.length x9c2) (.slice x9A3 g0.seen.length x9c3), vr b8 (gV (movedG g0) (.slice x7A0 (movedG g0).prog.length x7c0) (.slice x7A1 (movedG g0).wr.length x7c1) (.slice x7A2 (movedG g0).lv.length x7c2) (.slice x7A3 (movedG g0).seen.length x7c3)), gI (w7.heap.size) (w7'.heap.size) (gmark 1 (movedG g0)) (.slice x7A0 (movedG g0).prog.length x7c0) (.slice x7A1 (movedG g0).wr.length x7c1) (.slice x7A2 (movedG g0).lv.length x7c2) (.slice x7A3 (movedG g0).seen.length x7c3), vr b6 (gV g0 (.slice x5A0 g0.prog.length x5c0) (.slice x5A1 g0.wr.length x5c1) (.slice x5A2 g0.lv.length x5c2) (.slice x5A3 g0.seen.length x5c3)), gI (w5.heap.size) (w5'.heap.size) (gmark 1 g0) (.slice x5A0 g0.prog.length x5c0) (.slice x5A1 g0.wr.length x5c1) (.slice x5A2 g0.lv.length x5c2) (.slice x5A3 g0.seen.length x5c3), vr b4 (gV (movedG g0) (.slice x3A0 (movedG g0).prog.length x3c0) (.slice x3A1 (movedG g0).wr.length x3c1) (.slice x3A2 (movedG g0).lv.length x3c2) (.slice x3A3 (movedG g0).seen.length x3c3)), gI (w3.heap.size) (w3'.heap.size) (movedG g0) (.slice x3A0 (movedG g0).prog.length x3c0) (.slice x3A1 (movedG g0).wr.length x3c1) (.slice x3A2 (movedG g0).lv.length x3c2) (.slice x3A3 (movedG g0).seen.length x3c3), gI (w2.heap.size) (w2'.heap.size) g0 (.slice x2A0 g0.prog.length x2c0) (.slice x2A1 g0.wr.length x2c1) (.slice x2A2 g0.lv.length x2c2) (.slice x2A3 g0.seen.length x2c3), vr b1 (gV g0 A0 A1 A2 A3)] rfl (by kernel_rfl) (by kernel_rfl) (by kernel_rfl) rfl (by kernel_rfl) rfl (by kernel_rfl) (by kernel_rfl) (by kernel_rfl) ?_
    refine Sx.G.nil ?_
    refine Sx.E.next ?_
    refine Sx.C.seq ?_
    refine Sx.C.seq ?_
    refine Sx.C.region ?_
    refine Sx.G.ld 32 (.tmp 10) b15 0 0 (gV (movedG g0) (.slice x14A0 (movedG g0).prog.length x14c0) (.slice x14A1 (movedG g0).wr.length x14c1) (.slice x14A2 (movedG g0).lv.length x14c2) (.slice x14A3 (movedG g0).seen.length x14c3)) ((gV (movedG g0) (.slice x14A0 (movedG g0).prog.length x14c0) (.slice x14A1 (movedG g0).wr.length x14c1) (.slice x14A2 (movedG g0).lv.length x14c2) (.slice x14A3 (movedG g0).seen.length x14c3))) rfl (by kernel_rfl) (by kernel_rfl) rfl (by kernel_rfl) (by kernel_rfl) (by kernel_rfl) ?_
    refine Sx.G.ld 32 (.tmp 4) b4 0 8 (gV (movedG g0) (.slice x3A0 (movedG g0).prog.length x3c0) (.slice x3A1 (movedG g0).wr.length x3c1) (.slice x3A2 (movedG g0).lv.length x3c2) (.slice x3A3 (movedG g0).seen.length x3c3)) ((gV (movedG g0) (.slice x3A0 (movedG g0).prog.length x3c0) (.slice x3A1 (movedG g0).wr.length x3c1) (.slice x3A2 (movedG g0).lv.length x3c2) (.slice x3A3 (movedG g0).seen.length x3c3))) rfl (by kernel_rfl) (by kernel_rfl) rfl (by kernel_rfl) (by kernel_rfl) (by kernel_rfl) ?_
    refine Sx.G.plain 39 #[.agg ((gV (movedG g0) (.slice x14A0 (movedG g0).prog.length x14c0) (.slice x14A1 (movedG g0).wr.length x14c1) (.slice x14A2 (movedG g0).lv.length x14c2) (.slice x14A3 (movedG g0).seen.length x14c3))).toArray, .agg ((gV (movedG g0) (.slice x3A0 (movedG g0).prog.length x3c0) (.slice x3A1 (movedG g0).wr.length x3c1) (.slice x3A2 (movedG g0).lv.length x3c2) (.slice x3A3 (movedG g0).seen.length x3c3))).toArray] (.bool true) (by kernel_rfl) (fun w => by kernel_rfl) (fun w S => by exact eqGuest_same _ _ _ _ (movedG g0) (.slice x14A0 (movedG g0).prog.length x14c0) (.slice x14A1 (movedG g0).wr.length x14c1) (.slice x14A2 (movedG g0).lv.length x14c2) (.slice x14A3 (movedG g0).seen.length x14c3) (.slice x3A0 (movedG g0).prog.length x3c0) (.slice x3A1 (movedG g0).wr.length x3c1) (.slice x3A2 (movedG g0).lv.length x3c2) (.slice x3A3 (movedG g0).seen.length x3c3) _ hcres (St.hiG S 1 rfl) (St.hiG S 9 rfl) (St.gRG S 1 rfl) (St.gRG S 9 rfl)) ?_
    refine Sx.G.pure (.bool false) (by kernel_rfl) (fun w => by kernel_rfl) ?_
    refine Sx.G.nil ?_
    refine Sx.E.next ?_
    refine Sx.C.no (by kernel_rfl) (by kernel_rfl) ?_
    refine Sx.C.skip ?_
    refine Sx.E.next ?_
    refine Sx.C.seq ?_
    refine Sx.C.region ?_
    refine Sx.G.pure (.int .i64 1) (by kernel_rfl) (fun w => by kernel_rfl) ?_
    refine Sx.G.nil ?_
    refine Sx.E.next ?_
    refine Sx.C.seq ?_
    refine Sx.C.region ?_
    refine Sx.G.ld 32 (.tmp 6) b8 0 4 (gV (movedG g0) (.slice x7A0 (movedG g0).prog.length x7c0) (.slice x7A1 (movedG g0).wr.length x7c1) (.slice x7A2 (movedG g0).lv.length x7c2) (.slice x7A3 (movedG g0).seen.length x7c3)) ((gV (movedG g0) (.slice x7A0 (movedG g0).prog.length x7c0) (.slice x7A1 (movedG g0).wr.length x7c1) (.slice x7A2 (movedG g0).lv.length x7c2) (.slice x7A3 (movedG g0).seen.length x7c3))) rfl (by kernel_rfl) (by kernel_rfl) rfl (by kernel_rfl) (by kernel_rfl) (by kernel_rfl) ?_
    refine Sx.G.pure (.int .i64 1) (by kernel_rfl) (fun w => by kernel_rfl) ?_
    refine Sx.G.call 41 #[.agg ((gV (movedG g0) (.slice x7A0 (movedG g0).prog.length x7c0) (.slice x7A1 (movedG g0).wr.length x7c1) (.slice x7A2 (movedG g0).lv.length x7c2) (.slice x7A3 (movedG g0).seen.length x7c3))).toArray, .int .i64 1] (by kernel_rfl) (fun w => by kernel_rfl) (fun w16 S => (heldGuest_any _ _ 1 (movedG g0) (.slice x7A0 (movedG g0).prog.length x7c0) (.slice x7A1 (movedG g0).wr.length x7c1) (.slice x7A2 (movedG g0).lv.length x7c2) (.slice x7A3 (movedG g0).seen.length x7c3) _ hcres (by omega) (St.hiG S 5 rfl) (St.gRG S 5 rfl)).mono fun e w16' hp => ?_)
    obtain ⟨he, hb⟩ := hp
    rw [← HQ2.out] at he
    subst he
    refine ⟨_, _, rfl, S.call hb, ?_⟩
    clear S hb
    refine Sx.G.pure (.int .i64 q2) (by kernel_rfl) (fun w => by kernel_rfl) ?_
    refine Sx.G.nil ?_
    refine Sx.E.next ?_
    refine Sx.C.seq ?_
    refine Sx.C.seq ?_
    refine Sx.C.region ?_
    refine Sx.G.pure (.int .i64 q2) (by kernel_rfl) (fun w => by kernel_rfl) ?_
    refine Sx.G.pureq (.bool (decide (q2 < 0))) (.bool false) (by kernel_rfl) (fun w => by kernel_rfl) (congrArg Value.bool (decide_eq_false hp2)) ?_
    refine Sx.G.nil ?_
    refine Sx.E.next ?_
    refine Sx.C.no (by kernel_rfl) (by kernel_rfl) ?_
    refine Sx.C.skip ?_
    refine Sx.E.next ?_
    refine Sx.C.seq ?_
    refine Sx.C.seq ?_
    refine Sx.C.region ?_
    refine Sx.G.pure (.int .i64 q2) (by kernel_rfl) (fun w => by kernel_rfl) ?_
    refine Sx.G.pure (.int .i64 q2) (by kernel_rfl) (fun w => by kernel_rfl) ?_
    refine Sx.G.pureq (.bool (q2 != q2)) (.bool false) (by kernel_rfl) (fun w => by kernel_rfl) (congrArg Value.bool (bne_self_eq_false _)) ?_
    refine Sx.G.nil ?_
    refine Sx.E.next ?_
    refine Sx.C.no (by kernel_rfl) (by kernel_rfl) ?_
    refine Sx.C.skip ?_
    refine Sx.E.next ?_
    refine Sx.C.seq ?_
    refine Sx.C.region ?_
    refine Sx.G.pure (.bool true) (by kernel_rfl) (fun w => by kernel_rfl) ?_
    refine Sx.G.nil ?_
    refine Sx.E.next ?_
    refine Sx.C.ret ?_
    refine Sx.E.ret1 (.bool true) rfl (by kernel_rfl) (fun w S => ?_)
    exact ⟨rfl, S.below⟩
  · have hm0 := hw0
    refine Sx.enter (args := [.agg (gV g0 A0 A1 A2 A3).toArray]) Try.func9 rfl Try.ntmps9 rfl ?_
    refine Sx.C.seq ?_
    refine Sx.C.region ?_
    refine Sx.G.box 51 (.tmp 0) (gV g0 A0 A1 A2 A3) rfl (by kernel_rfl) (by kernel_rfl) (fun b17 => ?_)
    refine Sx.G.pure (.bool false) (by kernel_rfl) (fun w => by kernel_rfl) ?_
    refine Sx.G.nil ?_
    refine Sx.E.next ?_
    refine Sx.C.seq ?_
    refine Sx.C.region ?_
    refine Sx.G.pure (.int .i64 1048576) (by kernel_rfl) (fun w => by kernel_rfl) ?_
    refine Sx.G.nil ?_
    refine Sx.E.next ?_
    refine Sx.C.seq ?_
    refine Sx.C.region ?_
    refine Sx.G.ld 51 (.tmp 1) b17 0 0 (gV g0 A0 A1 A2 A3) ((gV g0 A0 A1 A2 A3)) rfl (by kernel_rfl) (by kernel_rfl) rfl (by kernel_rfl) (by kernel_rfl) (by kernel_rfl) ?_
    refine Sx.G.pure (.int .i64 1048576) (by kernel_rfl) (fun w => by kernel_rfl) ?_
    refine Sx.G.plain 37 #[.agg ((gV g0 A0 A1 A2 A3)).toArray, .int .i64 1048576] (.int .i64 (-1)) (by kernel_rfl) (fun w => by kernel_rfl) (fun w S => by exact szGuest_no _ _ g0 A0 A1 A2 A3 1048576 _ (by omega) (by omega) hm0.1.1 hm0.2.2.2.1.1 hm0.2.2.2.2.1.1 hm0.2.2.2.2.2.2.2.2.2.1 (by omega) (Nat.le_refl _) (St.oldG S h0)) ?_
    refine Sx.G.pure (.int .i64 (-1)) (by kernel_rfl) (fun w => by kernel_rfl) ?_
    refine Sx.G.nil ?_
    refine Sx.E.next ?_
    refine Sx.C.seq ?_
    refine Sx.C.seq ?_
    refine Sx.C.region ?_
    refine Sx.G.pure (.int .i64 (-1)) (by kernel_rfl) (fun w => by kernel_rfl) ?_
    refine Sx.G.pure (.bool true) (by kernel_rfl) (fun w => by kernel_rfl) ?_
    refine Sx.G.nil ?_
    refine Sx.E.next ?_
    refine Sx.C.yes (by kernel_rfl) (by kernel_rfl) ?_
    refine Sx.C.seq ?_
    refine Sx.C.region ?_
    refine Sx.G.pure (.bool true) (by kernel_rfl) (fun w => by kernel_rfl) ?_
    refine Sx.G.nil ?_
    refine Sx.E.next ?_
    refine Sx.C.ret ?_
    refine Sx.E.then_ret ?_
    refine Sx.E.ret1 (.bool true) rfl (by kernel_rfl) (fun w S => ?_)
    exact ⟨rfl, S.below⟩

/-! ### The row's step -/
set_option maxRecDepth 100000 in
theorem lifted (os : Os) (started : os.Started) (H : Type) (enc : TypeId × Value → H) :
    ReturnsInHanded {} Try.checked os 9 .any (Rows.fnExactStoredSpec.pre6 enc Try.prog Try.f9 Rows.fnExactStoredRow.domain false) (Rows.fnExactStoredSpec.post enc Try.prog Try.f9 false true false false) := by
  refine returnsInHanded_of_change (C := Try.checked) Base.own started (by kernel_rfl) Try.func9
    (ChangeSpec.witness6 (enc := enc) (C := Try.checked) false ⟨#[], #[.agg #[.slice none 0 0, .int .i64 0, .int .i64 0, .slice none 0 0, .slice none 0 0, .int .i64 0, .int .i64 0, .bool false, .int .i64 0, .int .i64 0, .int .i64 0, .bool false, .int .i64 0, .bool false, .slice none 0 0]], []⟩ 8 (by kernel_rfl) (by kernel_rfl) (by kernel_rfl) (by kernel_rfl)) ?_
  intro W base args ds gs before hval0 hW hcnd _
  have hval : ∀ (j : Nat) t v, Try.f9.params[j]? = some t → args[j]? = some v → Value.okWide Try.prog W .any base t v := hval0
  have hW' := hW
  obtain ⟨p, q, hA0, hV, rfl, hfz, hnd⟩ := hW
  have hA : DataW.TrodAll enc Try.prog W 0 (fun _ => true) true Try.f9.params.toList args.toList ds p := hA0
  have hA1 := hA
  rw [Try.params9] at hA hval
  obtain ⟨v0, vs0, d0, ds0, p0, q0, hargs, rfl, rfl, h0, r0⟩ := trodAll_cons hA
  obtain ⟨rfl, rfl, rfl⟩ := trodAll_nil r0
  obtain rfl : args = #[v0] := by cases args; simp_all
  obtain ⟨rfl, rfl⟩ := trodVars_none hV
  obtain ⟨g0, P00, P01, P02, P03, rfl, hw0, h0'⟩ := Guests.open_Guest (hval 0 51 v0 rfl rfl) h0
  clear hA0 hval0
  rw [List.append_nil] at hW'
  refine (walk g0 P00 P01 P02 P03 hw0 h0').mono fun e W' ⟨he, hg⟩ => ?_
  subst he
  exact ⟨_, rfl, Mem.post_args Slots.laid (by kernel_rfl) rfl rfl rfl hW' hA1 hg (fun _ _ _ => (trodAll_cons_mk (shut_bool Try.underlying4 _) trodAll_mk0)) (ok_one (by kernel_rfl) rfl (okWide_bool_mk Try.underlying4 _))⟩

theorem over : Rows.fnExactStoredRow.holds Try.pinned (OpenSpec.ofChange Rows.fnExactStoredSpec) :=
  OpenClaim.holds_of_wide 9 Try.f9 rfl rfl rfl rfl rfl rfl rfl ⟨rfl, rfl, rfl, rfl, rfl⟩ rfl rfl rfl rfl rfl (by kernel_rfl) Try.func9 (by kernel_rfl)
    (of_decide_eq_true (by kernel_rfl)) (by unfold Func.isWrapper; first | (rw [if_pos (by decide +kernel)]; kernel_rfl) | (rw [if_neg (by decide +kernel)]; exact ⟨rfl, rfl⟩))
    (fun os started H enc _ => lifted os started H enc)

/-- The given statement. -/
theorem proved : Rows.FnExactStoredSaid :=
  over
#print axioms proved
end Go.Proofs.Ytdbhfadiinmgiaa.fnExactStored
