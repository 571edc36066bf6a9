/-
  At every argument the law FnExactSameGuest returns true: the project's SameGuest answers as the given model's SameGuest, changes no argument, and what it returns is its own. No condition.
-/
import Derived.Test.YteopkcndkcciaaaMb352182b
namespace Go.Proofs.Yteopkcndkcciaaa.fnExactSameGuest
set_option maxRecDepth 100000
open Go.ChangeShapes Go.WideShapes Go.ChangeAt Go.RowKit
open Go.Proofs.Yteopkcndkcciaaa.Base Go.Proofs.Yteopkcndkcciaaa.Mem Go.Proofs.Yteopkcndkcciaaa.Data Go.Proofs.Yteopkcndkcciaaa.Slots Go.Proofs.Yteopkcndkcciaaa.Ints Go.Proofs.Yteopkcndkcciaaa.Stt Go.Proofs.Yteopkcndkcciaaa.Part Go.Proofs.Yteopkcndkcciaaa.Guests Go.Proofs.Yteopkcndkcciaaa.Exits
set_option linter.unusedVariables false
set_option linter.unusedSimpArgs false
set_option maxRecDepth 100000 in
set_option maxHeartbeats 8000000 in
theorem walk (g0 : gT) (A0 A1 A2 A3 : Value) (g1 : gT) (B0 B1 B2 B3 : Value) {w : World} (hw0 : wfGuest g0) (h0 : gR w 0 w.heap.size g0 A0 A1 A2 A3) (hw1 : wfGuest g1) (h1 : gR w 0 w.heap.size g1 B0 B1 B2 B3) :
    Calls Try.prog 11 #[.agg (gV g0 A0 A1 A2 A3).toArray, .agg (gV g1 B0 B1 B2 B3).toArray] w fun e w' => e = .returned (.bool true) ∧ Below w.heap.size w w' := by
  by_cases hz0 : gsize g0 ≤ 1048576
  · by_cases hz1 : gsize g0 + gsize g1 ≤ 1048576
    · have hcg0 : gcap g0 := by unfold gsize at *; exact ⟨by omega, by omega, by omega, by omega⟩
      have hcr0 := gcap_rg hcg0
      have hcg1 : gcap g1 := by unfold gsize at *; exact ⟨by omega, by omega, by omega, by omega⟩
      have hcr1 := gcap_rg hcg1
      refine Sx.enter (args := [.agg (gV g0 A0 A1 A2 A3).toArray, .agg (gV g1 B0 B1 B2 B3).toArray]) Try.func11 rfl Try.ntmps11 rfl ?_
      refine Sx.C.seq ?_
      refine Sx.C.region ?_
      refine Sx.G.box 48 (.tmp 0) (gV g0 A0 A1 A2 A3) rfl (by kernel_rfl) (by kernel_rfl) (fun b1 => ?_)
      refine Sx.G.box 48 (.tmp 1) (gV g1 B0 B1 B2 B3) rfl (by kernel_rfl) (by kernel_rfl) (fun b2 => ?_)
      refine Sx.G.pure (.bool false) (by kernel_rfl) (fun w => by kernel_rfl) ?_
      refine Sx.G.nil ?_
      refine Sx.E.next ?_
      refine Sx.C.seq ?_
      refine Sx.C.region ?_
      refine Sx.G.pure (.int .i64 1048576) (by kernel_rfl) (fun w => by kernel_rfl) ?_
      refine Sx.G.nil ?_
      refine Sx.E.next ?_
      refine Sx.C.seq ?_
      refine Sx.C.region ?_
      refine Sx.G.ld 48 (.tmp 2) b1 0 1 (gV g0 A0 A1 A2 A3) ((gV g0 A0 A1 A2 A3)) rfl (by kernel_rfl) (by kernel_rfl) rfl (by kernel_rfl) (by kernel_rfl) (by kernel_rfl) ?_
      refine Sx.G.pure (.int .i64 1048576) (by kernel_rfl) (fun w => by kernel_rfl) ?_
      refine Sx.G.plain 24 #[.agg ((gV g0 A0 A1 A2 A3)).toArray, .int .i64 1048576] (.int .i64 (1048576 - (gsize g0 : Int))) (by kernel_rfl) (fun w => by kernel_rfl) (fun w S => by exact szGuest_yes _ _ g0 A0 A1 A2 A3 1048576 _ (by omega) (by omega) (Nat.le_refl _) (St.oldG S h0)) ?_
      refine Sx.G.pure (.int .i64 (1048576 - (gsize g0 : Int))) (by kernel_rfl) (fun w => by kernel_rfl) ?_
      refine Sx.G.nil ?_
      refine Sx.E.next ?_
      refine Sx.C.seq ?_
      refine Sx.C.seq ?_
      refine Sx.C.region ?_
      refine Sx.G.pure (.int .i64 (1048576 - (gsize g0 : Int))) (by kernel_rfl) (fun w => by kernel_rfl) ?_
      refine Sx.G.pureq (.bool (decide ((1048576 - (gsize g0 : Int)) < 0))) (.bool false) (by kernel_rfl) (fun w => by kernel_rfl) (congrArg Value.bool (decide_eq_false (by omega))) ?_
      refine Sx.G.nil ?_
      refine Sx.E.next ?_
      refine Sx.C.no (by kernel_rfl) (by kernel_rfl) ?_
      refine Sx.C.skip ?_
      refine Sx.E.next ?_
      refine Sx.C.seq ?_
      refine Sx.C.region ?_
      refine Sx.G.ld 48 (.tmp 3) b2 0 0 (gV g1 B0 B1 B2 B3) ((gV g1 B0 B1 B2 B3)) rfl (by kernel_rfl) (by kernel_rfl) rfl (by kernel_rfl) (by kernel_rfl) (by kernel_rfl) ?_
      refine Sx.G.pure (.int .i64 (1048576 - (gsize g0 : Int))) (by kernel_rfl) (fun w => by kernel_rfl) ?_
      refine Sx.G.plain 24 #[.agg ((gV g1 B0 B1 B2 B3)).toArray, .int .i64 (1048576 - (gsize g0 : Int))] (.int .i64 ((1048576 - (gsize g0 : Int)) - (gsize g1 : Int))) (by kernel_rfl) (fun w => by kernel_rfl) (fun w S => by exact szGuest_yes _ _ g1 B0 B1 B2 B3 (1048576 - (gsize g0 : Int)) _ (by omega) (by omega) (Nat.le_refl _) (St.oldG S h1)) ?_
      refine Sx.G.pure (.int .i64 ((1048576 - (gsize g0 : Int)) - (gsize g1 : Int))) (by kernel_rfl) (fun w => by kernel_rfl) ?_
      refine Sx.G.nil ?_
      refine Sx.E.next ?_
      refine Sx.C.seq ?_
      refine Sx.C.seq ?_
      refine Sx.C.region ?_
      refine Sx.G.pure (.int .i64 ((1048576 - (gsize g0 : Int)) - (gsize g1 : Int))) (by kernel_rfl) (fun w => by kernel_rfl) ?_
      refine Sx.G.pureq (.bool (decide (((1048576 - (gsize g0 : Int)) - (gsize g1 : Int)) < 0))) (.bool false) (by kernel_rfl) (fun w => by kernel_rfl) (congrArg Value.bool (decide_eq_false (by omega))) ?_
      refine Sx.G.nil ?_
      refine Sx.E.next ?_
      refine Sx.C.no (by kernel_rfl) (by kernel_rfl) ?_
      refine Sx.C.skip ?_
      refine Sx.E.next ?_
      refine Sx.C.seq ?_
      refine Sx.C.draw (.take 0 (.take 2 (.alone 1 (.alone 3 (.alone 4 (.take 5 .nil)))))) [vr b2 (gV g1 B0 B1 B2 B3), vr b1 (gV g0 A0 A1 A2 A3)] (fun w S => St.pick S [0, 1] _ rfl (by decide)) (by kernel_rfl) (by kernel_rfl) (by kernel_rfl) ?_
      refine Sx.GT.ld 48 (.tmp 2) b1 0 1 (gV g0 A0 A1 A2 A3) ((gV g0 A0 A1 A2 A3)) 0 (by rfl) (by rfl) (by kernel_rfl) (by kernel_rfl) (by rfl) (by kernel_rfl) (by kernel_rfl) (by kernel_rfl) ?_
      refine Sx.GT.ld 48 (.tmp 3) b2 0 0 (gV g1 B0 B1 B2 B3) ((gV g1 B0 B1 B2 B3)) 2 (by rfl) (by rfl) (by kernel_rfl) (by kernel_rfl) (by rfl) (by kernel_rfl) (by kernel_rfl) (by kernel_rfl) ?_
      refine Sx.GT.alone (Sx.Alone.call 26 #[.agg ((gV g0 A0 A1 A2 A3)).toArray] (by rfl) (by kernel_rfl) (fun w => by kernel_rfl) (fun w3 S => (toGuest_any 0 g0 A0 A1 A2 A3 _ hcg0 (St.oldG S h0)).mono fun e w3' hp => ?_))
      obtain ⟨x3_0, x3_1, x3_2, x3_3, rfl, ho, hb⟩ := hp
      obtain ⟨x3A0, x3c0, e0, -⟩ := ho.r0
      subst e0
      obtain ⟨x3A1, x3c1, e1, -⟩ := ho.r1
      subst e1
      obtain ⟨x3A2, x3c2, e2, -⟩ := ho.r2
      subst e2
      obtain ⟨x3A3, x3c3, e3, -⟩ := ho.r3
      subst e3
      refine ⟨_, _, rfl, St.gotG S hb ho, (fun w S => St.pick S [1, 2] _ rfl (by decide)), ?_⟩
      clear S ho hb
      refine Sx.GT.alone (Sx.Alone.call 26 #[.agg ((gV g1 B0 B1 B2 B3)).toArray] (by rfl) (by kernel_rfl) (fun w => by kernel_rfl) (fun w4 S => (toGuest_any 0 g1 B0 B1 B2 B3 _ hcg1 (St.oldG S h1)).mono fun e w4' hp => ?_))
      obtain ⟨x4_0, x4_1, x4_2, x4_3, rfl, ho, hb⟩ := hp
      obtain ⟨x4A0, x4c0, e0, -⟩ := ho.r0
      subst e0
      obtain ⟨x4A1, x4c1, e1, -⟩ := ho.r1
      subst e1
      obtain ⟨x4A2, x4c2, e2, -⟩ := ho.r2
      subst e2
      obtain ⟨x4A3, x4c3, e3, -⟩ := ho.r3
      subst e3
      refine ⟨_, _, rfl, St.gotG S hb ho, (fun w S => St.pick S [2, 3] _ rfl (by decide)), ?_⟩
      clear S ho hb
      refine Sx.GT.alone (Sx.Alone.plain 38 #[.agg (gV g0 (.slice x3A0 g0.prog.length x3c0) (.slice x3A1 g0.wr.length x3c1) (.slice x3A2 g0.lv.length x3c2) (.slice x3A3 g0.seen.length x3c3)).toArray, .agg (gV g1 (.slice x4A0 g1.prog.length x4c0) (.slice x4A1 g1.wr.length x4c1) (.slice x4A2 g1.lv.length x4c2) (.slice x4A3 g1.seen.length x4c3)).toArray] (.bool (sameG g0 g1)) (by rfl) (by kernel_rfl) (fun w => by kernel_rfl) (fun w S => by exact specx_same g0 g1 _ _ _ hcr0 hcr1 (St.rgG S 1 rfl) (St.rgG S 0 rfl)) (fun w S => St.pick S [2, 3] _ rfl (by decide)) ?_)
      refine Sx.GT.pure (.bool (sameG g0 g1)) 5 (by rfl) (by kernel_rfl) (fun w => by kernel_rfl) ?_
      refine Sx.GT.nil ?_
      refine Sx.E.next ?_
      refine Sx.C.seq ?_
      refine Sx.C.region ?_
      refine Sx.G.ld 48 (.tmp 2) b1 0 3 (gV g0 A0 A1 A2 A3) ((gV g0 A0 A1 A2 A3)) rfl (by kernel_rfl) (by kernel_rfl) rfl (by kernel_rfl) (by kernel_rfl) (by kernel_rfl) ?_
      refine Sx.G.call 26 #[.agg ((gV g0 A0 A1 A2 A3)).toArray] (by kernel_rfl) (fun w => by kernel_rfl) (fun w5 S => (toGuest_any 0 g0 A0 A1 A2 A3 _ hcg0 (St.oldG S h0)).mono fun e w5' hp => ?_)
      obtain ⟨x5_0, x5_1, x5_2, x5_3, rfl, ho, hb⟩ := hp
      obtain ⟨x5A0, x5c0, e0, -⟩ := ho.r0
      subst e0
      obtain ⟨x5A1, x5c1, e1, -⟩ := ho.r1
      subst e1
      obtain ⟨x5A2, x5c2, e2, -⟩ := ho.r2
      subst e2
      obtain ⟨x5A3, x5c3, e3, -⟩ := ho.r3
      subst e3
      refine ⟨_, _, rfl, St.gotG S hb ho, ?_⟩
      clear S ho hb
      refine Sx.G.alloc 33 (.agg #[.slice none 0 0, .int .i64 0, .int .i64 0, .slice none 0 0, .slice none 0 0, .int .i64 0, .int .i64 0, .bool false, .int .i64 0, .int .i64 0, .int .i64 0, .bool false, .int .i64 0, .bool false, .slice none 0 0]) [.slice none 0 0, .int .i64 0, .int .i64 0, .slice none 0 0, .slice none 0 0, .int .i64 0, .int .i64 0, .bool false, .int .i64 0, .int .i64 0, .int .i64 0, .bool false, .int .i64 0, .bool false, .slice none 0 0] rfl (by kernel_rfl) (fun w => by kernel_rfl) (by kernel_rfl) (fun b6 => ?_)
      refine Sx.G.sto 33 (.tmp 7) (.tmp 26) b6 0 0 [.slice none 0 0, .int .i64 0, .int .i64 0, .slice none 0 0, .slice none 0 0, .int .i64 0, .int .i64 0, .bool false, .int .i64 0, .int .i64 0, .int .i64 0, .bool false, .int .i64 0, .bool false, .slice none 0 0] (gV g0 (.slice x5A0 g0.prog.length x5c0) (.slice x5A1 g0.wr.length x5c1) (.slice x5A2 g0.lv.length x5c2) (.slice x5A3 g0.seen.length x5c3)) (gV g0 (.slice x5A0 g0.prog.length x5c0) (.slice x5A1 g0.wr.length x5c1) (.slice x5A2 g0.lv.length x5c2) (.slice x5A3 g0.seen.length x5c3)) [vr b6 (gV g0 (.slice x5A0 g0.prog.length x5c0) (.slice x5A1 g0.wr.length x5c1) (.slice x5A2 g0.lv.length x5c2) (.slice x5A3 g0.seen.length x5c3)), gI (w5.heap.size) (w5'.heap.size) g0 (.slice x5A0 g0.prog.length x5c0) (.slice x5A1 g0.wr.length x5c1) (.slice x5A2 g0.lv.length x5c2) (.slice x5A3 g0.seen.length x5c3), gI (w4.heap.size) (w4'.heap.size) g1 (.slice x4A0 g1.prog.length x4c0) (.slice x4A1 g1.wr.length x4c1) (.slice x4A2 g1.lv.length x4c2) (.slice x4A3 g1.seen.length x4c3), gI (w3.heap.size) (w3'.heap.size) g0 (.slice x3A0 g0.prog.length x3c0) (.slice x3A1 g0.wr.length x3c1) (.slice x3A2 g0.lv.length x3c2) (.slice x3A3 g0.seen.length x3c3), vr b2 (gV g1 B0 B1 B2 B3), vr b1 (gV g0 A0 A1 A2 A3)] rfl (by kernel_rfl) (by kernel_rfl) (by kernel_rfl) rfl (by kernel_rfl) rfl (by kernel_rfl) (by kernel_rfl) (by kernel_rfl) ?_
      refine Sx.G.nil ?_
      refine Sx.E.next ?_
      refine Sx.C.seq ?_
      refine Sx.C.region ?_
      refine Sx.G.ld 48 (.tmp 3) b2 0 4 (gV g1 B0 B1 B2 B3) ((gV g1 B0 B1 B2 B3)) rfl (by kernel_rfl) (by kernel_rfl) rfl (by kernel_rfl) (by kernel_rfl) (by kernel_rfl) ?_
      refine Sx.G.call 26 #[.agg ((gV g1 B0 B1 B2 B3)).toArray] (by kernel_rfl) (fun w => by kernel_rfl) (fun w7 S => (toGuest_any 0 g1 B0 B1 B2 B3 _ hcg1 (St.oldG S h1)).mono fun e w7' hp => ?_)
      obtain ⟨x7_0, x7_1, x7_2, x7_3, rfl, ho, hb⟩ := hp
      obtain ⟨x7A0, x7c0, e0, -⟩ := ho.r0
      subst e0
      obtain ⟨x7A1, x7c1, e1, -⟩ := ho.r1
      subst e1
      obtain ⟨x7A2, x7c2, e2, -⟩ := ho.r2
      subst e2
      obtain ⟨x7A3, x7c3, e3, -⟩ := ho.r3
      subst e3
      refine ⟨_, _, rfl, St.gotG S hb ho, ?_⟩
      clear S ho hb
      refine Sx.G.alloc 33 (.agg #[.slice none 0 0, .int .i64 0, .int .i64 0, .slice none 0 0, .slice none 0 0, .int .i64 0, .int .i64 0, .bool false, .int .i64 0, .int .i64 0, .int .i64 0, .bool false, .int .i64 0, .bool false, .slice none 0 0]) [.slice none 0 0, .int .i64 0, .int .i64 0, .slice none 0 0, .slice none 0 0, .int .i64 0, .int .i64 0, .bool false, .int .i64 0, .int .i64 0, .int .i64 0, .bool false, .int .i64 0, .bool false, .slice none 0 0] rfl (by kernel_rfl) (fun w => by kernel_rfl) (by kernel_rfl) (fun b8 => ?_)
      refine Sx.G.sto 33 (.tmp 8) (.tmp 28) b8 0 0 [.slice none 0 0, .int .i64 0, .int .i64 0, .slice none 0 0, .slice none 0 0, .int .i64 0, .int .i64 0, .bool false, .int .i64 0, .int .i64 0, .int .i64 0, .bool false, .int .i64 0, .bool false, .slice none 0 0] (gV g1 (.slice x7A0 g1.prog.length x7c0) (.slice x7A1 g1.wr.length x7c1) (.slice x7A2 g1.lv.length x7c2) (.slice x7A3 g1.seen.length x7c3)) (gV g1 (.slice x7A0 g1.prog.length x7c0) (.slice x7A1 g1.wr.length x7c1) (.slice x7A2 g1.lv.length x7c2) (.slice x7A3 g1.seen.length x7c3)) [vr b8 (gV g1 (.slice x7A0 g1.prog.length x7c0) (.slice x7A1 g1.wr.length x7c1) (.slice x7A2 g1.lv.length x7c2) (.slice x7A3 g1.seen.length x7c3)), gI (w7.heap.size) (w7'.heap.size) g1 (.slice x7A0 g1.prog.length x7c0) (.slice x7A1 g1.wr.length x7c1) (.slice x7A2 g1.lv.length x7c2) (.slice x7A3 g1.seen.length x7c3), vr b6 (gV g0 (.slice x5A0 g0.prog.length x5c0) (.slice x5A1 g0.wr.length x5c1) (.slice x5A2 g0.lv.length x5c2) (.slice x5A3 g0.seen.length x5c3)), gI (w5.heap.size) (w5'.heap.size) g0 (.slice x5A0 g0.prog.length x5c0) (.slice x5A1 g0.wr.length x5c1) (.slice x5A2 g0.lv.length x5c2) (.slice x5A3 g0.seen.length x5c3), gI (w4.heap.size) (w4'.heap.size) g1 (.slice x4A0 g1.prog.length x4c0) (.slice x4A1 g1.wr.length x4c1) (.slice x4A2 g1.lv.length x4c2) (.slice x4A3 g1.seen.length x4c3), gI (w3.heap.size) (w3'.heap.size) g0 (.slice x3A0 g0.prog.length x3c0) (.slice x3A1 g0.wr.length x3c1) (.slice x3A2 g0.lv.length x3c2) (.slice x3A3 g0.seen.length x3c3), vr b2 (gV g1 B0 B1 B2 B3), vr b1 (gV g0 A0 A1 A2 A3)] rfl (by kernel_rfl) (by kernel_rfl) (by kernel_rfl) rfl (by kernel_rfl) rfl (by kernel_rfl) (by kernel_rfl) (by kernel_rfl) ?_
      refine Sx.G.nil ?_
      refine Sx.E.next ?_
      refine Sx.C.seq ?_
      refine Sx.C.region ?_
      refine Sx.G.ld 33 (.tmp 7) b6 0 2 (gV g0 (.slice x5A0 g0.prog.length x5c0) (.slice x5A1 g0.wr.length x5c1) (.slice x5A2 g0.lv.length x5c2) (.slice x5A3 g0.seen.length x5c3)) ((gV g0 (.slice x5A0 g0.prog.length x5c0) (.slice x5A1 g0.wr.length x5c1) (.slice x5A2 g0.lv.length x5c2) (.slice x5A3 g0.seen.length x5c3))) rfl (by kernel_rfl) (by kernel_rfl) rfl (by kernel_rfl) (by kernel_rfl) (by kernel_rfl) ?_
      refine Sx.G.ld 33 (.tmp 8) b8 0 0 (gV g1 (.slice x7A0 g1.prog.length x7c0) (.slice x7A1 g1.wr.length x7c1) (.slice x7A2 g1.lv.length x7c2) (.slice x7A3 g1.seen.length x7c3)) ((gV g1 (.slice x7A0 g1.prog.length x7c0) (.slice x7A1 g1.wr.length x7c1) (.slice x7A2 g1.lv.length x7c2) (.slice x7A3 g1.seen.length x7c3))) rfl (by kernel_rfl) (by kernel_rfl) rfl (by kernel_rfl) (by kernel_rfl) (by kernel_rfl) ?_
      refine Sx.G.plain 39 #[.agg ((gV g0 (.slice x5A0 g0.prog.length x5c0) (.slice x5A1 g0.wr.length x5c1) (.slice x5A2 g0.lv.length x5c2) (.slice x5A3 g0.seen.length x5c3))).toArray, .agg ((gV g1 (.slice x7A0 g1.prog.length x7c0) (.slice x7A1 g1.wr.length x7c1) (.slice x7A2 g1.lv.length x7c2) (.slice x7A3 g1.seen.length x7c3))).toArray] (.bool (sameG g0 g1)) (by kernel_rfl) (fun w => by kernel_rfl) (fun w S => by exact impl_gsame g0 g1 _ _ _ hw0 hw1 hcr0 hcr1 (St.rgG S 3 rfl) (St.rgG S 1 rfl)) ?_
      refine Sx.G.pure (.bool (sameG g0 g1)) (by kernel_rfl) (fun w => by kernel_rfl) ?_
      refine Sx.G.nil ?_
      refine Sx.E.next ?_
      refine Sx.C.seq ?_
      refine Sx.C.seq ?_
      refine Sx.C.region ?_
      refine Sx.G.pure (.bool (sameG g0 g1)) (by kernel_rfl) (fun w => by kernel_rfl) ?_
      refine Sx.G.pure (.bool (sameG g0 g1)) (by kernel_rfl) (fun w => by kernel_rfl) ?_
      refine Sx.G.pureq (.bool ((sameG g0 g1) != (sameG g0 g1))) (.bool false) (by kernel_rfl) (fun w => by kernel_rfl) (congrArg Value.bool (bne_self_eq_false _)) ?_
      refine Sx.G.nil ?_
      refine Sx.E.next ?_
      refine Sx.C.no (by kernel_rfl) (by kernel_rfl) ?_
      refine Sx.C.skip ?_
      refine Sx.E.next ?_
      refine Sx.C.seq ?_
      refine Sx.C.seq ?_
      refine Sx.C.draw (.take 0 (.take 1 (.alone 2 (.alone 3 (.take 4 .nil))))) [vr b6 (gV g0 (.slice x5A0 g0.prog.length x5c0) (.slice x5A1 g0.wr.length x5c1) (.slice x5A2 g0.lv.length x5c2) (.slice x5A3 g0.seen.length x5c3)), vr b1 (gV g0 A0 A1 A2 A3)] (fun w S => St.pick S [2, 7] _ rfl (by decide)) (by kernel_rfl) (by kernel_rfl) (by kernel_rfl) ?_
      refine Sx.GT.ld 33 (.tmp 7) b6 0 0 (gV g0 (.slice x5A0 g0.prog.length x5c0) (.slice x5A1 g0.wr.length x5c1) (.slice x5A2 g0.lv.length x5c2) (.slice x5A3 g0.seen.length x5c3)) ((gV g0 (.slice x5A0 g0.prog.length x5c0) (.slice x5A1 g0.wr.length x5c1) (.slice x5A2 g0.lv.length x5c2) (.slice x5A3 g0.seen.length x5c3))) 0 (by rfl) (by rfl) (by kernel_rfl) (by kernel_rfl) (by rfl) (by kernel_rfl) (by kernel_rfl) (by kernel_rfl) ?_
      refine Sx.GT.ld 48 (.tmp 2) b1 0 1 (gV g0 A0 A1 A2 A3) ((gV g0 A0 A1 A2 A3)) 1 (by rfl) (by rfl) (by kernel_rfl) (by kernel_rfl) (by rfl) (by kernel_rfl) (by kernel_rfl) (by kernel_rfl) ?_
      refine Sx.GT.alone (Sx.Alone.call 26 #[.agg ((gV g0 A0 A1 A2 A3)).toArray] (by rfl) (by kernel_rfl) (fun w => by kernel_rfl) (fun w9 S => (toGuest_any 0 g0 A0 A1 A2 A3 _ hcg0 (St.oldG S h0)).mono fun e w9' hp => ?_))
      obtain ⟨x9_0, x9_1, x9_2, x9_3, rfl, ho, hb⟩ := hp
      obtain ⟨x9A0, x9c0, e0, -⟩ := ho.r0
      subst e0
      obtain ⟨x9A1, x9c1, e1, -⟩ := ho.r1
      subst e1
      obtain ⟨x9A2, x9c2, e2, -⟩ := ho.r2
      subst e2
      obtain ⟨x9A3, x9c3, e3, -⟩ := ho.r3
      subst e3
      refine ⟨_, _, rfl, St.gotG S hb ho, (fun w S => St.pick S [3, 8] _ rfl (by decide)), ?_⟩
      clear S ho hb
      refine Sx.GT.alone (Sx.Alone.plain 19 #[.agg ((gV g0 (.slice x5A0 g0.prog.length x5c0) (.slice x5A1 g0.wr.length x5c1) (.slice x5A2 g0.lv.length x5c2) (.slice x5A3 g0.seen.length x5c3))).toArray, .agg (gV g0 (.slice x9A0 g0.prog.length x9c0) (.slice x9A1 g0.wr.length x9c1) (.slice x9A2 g0.lv.length x9c2) (.slice x9A3 g0.seen.length x9c3)).toArray] (.bool true) (by rfl) (by kernel_rfl) (fun w => by kernel_rfl) (fun w S => by exact eqGuest_same _ _ _ _ g0 (.slice x5A0 g0.prog.length x5c0) (.slice x5A1 g0.wr.length x5c1) (.slice x5A2 g0.lv.length x5c2) (.slice x5A3 g0.seen.length x5c3) (.slice x9A0 g0.prog.length x9c0) (.slice x9A1 g0.wr.length x9c1) (.slice x9A2 g0.lv.length x9c2) (.slice x9A3 g0.seen.length x9c3) _ hcg0 (St.hiG S 4 rfl) (St.hiG S 0 rfl) (St.gRG S 4 rfl) (St.gRG S 0 rfl)) (fun w S => St.pick S [3, 8] _ rfl (by decide)) ?_)
      refine Sx.GT.pure (.bool false) 4 (by rfl) (by kernel_rfl) (fun w => by kernel_rfl) ?_
      refine Sx.GT.nil ?_
      refine Sx.E.next ?_
      refine Sx.C.no (by kernel_rfl) (by kernel_rfl) ?_
      refine Sx.C.skip ?_
      refine Sx.E.next ?_
      refine Sx.C.seq ?_
      refine Sx.C.seq ?_
      refine Sx.C.draw (.take 0 (.take 1 (.alone 2 (.alone 3 (.take 4 .nil))))) [vr b8 (gV g1 (.slice x7A0 g1.prog.length x7c0) (.slice x7A1 g1.wr.length x7c1) (.slice x7A2 g1.lv.length x7c2) (.slice x7A3 g1.seen.length x7c3)), vr b2 (gV g1 B0 B1 B2 B3)] (fun w S => St.pick S [1, 7] _ rfl (by decide)) (by kernel_rfl) (by kernel_rfl) (by kernel_rfl) ?_
      refine Sx.GT.ld 33 (.tmp 8) b8 0 0 (gV g1 (.slice x7A0 g1.prog.length x7c0) (.slice x7A1 g1.wr.length x7c1) (.slice x7A2 g1.lv.length x7c2) (.slice x7A3 g1.seen.length x7c3)) ((gV g1 (.slice x7A0 g1.prog.length x7c0) (.slice x7A1 g1.wr.length x7c1) (.slice x7A2 g1.lv.length x7c2) (.slice x7A3 g1.seen.length x7c3))) 0 (by rfl) (by rfl) (by kernel_rfl) (by kernel_rfl) (by rfl) (by kernel_rfl) (by kernel_rfl) (by kernel_rfl) ?_
      refine Sx.GT.ld 48 (.tmp 3) b2 0 1 (gV g1 B0 B1 B2 B3) ((gV g1 B0 B1 B2 B3)) 1 (by rfl) (by rfl) (by kernel_rfl) (by kernel_rfl) (by rfl) (by kernel_rfl) (by kernel_rfl) (by kernel_rfl) ?_
      refine Sx.GT.alone (Sx.Alone.call 26 #[.agg ((gV g1 B0 B1 B2 B3)).toArray] (by rfl) (by kernel_rfl) (fun w => by kernel_rfl) (fun w10 S => (toGuest_any 0 g1 B0 B1 B2 B3 _ hcg1 (St.oldG S h1)).mono fun e w10' hp => ?_))
      obtain ⟨x10_0, x10_1, x10_2, x10_3, rfl, ho, hb⟩ := hp
      obtain ⟨x10A0, x10c0, e0, -⟩ := ho.r0
      subst e0
      obtain ⟨x10A1, x10c1, e1, -⟩ := ho.r1
      subst e1
      obtain ⟨x10A2, x10c2, e2, -⟩ := ho.r2
      subst e2
      obtain ⟨x10A3, x10c3, e3, -⟩ := ho.r3
      subst e3
      refine ⟨_, _, rfl, St.gotG S hb ho, (fun w S => St.pick S [2, 8] _ rfl (by decide)), ?_⟩
      clear S ho hb
      refine Sx.GT.alone (Sx.Alone.plain 19 #[.agg ((gV g1 (.slice x7A0 g1.prog.length x7c0) (.slice x7A1 g1.wr.length x7c1) (.slice x7A2 g1.lv.length x7c2) (.slice x7A3 g1.seen.length x7c3))).toArray, .agg (gV g1 (.slice x10A0 g1.prog.length x10c0) (.slice x10A1 g1.wr.length x10c1) (.slice x10A2 g1.lv.length x10c2) (.slice x10A3 g1.seen.length x10c3)).toArray] (.bool true) (by rfl) (by kernel_rfl) (fun w => by kernel_rfl) (fun w S => by exact eqGuest_same _ _ _ _ g1 (.slice x7A0 g1.prog.length x7c0) (.slice x7A1 g1.wr.length x7c1) (.slice x7A2 g1.lv.length x7c2) (.slice x7A3 g1.seen.length x7c3) (.slice x10A0 g1.prog.length x10c0) (.slice x10A1 g1.wr.length x10c1) (.slice x10A2 g1.lv.length x10c2) (.slice x10A3 g1.seen.length x10c3) _ hcg1 (St.hiG S 3 rfl) (St.hiG S 0 rfl) (St.gRG S 3 rfl) (St.gRG S 0 rfl)) (fun w S => St.pick S [2, 8] _ rfl (by decide)) ?_)
      refine Sx.GT.pure (.bool false) 4 (by rfl) (by kernel_rfl) (fun w => by kernel_rfl) ?_
      refine Sx.GT.nil ?_
      refine Sx.E.next ?_
      refine Sx.C.no (by kernel_rfl) (by kernel_rfl) ?_
      refine Sx.C.skip ?_
      refine Sx.E.next ?_
      refine Sx.C.seq ?_
      refine Sx.C.region ?_
      refine Sx.G.pure (.bool true) (by kernel_rfl) (fun w => by kernel_rfl) ?_
      refine Sx.G.nil ?_
      refine Sx.E.next ?_
      refine Sx.C.ret ?_
      refine Sx.E.ret1 (.bool true) rfl (by kernel_rfl) (fun w S => ?_)
      exact ⟨rfl, S.below⟩
    · have hm0 := hw0
      have hm1 := hw1
      refine Sx.enter (args := [.agg (gV g0 A0 A1 A2 A3).toArray, .agg (gV g1 B0 B1 B2 B3).toArray]) Try.func11 rfl Try.ntmps11 rfl ?_
      refine Sx.C.seq ?_
      refine Sx.C.region ?_
      refine Sx.G.box 48 (.tmp 0) (gV g0 A0 A1 A2 A3) rfl (by kernel_rfl) (by kernel_rfl) (fun b11 => ?_)
      refine Sx.G.box 48 (.tmp 1) (gV g1 B0 B1 B2 B3) rfl (by kernel_rfl) (by kernel_rfl) (fun b12 => ?_)
      refine Sx.G.pure (.bool false) (by kernel_rfl) (fun w => by kernel_rfl) ?_
      refine Sx.G.nil ?_
      refine Sx.E.next ?_
      refine Sx.C.seq ?_
      refine Sx.C.region ?_
      refine Sx.G.pure (.int .i64 1048576) (by kernel_rfl) (fun w => by kernel_rfl) ?_
      refine Sx.G.nil ?_
      refine Sx.E.next ?_
      refine Sx.C.seq ?_
      refine Sx.C.region ?_
      refine Sx.G.ld 48 (.tmp 2) b11 0 1 (gV g0 A0 A1 A2 A3) ((gV g0 A0 A1 A2 A3)) rfl (by kernel_rfl) (by kernel_rfl) rfl (by kernel_rfl) (by kernel_rfl) (by kernel_rfl) ?_
      refine Sx.G.pure (.int .i64 1048576) (by kernel_rfl) (fun w => by kernel_rfl) ?_
      refine Sx.G.plain 24 #[.agg ((gV g0 A0 A1 A2 A3)).toArray, .int .i64 1048576] (.int .i64 (1048576 - (gsize g0 : Int))) (by kernel_rfl) (fun w => by kernel_rfl) (fun w S => by exact szGuest_yes _ _ g0 A0 A1 A2 A3 1048576 _ (by omega) (by omega) (Nat.le_refl _) (St.oldG S h0)) ?_
      refine Sx.G.pure (.int .i64 (1048576 - (gsize g0 : Int))) (by kernel_rfl) (fun w => by kernel_rfl) ?_
      refine Sx.G.nil ?_
      refine Sx.E.next ?_
      refine Sx.C.seq ?_
      refine Sx.C.seq ?_
      refine Sx.C.region ?_
      refine Sx.G.pure (.int .i64 (1048576 - (gsize g0 : Int))) (by kernel_rfl) (fun w => by kernel_rfl) ?_
      refine Sx.G.pureq (.bool (decide ((1048576 - (gsize g0 : Int)) < 0))) (.bool false) (by kernel_rfl) (fun w => by kernel_rfl) (congrArg Value.bool (decide_eq_false (by omega))) ?_
      refine Sx.G.nil ?_
      refine Sx.E.next ?_
      refine Sx.C.no (by kernel_rfl) (by kernel_rfl) ?_
      refine Sx.C.skip ?_
      refine Sx.E.next ?_
      refine Sx.C.seq ?_
      refine Sx.C.region ?_
      refine Sx.G.ld 48 (.tmp 3) b12 0 0 (gV g1 B0 B1 B2 B3) ((gV g1 B0 B1 B2 B3)) rfl (by kernel_rfl) (by kernel_rfl) rfl (by kernel_rfl) (by kernel_rfl) (by kernel_rfl) ?_
      refine Sx.G.pure (.int .i64 (1048576 - (gsize g0 : Int))) (by kernel_rfl) (fun w => by kernel_rfl) ?_
      refine Sx.G.plain 24 #[.agg ((gV g1 B0 B1 B2 B3)).toArray, .int .i64 (1048576 - (gsize g0 : Int))] (.int .i64 (-1)) (by kernel_rfl) (fun w => by kernel_rfl) (fun w S => by exact szGuest_no _ _ g1 B0 B1 B2 B3 (1048576 - (gsize g0 : Int)) _ (by omega) (by omega) hm1.1.1 hm1.2.2.2.1.1 hm1.2.2.2.2.1.1 hm1.2.2.2.2.2.2.2.2.2.1 (by omega) (Nat.le_refl _) (St.oldG S h1)) ?_
      refine Sx.G.pure (.int .i64 (-1)) (by kernel_rfl) (fun w => by kernel_rfl) ?_
      refine Sx.G.nil ?_
      refine Sx.E.next ?_
      refine Sx.C.seq ?_
      refine Sx.C.seq ?_
      refine Sx.C.region ?_
      refine Sx.G.pure (.int .i64 (-1)) (by kernel_rfl) (fun w => by kernel_rfl) ?_
      refine Sx.G.pure (.bool true) (by kernel_rfl) (fun w => by kernel_rfl) ?_
      refine Sx.G.nil ?_
      refine Sx.E.next ?_
      refine Sx.C.yes (by kernel_rfl) (by kernel_rfl) ?_
      refine Sx.C.seq ?_
      refine Sx.C.region ?_
      refine Sx.G.pure (.bool true) (by kernel_rfl) (fun w => by kernel_rfl) ?_
      refine Sx.G.nil ?_
      refine Sx.E.next ?_
      refine Sx.C.ret ?_
      refine Sx.E.then_ret ?_
      refine Sx.E.ret1 (.bool true) rfl (by kernel_rfl) (fun w S => ?_)
      exact ⟨rfl, S.below⟩
  · have hm0 := hw0
    have hm1 := hw1
    refine Sx.enter (args := [.agg (gV g0 A0 A1 A2 A3).toArray, .agg (gV g1 B0 B1 B2 B3).toArray]) Try.func11 rfl Try.ntmps11 rfl ?_
    refine Sx.C.seq ?_
    refine Sx.C.region ?_
    refine Sx.G.box 48 (.tmp 0) (gV g0 A0 A1 A2 A3) rfl (by kernel_rfl) (by kernel_rfl) (fun b13 => ?_)
    refine Sx.G.box 48 (.tmp 1) (gV g1 B0 B1 B2 B3) rfl (by kernel_rfl) (by kernel_rfl) (fun b14 => ?_)
    refine Sx.G.pure (.bool false) (by kernel_rfl) (fun w => by kernel_rfl) ?_
    refine Sx.G.nil ?_
    refine Sx.E.next ?_
    refine Sx.C.seq ?_
    refine Sx.C.region ?_
    refine Sx.G.pure (.int .i64 1048576) (by kernel_rfl) (fun w => by kernel_rfl) ?_
    refine Sx.G.nil ?_
    refine Sx.E.next ?_
    refine Sx.C.seq ?_
    refine Sx.C.region ?_
    refine Sx.G.ld 48 (.tmp 2) b13 0 1 (gV g0 A0 A1 A2 A3) ((gV g0 A0 A1 A2 A3)) rfl (by kernel_rfl) (by kernel_rfl) rfl (by kernel_rfl) (by kernel_rfl) (by kernel_rfl) ?_
    refine Sx.G.pure (.int .i64 1048576) (by kernel_rfl) (fun w => by kernel_rfl) ?_
    refine Sx.G.plain 24 #[.agg ((gV g0 A0 A1 A2 A3)).toArray, .int .i64 1048576] (.int .i64 (-1)) (by kernel_rfl) (fun w => by kernel_rfl) (fun w S => by exact szGuest_no _ _ g0 A0 A1 A2 A3 1048576 _ (by omega) (by omega) hm0.1.1 hm0.2.2.2.1.1 hm0.2.2.2.2.1.1 hm0.2.2.2.2.2.2.2.2.2.1 (by omega) (Nat.le_refl _) (St.oldG S h0)) ?_
    refine Sx.G.pure (.int .i64 (-1)) (by kernel_rfl) (fun w => by kernel_rfl) ?_
    refine Sx.G.nil ?_
    refine Sx.E.next ?_
    refine Sx.C.seq ?_
    refine Sx.C.seq ?_
    refine Sx.C.region ?_
    refine Sx.G.pure (.int .i64 (-1)) (by kernel_rfl) (fun w => by kernel_rfl) ?_
    refine Sx.G.pure (.bool true) (by kernel_rfl) (fun w => by kernel_rfl) ?_
    refine Sx.G.nil ?_
    refine Sx.E.next ?_
    refine Sx.C.yes (by kernel_rfl) (by kernel_rfl) ?_
    refine Sx.C.seq ?_
    refine Sx.C.region ?_
    refine Sx.G.pure (.bool true) (by kernel_rfl) (fun w => by kernel_rfl) ?_
    refine Sx.G.nil ?_
    refine Sx.E.next ?_
    refine Sx.C.ret ?_
    refine Sx.E.then_ret ?_
    refine Sx.E.ret1 (.bool true) rfl (by kernel_rfl) (fun w S => ?_)
    exact ⟨rfl, S.below⟩

/-! ### The row's step -/
set_option maxRecDepth 100000 in
theorem lifted (os : Os) (started : os.Started) (H : Type) (enc : TypeId × Value → H) :
    ReturnsInHanded {} Try.checked os 11 .any (Rows.fnExactSameGuestSpec.pre6 enc Try.prog Try.f11 Rows.fnExactSameGuestRow.domain false) (Rows.fnExactSameGuestSpec.post enc Try.prog Try.f11 false true false false) := by
  refine returnsInHanded_of_change (C := Try.checked) Base.own started (by kernel_rfl) Try.func11
    (ChangeSpec.witness6 (enc := enc) (C := Try.checked) false ⟨#[], #[.agg #[.slice none 0 0, .int .i64 0, .int .i64 0, .slice none 0 0, .slice none 0 0, .int .i64 0, .int .i64 0, .bool false, .int .i64 0, .int .i64 0, .int .i64 0, .bool false, .int .i64 0, .bool false, .slice none 0 0], .agg #[.slice none 0 0, .int .i64 0, .int .i64 0, .slice none 0 0, .slice none 0 0, .int .i64 0, .int .i64 0, .bool false, .int .i64 0, .int .i64 0, .int .i64 0, .bool false, .int .i64 0, .bool false, .slice none 0 0]], []⟩ 8 (by kernel_rfl) (by kernel_rfl) (by kernel_rfl) (by kernel_rfl)) ?_
  intro W base args ds gs before hval0 hW hcnd _
  have hval : ∀ (j : Nat) t v, Try.f11.params[j]? = some t → args[j]? = some v → Value.okWide Try.prog W .any base t v := hval0
  have hW' := hW
  obtain ⟨p, q, hA0, hV, rfl, hfz, hnd⟩ := hW
  have hA : DataW.TrodAll enc Try.prog W 0 (fun _ => true) true Try.f11.params.toList args.toList ds p := hA0
  have hA1 := hA
  rw [Try.params11] at hA hval
  obtain ⟨v0, vs0, d0, ds0, p0, q0, hargs, rfl, rfl, h0, r0⟩ := trodAll_cons hA
  obtain ⟨v1, vs1, d1, ds1, p1, q1, rfl, rfl, rfl, h1, r1⟩ := trodAll_cons r0
  obtain ⟨rfl, rfl, rfl⟩ := trodAll_nil r1
  obtain rfl : args = #[v0, v1] := by cases args; simp_all
  obtain ⟨rfl, rfl⟩ := trodVars_none hV
  obtain ⟨g0, P00, P01, P02, P03, rfl, hw0, h0'⟩ := Guests.open_Guest (hval 0 48 v0 rfl rfl) h0
  obtain ⟨g1, P10, P11, P12, P13, rfl, hw1, h1'⟩ := Guests.open_Guest (hval 1 48 v1 rfl rfl) h1
  clear hA0 hval0
  rw [List.append_nil] at hW'
  refine (walk g0 P00 P01 P02 P03 g1 P10 P11 P12 P13 hw0 h0' hw1 h1').mono fun e W' ⟨he, hg⟩ => ?_
  subst he
  exact ⟨_, rfl, Mem.post_args Slots.laid (by kernel_rfl) rfl rfl rfl hW' hA1 hg (fun _ _ _ => (trodAll_cons_mk (shut_bool Try.underlying4 _) trodAll_mk0)) (ok_one (by kernel_rfl) rfl (okWide_bool_mk Try.underlying4 _))⟩

theorem over : Rows.fnExactSameGuestRow.holds Try.pinned (OpenSpec.ofChange Rows.fnExactSameGuestSpec) :=
  OpenClaim.holds_of_wide 11 Try.f11 rfl rfl rfl rfl rfl rfl rfl ⟨rfl, rfl, rfl, rfl, rfl⟩ rfl rfl rfl rfl rfl (by kernel_rfl) Try.func11 (by kernel_rfl)
    (of_decide_eq_true (by kernel_rfl)) (by unfold Func.isWrapper; first | (rw [if_pos (by decide +kernel)]; kernel_rfl) | (rw [if_neg (by decide +kernel)]; exact ⟨rfl, rfl⟩))
    (fun os started H enc _ => lifted os started H enc)

/-- The given statement. -/
theorem proved : Rows.FnExactSameGuestSaid :=
  over
#print axioms proved
end Go.Proofs.Yteopkcndkcciaaa.fnExactSameGuest
