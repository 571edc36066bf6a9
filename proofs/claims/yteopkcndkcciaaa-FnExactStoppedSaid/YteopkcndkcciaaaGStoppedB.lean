/-
  At every argument the law FnExactStopped returns true: the project's Stopped answers as the given model's Stopped, changes no argument, and what it returns is its own. No condition.
-/
import Derived.Test.YteopkcndkcciaaaMb352182b
namespace Go.Proofs.Yteopkcndkcciaaa.fnExactStopped
set_option maxRecDepth 100000
open Go.ChangeShapes Go.WideShapes Go.ChangeAt Go.RowKit
open Go.Proofs.Yteopkcndkcciaaa.Base Go.Proofs.Yteopkcndkcciaaa.Mem Go.Proofs.Yteopkcndkcciaaa.Data Go.Proofs.Yteopkcndkcciaaa.Slots Go.Proofs.Yteopkcndkcciaaa.Ints Go.Proofs.Yteopkcndkcciaaa.Stt Go.Proofs.Yteopkcndkcciaaa.Part Go.Proofs.Yteopkcndkcciaaa.Guests Go.Proofs.Yteopkcndkcciaaa.Exits
set_option linter.unusedVariables false
set_option linter.unusedSimpArgs false
set_option maxRecDepth 100000 in
set_option maxHeartbeats 8000000 in
theorem walk (g0 : gT) (A0 A1 A2 A3 : Value) (e1 : QT) {w : World} (hw0 : wfGuest g0) (h0 : gR w 0 w.heap.size g0 A0 A1 A2 A3) (we1 : wfQ e1) :
    Calls Try.prog 10 #[.agg (gV g0 A0 A1 A2 A3).toArray, .agg #[.int .i64 e1.1, .int .i64 e1.2.1, .bool e1.2.2.1, .int .i64 e1.2.2.2]] w fun e w' => e = .returned (.bool true) ∧ Below w.heap.size w w' := by
  by_cases hz0 : gsize g0 ≤ 1048576
  · have hcg0 : gcap g0 := by unfold gsize at *; exact ⟨by omega, by omega, by omega, by omega⟩
    have hcr0 := gcap_rg hcg0
    have hrs : gsize (stopG g0 e1) = gsize g0 := rfl
    have hcres : gcap (stopG g0 e1) := hcg0
    obtain ⟨q1, hq1⟩ : ∃ q : Int, q = ((1 + gcnt g0 : Nat) : Int) := ⟨_, rfl⟩
    obtain ⟨q2, hq2⟩ : ∃ q : Int, q = ((1 + gcnt (stopG g0 e1) : Nat) : Int) := ⟨_, rfl⟩
    have hp1 : ¬ (q1 < 0) := by omega
    have hp2 : ¬ (q2 < 0) := by omega
    have HQ1 := Lib.hid hq1
    have HQ2 := Lib.hid hq2
    clear hq1 hq2
    refine Sx.enter (args := [.agg (gV g0 A0 A1 A2 A3).toArray, .agg #[.int .i64 e1.1, .int .i64 e1.2.1, .bool e1.2.2.1, .int .i64 e1.2.2.2]]) Try.func10 rfl Try.ntmps10 rfl ?_
    refine Sx.C.seq ?_
    refine Sx.C.region ?_
    refine Sx.G.box 48 (.tmp 0) (gV g0 A0 A1 A2 A3) rfl (by kernel_rfl) (by kernel_rfl) (fun b1 => ?_)
    refine Sx.G.box 46 (.tmp 1) [.int .i64 e1.1, .int .i64 e1.2.1, .bool e1.2.2.1, .int .i64 e1.2.2.2] rfl (by kernel_rfl) (by kernel_rfl) (fun b2 => ?_)
    refine Sx.G.pure (.bool false) (by kernel_rfl) (fun w => by kernel_rfl) ?_
    refine Sx.G.nil ?_
    refine Sx.E.next ?_
    refine Sx.C.seq ?_
    refine Sx.C.region ?_
    refine Sx.G.pure (.int .i64 1048576) (by kernel_rfl) (fun w => by kernel_rfl) ?_
    refine Sx.G.nil ?_
    refine Sx.E.next ?_
    refine Sx.C.seq ?_
    refine Sx.C.region ?_
    refine Sx.G.ld 48 (.tmp 2) b1 0 1 (gV g0 A0 A1 A2 A3) ((gV g0 A0 A1 A2 A3)) rfl (by kernel_rfl) (by kernel_rfl) rfl (by kernel_rfl) (by kernel_rfl) (by kernel_rfl) ?_
    refine Sx.G.pure (.int .i64 1048576) (by kernel_rfl) (fun w => by kernel_rfl) ?_
    refine Sx.G.plain 24 #[.agg ((gV g0 A0 A1 A2 A3)).toArray, .int .i64 1048576] (.int .i64 (1048576 - (gsize g0 : Int))) (by kernel_rfl) (fun w => by kernel_rfl) (fun w S => by exact szGuest_yes _ _ g0 A0 A1 A2 A3 1048576 _ (by omega) (by omega) (Nat.le_refl _) (St.oldG S h0)) ?_
    refine Sx.G.pure (.int .i64 (1048576 - (gsize g0 : Int))) (by kernel_rfl) (fun w => by kernel_rfl) ?_
    refine Sx.G.nil ?_
    refine Sx.E.next ?_
    refine Sx.C.seq ?_
    refine Sx.C.seq ?_
    refine Sx.C.region ?_
    refine Sx.G.pure (.int .i64 (1048576 - (gsize g0 : Int))) (by kernel_rfl) (fun w => by kernel_rfl) ?_
    refine Sx.G.pureq (.bool (decide ((1048576 - (gsize g0 : Int)) < 0))) (.bool false) (by kernel_rfl) (fun w => by kernel_rfl) (congrArg Value.bool (decide_eq_false (by omega))) ?_
    refine Sx.G.nil ?_
    refine Sx.E.next ?_
    refine Sx.C.no (by kernel_rfl) (by kernel_rfl) ?_
    refine Sx.C.skip ?_
    refine Sx.E.next ?_
    refine Sx.C.seq ?_
    refine Sx.C.cut (fun e a w' => e = .normal ∧ ∃ (Y0 : Option Addr) (Y1 : Nat) (Y2 : Option Addr) (Y3 : Nat) (Y4 : Option Addr) (Y5 : Nat) (Y6 : Option Addr) (Y7 : Nat) (Y8 : Nat) (Y9 : Nat) (Y10 : Option Addr) (Y11 : Nat) (Y12 : Option Addr) (Y13 : Nat) (Y14 : Option Addr) (Y15 : Nat) (Y16 : Option Addr) (Y17 : Nat) (Y18 : Nat) (Y19 : Nat) (Y20 : Nat), Sx.Ag 77 [(2, .pointer (some ⟨b1, 0, none⟩)), (3, .pointer (some ⟨b2, 0, none⟩)), (4, .bool false), (6, .pointer (some ⟨Y20, 0, none⟩))] a ∧ St w w' [vr Y20 (gV (stopG g0 e1) (.slice Y10 (stopG g0 e1).prog.length Y11) (.slice Y12 (stopG g0 e1).wr.length Y13) (.slice Y14 (stopG g0 e1).lv.length Y15) (.slice Y16 (stopG g0 e1).seen.length Y17)), gI (Y18) (Y19) (stopG g0 e1) (.slice Y10 (stopG g0 e1).prog.length Y11) (.slice Y12 (stopG g0 e1).wr.length Y13) (.slice Y14 (stopG g0 e1).lv.length Y15) (.slice Y16 (stopG g0 e1).seen.length Y17), gI (Y8) (Y9) g0 (.slice Y0 g0.prog.length Y1) (.slice Y2 g0.wr.length Y3) (.slice Y4 g0.lv.length Y5) (.slice Y6 g0.seen.length Y7), vr b2 [.int .i64 e1.1, .int .i64 e1.2.1, .bool e1.2.2.1, .int .i64 e1.2.2.2], vr b1 (gV g0 A0 A1 A2 A3)]) ?_ ?_
    · refine Sx.C.draw (.take 0 (.take 2 (.two 1 (.two 3 (.two 4 (.alone 5 (.alone 6 .nil)) 5 (.alone 4 (.alone 6 .nil))) 5 (.alone 3 (.alone 4 (.alone 6 .nil)))) 5 (.alone 1 (.alone 3 (.alone 4 (.alone 6 .nil))))))) [vr b2 [.int .i64 e1.1, .int .i64 e1.2.1, .bool e1.2.2.1, .int .i64 e1.2.2.2], vr b1 (gV g0 A0 A1 A2 A3)] (fun w S => St.pick S [0, 1] _ rfl (by decide)) (by kernel_rfl) (by kernel_rfl) (by kernel_rfl) ?_
      refine Sx.GT.ld 48 (.tmp 2) b1 0 1 (gV g0 A0 A1 A2 A3) ((gV g0 A0 A1 A2 A3)) 0 (by rfl) (by rfl) (by kernel_rfl) (by kernel_rfl) (by rfl) (by kernel_rfl) (by kernel_rfl) (by kernel_rfl) ?_
      refine Sx.GT.ld 46 (.tmp 3) b2 0 0 [.int .i64 e1.1, .int .i64 e1.2.1, .bool e1.2.2.1, .int .i64 e1.2.2.2] [.int .i64 e1.1, .int .i64 e1.2.1, .bool e1.2.2.1, .int .i64 e1.2.2.2] 2 (by rfl) (by rfl) (by kernel_rfl) (by kernel_rfl) (by rfl) (by kernel_rfl) (by kernel_rfl) (by kernel_rfl) ?_
      refine Sx.GT.two ?_ ?_
      · refine Sx.Alone.call 26 #[.agg ((gV g0 A0 A1 A2 A3)).toArray] (by rfl) (by kernel_rfl) (fun w => by kernel_rfl) (fun w3 S => (toGuest_any 0 g0 A0 A1 A2 A3 _ hcg0 (St.oldG S h0)).mono fun e w3' hp => ?_)
        obtain ⟨x3_0, x3_1, x3_2, x3_3, rfl, ho, hb⟩ := hp
        obtain ⟨x3A0, x3c0, e0, -⟩ := ho.r0
        subst e0
        obtain ⟨x3A1, x3c1, e1, -⟩ := ho.r1
        subst e1
        obtain ⟨x3A2, x3c2, e2, -⟩ := ho.r2
        subst e2
        obtain ⟨x3A3, x3c3, e3, -⟩ := ho.r3
        subst e3
        refine ⟨_, _, rfl, St.gotG S hb ho, (fun w S => St.pick S [1, 2] _ rfl (by decide)), ?_⟩
        clear S ho hb
        refine Sx.GT.two ?_ ?_
        · refine Sx.Alone.plain 36 #[.agg #[.int .i64 e1.1, .int .i64 e1.2.1, .bool e1.2.2.1, .int .i64 e1.2.2.2]] (.agg #[.int .i64 e1.1, .int .i64 e1.2.1, .bool e1.2.2.1, .int .i64 e1.2.2.2]) (by rfl) (by kernel_rfl) (fun w => by kernel_rfl) (fun w S => by exact toExit_any e1.1 e1.2.1 e1.2.2.1 e1.2.2.2 _) (fun w S => St.pick S [1, 2] _ rfl (by decide)) ?_
          refine Sx.GT.two ?_ ?_
          · refine Sx.Alone.call 35 #[.agg (gV g0 (.slice x3A0 g0.prog.length x3c0) (.slice x3A1 g0.wr.length x3c1) (.slice x3A2 g0.lv.length x3c2) (.slice x3A3 g0.seen.length x3c3)).toArray, .agg #[.int .i64 e1.1, .int .i64 e1.2.1, .bool e1.2.2.1, .int .i64 e1.2.2.2]] (by rfl) (by kernel_rfl) (fun w => by kernel_rfl) (fun w4 S => (specx_stop g0 _ e1 _ hcr0 (St.rgG S 0 rfl)).mono fun e w4' hp => ?_)
            replace hp := gives_gP e w4' hp
            obtain ⟨x4_0, x4_1, x4_2, x4_3, rfl, ho, hb⟩ := hp
            obtain ⟨x4A0, x4c0, e0, -⟩ := ho.r0
            subst e0
            obtain ⟨x4A1, x4c1, e1, -⟩ := ho.r1
            subst e1
            obtain ⟨x4A2, x4c2, e2, -⟩ := ho.r2
            subst e2
            obtain ⟨x4A3, x4c3, e3, -⟩ := ho.r3
            subst e3
            refine ⟨_, _, rfl, St.gotG S hb ho, (fun w S => St.pick S [2, 3] _ rfl (by decide)), ?_⟩
            clear S ho hb
            refine Sx.GT.alone (Sx.Alone.alloc 33 (.agg #[.slice none 0 0, .int .i64 0, .int .i64 0, .slice none 0 0, .slice none 0 0, .int .i64 0, .int .i64 0, .bool false, .int .i64 0, .int .i64 0, .int .i64 0, .bool false, .int .i64 0, .bool false, .slice none 0 0]) [.slice none 0 0, .int .i64 0, .int .i64 0, .slice none 0 0, .slice none 0 0, .int .i64 0, .int .i64 0, .bool false, .int .i64 0, .int .i64 0, .int .i64 0, .bool false, .int .i64 0, .bool false, .slice none 0 0] (by rfl) (by rfl) (by kernel_rfl) (fun w => by kernel_rfl) (by kernel_rfl) (fun w S => St.pick S [2, 3] _ rfl (by decide)) (fun b5 => ?_))
            refine Sx.GT.alone (Sx.Alone.sto 33 (.tmp 6) (.tmp 22) b5 0 0 [.slice none 0 0, .int .i64 0, .int .i64 0, .slice none 0 0, .slice none 0 0, .int .i64 0, .int .i64 0, .bool false, .int .i64 0, .int .i64 0, .int .i64 0, .bool false, .int .i64 0, .bool false, .slice none 0 0] (gV (stopG g0 e1) (.slice x4A0 (stopG g0 e1).prog.length x4c0) (.slice x4A1 (stopG g0 e1).wr.length x4c1) (.slice x4A2 (stopG g0 e1).lv.length x4c2) (.slice x4A3 (stopG g0 e1).seen.length x4c3)) (gV (stopG g0 e1) (.slice x4A0 (stopG g0 e1).prog.length x4c0) (.slice x4A1 (stopG g0 e1).wr.length x4c1) (.slice x4A2 (stopG g0 e1).lv.length x4c2) (.slice x4A3 (stopG g0 e1).seen.length x4c3)) [vr b5 (gV (stopG g0 e1) (.slice x4A0 (stopG g0 e1).prog.length x4c0) (.slice x4A1 (stopG g0 e1).wr.length x4c1) (.slice x4A2 (stopG g0 e1).lv.length x4c2) (.slice x4A3 (stopG g0 e1).seen.length x4c3)), gI (w4.heap.size) (w4'.heap.size) (stopG g0 e1) (.slice x4A0 (stopG g0 e1).prog.length x4c0) (.slice x4A1 (stopG g0 e1).wr.length x4c1) (.slice x4A2 (stopG g0 e1).lv.length x4c2) (.slice x4A3 (stopG g0 e1).seen.length x4c3), gI (w3.heap.size) (w3'.heap.size) g0 (.slice x3A0 g0.prog.length x3c0) (.slice x3A1 g0.wr.length x3c1) (.slice x3A2 g0.lv.length x3c2) (.slice x3A3 g0.seen.length x3c3), vr b2 [.int .i64 e1.1, .int .i64 e1.2.1, .bool e1.2.2.1, .int .i64 e1.2.2.2], vr b1 (gV g0 A0 A1 A2 A3)] (by rfl) (by rfl) (by kernel_rfl) (by kernel_rfl) (by kernel_rfl) (by rfl) (by kernel_rfl) (by rfl) (by kernel_rfl) (by kernel_rfl) (by kernel_rfl) (fun w S => St.pick S [3, 4] _ rfl (by decide)) ?_)
            exact Sx.GT.nil (fun a w' hA S => ⟨rfl, x3A0, x3c0, x3A1, x3c1, x3A2, x3c2, x3A3, x3c3, w3.heap.size, w3'.heap.size, x4A0, x4c0, x4A1, x4c1, x4A2, x4c2, x4A3, x4c3, w4.heap.size, w4'.heap.size, b5, (Sx.Ag.and hA (Sx.Ag.and hA (Sx.Ag.and hA (Sx.Ag.and hA (Sx.Ag.none hA) _ _ (by kernel_rfl)) _ _ (by kernel_rfl)) _ _ (by kernel_rfl)) _ _ (by kernel_rfl)), St.pick S [0, 1, 2, 3, 4] _ rfl (by decide)⟩)
          · refine Sx.Alone.alloc 33 (.agg #[.slice none 0 0, .int .i64 0, .int .i64 0, .slice none 0 0, .slice none 0 0, .int .i64 0, .int .i64 0, .bool false, .int .i64 0, .int .i64 0, .int .i64 0, .bool false, .int .i64 0, .bool false, .slice none 0 0]) [.slice none 0 0, .int .i64 0, .int .i64 0, .slice none 0 0, .slice none 0 0, .int .i64 0, .int .i64 0, .bool false, .int .i64 0, .int .i64 0, .int .i64 0, .bool false, .int .i64 0, .bool false, .slice none 0 0] (by rfl) (by rfl) (by kernel_rfl) (fun w => by kernel_rfl) (by kernel_rfl) (fun w S => St.pick S [1, 2] _ rfl (by decide)) (fun b6 => ?_)
            refine Sx.GT.alone (Sx.Alone.call 35 #[.agg (gV g0 (.slice x3A0 g0.prog.length x3c0) (.slice x3A1 g0.wr.length x3c1) (.slice x3A2 g0.lv.length x3c2) (.slice x3A3 g0.seen.length x3c3)).toArray, .agg #[.int .i64 e1.1, .int .i64 e1.2.1, .bool e1.2.2.1, .int .i64 e1.2.2.2]] (by rfl) (by kernel_rfl) (fun w => by kernel_rfl) (fun w7 S => (specx_stop g0 _ e1 _ hcr0 (St.rgG S 1 rfl)).mono fun e w7' hp => ?_))
            replace hp := gives_gP e w7' hp
            obtain ⟨x7_0, x7_1, x7_2, x7_3, rfl, ho, hb⟩ := hp
            obtain ⟨x7A0, x7c0, e0, -⟩ := ho.r0
            subst e0
            obtain ⟨x7A1, x7c1, e1, -⟩ := ho.r1
            subst e1
            obtain ⟨x7A2, x7c2, e2, -⟩ := ho.r2
            subst e2
            obtain ⟨x7A3, x7c3, e3, -⟩ := ho.r3
            subst e3
            refine ⟨_, _, rfl, St.gotG S hb ho, (fun w S => St.pick S [3, 4] _ rfl (by decide)), ?_⟩
            clear S ho hb
            refine Sx.GT.alone (Sx.Alone.sto 33 (.tmp 6) (.tmp 22) b6 0 1 [.slice none 0 0, .int .i64 0, .int .i64 0, .slice none 0 0, .slice none 0 0, .int .i64 0, .int .i64 0, .bool false, .int .i64 0, .int .i64 0, .int .i64 0, .bool false, .int .i64 0, .bool false, .slice none 0 0] (gV (stopG g0 e1) (.slice x7A0 (stopG g0 e1).prog.length x7c0) (.slice x7A1 (stopG g0 e1).wr.length x7c1) (.slice x7A2 (stopG g0 e1).lv.length x7c2) (.slice x7A3 (stopG g0 e1).seen.length x7c3)) (gV (stopG g0 e1) (.slice x7A0 (stopG g0 e1).prog.length x7c0) (.slice x7A1 (stopG g0 e1).wr.length x7c1) (.slice x7A2 (stopG g0 e1).lv.length x7c2) (.slice x7A3 (stopG g0 e1).seen.length x7c3)) [gI (w7.heap.size) (w7'.heap.size) (stopG g0 e1) (.slice x7A0 (stopG g0 e1).prog.length x7c0) (.slice x7A1 (stopG g0 e1).wr.length x7c1) (.slice x7A2 (stopG g0 e1).lv.length x7c2) (.slice x7A3 (stopG g0 e1).seen.length x7c3), vr b6 (gV (stopG g0 e1) (.slice x7A0 (stopG g0 e1).prog.length x7c0) (.slice x7A1 (stopG g0 e1).wr.length x7c1) (.slice x7A2 (stopG g0 e1).lv.length x7c2) (.slice x7A3 (stopG g0 e1).seen.length x7c3)), gI (w3.heap.size) (w3'.heap.size) g0 (.slice x3A0 g0.prog.length x3c0) (.slice x3A1 g0.wr.length x3c1) (.slice x3A2 g0.lv.length x3c2) (.slice x3A3 g0.seen.length x3c3), vr b2 [.int .i64 e1.1, .int .i64 e1.2.1, .bool e1.2.2.1, .int .i64 e1.2.2.2], vr b1 (gV g0 A0 A1 A2 A3)] (by rfl) (by rfl) (by kernel_rfl) (by kernel_rfl) (by kernel_rfl) (by rfl) (by kernel_rfl) (by rfl) (by kernel_rfl) (by kernel_rfl) (by kernel_rfl) (fun w S => St.pick S [3, 4] _ rfl (by decide)) ?_)
            exact Sx.GT.nil (fun a w' hA S => ⟨rfl, x3A0, x3c0, x3A1, x3c1, x3A2, x3c2, x3A3, x3c3, w3.heap.size, w3'.heap.size, x7A0, x7c0, x7A1, x7c1, x7A2, x7c2, x7A3, x7c3, w7.heap.size, w7'.heap.size, b6, (Sx.Ag.and hA (Sx.Ag.and hA (Sx.Ag.and hA (Sx.Ag.and hA (Sx.Ag.none hA) _ _ (by kernel_rfl)) _ _ (by kernel_rfl)) _ _ (by kernel_rfl)) _ _ (by kernel_rfl)), St.pick S [1, 0, 2, 3, 4] _ rfl (by decide)⟩)
        · refine Sx.Alone.alloc 33 (.agg #[.slice none 0 0, .int .i64 0, .int .i64 0, .slice none 0 0, .slice none 0 0, .int .i64 0, .int .i64 0, .bool false, .int .i64 0, .int .i64 0, .int .i64 0, .bool false, .int .i64 0, .bool false, .slice none 0 0]) [.slice none 0 0, .int .i64 0, .int .i64 0, .slice none 0 0, .slice none 0 0, .int .i64 0, .int .i64 0, .bool false, .int .i64 0, .int .i64 0, .int .i64 0, .bool false, .int .i64 0, .bool false, .slice none 0 0] (by rfl) (by rfl) (by kernel_rfl) (fun w => by kernel_rfl) (by kernel_rfl) (fun w S => St.pick S [1, 2] _ rfl (by decide)) (fun b8 => ?_)
          refine Sx.GT.alone (Sx.Alone.plain 36 #[.agg #[.int .i64 e1.1, .int .i64 e1.2.1, .bool e1.2.2.1, .int .i64 e1.2.2.2]] (.agg #[.int .i64 e1.1, .int .i64 e1.2.1, .bool e1.2.2.1, .int .i64 e1.2.2.2]) (by rfl) (by kernel_rfl) (fun w => by kernel_rfl) (fun w S => by exact toExit_any e1.1 e1.2.1 e1.2.2.1 e1.2.2.2 _) (fun w S => St.pick S [2, 3] _ rfl (by decide)) ?_)
          refine Sx.GT.alone (Sx.Alone.call 35 #[.agg (gV g0 (.slice x3A0 g0.prog.length x3c0) (.slice x3A1 g0.wr.length x3c1) (.slice x3A2 g0.lv.length x3c2) (.slice x3A3 g0.seen.length x3c3)).toArray, .agg #[.int .i64 e1.1, .int .i64 e1.2.1, .bool e1.2.2.1, .int .i64 e1.2.2.2]] (by rfl) (by kernel_rfl) (fun w => by kernel_rfl) (fun w9 S => (specx_stop g0 _ e1 _ hcr0 (St.rgG S 1 rfl)).mono fun e w9' hp => ?_))
          replace hp := gives_gP e w9' hp
          obtain ⟨x9_0, x9_1, x9_2, x9_3, rfl, ho, hb⟩ := hp
          obtain ⟨x9A0, x9c0, e0, -⟩ := ho.r0
          subst e0
          obtain ⟨x9A1, x9c1, e1, -⟩ := ho.r1
          subst e1
          obtain ⟨x9A2, x9c2, e2, -⟩ := ho.r2
          subst e2
          obtain ⟨x9A3, x9c3, e3, -⟩ := ho.r3
          subst e3
          refine ⟨_, _, rfl, St.gotG S hb ho, (fun w S => St.pick S [3, 4] _ rfl (by decide)), ?_⟩
          clear S ho hb
          refine Sx.GT.alone (Sx.Alone.sto 33 (.tmp 6) (.tmp 22) b8 0 1 [.slice none 0 0, .int .i64 0, .int .i64 0, .slice none 0 0, .slice none 0 0, .int .i64 0, .int .i64 0, .bool false, .int .i64 0, .int .i64 0, .int .i64 0, .bool false, .int .i64 0, .bool false, .slice none 0 0] (gV (stopG g0 e1) (.slice x9A0 (stopG g0 e1).prog.length x9c0) (.slice x9A1 (stopG g0 e1).wr.length x9c1) (.slice x9A2 (stopG g0 e1).lv.length x9c2) (.slice x9A3 (stopG g0 e1).seen.length x9c3)) (gV (stopG g0 e1) (.slice x9A0 (stopG g0 e1).prog.length x9c0) (.slice x9A1 (stopG g0 e1).wr.length x9c1) (.slice x9A2 (stopG g0 e1).lv.length x9c2) (.slice x9A3 (stopG g0 e1).seen.length x9c3)) [gI (w9.heap.size) (w9'.heap.size) (stopG g0 e1) (.slice x9A0 (stopG g0 e1).prog.length x9c0) (.slice x9A1 (stopG g0 e1).wr.length x9c1) (.slice x9A2 (stopG g0 e1).lv.length x9c2) (.slice x9A3 (stopG g0 e1).seen.length x9c3), vr b8 (gV (stopG g0 e1) (.slice x9A0 (stopG g0 e1).prog.length x9c0) (.slice x9A1 (stopG g0 e1).wr.length x9c1) (.slice x9A2 (stopG g0 e1).lv.length x9c2) (.slice x9A3 (stopG g0 e1).seen.length x9c3)), gI (w3.heap.size) (w3'.heap.size) g0 (.slice x3A0 g0.prog.length x3c0) (.slice x3A1 g0.wr.length x3c1) (.slice x3A2 g0.lv.length x3c2) (.slice x3A3 g0.seen.length x3c3), vr b2 [.int .i64 e1.1, .int .i64 e1.2.1, .bool e1.2.2.1, .int .i64 e1.2.2.2], vr b1 (gV g0 A0 A1 A2 A3)] (by rfl) (by rfl) (by kernel_rfl) (by kernel_rfl) (by kernel_rfl) (by rfl) (by kernel_rfl) (by rfl) (by kernel_rfl) (by kernel_rfl) (by kernel_rfl) (fun w S => St.pick S [3, 4] _ rfl (by decide)) ?_)
          exact Sx.GT.nil (fun a w' hA S => ⟨rfl, x3A0, x3c0, x3A1, x3c1, x3A2, x3c2, x3A3, x3c3, w3.heap.size, w3'.heap.size, x9A0, x9c0, x9A1, x9c1, x9A2, x9c2, x9A3, x9c3, w9.heap.size, w9'.heap.size, b8, (Sx.Ag.and hA (Sx.Ag.and hA (Sx.Ag.and hA (Sx.Ag.and hA (Sx.Ag.none hA) _ _ (by kernel_rfl)) _ _ (by kernel_rfl)) _ _ (by kernel_rfl)) _ _ (by kernel_rfl)), St.pick S [1, 0, 2, 3, 4] _ rfl (by decide)⟩)
      · refine Sx.Alone.alloc 33 (.agg #[.slice none 0 0, .int .i64 0, .int .i64 0, .slice none 0 0, .slice none 0 0, .int .i64 0, .int .i64 0, .bool false, .int .i64 0, .int .i64 0, .int .i64 0, .bool false, .int .i64 0, .bool false, .slice none 0 0]) [.slice none 0 0, .int .i64 0, .int .i64 0, .slice none 0 0, .slice none 0 0, .int .i64 0, .int .i64 0, .bool false, .int .i64 0, .int .i64 0, .int .i64 0, .bool false, .int .i64 0, .bool false, .slice none 0 0] (by rfl) (by rfl) (by kernel_rfl) (fun w => by kernel_rfl) (by kernel_rfl) (fun w S => St.pick S [0, 1] _ rfl (by decide)) (fun b10 => ?_)
        refine Sx.GT.alone (Sx.Alone.call 26 #[.agg ((gV g0 A0 A1 A2 A3)).toArray] (by rfl) (by kernel_rfl) (fun w => by kernel_rfl) (fun w11 S => (toGuest_any 0 g0 A0 A1 A2 A3 _ hcg0 (St.oldG S h0)).mono fun e w11' hp => ?_))
        obtain ⟨x11_0, x11_1, x11_2, x11_3, rfl, ho, hb⟩ := hp
        obtain ⟨x11A0, x11c0, e0, -⟩ := ho.r0
        subst e0
        obtain ⟨x11A1, x11c1, e1, -⟩ := ho.r1
        subst e1
        obtain ⟨x11A2, x11c2, e2, -⟩ := ho.r2
        subst e2
        obtain ⟨x11A3, x11c3, e3, -⟩ := ho.r3
        subst e3
        refine ⟨_, _, rfl, St.gotG S hb ho, (fun w S => St.pick S [2, 3] _ rfl (by decide)), ?_⟩
        clear S ho hb
        refine Sx.GT.alone (Sx.Alone.plain 36 #[.agg #[.int .i64 e1.1, .int .i64 e1.2.1, .bool e1.2.2.1, .int .i64 e1.2.2.2]] (.agg #[.int .i64 e1.1, .int .i64 e1.2.1, .bool e1.2.2.1, .int .i64 e1.2.2.2]) (by rfl) (by kernel_rfl) (fun w => by kernel_rfl) (fun w S => by exact toExit_any e1.1 e1.2.1 e1.2.2.1 e1.2.2.2 _) (fun w S => St.pick S [2, 3] _ rfl (by decide)) ?_)
        refine Sx.GT.alone (Sx.Alone.call 35 #[.agg (gV g0 (.slice x11A0 g0.prog.length x11c0) (.slice x11A1 g0.wr.length x11c1) (.slice x11A2 g0.lv.length x11c2) (.slice x11A3 g0.seen.length x11c3)).toArray, .agg #[.int .i64 e1.1, .int .i64 e1.2.1, .bool e1.2.2.1, .int .i64 e1.2.2.2]] (by rfl) (by kernel_rfl) (fun w => by kernel_rfl) (fun w12 S => (specx_stop g0 _ e1 _ hcr0 (St.rgG S 0 rfl)).mono fun e w12' hp => ?_))
        replace hp := gives_gP e w12' hp
        obtain ⟨x12_0, x12_1, x12_2, x12_3, rfl, ho, hb⟩ := hp
        obtain ⟨x12A0, x12c0, e0, -⟩ := ho.r0
        subst e0
        obtain ⟨x12A1, x12c1, e1, -⟩ := ho.r1
        subst e1
        obtain ⟨x12A2, x12c2, e2, -⟩ := ho.r2
        subst e2
        obtain ⟨x12A3, x12c3, e3, -⟩ := ho.r3
        subst e3
        refine ⟨_, _, rfl, St.gotG S hb ho, (fun w S => St.pick S [3, 4] _ rfl (by decide)), ?_⟩
        clear S ho hb
        refine Sx.GT.alone (Sx.Alone.sto 33 (.tmp 6) (.tmp 22) b10 0 2 [.slice none 0 0, .int .i64 0, .int .i64 0, .slice none 0 0, .slice none 0 0, .int .i64 0, .int .i64 0, .bool false, .int .i64 0, .int .i64 0, .int .i64 0, .bool false, .int .i64 0, .bool false, .slice none 0 0] (gV (stopG g0 e1) (.slice x12A0 (stopG g0 e1).prog.length x12c0) (.slice x12A1 (stopG g0 e1).wr.length x12c1) (.slice x12A2 (stopG g0 e1).lv.length x12c2) (.slice x12A3 (stopG g0 e1).seen.length x12c3)) (gV (stopG g0 e1) (.slice x12A0 (stopG g0 e1).prog.length x12c0) (.slice x12A1 (stopG g0 e1).wr.length x12c1) (.slice x12A2 (stopG g0 e1).lv.length x12c2) (.slice x12A3 (stopG g0 e1).seen.length x12c3)) [gI (w12.heap.size) (w12'.heap.size) (stopG g0 e1) (.slice x12A0 (stopG g0 e1).prog.length x12c0) (.slice x12A1 (stopG g0 e1).wr.length x12c1) (.slice x12A2 (stopG g0 e1).lv.length x12c2) (.slice x12A3 (stopG g0 e1).seen.length x12c3), gI (w11.heap.size) (w11'.heap.size) g0 (.slice x11A0 g0.prog.length x11c0) (.slice x11A1 g0.wr.length x11c1) (.slice x11A2 g0.lv.length x11c2) (.slice x11A3 g0.seen.length x11c3), vr b10 (gV (stopG g0 e1) (.slice x12A0 (stopG g0 e1).prog.length x12c0) (.slice x12A1 (stopG g0 e1).wr.length x12c1) (.slice x12A2 (stopG g0 e1).lv.length x12c2) (.slice x12A3 (stopG g0 e1).seen.length x12c3)), vr b2 [.int .i64 e1.1, .int .i64 e1.2.1, .bool e1.2.2.1, .int .i64 e1.2.2.2], vr b1 (gV g0 A0 A1 A2 A3)] (by rfl) (by rfl) (by kernel_rfl) (by kernel_rfl) (by kernel_rfl) (by rfl) (by kernel_rfl) (by rfl) (by kernel_rfl) (by kernel_rfl) (by kernel_rfl) (fun w S => St.pick S [3, 4] _ rfl (by decide)) ?_)
        exact Sx.GT.nil (fun a w' hA S => ⟨rfl, x11A0, x11c0, x11A1, x11c1, x11A2, x11c2, x11A3, x11c3, w11.heap.size, w11'.heap.size, x12A0, x12c0, x12A1, x12c1, x12A2, x12c2, x12A3, x12c3, w12.heap.size, w12'.heap.size, b10, (Sx.Ag.and hA (Sx.Ag.and hA (Sx.Ag.and hA (Sx.Ag.and hA (Sx.Ag.none hA) _ _ (by kernel_rfl)) _ _ (by kernel_rfl)) _ _ (by kernel_rfl)) _ _ (by kernel_rfl)), St.pick S [2, 0, 1, 3, 4] _ rfl (by decide)⟩)
    rintro e a w' ⟨rfl, y13_0, y13_1, y13_2, y13_3, y13_4, y13_5, y13_6, y13_7, y13_8, y13_9, y13_10, y13_11, y13_12, y13_13, y13_14, y13_15, y13_16, y13_17, y13_18, y13_19, y13_20, hA, S⟩
    refine Sx.E.out ?_ hA S
    clear hA S a w'
    refine Sx.E.next ?_
    refine Sx.C.seq ?_
    refine Sx.C.region ?_
    refine Sx.G.ld 48 (.tmp 2) b1 0 4 (gV g0 A0 A1 A2 A3) ((gV g0 A0 A1 A2 A3)) rfl (by kernel_rfl) (by kernel_rfl) rfl (by kernel_rfl) (by kernel_rfl) (by kernel_rfl) ?_
    refine Sx.G.call 26 #[.agg ((gV g0 A0 A1 A2 A3)).toArray] (by kernel_rfl) (fun w => by kernel_rfl) (fun w14 S => (toGuest_any 0 g0 A0 A1 A2 A3 _ hcg0 (St.oldG S h0)).mono fun e w14' hp => ?_)
    obtain ⟨x14_0, x14_1, x14_2, x14_3, rfl, ho, hb⟩ := hp
    obtain ⟨x14A0, x14c0, e0, -⟩ := ho.r0
    subst e0
    obtain ⟨x14A1, x14c1, e1, -⟩ := ho.r1
    subst e1
    obtain ⟨x14A2, x14c2, e2, -⟩ := ho.r2
    subst e2
    obtain ⟨x14A3, x14c3, e3, -⟩ := ho.r3
    subst e3
    refine ⟨_, _, rfl, St.gotG S hb ho, ?_⟩
    clear S ho hb
    refine Sx.G.alloc 33 (.agg #[.slice none 0 0, .int .i64 0, .int .i64 0, .slice none 0 0, .slice none 0 0, .int .i64 0, .int .i64 0, .bool false, .int .i64 0, .int .i64 0, .int .i64 0, .bool false, .int .i64 0, .bool false, .slice none 0 0]) [.slice none 0 0, .int .i64 0, .int .i64 0, .slice none 0 0, .slice none 0 0, .int .i64 0, .int .i64 0, .bool false, .int .i64 0, .int .i64 0, .int .i64 0, .bool false, .int .i64 0, .bool false, .slice none 0 0] rfl (by kernel_rfl) (fun w => by kernel_rfl) (by kernel_rfl) (fun b15 => ?_)
    refine Sx.G.sto 33 (.tmp 7) (.tmp 24) b15 0 0 [.slice none 0 0, .int .i64 0, .int .i64 0, .slice none 0 0, .slice none 0 0, .int .i64 0, .int .i64 0, .bool false, .int .i64 0, .int .i64 0, .int .i64 0, .bool false, .int .i64 0, .bool false, .slice none 0 0] (gV g0 (.slice x14A0 g0.prog.length x14c0) (.slice x14A1 g0.wr.length x14c1) (.slice x14A2 g0.lv.length x14c2) (.slice x14A3 g0.seen.length x14c3)) (gV g0 (.slice x14A0 g0.prog.length x14c0) (.slice x14A1 g0.wr.length x14c1) (.slice x14A2 g0.lv.length x14c2) (.slice x14A3 g0.seen.length x14c3)) [vr b15 (gV g0 (.slice x14A0 g0.prog.length x14c0) (.slice x14A1 g0.wr.length x14c1) (.slice x14A2 g0.lv.length x14c2) (.slice x14A3 g0.seen.length x14c3)), gI (w14.heap.size) (w14'.heap.size) g0 (.slice x14A0 g0.prog.length x14c0) (.slice x14A1 g0.wr.length x14c1) (.slice x14A2 g0.lv.length x14c2) (.slice x14A3 g0.seen.length x14c3), vr y13_20 (gV (stopG g0 e1) (.slice y13_10 (stopG g0 e1).prog.length y13_11) (.slice y13_12 (stopG g0 e1).wr.length y13_13) (.slice y13_14 (stopG g0 e1).lv.length y13_15) (.slice y13_16 (stopG g0 e1).seen.length y13_17)), gI (y13_18) (y13_19) (stopG g0 e1) (.slice y13_10 (stopG g0 e1).prog.length y13_11) (.slice y13_12 (stopG g0 e1).wr.length y13_13) (.slice y13_14 (stopG g0 e1).lv.length y13_15) (.slice y13_16 (stopG g0 e1).seen.length y13_17), gI (y13_8) (y13_9) g0 (.slice y13_0 g0.prog.length y13_1) (.slice y13_2 g0.wr.length y13_3) (.slice y13_4 g0.lv.length y13_5) (.slice y13_6 g0.seen.length y13_7), vr b2 [.int .i64 e1.1, .int .i64 e1.2.1, .bool e1.2.2.1, .int .i64 e1.2.2.2], vr b1 (gV g0 A0 A1 A2 A3)] rfl (by kernel_rfl) (by kernel_rfl) (by kernel_rfl) rfl (by kernel_rfl) rfl (by kernel_rfl) (by kernel_rfl) (by kernel_rfl) ?_
    refine Sx.G.nil ?_
    refine Sx.E.next ?_
    refine Sx.C.seq ?_
    refine Sx.C.cut (fun e a w' => e = .normal ∧ ∃ (Y0 : Option Addr) (Y1 : Nat) (Y2 : Option Addr) (Y3 : Nat) (Y4 : Option Addr) (Y5 : Nat) (Y6 : Option Addr) (Y7 : Nat) (Y8 : Nat) (Y9 : Nat) (Y10 : Nat), Sx.Ag 77 [(2, .pointer (some ⟨b1, 0, none⟩)), (3, .pointer (some ⟨b2, 0, none⟩)), (4, .bool false), (6, .pointer (some ⟨y13_20, 0, none⟩)), (7, .pointer (some ⟨b15, 0, none⟩)), (8, .pointer (some ⟨Y10, 0, none⟩))] a ∧ St w w' [vr Y10 (gV (stopG g0 e1) (.slice Y0 (stopG g0 e1).prog.length Y1) (.slice Y2 (stopG g0 e1).wr.length Y3) (.slice Y4 (stopG g0 e1).lv.length Y5) (.slice Y6 (stopG g0 e1).seen.length Y7)), gI (Y8) (Y9) (stopG g0 e1) (.slice Y0 (stopG g0 e1).prog.length Y1) (.slice Y2 (stopG g0 e1).wr.length Y3) (.slice Y4 (stopG g0 e1).lv.length Y5) (.slice Y6 (stopG g0 e1).seen.length Y7), vr b15 (gV g0 (.slice x14A0 g0.prog.length x14c0) (.slice x14A1 g0.wr.length x14c1) (.slice x14A2 g0.lv.length x14c2) (.slice x14A3 g0.seen.length x14c3)), gI (w14.heap.size) (w14'.heap.size) g0 (.slice x14A0 g0.prog.length x14c0) (.slice x14A1 g0.wr.length x14c1) (.slice x14A2 g0.lv.length x14c2) (.slice x14A3 g0.seen.length x14c3), vr y13_20 (gV (stopG g0 e1) (.slice y13_10 (stopG g0 e1).prog.length y13_11) (.slice y13_12 (stopG g0 e1).wr.length y13_13) (.slice y13_14 (stopG g0 e1).lv.length y13_15) (.slice y13_16 (stopG g0 e1).seen.length y13_17)), gI (y13_18) (y13_19) (stopG g0 e1) (.slice y13_10 (stopG g0 e1).prog.length y13_11) (.slice y13_12 (stopG g0 e1).wr.length y13_13) (.slice y13_14 (stopG g0 e1).lv.length y13_15) (.slice y13_16 (stopG g0 e1).seen.length y13_17), gI (y13_8) (y13_9) g0 (.slice y13_0 g0.prog.length y13_1) (.slice y13_2 g0.wr.length y13_3) (.slice y13_4 g0.lv.length y13_5) (.slice y13_6 g0.seen.length y13_7), vr b2 [.int .i64 e1.1, .int .i64 e1.2.1, .bool e1.2.2.1, .int .i64 e1.2.2.2], vr b1 (gV g0 A0 A1 A2 A3)]) ?_ ?_
    · refine Sx.C.draw (.take 0 (.take 1 (.two 2 (.two 3 (.alone 4 (.alone 5 .nil)) 4 (.alone 3 (.alone 5 .nil))) 4 (.alone 2 (.alone 3 (.alone 5 .nil)))))) [vr b15 (gV g0 (.slice x14A0 g0.prog.length x14c0) (.slice x14A1 g0.wr.length x14c1) (.slice x14A2 g0.lv.length x14c2) (.slice x14A3 g0.seen.length x14c3)), vr b2 [.int .i64 e1.1, .int .i64 e1.2.1, .bool e1.2.2.1, .int .i64 e1.2.2.2]] (fun w S => St.pick S [0, 5] _ rfl (by decide)) (by kernel_rfl) (by kernel_rfl) (by kernel_rfl) ?_
      refine Sx.GT.ld 33 (.tmp 7) b15 0 0 (gV g0 (.slice x14A0 g0.prog.length x14c0) (.slice x14A1 g0.wr.length x14c1) (.slice x14A2 g0.lv.length x14c2) (.slice x14A3 g0.seen.length x14c3)) ((gV g0 (.slice x14A0 g0.prog.length x14c0) (.slice x14A1 g0.wr.length x14c1) (.slice x14A2 g0.lv.length x14c2) (.slice x14A3 g0.seen.length x14c3))) 0 (by rfl) (by rfl) (by kernel_rfl) (by kernel_rfl) (by rfl) (by kernel_rfl) (by kernel_rfl) (by kernel_rfl) ?_
      refine Sx.GT.ld 46 (.tmp 3) b2 0 1 [.int .i64 e1.1, .int .i64 e1.2.1, .bool e1.2.2.1, .int .i64 e1.2.2.2] [.int .i64 e1.1, .int .i64 e1.2.1, .bool e1.2.2.1, .int .i64 e1.2.2.2] 1 (by rfl) (by rfl) (by kernel_rfl) (by kernel_rfl) (by rfl) (by kernel_rfl) (by kernel_rfl) (by kernel_rfl) ?_
      refine Sx.GT.two ?_ ?_
      · refine Sx.Alone.plain 36 #[.agg #[.int .i64 e1.1, .int .i64 e1.2.1, .bool e1.2.2.1, .int .i64 e1.2.2.2]] (.agg #[.int .i64 e1.1, .int .i64 e1.2.1, .bool e1.2.2.1, .int .i64 e1.2.2.2]) (by rfl) (by kernel_rfl) (fun w => by kernel_rfl) (fun w S => by exact toExit_any e1.1 e1.2.1 e1.2.2.1 e1.2.2.2 _) (fun w S => St.pick S [0, 5] _ rfl (by decide)) ?_
        refine Sx.GT.two ?_ ?_
        · refine Sx.Alone.call 37 #[.agg ((gV g0 (.slice x14A0 g0.prog.length x14c0) (.slice x14A1 g0.wr.length x14c1) (.slice x14A2 g0.lv.length x14c2) (.slice x14A3 g0.seen.length x14c3))).toArray, .agg #[.int .i64 e1.1, .int .i64 e1.2.1, .bool e1.2.2.1, .int .i64 e1.2.2.2]] (by rfl) (by kernel_rfl) (fun w => by kernel_rfl) (fun w16 S => (impl_stop g0 _ e1 _ hw0 we1 hcr0 (St.rgG S 1 rfl)).mono fun e w16' hp => ?_)
          obtain ⟨x16_0, x16_1, x16_2, x16_3, rfl, ho, hb⟩ := hp
          obtain ⟨x16A0, x16c0, e0, -⟩ := ho.r0
          subst e0
          obtain ⟨x16A1, x16c1, e1, -⟩ := ho.r1
          subst e1
          obtain ⟨x16A2, x16c2, e2, -⟩ := ho.r2
          subst e2
          obtain ⟨x16A3, x16c3, e3, -⟩ := ho.r3
          subst e3
          refine ⟨_, _, rfl, St.gotG S hb ho, (fun w S => St.pick S [1, 6] _ rfl (by decide)), ?_⟩
          clear S ho hb
          refine Sx.GT.alone (Sx.Alone.alloc 33 (.agg #[.slice none 0 0, .int .i64 0, .int .i64 0, .slice none 0 0, .slice none 0 0, .int .i64 0, .int .i64 0, .bool false, .int .i64 0, .int .i64 0, .int .i64 0, .bool false, .int .i64 0, .bool false, .slice none 0 0]) [.slice none 0 0, .int .i64 0, .int .i64 0, .slice none 0 0, .slice none 0 0, .int .i64 0, .int .i64 0, .bool false, .int .i64 0, .int .i64 0, .int .i64 0, .bool false, .int .i64 0, .bool false, .slice none 0 0] (by rfl) (by rfl) (by kernel_rfl) (fun w => by kernel_rfl) (by kernel_rfl) (fun w S => St.pick S [1, 6] _ rfl (by decide)) (fun b17 => ?_))
          refine Sx.GT.alone (Sx.Alone.sto 33 (.tmp 8) (.tmp 28) b17 0 0 [.slice none 0 0, .int .i64 0, .int .i64 0, .slice none 0 0, .slice none 0 0, .int .i64 0, .int .i64 0, .bool false, .int .i64 0, .int .i64 0, .int .i64 0, .bool false, .int .i64 0, .bool false, .slice none 0 0] (gV (stopG g0 e1) (.slice x16A0 (stopG g0 e1).prog.length x16c0) (.slice x16A1 (stopG g0 e1).wr.length x16c1) (.slice x16A2 (stopG g0 e1).lv.length x16c2) (.slice x16A3 (stopG g0 e1).seen.length x16c3)) (gV (stopG g0 e1) (.slice x16A0 (stopG g0 e1).prog.length x16c0) (.slice x16A1 (stopG g0 e1).wr.length x16c1) (.slice x16A2 (stopG g0 e1).lv.length x16c2) (.slice x16A3 (stopG g0 e1).seen.length x16c3)) [vr b17 (gV (stopG g0 e1) (.slice x16A0 (stopG g0 e1).prog.length x16c0) (.slice x16A1 (stopG g0 e1).wr.length x16c1) (.slice x16A2 (stopG g0 e1).lv.length x16c2) (.slice x16A3 (stopG g0 e1).seen.length x16c3)), gI (w16.heap.size) (w16'.heap.size) (stopG g0 e1) (.slice x16A0 (stopG g0 e1).prog.length x16c0) (.slice x16A1 (stopG g0 e1).wr.length x16c1) (.slice x16A2 (stopG g0 e1).lv.length x16c2) (.slice x16A3 (stopG g0 e1).seen.length x16c3), vr b15 (gV g0 (.slice x14A0 g0.prog.length x14c0) (.slice x14A1 g0.wr.length x14c1) (.slice x14A2 g0.lv.length x14c2) (.slice x14A3 g0.seen.length x14c3)), gI (w14.heap.size) (w14'.heap.size) g0 (.slice x14A0 g0.prog.length x14c0) (.slice x14A1 g0.wr.length x14c1) (.slice x14A2 g0.lv.length x14c2) (.slice x14A3 g0.seen.length x14c3), vr y13_20 (gV (stopG g0 e1) (.slice y13_10 (stopG g0 e1).prog.length y13_11) (.slice y13_12 (stopG g0 e1).wr.length y13_13) (.slice y13_14 (stopG g0 e1).lv.length y13_15) (.slice y13_16 (stopG g0 e1).seen.length y13_17)), gI (y13_18) (y13_19) (stopG g0 e1) (.slice y13_10 (stopG g0 e1).prog.length y13_11) (.slice y13_12 (stopG g0 e1).wr.length y13_13) (.slice y13_14 (stopG g0 e1).lv.length y13_15) (.slice y13_16 (stopG g0 e1).seen.length y13_17), gI (y13_8) (y13_9) g0 (.slice y13_0 g0.prog.length y13_1) (.slice y13_2 g0.wr.length y13_3) (.slice y13_4 g0.lv.length y13_5) (.slice y13_6 g0.seen.length y13_7), vr b2 [.int .i64 e1.1, .int .i64 e1.2.1, .bool e1.2.2.1, .int .i64 e1.2.2.2], vr b1 (gV g0 A0 A1 A2 A3)] (by rfl) (by rfl) (by kernel_rfl) (by kernel_rfl) (by kernel_rfl) (by rfl) (by kernel_rfl) (by rfl) (by kernel_rfl) (by kernel_rfl) (by kernel_rfl) (fun w S => St.pick S [2, 7] _ rfl (by decide)) ?_)
          exact Sx.GT.nil (fun a w' hA S => ⟨rfl, x16A0, x16c0, x16A1, x16c1, x16A2, x16c2, x16A3, x16c3, w16.heap.size, w16'.heap.size, b17, (Sx.Ag.and hA (Sx.Ag.and hA (Sx.Ag.and hA (Sx.Ag.and hA (Sx.Ag.and hA (Sx.Ag.and hA (Sx.Ag.none hA) _ _ (by kernel_rfl)) _ _ (by kernel_rfl)) _ _ (by kernel_rfl)) _ _ (by kernel_rfl)) _ _ (by kernel_rfl)) _ _ (by kernel_rfl)), St.pick S [0, 1, 2, 3, 4, 5, 6, 7, 8] _ rfl (by decide)⟩)
        · refine Sx.Alone.alloc 33 (.agg #[.slice none 0 0, .int .i64 0, .int .i64 0, .slice none 0 0, .slice none 0 0, .int .i64 0, .int .i64 0, .bool false, .int .i64 0, .int .i64 0, .int .i64 0, .bool false, .int .i64 0, .bool false, .slice none 0 0]) [.slice none 0 0, .int .i64 0, .int .i64 0, .slice none 0 0, .slice none 0 0, .int .i64 0, .int .i64 0, .bool false, .int .i64 0, .int .i64 0, .int .i64 0, .bool false, .int .i64 0, .bool false, .slice none 0 0] (by rfl) (by rfl) (by kernel_rfl) (fun w => by kernel_rfl) (by kernel_rfl) (fun w S => St.pick S [0, 5] _ rfl (by decide)) (fun b18 => ?_)
          refine Sx.GT.alone (Sx.Alone.call 37 #[.agg ((gV g0 (.slice x14A0 g0.prog.length x14c0) (.slice x14A1 g0.wr.length x14c1) (.slice x14A2 g0.lv.length x14c2) (.slice x14A3 g0.seen.length x14c3))).toArray, .agg #[.int .i64 e1.1, .int .i64 e1.2.1, .bool e1.2.2.1, .int .i64 e1.2.2.2]] (by rfl) (by kernel_rfl) (fun w => by kernel_rfl) (fun w19 S => (impl_stop g0 _ e1 _ hw0 we1 hcr0 (St.rgG S 2 rfl)).mono fun e w19' hp => ?_))
          obtain ⟨x19_0, x19_1, x19_2, x19_3, rfl, ho, hb⟩ := hp
          obtain ⟨x19A0, x19c0, e0, -⟩ := ho.r0
          subst e0
          obtain ⟨x19A1, x19c1, e1, -⟩ := ho.r1
          subst e1
          obtain ⟨x19A2, x19c2, e2, -⟩ := ho.r2
          subst e2
          obtain ⟨x19A3, x19c3, e3, -⟩ := ho.r3
          subst e3
          refine ⟨_, _, rfl, St.gotG S hb ho, (fun w S => St.pick S [2, 7] _ rfl (by decide)), ?_⟩
          clear S ho hb
          refine Sx.GT.alone (Sx.Alone.sto 33 (.tmp 8) (.tmp 28) b18 0 1 [.slice none 0 0, .int .i64 0, .int .i64 0, .slice none 0 0, .slice none 0 0, .int .i64 0, .int .i64 0, .bool false, .int .i64 0, .int .i64 0, .int .i64 0, .bool false, .int .i64 0, .bool false, .slice none 0 0] (gV (stopG g0 e1) (.slice x19A0 (stopG g0 e1).prog.length x19c0) (.slice x19A1 (stopG g0 e1).wr.length x19c1) (.slice x19A2 (stopG g0 e1).lv.length x19c2) (.slice x19A3 (stopG g0 e1).seen.length x19c3)) (gV (stopG g0 e1) (.slice x19A0 (stopG g0 e1).prog.length x19c0) (.slice x19A1 (stopG g0 e1).wr.length x19c1) (.slice x19A2 (stopG g0 e1).lv.length x19c2) (.slice x19A3 (stopG g0 e1).seen.length x19c3)) [gI (w19.heap.size) (w19'.heap.size) (stopG g0 e1) (.slice x19A0 (stopG g0 e1).prog.length x19c0) (.slice x19A1 (stopG g0 e1).wr.length x19c1) (.slice x19A2 (stopG g0 e1).lv.length x19c2) (.slice x19A3 (stopG g0 e1).seen.length x19c3), vr b18 (gV (stopG g0 e1) (.slice x19A0 (stopG g0 e1).prog.length x19c0) (.slice x19A1 (stopG g0 e1).wr.length x19c1) (.slice x19A2 (stopG g0 e1).lv.length x19c2) (.slice x19A3 (stopG g0 e1).seen.length x19c3)), vr b15 (gV g0 (.slice x14A0 g0.prog.length x14c0) (.slice x14A1 g0.wr.length x14c1) (.slice x14A2 g0.lv.length x14c2) (.slice x14A3 g0.seen.length x14c3)), gI (w14.heap.size) (w14'.heap.size) g0 (.slice x14A0 g0.prog.length x14c0) (.slice x14A1 g0.wr.length x14c1) (.slice x14A2 g0.lv.length x14c2) (.slice x14A3 g0.seen.length x14c3), vr y13_20 (gV (stopG g0 e1) (.slice y13_10 (stopG g0 e1).prog.length y13_11) (.slice y13_12 (stopG g0 e1).wr.length y13_13) (.slice y13_14 (stopG g0 e1).lv.length y13_15) (.slice y13_16 (stopG g0 e1).seen.length y13_17)), gI (y13_18) (y13_19) (stopG g0 e1) (.slice y13_10 (stopG g0 e1).prog.length y13_11) (.slice y13_12 (stopG g0 e1).wr.length y13_13) (.slice y13_14 (stopG g0 e1).lv.length y13_15) (.slice y13_16 (stopG g0 e1).seen.length y13_17), gI (y13_8) (y13_9) g0 (.slice y13_0 g0.prog.length y13_1) (.slice y13_2 g0.wr.length y13_3) (.slice y13_4 g0.lv.length y13_5) (.slice y13_6 g0.seen.length y13_7), vr b2 [.int .i64 e1.1, .int .i64 e1.2.1, .bool e1.2.2.1, .int .i64 e1.2.2.2], vr b1 (gV g0 A0 A1 A2 A3)] (by rfl) (by rfl) (by kernel_rfl) (by kernel_rfl) (by kernel_rfl) (by rfl) (by kernel_rfl) (by rfl) (by kernel_rfl) (by kernel_rfl) (by kernel_rfl) (fun w S => St.pick S [2, 7] _ rfl (by decide)) ?_)
          exact Sx.GT.nil (fun a w' hA S => ⟨rfl, x19A0, x19c0, x19A1, x19c1, x19A2, x19c2, x19A3, x19c3, w19.heap.size, w19'.heap.size, b18, (Sx.Ag.and hA (Sx.Ag.and hA (Sx.Ag.and hA (Sx.Ag.and hA (Sx.Ag.and hA (Sx.Ag.and hA (Sx.Ag.none hA) _ _ (by kernel_rfl)) _ _ (by kernel_rfl)) _ _ (by kernel_rfl)) _ _ (by kernel_rfl)) _ _ (by kernel_rfl)) _ _ (by kernel_rfl)), St.pick S [1, 0, 2, 3, 4, 5, 6, 7, 8] _ rfl (by decide)⟩)
      · refine Sx.Alone.alloc 33 (.agg #[.slice none 0 0, .int .i64 0, .int .i64 0, .slice none 0 0, .slice none 0 0, .int .i64 0, .int .i64 0, .bool false, .int .i64 0, .int .i64 0, .int .i64 0, .bool false, .int .i64 0, .bool false, .slice none 0 0]) [.slice none 0 0, .int .i64 0, .int .i64 0, .slice none 0 0, .slice none 0 0, .int .i64 0, .int .i64 0, .bool false, .int .i64 0, .int .i64 0, .int .i64 0, .bool false, .int .i64 0, .bool false, .slice none 0 0] (by rfl) (by rfl) (by kernel_rfl) (fun w => by kernel_rfl) (by kernel_rfl) (fun w S => St.pick S [0, 5] _ rfl (by decide)) (fun b20 => ?_)
        refine Sx.GT.alone (Sx.Alone.plain 36 #[.agg #[.int .i64 e1.1, .int .i64 e1.2.1, .bool e1.2.2.1, .int .i64 e1.2.2.2]] (.agg #[.int .i64 e1.1, .int .i64 e1.2.1, .bool e1.2.2.1, .int .i64 e1.2.2.2]) (by rfl) (by kernel_rfl) (fun w => by kernel_rfl) (fun w S => by exact toExit_any e1.1 e1.2.1 e1.2.2.1 e1.2.2.2 _) (fun w S => St.pick S [1, 6] _ rfl (by decide)) ?_)
        refine Sx.GT.alone (Sx.Alone.call 37 #[.agg ((gV g0 (.slice x14A0 g0.prog.length x14c0) (.slice x14A1 g0.wr.length x14c1) (.slice x14A2 g0.lv.length x14c2) (.slice x14A3 g0.seen.length x14c3))).toArray, .agg #[.int .i64 e1.1, .int .i64 e1.2.1, .bool e1.2.2.1, .int .i64 e1.2.2.2]] (by rfl) (by kernel_rfl) (fun w => by kernel_rfl) (fun w21 S => (impl_stop g0 _ e1 _ hw0 we1 hcr0 (St.rgG S 2 rfl)).mono fun e w21' hp => ?_))
        obtain ⟨x21_0, x21_1, x21_2, x21_3, rfl, ho, hb⟩ := hp
        obtain ⟨x21A0, x21c0, e0, -⟩ := ho.r0
        subst e0
        obtain ⟨x21A1, x21c1, e1, -⟩ := ho.r1
        subst e1
        obtain ⟨x21A2, x21c2, e2, -⟩ := ho.r2
        subst e2
        obtain ⟨x21A3, x21c3, e3, -⟩ := ho.r3
        subst e3
        refine ⟨_, _, rfl, St.gotG S hb ho, (fun w S => St.pick S [2, 7] _ rfl (by decide)), ?_⟩
        clear S ho hb
        refine Sx.GT.alone (Sx.Alone.sto 33 (.tmp 8) (.tmp 28) b20 0 1 [.slice none 0 0, .int .i64 0, .int .i64 0, .slice none 0 0, .slice none 0 0, .int .i64 0, .int .i64 0, .bool false, .int .i64 0, .int .i64 0, .int .i64 0, .bool false, .int .i64 0, .bool false, .slice none 0 0] (gV (stopG g0 e1) (.slice x21A0 (stopG g0 e1).prog.length x21c0) (.slice x21A1 (stopG g0 e1).wr.length x21c1) (.slice x21A2 (stopG g0 e1).lv.length x21c2) (.slice x21A3 (stopG g0 e1).seen.length x21c3)) (gV (stopG g0 e1) (.slice x21A0 (stopG g0 e1).prog.length x21c0) (.slice x21A1 (stopG g0 e1).wr.length x21c1) (.slice x21A2 (stopG g0 e1).lv.length x21c2) (.slice x21A3 (stopG g0 e1).seen.length x21c3)) [gI (w21.heap.size) (w21'.heap.size) (stopG g0 e1) (.slice x21A0 (stopG g0 e1).prog.length x21c0) (.slice x21A1 (stopG g0 e1).wr.length x21c1) (.slice x21A2 (stopG g0 e1).lv.length x21c2) (.slice x21A3 (stopG g0 e1).seen.length x21c3), vr b20 (gV (stopG g0 e1) (.slice x21A0 (stopG g0 e1).prog.length x21c0) (.slice x21A1 (stopG g0 e1).wr.length x21c1) (.slice x21A2 (stopG g0 e1).lv.length x21c2) (.slice x21A3 (stopG g0 e1).seen.length x21c3)), vr b15 (gV g0 (.slice x14A0 g0.prog.length x14c0) (.slice x14A1 g0.wr.length x14c1) (.slice x14A2 g0.lv.length x14c2) (.slice x14A3 g0.seen.length x14c3)), gI (w14.heap.size) (w14'.heap.size) g0 (.slice x14A0 g0.prog.length x14c0) (.slice x14A1 g0.wr.length x14c1) (.slice x14A2 g0.lv.length x14c2) (.slice x14A3 g0.seen.length x14c3), vr y13_20 (gV (stopG g0 e1) (.slice y13_10 (stopG g0 e1).prog.length y13_11) (.slice y13_12 (stopG g0 e1).wr.length y13_13) (.slice y13_14 (stopG g0 e1).lv.length y13_15) (.slice y13_16 (stopG g0 e1).seen.length y13_17)), gI (y13_18) (y13_19) (stopG g0 e1) (.slice y13_10 (stopG g0 e1).prog.length y13_11) (.slice y13_12 (stopG g0 e1).wr.length y13_13) (.slice y13_14 (stopG g0 e1).lv.length y13_15) (.slice y13_16 (stopG g0 e1).seen.length y13_17), gI (y13_8) (y13_9) g0 (.slice y13_0 g0.prog.length y13_1) (.slice y13_2 g0.wr.length y13_3) (.slice y13_4 g0.lv.length y13_5) (.slice y13_6 g0.seen.length y13_7), vr b2 [.int .i64 e1.1, .int .i64 e1.2.1, .bool e1.2.2.1, .int .i64 e1.2.2.2], vr b1 (gV g0 A0 A1 A2 A3)] (by rfl) (by rfl) (by kernel_rfl) (by kernel_rfl) (by kernel_rfl) (by rfl) (by kernel_rfl) (by rfl) (by kernel_rfl) (by kernel_rfl) (by kernel_rfl) (fun w S => St.pick S [2, 7] _ rfl (by decide)) ?_)
        exact Sx.GT.nil (fun a w' hA S => ⟨rfl, x21A0, x21c0, x21A1, x21c1, x21A2, x21c2, x21A3, x21c3, w21.heap.size, w21'.heap.size, b20, (Sx.Ag.and hA (Sx.Ag.and hA (Sx.Ag.and hA (Sx.Ag.and hA (Sx.Ag.and hA (Sx.Ag.and hA (Sx.Ag.none hA) _ _ (by kernel_rfl)) _ _ (by kernel_rfl)) _ _ (by kernel_rfl)) _ _ (by kernel_rfl)) _ _ (by kernel_rfl)) _ _ (by kernel_rfl)), St.pick S [1, 0, 2, 3, 4, 5, 6, 7, 8] _ rfl (by decide)⟩)
    rintro e a w' ⟨rfl, y22_0, y22_1, y22_2, y22_3, y22_4, y22_5, y22_6, y22_7, y22_8, y22_9, y22_10, hA, S⟩
    refine Sx.E.out ?_ hA S
    clear hA S a w'
    refine Sx.E.next ?_
    refine Sx.C.seq ?_
    refine Sx.C.seq ?_
    refine Sx.C.region ?_
    refine Sx.G.ld 33 (.tmp 8) y22_10 0 0 (gV (stopG g0 e1) (.slice y22_0 (stopG g0 e1).prog.length y22_1) (.slice y22_2 (stopG g0 e1).wr.length y22_3) (.slice y22_4 (stopG g0 e1).lv.length y22_5) (.slice y22_6 (stopG g0 e1).seen.length y22_7)) ((gV (stopG g0 e1) (.slice y22_0 (stopG g0 e1).prog.length y22_1) (.slice y22_2 (stopG g0 e1).wr.length y22_3) (.slice y22_4 (stopG g0 e1).lv.length y22_5) (.slice y22_6 (stopG g0 e1).seen.length y22_7))) rfl (by kernel_rfl) (by kernel_rfl) rfl (by kernel_rfl) (by kernel_rfl) (by kernel_rfl) ?_
    refine Sx.G.ld 33 (.tmp 6) y13_20 0 4 (gV (stopG g0 e1) (.slice y13_10 (stopG g0 e1).prog.length y13_11) (.slice y13_12 (stopG g0 e1).wr.length y13_13) (.slice y13_14 (stopG g0 e1).lv.length y13_15) (.slice y13_16 (stopG g0 e1).seen.length y13_17)) ((gV (stopG g0 e1) (.slice y13_10 (stopG g0 e1).prog.length y13_11) (.slice y13_12 (stopG g0 e1).wr.length y13_13) (.slice y13_14 (stopG g0 e1).lv.length y13_15) (.slice y13_16 (stopG g0 e1).seen.length y13_17))) rfl (by kernel_rfl) (by kernel_rfl) rfl (by kernel_rfl) (by kernel_rfl) (by kernel_rfl) ?_
    refine Sx.G.plain 19 #[.agg ((gV (stopG g0 e1) (.slice y22_0 (stopG g0 e1).prog.length y22_1) (.slice y22_2 (stopG g0 e1).wr.length y22_3) (.slice y22_4 (stopG g0 e1).lv.length y22_5) (.slice y22_6 (stopG g0 e1).seen.length y22_7))).toArray, .agg ((gV (stopG g0 e1) (.slice y13_10 (stopG g0 e1).prog.length y13_11) (.slice y13_12 (stopG g0 e1).wr.length y13_13) (.slice y13_14 (stopG g0 e1).lv.length y13_15) (.slice y13_16 (stopG g0 e1).seen.length y13_17))).toArray] (.bool true) (by kernel_rfl) (fun w => by kernel_rfl) (fun w S => by exact eqGuest_same _ _ _ _ (stopG g0 e1) (.slice y22_0 (stopG g0 e1).prog.length y22_1) (.slice y22_2 (stopG g0 e1).wr.length y22_3) (.slice y22_4 (stopG g0 e1).lv.length y22_5) (.slice y22_6 (stopG g0 e1).seen.length y22_7) (.slice y13_10 (stopG g0 e1).prog.length y13_11) (.slice y13_12 (stopG g0 e1).wr.length y13_13) (.slice y13_14 (stopG g0 e1).lv.length y13_15) (.slice y13_16 (stopG g0 e1).seen.length y13_17) _ hcres (St.hiG S 1 rfl) (St.hiG S 5 rfl) (St.gRG S 1 rfl) (St.gRG S 5 rfl)) ?_
    refine Sx.G.pure (.bool false) (by kernel_rfl) (fun w => by kernel_rfl) ?_
    refine Sx.G.nil ?_
    refine Sx.E.next ?_
    refine Sx.C.no (by kernel_rfl) (by kernel_rfl) ?_
    refine Sx.C.skip ?_
    refine Sx.E.next ?_
    refine Sx.C.seq ?_
    refine Sx.C.seq ?_
    refine Sx.C.draw (.take 0 (.take 1 (.alone 2 (.alone 3 (.take 4 .nil))))) [vr b15 (gV g0 (.slice x14A0 g0.prog.length x14c0) (.slice x14A1 g0.wr.length x14c1) (.slice x14A2 g0.lv.length x14c2) (.slice x14A3 g0.seen.length x14c3)), vr b1 (gV g0 A0 A1 A2 A3)] (fun w S => St.pick S [2, 8] _ rfl (by decide)) (by kernel_rfl) (by kernel_rfl) (by kernel_rfl) ?_
    refine Sx.GT.ld 33 (.tmp 7) b15 0 0 (gV g0 (.slice x14A0 g0.prog.length x14c0) (.slice x14A1 g0.wr.length x14c1) (.slice x14A2 g0.lv.length x14c2) (.slice x14A3 g0.seen.length x14c3)) ((gV g0 (.slice x14A0 g0.prog.length x14c0) (.slice x14A1 g0.wr.length x14c1) (.slice x14A2 g0.lv.length x14c2) (.slice x14A3 g0.seen.length x14c3))) 0 (by rfl) (by rfl) (by kernel_rfl) (by kernel_rfl) (by rfl) (by kernel_rfl) (by kernel_rfl) (by kernel_rfl) ?_
    refine Sx.GT.ld 48 (.tmp 2) b1 0 1 (gV g0 A0 A1 A2 A3) ((gV g0 A0 A1 A2 A3)) 1 (by rfl) (by rfl) (by kernel_rfl) (by kernel_rfl) (by rfl) (by kernel_rfl) (by kernel_rfl) (by kernel_rfl) ?_
    refine Sx.GT.alone (Sx.Alone.call 26 #[.agg ((gV g0 A0 A1 A2 A3)).toArray] (by rfl) (by kernel_rfl) (fun w => by kernel_rfl) (fun w23 S => (toGuest_any 0 g0 A0 A1 A2 A3 _ hcg0 (St.oldG S h0)).mono fun e w23' hp => ?_))
    obtain ⟨x23_0, x23_1, x23_2, x23_3, rfl, ho, hb⟩ := hp
    obtain ⟨x23A0, x23c0, e0, -⟩ := ho.r0
    subst e0
    obtain ⟨x23A1, x23c1, e1, -⟩ := ho.r1
    subst e1
    obtain ⟨x23A2, x23c2, e2, -⟩ := ho.r2
    subst e2
    obtain ⟨x23A3, x23c3, e3, -⟩ := ho.r3
    subst e3
    refine ⟨_, _, rfl, St.gotG S hb ho, (fun w S => St.pick S [3, 9] _ rfl (by decide)), ?_⟩
    clear S ho hb
    refine Sx.GT.alone (Sx.Alone.plain 19 #[.agg ((gV g0 (.slice x14A0 g0.prog.length x14c0) (.slice x14A1 g0.wr.length x14c1) (.slice x14A2 g0.lv.length x14c2) (.slice x14A3 g0.seen.length x14c3))).toArray, .agg (gV g0 (.slice x23A0 g0.prog.length x23c0) (.slice x23A1 g0.wr.length x23c1) (.slice x23A2 g0.lv.length x23c2) (.slice x23A3 g0.seen.length x23c3)).toArray] (.bool true) (by rfl) (by kernel_rfl) (fun w => by kernel_rfl) (fun w S => by exact eqGuest_same _ _ _ _ g0 (.slice x14A0 g0.prog.length x14c0) (.slice x14A1 g0.wr.length x14c1) (.slice x14A2 g0.lv.length x14c2) (.slice x14A3 g0.seen.length x14c3) (.slice x23A0 g0.prog.length x23c0) (.slice x23A1 g0.wr.length x23c1) (.slice x23A2 g0.lv.length x23c2) (.slice x23A3 g0.seen.length x23c3) _ hcg0 (St.hiG S 4 rfl) (St.hiG S 0 rfl) (St.gRG S 4 rfl) (St.gRG S 0 rfl)) (fun w S => St.pick S [3, 9] _ rfl (by decide)) ?_)
    refine Sx.GT.pure (.bool false) 4 (by rfl) (by kernel_rfl) (fun w => by kernel_rfl) ?_
    refine Sx.GT.nil ?_
    refine Sx.E.next ?_
    refine Sx.C.no (by kernel_rfl) (by kernel_rfl) ?_
    refine Sx.C.skip ?_
    refine Sx.E.next ?_
    refine Sx.C.seq ?_
    refine Sx.C.region ?_
    refine Sx.G.pure (.int .i64 1) (by kernel_rfl) (fun w => by kernel_rfl) ?_
    refine Sx.G.nil ?_
    refine Sx.E.next ?_
    refine Sx.C.seq ?_
    refine Sx.C.region ?_
    refine Sx.G.ld 33 (.tmp 7) b15 0 3 (gV g0 (.slice x14A0 g0.prog.length x14c0) (.slice x14A1 g0.wr.length x14c1) (.slice x14A2 g0.lv.length x14c2) (.slice x14A3 g0.seen.length x14c3)) ((gV g0 (.slice x14A0 g0.prog.length x14c0) (.slice x14A1 g0.wr.length x14c1) (.slice x14A2 g0.lv.length x14c2) (.slice x14A3 g0.seen.length x14c3))) rfl (by kernel_rfl) (by kernel_rfl) rfl (by kernel_rfl) (by kernel_rfl) (by kernel_rfl) ?_
    refine Sx.G.pure (.int .i64 1) (by kernel_rfl) (fun w => by kernel_rfl) ?_
    refine Sx.G.call 22 #[.agg ((gV g0 (.slice x14A0 g0.prog.length x14c0) (.slice x14A1 g0.wr.length x14c1) (.slice x14A2 g0.lv.length x14c2) (.slice x14A3 g0.seen.length x14c3))).toArray, .int .i64 1] (by kernel_rfl) (fun w => by kernel_rfl) (fun w24 S => (markGuest_any _ _ 1 g0 (.slice x14A0 g0.prog.length x14c0) (.slice x14A1 g0.wr.length x14c1) (.slice x14A2 g0.lv.length x14c2) (.slice x14A3 g0.seen.length x14c3) _ hcg0 (by omega) (St.hiG S 4 rfl) (St.at_ S 4 rfl)).mono fun e w24' hp => ?_)
    obtain ⟨he, ho, ht⟩ := hp
    rw [← HQ1.out] at he
    subst he
    refine ⟨_, _, rfl, St.markG S 4 rfl ht ho, ?_⟩
    clear S ht ho
    refine Sx.G.pure (.int .i64 q1) (by kernel_rfl) (fun w => by kernel_rfl) ?_
    refine Sx.G.nil ?_
    refine Sx.E.next ?_
    refine Sx.C.seq ?_
    refine Sx.C.seq ?_
    refine Sx.C.region ?_
    refine Sx.G.pure (.int .i64 q1) (by kernel_rfl) (fun w => by kernel_rfl) ?_
    refine Sx.G.pureq (.bool (decide (q1 < 0))) (.bool false) (by kernel_rfl) (fun w => by kernel_rfl) (congrArg Value.bool (decide_eq_false hp1)) ?_
    refine Sx.G.pure (.bool false) (by kernel_rfl) (fun w => by kernel_rfl) ?_
    refine Sx.G.ld 33 (.tmp 8) y22_10 0 1 (gV (stopG g0 e1) (.slice y22_0 (stopG g0 e1).prog.length y22_1) (.slice y22_2 (stopG g0 e1).wr.length y22_3) (.slice y22_4 (stopG g0 e1).lv.length y22_5) (.slice y22_6 (stopG g0 e1).seen.length y22_7)) ((gV (stopG g0 e1) (.slice y22_0 (stopG g0 e1).prog.length y22_1) (.slice y22_2 (stopG g0 e1).wr.length y22_3) (.slice y22_4 (stopG g0 e1).lv.length y22_5) (.slice y22_6 (stopG g0 e1).seen.length y22_7))) rfl (by kernel_rfl) (by kernel_rfl) rfl (by kernel_rfl) (by kernel_rfl) (by kernel_rfl) ?_
    refine Sx.G.ld 33 (.tmp 6) y13_20 0 5 (gV (stopG g0 e1) (.slice y13_10 (stopG g0 e1).prog.length y13_11) (.slice y13_12 (stopG g0 e1).wr.length y13_13) (.slice y13_14 (stopG g0 e1).lv.length y13_15) (.slice y13_16 (stopG g0 e1).seen.length y13_17)) ((gV (stopG g0 e1) (.slice y13_10 (stopG g0 e1).prog.length y13_11) (.slice y13_12 (stopG g0 e1).wr.length y13_13) (.slice y13_14 (stopG g0 e1).lv.length y13_15) (.slice y13_16 (stopG g0 e1).seen.length y13_17))) rfl (by kernel_rfl) (by kernel_rfl) rfl (by kernel_rfl) (by kernel_rfl) (by kernel_rfl) ?_
    refine Sx.G.plain 19 #[.agg ((gV (stopG g0 e1) (.slice y22_0 (stopG g0 e1).prog.length y22_1) (.slice y22_2 (stopG g0 e1).wr.length y22_3) (.slice y22_4 (stopG g0 e1).lv.length y22_5) (.slice y22_6 (stopG g0 e1).seen.length y22_7))).toArray, .agg ((gV (stopG g0 e1) (.slice y13_10 (stopG g0 e1).prog.length y13_11) (.slice y13_12 (stopG g0 e1).wr.length y13_13) (.slice y13_14 (stopG g0 e1).lv.length y13_15) (.slice y13_16 (stopG g0 e1).seen.length y13_17))).toArray] (.bool true) (by kernel_rfl) (fun w => by kernel_rfl) (fun w S => by exact eqGuest_same _ _ _ _ (stopG g0 e1) (.slice y22_0 (stopG g0 e1).prog.length y22_1) (.slice y22_2 (stopG g0 e1).wr.length y22_3) (.slice y22_4 (stopG g0 e1).lv.length y22_5) (.slice y22_6 (stopG g0 e1).seen.length y22_7) (.slice y13_10 (stopG g0 e1).prog.length y13_11) (.slice y13_12 (stopG g0 e1).wr.length y13_13) (.slice y13_14 (stopG g0 e1).lv.length y13_15) (.slice y13_16 (stopG g0 e1).seen.length y13_17) _ hcres (St.hiG S 2 rfl) (St.hiG S 6 rfl) (St.gRG S 2 rfl) (St.gRG S 6 rfl)) ?_
    refine Sx.G.pure (.bool false) (by kernel_rfl) (fun w => by kernel_rfl) ?_
    refine Sx.G.pure (.bool false) (by kernel_rfl) (fun w => by kernel_rfl) ?_
    refine Sx.G.nil ?_
    refine Sx.E.next ?_
    refine Sx.C.no (by kernel_rfl) (by kernel_rfl) ?_
    refine Sx.C.skip ?_
    refine Sx.E.next ?_
    refine Sx.C.seq ?_
    refine Sx.C.region ?_
    refine Sx.G.pure (.int .i64 1) (by kernel_rfl) (fun w => by kernel_rfl) ?_
    refine Sx.G.nil ?_
    refine Sx.E.next ?_
    refine Sx.C.seq ?_
    refine Sx.C.region ?_
    refine Sx.G.ld 33 (.tmp 8) y22_10 0 1 (gV (stopG g0 e1) (.slice y22_0 (stopG g0 e1).prog.length y22_1) (.slice y22_2 (stopG g0 e1).wr.length y22_3) (.slice y22_4 (stopG g0 e1).lv.length y22_5) (.slice y22_6 (stopG g0 e1).seen.length y22_7)) ((gV (stopG g0 e1) (.slice y22_0 (stopG g0 e1).prog.length y22_1) (.slice y22_2 (stopG g0 e1).wr.length y22_3) (.slice y22_4 (stopG g0 e1).lv.length y22_5) (.slice y22_6 (stopG g0 e1).seen.length y22_7))) rfl (by kernel_rfl) (by kernel_rfl) rfl (by kernel_rfl) (by kernel_rfl) (by kernel_rfl) ?_
    refine Sx.G.pure (.int .i64 1) (by kernel_rfl) (fun w => by kernel_rfl) ?_
    refine Sx.G.call 22 #[.agg ((gV (stopG g0 e1) (.slice y22_0 (stopG g0 e1).prog.length y22_1) (.slice y22_2 (stopG g0 e1).wr.length y22_3) (.slice y22_4 (stopG g0 e1).lv.length y22_5) (.slice y22_6 (stopG g0 e1).seen.length y22_7))).toArray, .int .i64 1] (by kernel_rfl) (fun w => by kernel_rfl) (fun w25 S => (markGuest_any _ _ 1 (stopG g0 e1) (.slice y22_0 (stopG g0 e1).prog.length y22_1) (.slice y22_2 (stopG g0 e1).wr.length y22_3) (.slice y22_4 (stopG g0 e1).lv.length y22_5) (.slice y22_6 (stopG g0 e1).seen.length y22_7) _ hcres (by omega) (St.hiG S 2 rfl) (St.at_ S 2 rfl)).mono fun e w25' hp => ?_)
    obtain ⟨he, ho, ht⟩ := hp
    rw [← HQ2.out] at he
    subst he
    refine ⟨_, _, rfl, St.markG S 2 rfl ht ho, ?_⟩
    clear S ht ho
    refine Sx.G.pure (.int .i64 q2) (by kernel_rfl) (fun w => by kernel_rfl) ?_
    refine Sx.G.nil ?_
    refine Sx.E.next ?_
    refine Sx.C.seq ?_
    refine Sx.C.region ?_
    refine Sx.G.pure (.int .i64 1) (by kernel_rfl) (fun w => by kernel_rfl) ?_
    refine Sx.G.nil ?_
    refine Sx.E.next ?_
    refine Sx.C.seq ?_
    refine Sx.C.region ?_
    refine Sx.G.ld 33 (.tmp 8) y22_10 0 1 (gV (stopG g0 e1) (.slice y22_0 (stopG g0 e1).prog.length y22_1) (.slice y22_2 (stopG g0 e1).wr.length y22_3) (.slice y22_4 (stopG g0 e1).lv.length y22_5) (.slice y22_6 (stopG g0 e1).seen.length y22_7)) ((gV (stopG g0 e1) (.slice y22_0 (stopG g0 e1).prog.length y22_1) (.slice y22_2 (stopG g0 e1).wr.length y22_3) (.slice y22_4 (stopG g0 e1).lv.length y22_5) (.slice y22_6 (stopG g0 e1).seen.length y22_7))) rfl (by kernel_rfl) (by kernel_rfl) rfl (by kernel_rfl) (by kernel_rfl) (by kernel_rfl) ?_
    refine Sx.G.pure (.int .i64 1) (by kernel_rfl) (fun w => by kernel_rfl) ?_
    refine Sx.G.call 23 #[.agg ((gV (stopG g0 e1) (.slice y22_0 (stopG g0 e1).prog.length y22_1) (.slice y22_2 (stopG g0 e1).wr.length y22_3) (.slice y22_4 (stopG g0 e1).lv.length y22_5) (.slice y22_6 (stopG g0 e1).seen.length y22_7))).toArray, .int .i64 1] (by kernel_rfl) (fun w => by kernel_rfl) (fun w26 S => (heldGuest_any _ _ 1 (stopG g0 e1) (.slice y22_0 (stopG g0 e1).prog.length y22_1) (.slice y22_2 (stopG g0 e1).wr.length y22_3) (.slice y22_4 (stopG g0 e1).lv.length y22_5) (.slice y22_6 (stopG g0 e1).seen.length y22_7) _ hcres (by omega) (St.hiG S 2 rfl) (St.gRG S 2 rfl)).mono fun e w26' hp => ?_)
    obtain ⟨he, hb⟩ := hp
    rw [← HQ2.out] at he
    subst he
    refine ⟨_, _, rfl, S.call hb, ?_⟩
    clear S hb
    refine Sx.G.pure (.int .i64 q2) (by kernel_rfl) (fun w => by kernel_rfl) ?_
    refine Sx.G.nil ?_
    refine Sx.E.next ?_
    refine Sx.C.seq ?_
    refine Sx.C.seq ?_
    refine Sx.C.region ?_
    refine Sx.G.pure (.int .i64 q2) (by kernel_rfl) (fun w => by kernel_rfl) ?_
    refine Sx.G.pureq (.bool (decide (q2 < 0))) (.bool false) (by kernel_rfl) (fun w => by kernel_rfl) (congrArg Value.bool (decide_eq_false hp2)) ?_
    refine Sx.G.nil ?_
    refine Sx.E.next ?_
    refine Sx.C.no (by kernel_rfl) (by kernel_rfl) ?_
    refine Sx.C.skip ?_
    refine Sx.E.next ?_
    refine Sx.C.seq ?_
    refine Sx.C.seq ?_
    refine Sx.C.region ?_
    refine Sx.G.pure (.int .i64 q2) (by kernel_rfl) (fun w => by kernel_rfl) ?_
    refine Sx.G.pure (.int .i64 q2) (by kernel_rfl) (fun w => by kernel_rfl) ?_
    refine Sx.G.pureq (.bool (q2 != q2)) (.bool false) (by kernel_rfl) (fun w => by kernel_rfl) (congrArg Value.bool (bne_self_eq_false _)) ?_
    refine Sx.G.nil ?_
    refine Sx.E.next ?_
    refine Sx.C.no (by kernel_rfl) (by kernel_rfl) ?_
    refine Sx.C.skip ?_
    refine Sx.E.next ?_
    refine Sx.C.seq ?_
    refine Sx.C.cut (fun e a w' => e = .normal ∧ ∃ (Y0 : Option Addr) (Y1 : Nat) (Y2 : Option Addr) (Y3 : Nat) (Y4 : Option Addr) (Y5 : Nat) (Y6 : Option Addr) (Y7 : Nat) (Y8 : Nat) (Y9 : Nat) (Y10 : Option Addr) (Y11 : Nat) (Y12 : Option Addr) (Y13 : Nat) (Y14 : Option Addr) (Y15 : Nat) (Y16 : Option Addr) (Y17 : Nat) (Y18 : Nat) (Y19 : Nat) (Y20 : Nat), Sx.Ag 77 [(4, .bool false), (6, .pointer (some ⟨y13_20, 0, none⟩)), (8, .pointer (some ⟨y22_10, 0, none⟩)), (10, .int .i64 q2), (11, .int .i64 q2), (12, .pointer (some ⟨Y20, 0, none⟩))] a ∧ St w w' [vr Y20 (gV (stopG g0 e1) (.slice Y10 (stopG g0 e1).prog.length Y11) (.slice Y12 (stopG g0 e1).wr.length Y13) (.slice Y14 (stopG g0 e1).lv.length Y15) (.slice Y16 (stopG g0 e1).seen.length Y17)), gI (Y18) (Y19) (stopG g0 e1) (.slice Y10 (stopG g0 e1).prog.length Y11) (.slice Y12 (stopG g0 e1).wr.length Y13) (.slice Y14 (stopG g0 e1).lv.length Y15) (.slice Y16 (stopG g0 e1).seen.length Y17), gI (Y8) (Y9) g0 (.slice Y0 g0.prog.length Y1) (.slice Y2 g0.wr.length Y3) (.slice Y4 g0.lv.length Y5) (.slice Y6 g0.seen.length Y7), gI (w23.heap.size) (w23'.heap.size) g0 (.slice x23A0 g0.prog.length x23c0) (.slice x23A1 g0.wr.length x23c1) (.slice x23A2 g0.lv.length x23c2) (.slice x23A3 g0.seen.length x23c3), vr y22_10 (gV (stopG g0 e1) (.slice y22_0 (stopG g0 e1).prog.length y22_1) (.slice y22_2 (stopG g0 e1).wr.length y22_3) (.slice y22_4 (stopG g0 e1).lv.length y22_5) (.slice y22_6 (stopG g0 e1).seen.length y22_7)), gI (y22_8) (y22_9) (gmark 1 (stopG g0 e1)) (.slice y22_0 (stopG g0 e1).prog.length y22_1) (.slice y22_2 (stopG g0 e1).wr.length y22_3) (.slice y22_4 (stopG g0 e1).lv.length y22_5) (.slice y22_6 (stopG g0 e1).seen.length y22_7), vr b15 (gV g0 (.slice x14A0 g0.prog.length x14c0) (.slice x14A1 g0.wr.length x14c1) (.slice x14A2 g0.lv.length x14c2) (.slice x14A3 g0.seen.length x14c3)), gI (w14.heap.size) (w14'.heap.size) (gmark 1 g0) (.slice x14A0 g0.prog.length x14c0) (.slice x14A1 g0.wr.length x14c1) (.slice x14A2 g0.lv.length x14c2) (.slice x14A3 g0.seen.length x14c3), vr y13_20 (gV (stopG g0 e1) (.slice y13_10 (stopG g0 e1).prog.length y13_11) (.slice y13_12 (stopG g0 e1).wr.length y13_13) (.slice y13_14 (stopG g0 e1).lv.length y13_15) (.slice y13_16 (stopG g0 e1).seen.length y13_17)), gI (y13_18) (y13_19) (stopG g0 e1) (.slice y13_10 (stopG g0 e1).prog.length y13_11) (.slice y13_12 (stopG g0 e1).wr.length y13_13) (.slice y13_14 (stopG g0 e1).lv.length y13_15) (.slice y13_16 (stopG g0 e1).seen.length y13_17), gI (y13_8) (y13_9) g0 (.slice y13_0 g0.prog.length y13_1) (.slice y13_2 g0.wr.length y13_3) (.slice y13_4 g0.lv.length y13_5) (.slice y13_6 g0.seen.length y13_7), vr b2 [.int .i64 e1.1, .int .i64 e1.2.1, .bool e1.2.2.1, .int .i64 e1.2.2.2], vr b1 (gV g0 A0 A1 A2 A3)]) ?_ ?_
    · refine Sx.C.draw (.take 0 (.take 2 (.two 1 (.two 3 (.two 4 (.alone 5 (.alone 6 .nil)) 5 (.alone 4 (.alone 6 .nil))) 5 (.alone 3 (.alone 4 (.alone 6 .nil)))) 5 (.alone 1 (.alone 3 (.alone 4 (.alone 6 .nil))))))) [vr b2 [.int .i64 e1.1, .int .i64 e1.2.1, .bool e1.2.2.1, .int .i64 e1.2.2.2], vr b1 (gV g0 A0 A1 A2 A3)] (fun w S => St.pick S [8, 9] _ rfl (by decide)) (by kernel_rfl) (by kernel_rfl) (by kernel_rfl) ?_
      refine Sx.GT.ld 48 (.tmp 2) b1 0 1 (gV g0 A0 A1 A2 A3) ((gV g0 A0 A1 A2 A3)) 0 (by rfl) (by rfl) (by kernel_rfl) (by kernel_rfl) (by rfl) (by kernel_rfl) (by kernel_rfl) (by kernel_rfl) ?_
      refine Sx.GT.ld 46 (.tmp 3) b2 0 0 [.int .i64 e1.1, .int .i64 e1.2.1, .bool e1.2.2.1, .int .i64 e1.2.2.2] [.int .i64 e1.1, .int .i64 e1.2.1, .bool e1.2.2.1, .int .i64 e1.2.2.2] 2 (by rfl) (by rfl) (by kernel_rfl) (by kernel_rfl) (by rfl) (by kernel_rfl) (by kernel_rfl) (by kernel_rfl) ?_
      refine Sx.GT.two ?_ ?_
      · refine Sx.Alone.call 26 #[.agg ((gV g0 A0 A1 A2 A3)).toArray] (by rfl) (by kernel_rfl) (fun w => by kernel_rfl) (fun w27 S => (toGuest_any 0 g0 A0 A1 A2 A3 _ hcg0 (St.oldG S h0)).mono fun e w27' hp => ?_)
        obtain ⟨x27_0, x27_1, x27_2, x27_3, rfl, ho, hb⟩ := hp
        obtain ⟨x27A0, x27c0, e0, -⟩ := ho.r0
        subst e0
        obtain ⟨x27A1, x27c1, e1, -⟩ := ho.r1
        subst e1
        obtain ⟨x27A2, x27c2, e2, -⟩ := ho.r2
        subst e2
        obtain ⟨x27A3, x27c3, e3, -⟩ := ho.r3
        subst e3
        refine ⟨_, _, rfl, St.gotG S hb ho, (fun w S => St.pick S [9, 10] _ rfl (by decide)), ?_⟩
        clear S ho hb
        refine Sx.GT.two ?_ ?_
        · refine Sx.Alone.plain 36 #[.agg #[.int .i64 e1.1, .int .i64 e1.2.1, .bool e1.2.2.1, .int .i64 e1.2.2.2]] (.agg #[.int .i64 e1.1, .int .i64 e1.2.1, .bool e1.2.2.1, .int .i64 e1.2.2.2]) (by rfl) (by kernel_rfl) (fun w => by kernel_rfl) (fun w S => by exact toExit_any e1.1 e1.2.1 e1.2.2.1 e1.2.2.2 _) (fun w S => St.pick S [9, 10] _ rfl (by decide)) ?_
          refine Sx.GT.two ?_ ?_
          · refine Sx.Alone.call 37 #[.agg (gV g0 (.slice x27A0 g0.prog.length x27c0) (.slice x27A1 g0.wr.length x27c1) (.slice x27A2 g0.lv.length x27c2) (.slice x27A3 g0.seen.length x27c3)).toArray, .agg #[.int .i64 e1.1, .int .i64 e1.2.1, .bool e1.2.2.1, .int .i64 e1.2.2.2]] (by rfl) (by kernel_rfl) (fun w => by kernel_rfl) (fun w28 S => (impl_stop g0 _ e1 _ hw0 we1 hcr0 (St.rgG S 0 rfl)).mono fun e w28' hp => ?_)
            obtain ⟨x28_0, x28_1, x28_2, x28_3, rfl, ho, hb⟩ := hp
            obtain ⟨x28A0, x28c0, e0, -⟩ := ho.r0
            subst e0
            obtain ⟨x28A1, x28c1, e1, -⟩ := ho.r1
            subst e1
            obtain ⟨x28A2, x28c2, e2, -⟩ := ho.r2
            subst e2
            obtain ⟨x28A3, x28c3, e3, -⟩ := ho.r3
            subst e3
            refine ⟨_, _, rfl, St.gotG S hb ho, (fun w S => St.pick S [10, 11] _ rfl (by decide)), ?_⟩
            clear S ho hb
            refine Sx.GT.alone (Sx.Alone.alloc 33 (.agg #[.slice none 0 0, .int .i64 0, .int .i64 0, .slice none 0 0, .slice none 0 0, .int .i64 0, .int .i64 0, .bool false, .int .i64 0, .int .i64 0, .int .i64 0, .bool false, .int .i64 0, .bool false, .slice none 0 0]) [.slice none 0 0, .int .i64 0, .int .i64 0, .slice none 0 0, .slice none 0 0, .int .i64 0, .int .i64 0, .bool false, .int .i64 0, .int .i64 0, .int .i64 0, .bool false, .int .i64 0, .bool false, .slice none 0 0] (by rfl) (by rfl) (by kernel_rfl) (fun w => by kernel_rfl) (by kernel_rfl) (fun w S => St.pick S [10, 11] _ rfl (by decide)) (fun b29 => ?_))
            refine Sx.GT.alone (Sx.Alone.sto 33 (.tmp 12) (.tmp 64) b29 0 0 [.slice none 0 0, .int .i64 0, .int .i64 0, .slice none 0 0, .slice none 0 0, .int .i64 0, .int .i64 0, .bool false, .int .i64 0, .int .i64 0, .int .i64 0, .bool false, .int .i64 0, .bool false, .slice none 0 0] (gV (stopG g0 e1) (.slice x28A0 (stopG g0 e1).prog.length x28c0) (.slice x28A1 (stopG g0 e1).wr.length x28c1) (.slice x28A2 (stopG g0 e1).lv.length x28c2) (.slice x28A3 (stopG g0 e1).seen.length x28c3)) (gV (stopG g0 e1) (.slice x28A0 (stopG g0 e1).prog.length x28c0) (.slice x28A1 (stopG g0 e1).wr.length x28c1) (.slice x28A2 (stopG g0 e1).lv.length x28c2) (.slice x28A3 (stopG g0 e1).seen.length x28c3)) [vr b29 (gV (stopG g0 e1) (.slice x28A0 (stopG g0 e1).prog.length x28c0) (.slice x28A1 (stopG g0 e1).wr.length x28c1) (.slice x28A2 (stopG g0 e1).lv.length x28c2) (.slice x28A3 (stopG g0 e1).seen.length x28c3)), gI (w28.heap.size) (w28'.heap.size) (stopG g0 e1) (.slice x28A0 (stopG g0 e1).prog.length x28c0) (.slice x28A1 (stopG g0 e1).wr.length x28c1) (.slice x28A2 (stopG g0 e1).lv.length x28c2) (.slice x28A3 (stopG g0 e1).seen.length x28c3), gI (w27.heap.size) (w27'.heap.size) g0 (.slice x27A0 g0.prog.length x27c0) (.slice x27A1 g0.wr.length x27c1) (.slice x27A2 g0.lv.length x27c2) (.slice x27A3 g0.seen.length x27c3), gI (w23.heap.size) (w23'.heap.size) g0 (.slice x23A0 g0.prog.length x23c0) (.slice x23A1 g0.wr.length x23c1) (.slice x23A2 g0.lv.length x23c2) (.slice x23A3 g0.seen.length x23c3), vr y22_10 (gV (stopG g0 e1) (.slice y22_0 (stopG g0 e1).prog.length y22_1) (.slice y22_2 (stopG g0 e1).wr.length y22_3) (.slice y22_4 (stopG g0 e1).lv.length y22_5) (.slice y22_6 (stopG g0 e1).seen.length y22_7)), gI (y22_8) (y22_9) (gmark 1 (stopG g0 e1)) (.slice y22_0 (stopG g0 e1).prog.length y22_1) (.slice y22_2 (stopG g0 e1).wr.length y22_3) (.slice y22_4 (stopG g0 e1).lv.length y22_5) (.slice y22_6 (stopG g0 e1).seen.length y22_7), vr b15 (gV g0 (.slice x14A0 g0.prog.length x14c0) (.slice x14A1 g0.wr.length x14c1) (.slice x14A2 g0.lv.length x14c2) (.slice x14A3 g0.seen.length x14c3)), gI (w14.heap.size) (w14'.heap.size) (gmark 1 g0) (.slice x14A0 g0.prog.length x14c0) (.slice x14A1 g0.wr.length x14c1) (.slice x14A2 g0.lv.length x14c2) (.slice x14A3 g0.seen.length x14c3), vr y13_20 (gV (stopG g0 e1) (.slice y13_10 (stopG g0 e1).prog.length y13_11) (.slice y13_12 (stopG g0 e1).wr.length y13_13) (.slice y13_14 (stopG g0 e1).lv.length y13_15) (.slice y13_16 (stopG g0 e1).seen.length y13_17)), gI (y13_18) (y13_19) (stopG g0 e1) (.slice y13_10 (stopG g0 e1).prog.length y13_11) (.slice y13_12 (stopG g0 e1).wr.length y13_13) (.slice y13_14 (stopG g0 e1).lv.length y13_15) (.slice y13_16 (stopG g0 e1).seen.length y13_17), gI (y13_8) (y13_9) g0 (.slice y13_0 g0.prog.length y13_1) (.slice y13_2 g0.wr.length y13_3) (.slice y13_4 g0.lv.length y13_5) (.slice y13_6 g0.seen.length y13_7), vr b2 [.int .i64 e1.1, .int .i64 e1.2.1, .bool e1.2.2.1, .int .i64 e1.2.2.2], vr b1 (gV g0 A0 A1 A2 A3)] (by rfl) (by rfl) (by kernel_rfl) (by kernel_rfl) (by kernel_rfl) (by rfl) (by kernel_rfl) (by rfl) (by kernel_rfl) (by kernel_rfl) (by kernel_rfl) (fun w S => St.pick S [11, 12] _ rfl (by decide)) ?_)
            exact Sx.GT.nil (fun a w' hA S => ⟨rfl, x27A0, x27c0, x27A1, x27c1, x27A2, x27c2, x27A3, x27c3, w27.heap.size, w27'.heap.size, x28A0, x28c0, x28A1, x28c1, x28A2, x28c2, x28A3, x28c3, w28.heap.size, w28'.heap.size, b29, (Sx.Ag.and hA (Sx.Ag.and hA (Sx.Ag.and hA (Sx.Ag.and hA (Sx.Ag.and hA (Sx.Ag.and hA (Sx.Ag.none hA) _ _ (by kernel_rfl)) _ _ (by kernel_rfl)) _ _ (by kernel_rfl)) _ _ (by kernel_rfl)) _ _ (by kernel_rfl)) _ _ (by kernel_rfl)), St.pick S [0, 1, 2, 3, 4, 5, 6, 7, 8, 9, 10, 11, 12] _ rfl (by decide)⟩)
          · refine Sx.Alone.alloc 33 (.agg #[.slice none 0 0, .int .i64 0, .int .i64 0, .slice none 0 0, .slice none 0 0, .int .i64 0, .int .i64 0, .bool false, .int .i64 0, .int .i64 0, .int .i64 0, .bool false, .int .i64 0, .bool false, .slice none 0 0]) [.slice none 0 0, .int .i64 0, .int .i64 0, .slice none 0 0, .slice none 0 0, .int .i64 0, .int .i64 0, .bool false, .int .i64 0, .int .i64 0, .int .i64 0, .bool false, .int .i64 0, .bool false, .slice none 0 0] (by rfl) (by rfl) (by kernel_rfl) (fun w => by kernel_rfl) (by kernel_rfl) (fun w S => St.pick S [9, 10] _ rfl (by decide)) (fun b30 => ?_)
            refine Sx.GT.alone (Sx.Alone.call 37 #[.agg (gV g0 (.slice x27A0 g0.prog.length x27c0) (.slice x27A1 g0.wr.length x27c1) (.slice x27A2 g0.lv.length x27c2) (.slice x27A3 g0.seen.length x27c3)).toArray, .agg #[.int .i64 e1.1, .int .i64 e1.2.1, .bool e1.2.2.1, .int .i64 e1.2.2.2]] (by rfl) (by kernel_rfl) (fun w => by kernel_rfl) (fun w31 S => (impl_stop g0 _ e1 _ hw0 we1 hcr0 (St.rgG S 1 rfl)).mono fun e w31' hp => ?_))
            obtain ⟨x31_0, x31_1, x31_2, x31_3, rfl, ho, hb⟩ := hp
            obtain ⟨x31A0, x31c0, e0, -⟩ := ho.r0
            subst e0
            obtain ⟨x31A1, x31c1, e1, -⟩ := ho.r1
            subst e1
            obtain ⟨x31A2, x31c2, e2, -⟩ := ho.r2
            subst e2
            obtain ⟨x31A3, x31c3, e3, -⟩ := ho.r3
            subst e3
            refine ⟨_, _, rfl, St.gotG S hb ho, (fun w S => St.pick S [11, 12] _ rfl (by decide)), ?_⟩
            clear S ho hb
            refine Sx.GT.alone (Sx.Alone.sto 33 (.tmp 12) (.tmp 64) b30 0 1 [.slice none 0 0, .int .i64 0, .int .i64 0, .slice none 0 0, .slice none 0 0, .int .i64 0, .int .i64 0, .bool false, .int .i64 0, .int .i64 0, .int .i64 0, .bool false, .int .i64 0, .bool false, .slice none 0 0] (gV (stopG g0 e1) (.slice x31A0 (stopG g0 e1).prog.length x31c0) (.slice x31A1 (stopG g0 e1).wr.length x31c1) (.slice x31A2 (stopG g0 e1).lv.length x31c2) (.slice x31A3 (stopG g0 e1).seen.length x31c3)) (gV (stopG g0 e1) (.slice x31A0 (stopG g0 e1).prog.length x31c0) (.slice x31A1 (stopG g0 e1).wr.length x31c1) (.slice x31A2 (stopG g0 e1).lv.length x31c2) (.slice x31A3 (stopG g0 e1).seen.length x31c3)) [gI (w31.heap.size) (w31'.heap.size) (stopG g0 e1) (.slice x31A0 (stopG g0 e1).prog.length x31c0) (.slice x31A1 (stopG g0 e1).wr.length x31c1) (.slice x31A2 (stopG g0 e1).lv.length x31c2) (.slice x31A3 (stopG g0 e1).seen.length x31c3), vr b30 (gV (stopG g0 e1) (.slice x31A0 (stopG g0 e1).prog.length x31c0) (.slice x31A1 (stopG g0 e1).wr.length x31c1) (.slice x31A2 (stopG g0 e1).lv.length x31c2) (.slice x31A3 (stopG g0 e1).seen.length x31c3)), gI (w27.heap.size) (w27'.heap.size) g0 (.slice x27A0 g0.prog.length x27c0) (.slice x27A1 g0.wr.length x27c1) (.slice x27A2 g0.lv.length x27c2) (.slice x27A3 g0.seen.length x27c3), gI (w23.heap.size) (w23'.heap.size) g0 (.slice x23A0 g0.prog.length x23c0) (.slice x23A1 g0.wr.length x23c1) (.slice x23A2 g0.lv.length x23c2) (.slice x23A3 g0.seen.length x23c3), vr y22_10 (gV (stopG g0 e1) (.slice y22_0 (stopG g0 e1).prog.length y22_1) (.slice y22_2 (stopG g0 e1).wr.length y22_3) (.slice y22_4 (stopG g0 e1).lv.length y22_5) (.slice y22_6 (stopG g0 e1).seen.length y22_7)), gI (y22_8) (y22_9) (gmark 1 (stopG g0 e1)) (.slice y22_0 (stopG g0 e1).prog.length y22_1) (.slice y22_2 (stopG g0 e1).wr.length y22_3) (.slice y22_4 (stopG g0 e1).lv.length y22_5) (.slice y22_6 (stopG g0 e1).seen.length y22_7), vr b15 (gV g0 (.slice x14A0 g0.prog.length x14c0) (.slice x14A1 g0.wr.length x14c1) (.slice x14A2 g0.lv.length x14c2) (.slice x14A3 g0.seen.length x14c3)), gI (w14.heap.size) (w14'.heap.size) (gmark 1 g0) (.slice x14A0 g0.prog.length x14c0) (.slice x14A1 g0.wr.length x14c1) (.slice x14A2 g0.lv.length x14c2) (.slice x14A3 g0.seen.length x14c3), vr y13_20 (gV (stopG g0 e1) (.slice y13_10 (stopG g0 e1).prog.length y13_11) (.slice y13_12 (stopG g0 e1).wr.length y13_13) (.slice y13_14 (stopG g0 e1).lv.length y13_15) (.slice y13_16 (stopG g0 e1).seen.length y13_17)), gI (y13_18) (y13_19) (stopG g0 e1) (.slice y13_10 (stopG g0 e1).prog.length y13_11) (.slice y13_12 (stopG g0 e1).wr.length y13_13) (.slice y13_14 (stopG g0 e1).lv.length y13_15) (.slice y13_16 (stopG g0 e1).seen.length y13_17), gI (y13_8) (y13_9) g0 (.slice y13_0 g0.prog.length y13_1) (.slice y13_2 g0.wr.length y13_3) (.slice y13_4 g0.lv.length y13_5) (.slice y13_6 g0.seen.length y13_7), vr b2 [.int .i64 e1.1, .int .i64 e1.2.1, .bool e1.2.2.1, .int .i64 e1.2.2.2], vr b1 (gV g0 A0 A1 A2 A3)] (by rfl) (by rfl) (by kernel_rfl) (by kernel_rfl) (by kernel_rfl) (by rfl) (by kernel_rfl) (by rfl) (by kernel_rfl) (by kernel_rfl) (by kernel_rfl) (fun w S => St.pick S [11, 12] _ rfl (by decide)) ?_)
            exact Sx.GT.nil (fun a w' hA S => ⟨rfl, x27A0, x27c0, x27A1, x27c1, x27A2, x27c2, x27A3, x27c3, w27.heap.size, w27'.heap.size, x31A0, x31c0, x31A1, x31c1, x31A2, x31c2, x31A3, x31c3, w31.heap.size, w31'.heap.size, b30, (Sx.Ag.and hA (Sx.Ag.and hA (Sx.Ag.and hA (Sx.Ag.and hA (Sx.Ag.and hA (Sx.Ag.and hA (Sx.Ag.none hA) _ _ (by kernel_rfl)) _ _ (by kernel_rfl)) _ _ (by kernel_rfl)) _ _ (by kernel_rfl)) _ _ (by kernel_rfl)) _ _ (by kernel_rfl)), St.pick S [1, 0, 2, 3, 4, 5, 6, 7, 8, 9, 10, 11, 12] _ rfl (by decide)⟩)
        · refine Sx.Alone.alloc 33 (.agg #[.slice none 0 0, .int .i64 0, .int .i64 0, .slice none 0 0, .slice none 0 0, .int .i64 0, .int .i64 0, .bool false, .int .i64 0, .int .i64 0, .int .i64 0, .bool false, .int .i64 0, .bool false, .slice none 0 0]) [.slice none 0 0, .int .i64 0, .int .i64 0, .slice none 0 0, .slice none 0 0, .int .i64 0, .int .i64 0, .bool false, .int .i64 0, .int .i64 0, .int .i64 0, .bool false, .int .i64 0, .bool false, .slice none 0 0] (by rfl) (by rfl) (by kernel_rfl) (fun w => by kernel_rfl) (by kernel_rfl) (fun w S => St.pick S [9, 10] _ rfl (by decide)) (fun b32 => ?_)
          refine Sx.GT.alone (Sx.Alone.plain 36 #[.agg #[.int .i64 e1.1, .int .i64 e1.2.1, .bool e1.2.2.1, .int .i64 e1.2.2.2]] (.agg #[.int .i64 e1.1, .int .i64 e1.2.1, .bool e1.2.2.1, .int .i64 e1.2.2.2]) (by rfl) (by kernel_rfl) (fun w => by kernel_rfl) (fun w S => by exact toExit_any e1.1 e1.2.1 e1.2.2.1 e1.2.2.2 _) (fun w S => St.pick S [10, 11] _ rfl (by decide)) ?_)
          refine Sx.GT.alone (Sx.Alone.call 37 #[.agg (gV g0 (.slice x27A0 g0.prog.length x27c0) (.slice x27A1 g0.wr.length x27c1) (.slice x27A2 g0.lv.length x27c2) (.slice x27A3 g0.seen.length x27c3)).toArray, .agg #[.int .i64 e1.1, .int .i64 e1.2.1, .bool e1.2.2.1, .int .i64 e1.2.2.2]] (by rfl) (by kernel_rfl) (fun w => by kernel_rfl) (fun w33 S => (impl_stop g0 _ e1 _ hw0 we1 hcr0 (St.rgG S 1 rfl)).mono fun e w33' hp => ?_))
          obtain ⟨x33_0, x33_1, x33_2, x33_3, rfl, ho, hb⟩ := hp
          obtain ⟨x33A0, x33c0, e0, -⟩ := ho.r0
          subst e0
          obtain ⟨x33A1, x33c1, e1, -⟩ := ho.r1
          subst e1
          obtain ⟨x33A2, x33c2, e2, -⟩ := ho.r2
          subst e2
          obtain ⟨x33A3, x33c3, e3, -⟩ := ho.r3
          subst e3
          refine ⟨_, _, rfl, St.gotG S hb ho, (fun w S => St.pick S [11, 12] _ rfl (by decide)), ?_⟩
          clear S ho hb
          refine Sx.GT.alone (Sx.Alone.sto 33 (.tmp 12) (.tmp 64) b32 0 1 [.slice none 0 0, .int .i64 0, .int .i64 0, .slice none 0 0, .slice none 0 0, .int .i64 0, .int .i64 0, .bool false, .int .i64 0, .int .i64 0, .int .i64 0, .bool false, .int .i64 0, .bool false, .slice none 0 0] (gV (stopG g0 e1) (.slice x33A0 (stopG g0 e1).prog.length x33c0) (.slice x33A1 (stopG g0 e1).wr.length x33c1) (.slice x33A2 (stopG g0 e1).lv.length x33c2) (.slice x33A3 (stopG g0 e1).seen.length x33c3)) (gV (stopG g0 e1) (.slice x33A0 (stopG g0 e1).prog.length x33c0) (.slice x33A1 (stopG g0 e1).wr.length x33c1) (.slice x33A2 (stopG g0 e1).lv.length x33c2) (.slice x33A3 (stopG g0 e1).seen.length x33c3)) [gI (w33.heap.size) (w33'.heap.size) (stopG g0 e1) (.slice x33A0 (stopG g0 e1).prog.length x33c0) (.slice x33A1 (stopG g0 e1).wr.length x33c1) (.slice x33A2 (stopG g0 e1).lv.length x33c2) (.slice x33A3 (stopG g0 e1).seen.length x33c3), vr b32 (gV (stopG g0 e1) (.slice x33A0 (stopG g0 e1).prog.length x33c0) (.slice x33A1 (stopG g0 e1).wr.length x33c1) (.slice x33A2 (stopG g0 e1).lv.length x33c2) (.slice x33A3 (stopG g0 e1).seen.length x33c3)), gI (w27.heap.size) (w27'.heap.size) g0 (.slice x27A0 g0.prog.length x27c0) (.slice x27A1 g0.wr.length x27c1) (.slice x27A2 g0.lv.length x27c2) (.slice x27A3 g0.seen.length x27c3), gI (w23.heap.size) (w23'.heap.size) g0 (.slice x23A0 g0.prog.length x23c0) (.slice x23A1 g0.wr.length x23c1) (.slice x23A2 g0.lv.length x23c2) (.slice x23A3 g0.seen.length x23c3), vr y22_10 (gV (stopG g0 e1) (.slice y22_0 (stopG g0 e1).prog.length y22_1) (.slice y22_2 (stopG g0 e1).wr.length y22_3) (.slice y22_4 (stopG g0 e1).lv.length y22_5) (.slice y22_6 (stopG g0 e1).seen.length y22_7)), gI (y22_8) (y22_9) (gmark 1 (stopG g0 e1)) (.slice y22_0 (stopG g0 e1).prog.length y22_1) (.slice y22_2 (stopG g0 e1).wr.length y22_3) (.slice y22_4 (stopG g0 e1).lv.length y22_5) (.slice y22_6 (stopG g0 e1).seen.length y22_7), vr b15 (gV g0 (.slice x14A0 g0.prog.length x14c0) (.slice x14A1 g0.wr.length x14c1) (.slice x14A2 g0.lv.length x14c2) (.slice x14A3 g0.seen.length x14c3)), gI (w14.heap.size) (w14'.heap.size) (gmark 1 g0) (.slice x14A0 g0.prog.length x14c0) (.slice x14A1 g0.wr.length x14c1) (.slice x14A2 g0.lv.length x14c2) (.slice x14A3 g0.seen.length x14c3), vr y13_20 (gV (stopG g0 e1) (.slice y13_10 (stopG g0 e1).prog.length y13_11) (.slice y13_12 (stopG g0 e1).wr.length y13_13) (.slice y13_14 (stopG g0 e1).lv.length y13_15) (.slice y13_16 (stopG g0 e1).seen.length y13_17)), gI (y13_18) (y13_19) (stopG g0 e1) (.slice y13_10 (stopG g0 e1).prog.length y13_11) (.slice y13_12 (stopG g0 e1).wr.length y13_13) (.slice y13_14 (stopG g0 e1).lv.length y13_15) (.slice y13_16 (stopG g0 e1).seen.length y13_17), gI (y13_8) (y13_9) g0 (.slice y13_0 g0.prog.length y13_1) (.slice y13_2 g0.wr.length y13_3) (.slice y13_4 g0.lv.length y13_5) (.slice y13_6 g0.seen.length y13_7), vr b2 [.int .i64 e1.1, .int .i64 e1.2.1, .bool e1.2.2.1, .int .i64 e1.2.2.2], vr b1 (gV g0 A0 A1 A2 A3)] (by rfl) (by rfl) (by kernel_rfl) (by kernel_rfl) (by kernel_rfl) (by rfl) (by kernel_rfl) (by rfl) (by kernel_rfl) (by kernel_rfl) (by kernel_rfl) (fun w S => St.pick S [11, 12] _ rfl (by decide)) ?_)
          exact Sx.GT.nil (fun a w' hA S => ⟨rfl, x27A0, x27c0, x27A1, x27c1, x27A2, x27c2, x27A3, x27c3, w27.heap.size, w27'.heap.size, x33A0, x33c0, x33A1, x33c1, x33A2, x33c2, x33A3, x33c3, w33.heap.size, w33'.heap.size, b32, (Sx.Ag.and hA (Sx.Ag.and hA (Sx.Ag.and hA (Sx.Ag.and hA (Sx.Ag.and hA (Sx.Ag.and hA (Sx.Ag.none hA) _ _ (by kernel_rfl)) _ _ (by kernel_rfl)) _ _ (by kernel_rfl)) _ _ (by kernel_rfl)) _ _ (by kernel_rfl)) _ _ (by kernel_rfl)), St.pick S [1, 0, 2, 3, 4, 5, 6, 7, 8, 9, 10, 11, 12] _ rfl (by decide)⟩)
      · refine Sx.Alone.alloc 33 (.agg #[.slice none 0 0, .int .i64 0, .int .i64 0, .slice none 0 0, .slice none 0 0, .int .i64 0, .int .i64 0, .bool false, .int .i64 0, .int .i64 0, .int .i64 0, .bool false, .int .i64 0, .bool false, .slice none 0 0]) [.slice none 0 0, .int .i64 0, .int .i64 0, .slice none 0 0, .slice none 0 0, .int .i64 0, .int .i64 0, .bool false, .int .i64 0, .int .i64 0, .int .i64 0, .bool false, .int .i64 0, .bool false, .slice none 0 0] (by rfl) (by rfl) (by kernel_rfl) (fun w => by kernel_rfl) (by kernel_rfl) (fun w S => St.pick S [8, 9] _ rfl (by decide)) (fun b34 => ?_)
        refine Sx.GT.alone (Sx.Alone.call 26 #[.agg ((gV g0 A0 A1 A2 A3)).toArray] (by rfl) (by kernel_rfl) (fun w => by kernel_rfl) (fun w35 S => (toGuest_any 0 g0 A0 A1 A2 A3 _ hcg0 (St.oldG S h0)).mono fun e w35' hp => ?_))
        obtain ⟨x35_0, x35_1, x35_2, x35_3, rfl, ho, hb⟩ := hp
        obtain ⟨x35A0, x35c0, e0, -⟩ := ho.r0
        subst e0
        obtain ⟨x35A1, x35c1, e1, -⟩ := ho.r1
        subst e1
        obtain ⟨x35A2, x35c2, e2, -⟩ := ho.r2
        subst e2
        obtain ⟨x35A3, x35c3, e3, -⟩ := ho.r3
        subst e3
        refine ⟨_, _, rfl, St.gotG S hb ho, (fun w S => St.pick S [10, 11] _ rfl (by decide)), ?_⟩
        clear S ho hb
        refine Sx.GT.alone (Sx.Alone.plain 36 #[.agg #[.int .i64 e1.1, .int .i64 e1.2.1, .bool e1.2.2.1, .int .i64 e1.2.2.2]] (.agg #[.int .i64 e1.1, .int .i64 e1.2.1, .bool e1.2.2.1, .int .i64 e1.2.2.2]) (by rfl) (by kernel_rfl) (fun w => by kernel_rfl) (fun w S => by exact toExit_any e1.1 e1.2.1 e1.2.2.1 e1.2.2.2 _) (fun w S => St.pick S [10, 11] _ rfl (by decide)) ?_)
        refine Sx.GT.alone (Sx.Alone.call 37 #[.agg (gV g0 (.slice x35A0 g0.prog.length x35c0) (.slice x35A1 g0.wr.length x35c1) (.slice x35A2 g0.lv.length x35c2) (.slice x35A3 g0.seen.length x35c3)).toArray, .agg #[.int .i64 e1.1, .int .i64 e1.2.1, .bool e1.2.2.1, .int .i64 e1.2.2.2]] (by rfl) (by kernel_rfl) (fun w => by kernel_rfl) (fun w36 S => (impl_stop g0 _ e1 _ hw0 we1 hcr0 (St.rgG S 0 rfl)).mono fun e w36' hp => ?_))
        obtain ⟨x36_0, x36_1, x36_2, x36_3, rfl, ho, hb⟩ := hp
        obtain ⟨x36A0, x36c0, e0, -⟩ := ho.r0
        subst e0
        obtain ⟨x36A1, x36c1, e1, -⟩ := ho.r1
        subst e1
        obtain ⟨x36A2, x36c2, e2, -⟩ := ho.r2
        subst e2
        obtain ⟨x36A3, x36c3, e3, -⟩ := ho.r3
        subst e3
        refine ⟨_, _, rfl, St.gotG S hb ho, (fun w S => St.pick S [11, 12] _ rfl (by decide)), ?_⟩
        clear S ho hb
        refine Sx.GT.alone (Sx.Alone.sto 33 (.tmp 12) (.tmp 64) b34 0 2 [.slice none 0 0, .int .i64 0, .int .i64 0, .slice none 0 0, .slice none 0 0, .int .i64 0, .int .i64 0, .bool false, .int .i64 0, .int .i64 0, .int .i64 0, .bool false, .int .i64 0, .bool false, .slice none 0 0] (gV (stopG g0 e1) (.slice x36A0 (stopG g0 e1).prog.length x36c0) (.slice x36A1 (stopG g0 e1).wr.length x36c1) (.slice x36A2 (stopG g0 e1).lv.length x36c2) (.slice x36A3 (stopG g0 e1).seen.length x36c3)) (gV (stopG g0 e1) (.slice x36A0 (stopG g0 e1).prog.length x36c0) (.slice x36A1 (stopG g0 e1).wr.length x36c1) (.slice x36A2 (stopG g0 e1).lv.length x36c2) (.slice x36A3 (stopG g0 e1).seen.length x36c3)) [gI (w36.heap.size) (w36'.heap.size) (stopG g0 e1) (.slice x36A0 (stopG g0 e1).prog.length x36c0) (.slice x36A1 (stopG g0 e1).wr.length x36c1) (.slice x36A2 (stopG g0 e1).lv.length x36c2) (.slice x36A3 (stopG g0 e1).seen.length x36c3), gI (w35.heap.size) (w35'.heap.size) g0 (.slice x35A0 g0.prog.length x35c0) (.slice x35A1 g0.wr.length x35c1) (.slice x35A2 g0.lv.length x35c2) (.slice x35A3 g0.seen.length x35c3), vr b34 (gV (stopG g0 e1) (.slice x36A0 (stopG g0 e1).prog.length x36c0) (.slice x36A1 (stopG g0 e1).wr.length x36c1) (.slice x36A2 (stopG g0 e1).lv.length x36c2) (.slice x36A3 (stopG g0 e1).seen.length x36c3)), gI (w23.heap.size) (w23'.heap.size) g0 (.slice x23A0 g0.prog.length x23c0) (.slice x23A1 g0.wr.length x23c1) (.slice x23A2 g0.lv.length x23c2) (.slice x23A3 g0.seen.length x23c3), vr y22_10 (gV (stopG g0 e1) (.slice y22_0 (stopG g0 e1).prog.length y22_1) (.slice y22_2 (stopG g0 e1).wr.length y22_3) (.slice y22_4 (stopG g0 e1).lv.length y22_5) (.slice y22_6 (stopG g0 e1).seen.length y22_7)), gI (y22_8) (y22_9) (gmark 1 (stopG g0 e1)) (.slice y22_0 (stopG g0 e1).prog.length y22_1) (.slice y22_2 (stopG g0 e1).wr.length y22_3) (.slice y22_4 (stopG g0 e1).lv.length y22_5) (.slice y22_6 (stopG g0 e1).seen.length y22_7), vr b15 (gV g0 (.slice x14A0 g0.prog.length x14c0) (.slice x14A1 g0.wr.length x14c1) (.slice x14A2 g0.lv.length x14c2) (.slice x14A3 g0.seen.length x14c3)), gI (w14.heap.size) (w14'.heap.size) (gmark 1 g0) (.slice x14A0 g0.prog.length x14c0) (.slice x14A1 g0.wr.length x14c1) (.slice x14A2 g0.lv.length x14c2) (.slice x14A3 g0.seen.length x14c3), vr y13_20 (gV (stopG g0 e1) (.slice y13_10 (stopG g0 e1).prog.length y13_11) (.slice y13_12 (stopG g0 e1).wr.length y13_13) (.slice y13_14 (stopG g0 e1).lv.length y13_15) (.slice y13_16 (stopG g0 e1).seen.length y13_17)), gI (y13_18) (y13_19) (stopG g0 e1) (.slice y13_10 (stopG g0 e1).prog.length y13_11) (.slice y13_12 (stopG g0 e1).wr.length y13_13) (.slice y13_14 (stopG g0 e1).lv.length y13_15) (.slice y13_16 (stopG g0 e1).seen.length y13_17), gI (y13_8) (y13_9) g0 (.slice y13_0 g0.prog.length y13_1) (.slice y13_2 g0.wr.length y13_3) (.slice y13_4 g0.lv.length y13_5) (.slice y13_6 g0.seen.length y13_7), vr b2 [.int .i64 e1.1, .int .i64 e1.2.1, .bool e1.2.2.1, .int .i64 e1.2.2.2], vr b1 (gV g0 A0 A1 A2 A3)] (by rfl) (by rfl) (by kernel_rfl) (by kernel_rfl) (by kernel_rfl) (by rfl) (by kernel_rfl) (by rfl) (by kernel_rfl) (by kernel_rfl) (by kernel_rfl) (fun w S => St.pick S [11, 12] _ rfl (by decide)) ?_)
        exact Sx.GT.nil (fun a w' hA S => ⟨rfl, x35A0, x35c0, x35A1, x35c1, x35A2, x35c2, x35A3, x35c3, w35.heap.size, w35'.heap.size, x36A0, x36c0, x36A1, x36c1, x36A2, x36c2, x36A3, x36c3, w36.heap.size, w36'.heap.size, b34, (Sx.Ag.and hA (Sx.Ag.and hA (Sx.Ag.and hA (Sx.Ag.and hA (Sx.Ag.and hA (Sx.Ag.and hA (Sx.Ag.none hA) _ _ (by kernel_rfl)) _ _ (by kernel_rfl)) _ _ (by kernel_rfl)) _ _ (by kernel_rfl)) _ _ (by kernel_rfl)) _ _ (by kernel_rfl)), St.pick S [2, 0, 1, 3, 4, 5, 6, 7, 8, 9, 10, 11, 12] _ rfl (by decide)⟩)
    rintro e a w' ⟨rfl, y37_0, y37_1, y37_2, y37_3, y37_4, y37_5, y37_6, y37_7, y37_8, y37_9, y37_10, y37_11, y37_12, y37_13, y37_14, y37_15, y37_16, y37_17, y37_18, y37_19, y37_20, hA, S⟩
    refine Sx.E.out ?_ hA S
    clear hA S a w'
    refine Sx.E.next ?_
    refine Sx.C.seq ?_
    refine Sx.C.seq ?_
    refine Sx.C.region ?_
    refine Sx.G.ld 33 (.tmp 12) y37_20 0 0 (gV (stopG g0 e1) (.slice y37_10 (stopG g0 e1).prog.length y37_11) (.slice y37_12 (stopG g0 e1).wr.length y37_13) (.slice y37_14 (stopG g0 e1).lv.length y37_15) (.slice y37_16 (stopG g0 e1).seen.length y37_17)) ((gV (stopG g0 e1) (.slice y37_10 (stopG g0 e1).prog.length y37_11) (.slice y37_12 (stopG g0 e1).wr.length y37_13) (.slice y37_14 (stopG g0 e1).lv.length y37_15) (.slice y37_16 (stopG g0 e1).seen.length y37_17))) rfl (by kernel_rfl) (by kernel_rfl) rfl (by kernel_rfl) (by kernel_rfl) (by kernel_rfl) ?_
    refine Sx.G.ld 33 (.tmp 6) y13_20 0 8 (gV (stopG g0 e1) (.slice y13_10 (stopG g0 e1).prog.length y13_11) (.slice y13_12 (stopG g0 e1).wr.length y13_13) (.slice y13_14 (stopG g0 e1).lv.length y13_15) (.slice y13_16 (stopG g0 e1).seen.length y13_17)) ((gV (stopG g0 e1) (.slice y13_10 (stopG g0 e1).prog.length y13_11) (.slice y13_12 (stopG g0 e1).wr.length y13_13) (.slice y13_14 (stopG g0 e1).lv.length y13_15) (.slice y13_16 (stopG g0 e1).seen.length y13_17))) rfl (by kernel_rfl) (by kernel_rfl) rfl (by kernel_rfl) (by kernel_rfl) (by kernel_rfl) ?_
    refine Sx.G.plain 19 #[.agg ((gV (stopG g0 e1) (.slice y37_10 (stopG g0 e1).prog.length y37_11) (.slice y37_12 (stopG g0 e1).wr.length y37_13) (.slice y37_14 (stopG g0 e1).lv.length y37_15) (.slice y37_16 (stopG g0 e1).seen.length y37_17))).toArray, .agg ((gV (stopG g0 e1) (.slice y13_10 (stopG g0 e1).prog.length y13_11) (.slice y13_12 (stopG g0 e1).wr.length y13_13) (.slice y13_14 (stopG g0 e1).lv.length y13_15) (.slice y13_16 (stopG g0 e1).seen.length y13_17))).toArray] (.bool true) (by kernel_rfl) (fun w => by kernel_rfl) (fun w S => by exact eqGuest_same _ _ _ _ (stopG g0 e1) (.slice y37_10 (stopG g0 e1).prog.length y37_11) (.slice y37_12 (stopG g0 e1).wr.length y37_13) (.slice y37_14 (stopG g0 e1).lv.length y37_15) (.slice y37_16 (stopG g0 e1).seen.length y37_17) (.slice y13_10 (stopG g0 e1).prog.length y13_11) (.slice y13_12 (stopG g0 e1).wr.length y13_13) (.slice y13_14 (stopG g0 e1).lv.length y13_15) (.slice y13_16 (stopG g0 e1).seen.length y13_17) _ hcres (St.hiG S 1 rfl) (St.hiG S 9 rfl) (St.gRG S 1 rfl) (St.gRG S 9 rfl)) ?_
    refine Sx.G.pure (.bool false) (by kernel_rfl) (fun w => by kernel_rfl) ?_
    refine Sx.G.nil ?_
    refine Sx.E.next ?_
    refine Sx.C.no (by kernel_rfl) (by kernel_rfl) ?_
    refine Sx.C.skip ?_
    refine Sx.E.next ?_
    refine Sx.C.seq ?_
    refine Sx.C.region ?_
    refine Sx.G.pure (.int .i64 1) (by kernel_rfl) (fun w => by kernel_rfl) ?_
    refine Sx.G.nil ?_
    refine Sx.E.next ?_
    refine Sx.C.seq ?_
    refine Sx.C.region ?_
    refine Sx.G.ld 33 (.tmp 8) y22_10 0 4 (gV (stopG g0 e1) (.slice y22_0 (stopG g0 e1).prog.length y22_1) (.slice y22_2 (stopG g0 e1).wr.length y22_3) (.slice y22_4 (stopG g0 e1).lv.length y22_5) (.slice y22_6 (stopG g0 e1).seen.length y22_7)) ((gV (stopG g0 e1) (.slice y22_0 (stopG g0 e1).prog.length y22_1) (.slice y22_2 (stopG g0 e1).wr.length y22_3) (.slice y22_4 (stopG g0 e1).lv.length y22_5) (.slice y22_6 (stopG g0 e1).seen.length y22_7))) rfl (by kernel_rfl) (by kernel_rfl) rfl (by kernel_rfl) (by kernel_rfl) (by kernel_rfl) ?_
    refine Sx.G.pure (.int .i64 1) (by kernel_rfl) (fun w => by kernel_rfl) ?_
    refine Sx.G.call 23 #[.agg ((gV (stopG g0 e1) (.slice y22_0 (stopG g0 e1).prog.length y22_1) (.slice y22_2 (stopG g0 e1).wr.length y22_3) (.slice y22_4 (stopG g0 e1).lv.length y22_5) (.slice y22_6 (stopG g0 e1).seen.length y22_7))).toArray, .int .i64 1] (by kernel_rfl) (fun w => by kernel_rfl) (fun w38 S => (heldGuest_any _ _ 1 (stopG g0 e1) (.slice y22_0 (stopG g0 e1).prog.length y22_1) (.slice y22_2 (stopG g0 e1).wr.length y22_3) (.slice y22_4 (stopG g0 e1).lv.length y22_5) (.slice y22_6 (stopG g0 e1).seen.length y22_7) _ hcres (by omega) (St.hiG S 5 rfl) (St.gRG S 5 rfl)).mono fun e w38' hp => ?_)
    obtain ⟨he, hb⟩ := hp
    rw [← HQ2.out] at he
    subst he
    refine ⟨_, _, rfl, S.call hb, ?_⟩
    clear S hb
    refine Sx.G.pure (.int .i64 q2) (by kernel_rfl) (fun w => by kernel_rfl) ?_
    refine Sx.G.nil ?_
    refine Sx.E.next ?_
    refine Sx.C.seq ?_
    refine Sx.C.seq ?_
    refine Sx.C.region ?_
    refine Sx.G.pure (.int .i64 q2) (by kernel_rfl) (fun w => by kernel_rfl) ?_
    refine Sx.G.pureq (.bool (decide (q2 < 0))) (.bool false) (by kernel_rfl) (fun w => by kernel_rfl) (congrArg Value.bool (decide_eq_false hp2)) ?_
    refine Sx.G.nil ?_
    refine Sx.E.next ?_
    refine Sx.C.no (by kernel_rfl) (by kernel_rfl) ?_
    refine Sx.C.skip ?_
    refine Sx.E.next ?_
    refine Sx.C.seq ?_
    refine Sx.C.seq ?_
    refine Sx.C.region ?_
    refine Sx.G.pure (.int .i64 q2) (by kernel_rfl) (fun w => by kernel_rfl) ?_
    refine Sx.G.pure (.int .i64 q2) (by kernel_rfl) (fun w => by kernel_rfl) ?_
    refine Sx.G.pureq (.bool (q2 != q2)) (.bool false) (by kernel_rfl) (fun w => by kernel_rfl) (congrArg Value.bool (bne_self_eq_false _)) ?_
    refine Sx.G.nil ?_
    refine Sx.E.next ?_
    refine Sx.C.no (by kernel_rfl) (by kernel_rfl) ?_
    refine Sx.C.skip ?_
    refine Sx.E.next ?_
    refine Sx.C.seq ?_
    refine Sx.C.region ?_
    refine Sx.G.pure (.bool true) (by kernel_rfl) (fun w => by kernel_rfl) ?_
    refine Sx.G.nil ?_
    refine Sx.E.next ?_
    refine Sx.C.ret ?_
    refine Sx.E.ret1 (.bool true) rfl (by kernel_rfl) (fun w S => ?_)
    exact ⟨rfl, S.below⟩
  · have hm0 := hw0
    refine Sx.enter (args := [.agg (gV g0 A0 A1 A2 A3).toArray, .agg #[.int .i64 e1.1, .int .i64 e1.2.1, .bool e1.2.2.1, .int .i64 e1.2.2.2]]) Try.func10 rfl Try.ntmps10 rfl ?_
    refine Sx.C.seq ?_
    refine Sx.C.region ?_
    refine Sx.G.box 48 (.tmp 0) (gV g0 A0 A1 A2 A3) rfl (by kernel_rfl) (by kernel_rfl) (fun b39 => ?_)
    refine Sx.G.box 46 (.tmp 1) [.int .i64 e1.1, .int .i64 e1.2.1, .bool e1.2.2.1, .int .i64 e1.2.2.2] rfl (by kernel_rfl) (by kernel_rfl) (fun b40 => ?_)
    refine Sx.G.pure (.bool false) (by kernel_rfl) (fun w => by kernel_rfl) ?_
    refine Sx.G.nil ?_
    refine Sx.E.next ?_
    refine Sx.C.seq ?_
    refine Sx.C.region ?_
    refine Sx.G.pure (.int .i64 1048576) (by kernel_rfl) (fun w => by kernel_rfl) ?_
    refine Sx.G.nil ?_
    refine Sx.E.next ?_
    refine Sx.C.seq ?_
    refine Sx.C.region ?_
    refine Sx.G.ld 48 (.tmp 2) b39 0 1 (gV g0 A0 A1 A2 A3) ((gV g0 A0 A1 A2 A3)) rfl (by kernel_rfl) (by kernel_rfl) rfl (by kernel_rfl) (by kernel_rfl) (by kernel_rfl) ?_
    refine Sx.G.pure (.int .i64 1048576) (by kernel_rfl) (fun w => by kernel_rfl) ?_
    refine Sx.G.plain 24 #[.agg ((gV g0 A0 A1 A2 A3)).toArray, .int .i64 1048576] (.int .i64 (-1)) (by kernel_rfl) (fun w => by kernel_rfl) (fun w S => by exact szGuest_no _ _ g0 A0 A1 A2 A3 1048576 _ (by omega) (by omega) hm0.1.1 hm0.2.2.2.1.1 hm0.2.2.2.2.1.1 hm0.2.2.2.2.2.2.2.2.2.1 (by omega) (Nat.le_refl _) (St.oldG S h0)) ?_
    refine Sx.G.pure (.int .i64 (-1)) (by kernel_rfl) (fun w => by kernel_rfl) ?_
    refine Sx.G.nil ?_
    refine Sx.E.next ?_
    refine Sx.C.seq ?_
    refine Sx.C.seq ?_
    refine Sx.C.region ?_
    refine Sx.G.pure (.int .i64 (-1)) (by kernel_rfl) (fun w => by kernel_rfl) ?_
    refine Sx.G.pure (.bool true) (by kernel_rfl) (fun w => by kernel_rfl) ?_
    refine Sx.G.nil ?_
    refine Sx.E.next ?_
    refine Sx.C.yes (by kernel_rfl) (by kernel_rfl) ?_
    refine Sx.C.seq ?_
    refine Sx.C.region ?_
    refine Sx.G.pure (.bool true) (by kernel_rfl) (fun w => by kernel_rfl) ?_
    refine Sx.G.nil ?_
    refine Sx.E.next ?_
    refine Sx.C.ret ?_
    refine Sx.E.then_ret ?_
    refine Sx.E.ret1 (.bool true) rfl (by kernel_rfl) (fun w S => ?_)
    exact ⟨rfl, S.below⟩

/-! ### The row's step -/
set_option maxRecDepth 100000 in
theorem lifted (os : Os) (started : os.Started) (H : Type) (enc : TypeId × Value → H) :
    ReturnsInHanded {} Try.checked os 10 .any (Rows.fnExactStoppedSpec.pre6 enc Try.prog Try.f10 Rows.fnExactStoppedRow.domain false) (Rows.fnExactStoppedSpec.post enc Try.prog Try.f10 false true false false) := by
  refine returnsInHanded_of_change (C := Try.checked) Base.own started (by kernel_rfl) Try.func10
    (ChangeSpec.witness6 (enc := enc) (C := Try.checked) false ⟨#[], #[.agg #[.slice none 0 0, .int .i64 0, .int .i64 0, .slice none 0 0, .slice none 0 0, .int .i64 0, .int .i64 0, .bool false, .int .i64 0, .int .i64 0, .int .i64 0, .bool false, .int .i64 0, .bool false, .slice none 0 0], .agg #[.int .i64 0, .int .i64 0, .bool false, .int .i64 0]], []⟩ 8 (by kernel_rfl) (by kernel_rfl) (by kernel_rfl) (by kernel_rfl)) ?_
  intro W base args ds gs before hval0 hW hcnd _
  have hval : ∀ (j : Nat) t v, Try.f10.params[j]? = some t → args[j]? = some v → Value.okWide Try.prog W .any base t v := hval0
  have hW' := hW
  obtain ⟨p, q, hA0, hV, rfl, hfz, hnd⟩ := hW
  have hA : DataW.TrodAll enc Try.prog W 0 (fun _ => true) true Try.f10.params.toList args.toList ds p := hA0
  have hA1 := hA
  rw [Try.params10] at hA hval
  obtain ⟨v0, vs0, d0, ds0, p0, q0, hargs, rfl, rfl, h0, r0⟩ := trodAll_cons hA
  obtain ⟨v1, vs1, d1, ds1, p1, q1, rfl, rfl, rfl, h1, r1⟩ := trodAll_cons r0
  obtain ⟨rfl, rfl, rfl⟩ := trodAll_nil r1
  obtain rfl : args = #[v0, v1] := by cases args; simp_all
  obtain ⟨rfl, rfl⟩ := trodVars_none hV
  obtain ⟨g0, P00, P01, P02, P03, rfl, hw0, h0'⟩ := Guests.open_Guest (hval 0 48 v0 rfl rfl) h0
  obtain ⟨a10, a11, a12, a13, rfl, w1⟩ := Exits.open_exit (hval 1 46 v1 rfl rfl) h1
  clear hA0 hval0
  rw [List.append_nil] at hW'
  refine (walk g0 P00 P01 P02 P03 (a10, a11, a12, a13) hw0 h0' w1).mono fun e W' ⟨he, hg⟩ => ?_
  subst he
  exact ⟨_, rfl, Mem.post_args Slots.laid (by kernel_rfl) rfl rfl rfl hW' hA1 hg (fun _ _ _ => (trodAll_cons_mk (shut_bool Try.underlying4 _) trodAll_mk0)) (ok_one (by kernel_rfl) rfl (okWide_bool_mk Try.underlying4 _))⟩

theorem over : Rows.fnExactStoppedRow.holds Try.pinned (OpenSpec.ofChange Rows.fnExactStoppedSpec) :=
  OpenClaim.holds_of_wide 10 Try.f10 rfl rfl rfl rfl rfl rfl rfl ⟨rfl, rfl, rfl, rfl, rfl⟩ rfl rfl rfl rfl rfl (by kernel_rfl) Try.func10 (by kernel_rfl)
    (of_decide_eq_true (by kernel_rfl)) (by unfold Func.isWrapper; first | (rw [if_pos (by decide +kernel)]; kernel_rfl) | (rw [if_neg (by decide +kernel)]; exact ⟨rfl, rfl⟩))
    (fun os started H enc _ => lifted os started H enc)

/-- The given statement. -/
theorem proved : Rows.FnExactStoppedSaid :=
  over
#print axioms proved
end Go.Proofs.Yteopkcndkcciaaa.fnExactStopped
