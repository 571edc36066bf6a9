/-
  For every slice of bytes the law FnSums returns true: a program that adds computes the sum modulo 100. No condition.
-/
import Derived.Test.YtdbhfadiinmgiaaFnSumsB2
namespace Go.Proofs.Ytdbhfadiinmgiaa.fnSums
set_option maxRecDepth 100000
open Go.ChangeShapes Go.WideShapes Go.ChangeAt Go.RowKit
open Go.Proofs.Ytdbhfadiinmgiaa.Base Go.Proofs.Ytdbhfadiinmgiaa.Mem Go.Proofs.Ytdbhfadiinmgiaa.Data Go.Proofs.Ytdbhfadiinmgiaa.Slots Go.Proofs.Ytdbhfadiinmgiaa.Ints Go.Proofs.Ytdbhfadiinmgiaa.Ctls Go.Proofs.Ytdbhfadiinmgiaa.Exits Go.Proofs.Ytdbhfadiinmgiaa.Stt Go.Proofs.Ytdbhfadiinmgiaa.Irqs Go.Proofs.Ytdbhfadiinmgiaa.Inss Go.Proofs.Ytdbhfadiinmgiaa.Draw Go.Proofs.Ytdbhfadiinmgiaa.Guests
set_option linter.unusedVariables false
set_option linter.unusedSimpArgs false
theorem cell_get (l : List Int) (k : Nat) (h : k < l.length) : (Stt.icells l)[k]? = some (.int .i64 (l.getD k 0)) := by simp [Stt.icells, List.getD_eq_getElem?_getD, h]
theorem icells12 {l : List Int} (h : l.length = 12) : (Stt.icells l).length = 12 := by simp [Stt.icells, h]
set_option maxRecDepth 100000 in
set_option maxHeartbeats 8000000 in
theorem walk (A : Option Addr) (n c : Nat) (hn : n ≤ maxLen) {w : World} (hcode : CodeAt w A n) :
    Calls Try.prog 4 #[.slice A n c] w fun e w' => e = .returned (.bool true) ∧ Below w.heap.size w w' := by
  replace hn : n ≤ 9223372036854775807 := hn
  by_cases h1 : 1048576 < n
  · refine Sx.enter (args := [.slice A n c]) Try.func4 rfl Try.ntmps4 rfl ?_
    refine Sx.C.seq ?_
    refine Sx.C.region ?_
    refine Sx.G.pure (.bool false) (by kernel_rfl) (fun w => by kernel_rfl) ?_
    refine Sx.G.nil ?_
    refine Sx.E.next ?_
    refine Sx.C.seq ?_
    refine Sx.C.seq ?_
    refine Sx.C.region ?_
    refine Sx.G.pure (.slice A n c) (by kernel_rfl) (fun w => by kernel_rfl) ?_
    refine Sx.G.plain 12 #[.slice A n c] (.bool true) (by kernel_rfl) (fun w => by kernel_rfl) (fun w S => by exact ((big_yes A n c _ hn h1).mono fun e w' h => And.intro h.1 (below_eq h.2))) ?_
    refine Sx.G.nil ?_
    refine Sx.E.next ?_
    refine Sx.C.yes (by kernel_rfl) (by kernel_rfl) ?_
    refine Sx.C.seq ?_
    refine Sx.C.region ?_
    refine Sx.G.pure (.bool true) (by kernel_rfl) (fun w => by kernel_rfl) ?_
    refine Sx.G.nil ?_
    refine Sx.E.next ?_
    refine Sx.C.ret ?_
    refine Sx.E.then_ret ?_
    refine Sx.E.ret1 (.bool true) rfl (by kernel_rfl) (fun w S => ?_)
    exact ⟨rfl, S.below⟩
  · have hn2 : n ≤ 1048576 := by omega
    refine Sx.enter (args := [.slice A n c]) Try.func4 rfl Try.ntmps4 rfl ?_
    refine Sx.C.seq ?_
    refine Sx.C.region ?_
    refine Sx.G.pure (.bool false) (by kernel_rfl) (fun w => by kernel_rfl) ?_
    refine Sx.G.nil ?_
    refine Sx.E.next ?_
    refine Sx.C.seq ?_
    refine Sx.C.seq ?_
    refine Sx.C.region ?_
    refine Sx.G.pure (.slice A n c) (by kernel_rfl) (fun w => by kernel_rfl) ?_
    refine Sx.G.plain 12 #[.slice A n c] (.bool false) (by kernel_rfl) (fun w => by kernel_rfl) (fun w S => by exact ((big_no A n c _ hn2).mono fun e w' h => And.intro h.1 (below_eq h.2))) ?_
    refine Sx.G.nil ?_
    refine Sx.E.next ?_
    refine Sx.C.no (by kernel_rfl) (by kernel_rfl) ?_
    refine Sx.C.skip ?_
    refine Sx.E.next ?_
    refine Sx.C.seq ?_
    refine Sx.C.region ?_
    refine Sx.G.pure (.slice A n c) (by kernel_rfl) (fun w => by kernel_rfl) ?_
    refine Sx.G.call 34 #[.slice A n c] (by kernel_rfl) (fun w => by kernel_rfl) (fun w1 S => (places_any A n c _ hn2 (hcode.below S.below)).mono fun e w1' hp => ?_)
    obtain ⟨gp, cp, l, rfl, hl, hall, hown, hb⟩ := hp
    have hl0 : ∀ x ∈ l, 0 ≤ x := fun x hx => (hall x hx).1
    obtain ⟨hv1, hv2, hv3⟩ := Sx.row_vr hown
    refine ⟨_, _, rfl, (S.add hb (vr gp (Stt.icells l)) hv1 hv2 hv3), ?_⟩
    clear S hb hv1 hv2 hv3 hown hall
    refine Sx.G.pure (.slice (some ⟨gp, 0, none⟩) 12 cp) (by kernel_rfl) (fun w => by kernel_rfl) ?_
    refine Sx.G.nil ?_
    refine Sx.E.next ?_
    refine Sx.C.seq ?_
    refine Sx.C.region ?_
    refine Sx.G.pure (.slice (some ⟨gp, 0, none⟩) 12 cp) (by kernel_rfl) (fun w => by kernel_rfl) ?_
    refine Sx.G.pure (.pointer (some ⟨gp, 0 + 0 * 1, none⟩)) (by kernel_rfl) (fun w => Sx.run_elemO 3 1 8 gp 0 12 cp 0 rfl (by kernel_rfl) (by kernel_rfl) (by kernel_rfl) (by omega) w) ?_
    have ha15 := avS_range hl0 0
    unfold avS at ha15
    refine Sx.G.reads (.int .i64 (l.getD 0 0)) (by kernel_rfl) (fun w S => Sx.run_ldr1 rfl (by kernel_rfl) (by kernel_rfl) (show w.cell? ⟨gp, 0 + 0 * 1, none⟩ = some (.int .i64 (l.getD 0 0)) by rw [Nat.zero_add, Nat.mul_one]; exact St.cell S 0 rfl 0 (cell_get l 0 (by omega)))) ?_
    refine Sx.G.pure (.int .i64 ((l.getD 0 0).tmod 100)) (by kernel_rfl) (fun w => by kernel_rfl) ?_
    refine Sx.G.pure (.agg #[.int .i64 1, .int .i64 ((l.getD 0 0).tmod 100)]) (by kernel_rfl) (fun w => by kernel_rfl) ?_
    refine Sx.G.rowm (r := (rPair rInt rInt)) (e := 42) flat_P2 (prgS l 1) [.int .i64 1, .int .i64 ((l.getD 0 0).tmod 100)] 1 (by kernel_rfl) (fun w => by kernel_rfl) (fun w lo hi => p2_all w lo hi (prgS l 1)) rfl (by decide) (fun b2 hi2 => ?_)
    refine Sx.G.pure (.slice (some ⟨b2, 0, none⟩) 1 1) (by kernel_rfl) (fun w => by kernel_rfl) ?_
    refine Sx.G.nil ?_
    refine Sx.E.next ?_
    refine Sx.C.seq ?_
    refine Sx.C.region ?_
    refine Sx.G.pure (.slice (some ⟨gp, 0, none⟩) 12 cp) (by kernel_rfl) (fun w => by kernel_rfl) ?_
    refine Sx.G.pure (.pointer (some ⟨gp, 0 + 0 * 1, none⟩)) (by kernel_rfl) (fun w => Sx.run_elemO 3 1 8 gp 0 12 cp 0 rfl (by kernel_rfl) (by kernel_rfl) (by kernel_rfl) (by omega) w) ?_
    have ha21 := avS_range hl0 0
    unfold avS at ha21
    refine Sx.G.reads (.int .i64 (l.getD 0 0)) (by kernel_rfl) (fun w S => Sx.run_ldr1 rfl (by kernel_rfl) (by kernel_rfl) (show w.cell? ⟨gp, 0 + 0 * 1, none⟩ = some (.int .i64 (l.getD 0 0)) by rw [Nat.zero_add, Nat.mul_one]; exact St.cell S 1 rfl 0 (cell_get l 0 (by omega)))) ?_
    refine Sx.G.pure (.int .i64 ((l.getD 0 0).tmod 100)) (by kernel_rfl) (fun w => by kernel_rfl) ?_
    refine Sx.G.pure (.int .i64 ((l.getD 0 0).tmod 100)) (by kernel_rfl) (fun w => by kernel_rfl) ?_
    refine Sx.G.nil ?_
    refine Sx.E.next ?_
    refine Sx.C.seq ?_
    refine Sx.C.seq ?_
    refine Sx.C.region ?_
    refine Sx.G.pure (.int .i64 1) (by kernel_rfl) (fun w => by kernel_rfl) ?_
    refine Sx.G.nil ?_
    refine Sx.E.next ?_
    refine Sx.C.block ?_
    refine Sx.C.loop (α := Nat × Option Addr × Nat × Nat × List Nat) (fun x => x.1 ≤ 5) (fun x => [(6, .int .i64 ((x.1 + 1 : Nat) : Int)), (4, .slice x.2.1 (x.1 + 1) x.2.2.1), (5, .int .i64 (sumS l (x.1 + 1))), (2, .bool false), (3, .slice (some ⟨gp, 0, none⟩) 12 cp)]) (fun x => [ow (rLst 42 (rPair rInt rInt)) w.heap.size x.2.2.2.1 (prgS l (x.1 + 1)) [.slice x.2.1 (x.1 + 1) x.2.2.1] x.2.2.2.2, vr gp (Stt.icells l)]) (fun x => 5 - x.1) (0, some ⟨b2, 0, none⟩, 1, hi2, [b2]) (Nat.zero_le _) (fun a hA => (Sx.Ag.and hA (Sx.Ag.and hA (Sx.Ag.and hA (Sx.Ag.and hA (Sx.Ag.and hA (Sx.Ag.none hA) _ _ (by kernel_rfl)) _ _ (by kernel_rfl)) _ _ (by kernel_rfl)) _ _ (by kernel_rfl)) _ _ (by kernel_rfl))) (fun w' S => by have S2 := Sx.St.widen S 0 rfl (Nat.le_refl _) (S.hi 0 _ rfl); exact S2) (fun x hx => ?_)
    obtain ⟨m, xA, xc, xh, xF⟩ := x
    dsimp only at hx
    have hs := sumS_range hl0 (m + 1)
    refine Sx.C.seq ?_
    refine Sx.C.seq ?_
    refine Sx.C.region ?_
    refine Sx.G.pure (.int .i64 ((m + 1 : Nat) : Int)) (by kernel_rfl) (fun w => by kernel_rfl) ?_
    refine Sx.G.pure (.bool (decide (((m + 1 : Nat) : Int) < 6))) (by kernel_rfl) (fun w => by kernel_rfl) ?_
    refine Sx.G.nil ?_
    refine Sx.E.next ?_
    cases hc3 : (decide (((m + 1 : Nat) : Int) < 6))
    · have hb3 := hc3
      replace hc3 := of_decide_eq_false hc3
      refine Sx.C.no (by kernel_rfl) (by kernel_rfl) ?_
      refine Sx.C.exit ?_
      refine Sx.E.then_exit ?_
      refine Sx.E.then_exit ?_
      refine Sx.E.block_hit ?_
      refine Sx.E.next ?_
      refine Sx.C.seq ?_
      obtain rfl : m = 5 := by omega
      refine Sx.C.region ?_
      refine Sx.G.pure (.slice xA 6 xc) (by kernel_rfl) (fun w => by kernel_rfl) ?_
      refine Sx.G.call 35 #[.slice xA 6 xc] (by kernel_rfl) (fun w => by kernel_rfl) (fun w4 S => ((show Calls _ _ _ _ (gP _ (stK l 0)) from impl_gnew (prgS l 6) _ _ _ (by rw [prgS_len]; omega) (St.reads S 0 rfl))).mono fun e w4' hp => ?_)
      obtain ⟨y0, y1, y2, y3, rfl, ho, hb⟩ := hp
      obtain ⟨PA4_0, Pc4_0, e0, -⟩ := ho.r0
      subst e0
      obtain ⟨PA4_1, Pc4_1, e0, -⟩ := ho.r1
      subst e0
      obtain ⟨PA4_2, Pc4_2, e0, -⟩ := ho.r2
      subst e0
      obtain ⟨PA4_3, Pc4_3, e0, -⟩ := ho.r3
      subst e0
      have hrd := ho.rg
      refine ⟨_, _, rfl, (Sx.St.gotR S hb hrd), ?_⟩
      clear S ho hb hrd
      refine Sx.G.alloc 32 (.agg #[.slice none 0 0, .int .i64 0, .int .i64 0, .slice none 0 0, .slice none 0 0, .int .i64 0, .int .i64 0, .bool false, .int .i64 0, .int .i64 0, .int .i64 0, .bool false, .int .i64 0, .bool false, .slice none 0 0]) [.slice none 0 0, .int .i64 0, .int .i64 0, .slice none 0 0, .slice none 0 0, .int .i64 0, .int .i64 0, .bool false, .int .i64 0, .int .i64 0, .int .i64 0, .bool false, .int .i64 0, .bool false, .slice none 0 0] rfl (by kernel_rfl) (fun w => by kernel_rfl) (by kernel_rfl) (fun b5 => ?_)
      refine Sx.G.sto 32 (.tmp 7) (.tmp 45) b5 0 0 [.slice none 0 0, .int .i64 0, .int .i64 0, .slice none 0 0, .slice none 0 0, .int .i64 0, .int .i64 0, .bool false, .int .i64 0, .int .i64 0, .int .i64 0, .bool false, .int .i64 0, .bool false, .slice none 0 0] [.slice PA4_0 (stK l 0).prog.length Pc4_0, .int .i64 (stK l 0).a, .int .i64 (stK l 0).pc, .slice PA4_1 (stK l 0).wr.length Pc4_1, .slice PA4_2 (stK l 0).lv.length Pc4_2, .int .i64 (stK l 0).t.1, .int .i64 (stK l 0).t.2.1, .bool (stK l 0).t.2.2, .int .i64 (stK l 0).pd, .int .i64 (stK l 0).x.1, .int .i64 (stK l 0).x.2.1, .bool (stK l 0).x.2.2.1, .int .i64 (stK l 0).x.2.2.2, .bool (stK l 0).hl, .slice PA4_3 (stK l 0).seen.length Pc4_3] [.slice PA4_0 (stK l 0).prog.length Pc4_0, .int .i64 (stK l 0).a, .int .i64 (stK l 0).pc, .slice PA4_1 (stK l 0).wr.length Pc4_1, .slice PA4_2 (stK l 0).lv.length Pc4_2, .int .i64 (stK l 0).t.1, .int .i64 (stK l 0).t.2.1, .bool (stK l 0).t.2.2, .int .i64 (stK l 0).pd, .int .i64 (stK l 0).x.1, .int .i64 (stK l 0).x.2.1, .bool (stK l 0).x.2.2.1, .int .i64 (stK l 0).x.2.2.2, .bool (stK l 0).hl, .slice PA4_3 (stK l 0).seen.length Pc4_3] [vr b5 [.slice PA4_0 (stK l 0).prog.length Pc4_0, .int .i64 (stK l 0).a, .int .i64 (stK l 0).pc, .slice PA4_1 (stK l 0).wr.length Pc4_1, .slice PA4_2 (stK l 0).lv.length Pc4_2, .int .i64 (stK l 0).t.1, .int .i64 (stK l 0).t.2.1, .bool (stK l 0).t.2.2, .int .i64 (stK l 0).pd, .int .i64 (stK l 0).x.1, .int .i64 (stK l 0).x.2.1, .bool (stK l 0).x.2.2.1, .int .i64 (stK l 0).x.2.2.2, .bool (stK l 0).hl, .slice PA4_3 (stK l 0).seen.length Pc4_3], Sx.rdc rG w4.heap.size w4'.heap.size (stK l 0) [.slice PA4_0 (stK l 0).prog.length Pc4_0, .int .i64 (stK l 0).a, .int .i64 (stK l 0).pc, .slice PA4_1 (stK l 0).wr.length Pc4_1, .slice PA4_2 (stK l 0).lv.length Pc4_2, .int .i64 (stK l 0).t.1, .int .i64 (stK l 0).t.2.1, .bool (stK l 0).t.2.2, .int .i64 (stK l 0).pd, .int .i64 (stK l 0).x.1, .int .i64 (stK l 0).x.2.1, .bool (stK l 0).x.2.2.1, .int .i64 (stK l 0).x.2.2.2, .bool (stK l 0).hl, .slice PA4_3 (stK l 0).seen.length Pc4_3], ow (rLst 42 (rPair rInt rInt)) w.heap.size xh (prgS l 6) [.slice xA 6 xc] xF, vr gp (Stt.icells l)] rfl (by kernel_rfl) (by kernel_rfl) (by kernel_rfl) rfl (by kernel_rfl) rfl (by kernel_rfl) (by kernel_rfl) (by kernel_rfl) ?_
      refine Sx.G.nil ?_
      refine Sx.E.next ?_
      refine Sx.C.seq ?_
      refine Sx.C.seq ?_
      refine Sx.C.region ?_
      refine Sx.G.pure (.int .i64 0) (by kernel_rfl) (fun w => by kernel_rfl) ?_
      refine Sx.G.nil ?_
      refine Sx.E.next ?_
      refine Sx.C.block ?_
      refine Sx.C.loop (α := Nat × Option Addr × Nat × Option Addr × Nat × Option Addr × Nat × Option Addr × Nat × Nat × Nat) (fun x => x.1 ≤ 6) (fun x => [(8, .int .i64 (x.1 : Int)), (2, .bool false), (5, .int .i64 (sumS l 6)), (7, .pointer (some ⟨b5, 0, none⟩))]) (fun x => [vr b5 [.slice x.2.1 (stK l x.1).prog.length x.2.2.1, .int .i64 (stK l x.1).a, .int .i64 (stK l x.1).pc, .slice x.2.2.2.1 (stK l x.1).wr.length x.2.2.2.2.1, .slice x.2.2.2.2.2.1 (stK l x.1).lv.length x.2.2.2.2.2.2.1, .int .i64 (stK l x.1).t.1, .int .i64 (stK l x.1).t.2.1, .bool (stK l x.1).t.2.2, .int .i64 (stK l x.1).pd, .int .i64 (stK l x.1).x.1, .int .i64 (stK l x.1).x.2.1, .bool (stK l x.1).x.2.2.1, .int .i64 (stK l x.1).x.2.2.2, .bool (stK l x.1).hl, .slice x.2.2.2.2.2.2.2.1 (stK l x.1).seen.length x.2.2.2.2.2.2.2.2.1], Sx.rdc rG x.2.2.2.2.2.2.2.2.2.1 x.2.2.2.2.2.2.2.2.2.2 (stK l x.1) [.slice x.2.1 (stK l x.1).prog.length x.2.2.1, .int .i64 (stK l x.1).a, .int .i64 (stK l x.1).pc, .slice x.2.2.2.1 (stK l x.1).wr.length x.2.2.2.2.1, .slice x.2.2.2.2.2.1 (stK l x.1).lv.length x.2.2.2.2.2.2.1, .int .i64 (stK l x.1).t.1, .int .i64 (stK l x.1).t.2.1, .bool (stK l x.1).t.2.2, .int .i64 (stK l x.1).pd, .int .i64 (stK l x.1).x.1, .int .i64 (stK l x.1).x.2.1, .bool (stK l x.1).x.2.2.1, .int .i64 (stK l x.1).x.2.2.2, .bool (stK l x.1).hl, .slice x.2.2.2.2.2.2.2.1 (stK l x.1).seen.length x.2.2.2.2.2.2.2.2.1]]) (fun x => 6 - x.1) (0, PA4_0, Pc4_0, PA4_1, Pc4_1, PA4_2, Pc4_2, PA4_3, Pc4_3, w4.heap.size, w4'.heap.size) (Nat.zero_le _) (fun a hA => (Sx.Ag.and hA (Sx.Ag.and hA (Sx.Ag.and hA (Sx.Ag.and hA (Sx.Ag.none hA) _ _ (by kernel_rfl)) _ _ (by kernel_rfl)) _ _ (by kernel_rfl)) _ _ (by kernel_rfl))) (fun w S => St.pick S [0, 1] _ rfl (by decide)) (fun x hx => ?_)
      obtain ⟨k, xA0, xc0, xA1, xc1, xA2, xc2, xA3, xc3, xlo, xhi⟩ := x
      dsimp only at hx
      refine Sx.C.seq ?_
      refine Sx.C.seq ?_
      refine Sx.C.region ?_
      refine Sx.G.pure (.int .i64 (k : Int)) (by kernel_rfl) (fun w => by kernel_rfl) ?_
      refine Sx.G.pure (.bool (decide ((k : Int) < 6))) (by kernel_rfl) (fun w => by kernel_rfl) ?_
      refine Sx.G.nil ?_
      refine Sx.E.next ?_
      cases hc6 : (decide ((k : Int) < 6))
      · have hb6 := hc6
        replace hc6 := of_decide_eq_false hc6
        refine Sx.C.no (by kernel_rfl) (by kernel_rfl) ?_
        refine Sx.C.exit ?_
        refine Sx.E.then_exit ?_
        refine Sx.E.then_exit ?_
        refine Sx.E.block_hit ?_
        refine Sx.E.next ?_
        refine Sx.C.seq ?_
        obtain rfl : k = 6 := by omega
        refine Sx.C.region ?_
        refine Sx.G.pure (.pointer (some ⟨b5, 1, none⟩)) (by kernel_rfl) (fun w => by kernel_rfl) ?_
        refine Sx.G.ld1 3 (.tmp 52) b5 1 0 [.slice xA0 (stK l 6).prog.length xc0, .int .i64 (stK l 6).a, .int .i64 (stK l 6).pc, .slice xA1 (stK l 6).wr.length xc1, .slice xA2 (stK l 6).lv.length xc2, .int .i64 (stK l 6).t.1, .int .i64 (stK l 6).t.2.1, .bool (stK l 6).t.2.2, .int .i64 (stK l 6).pd, .int .i64 (stK l 6).x.1, .int .i64 (stK l 6).x.2.1, .bool (stK l 6).x.2.2.1, .int .i64 (stK l 6).x.2.2.2, .bool (stK l 6).hl, .slice xA3 (stK l 6).seen.length xc3] (.int .i64 (stK l 6).a) rfl (by kernel_rfl) (by kernel_rfl) rfl (by kernel_rfl) (by kernel_rfl) ?_
        refine Sx.G.pure (.int .i64 (sumS l 6)) (by kernel_rfl) (fun w => by kernel_rfl) ?_
        refine Sx.G.pureq (.bool ((stK l 6).a == (sumS l 6))) (.bool true) (by kernel_rfl) (fun w => by kernel_rfl) (congrArg Value.bool (beq_self_eq_true (sumS l 6))) ?_
        refine Sx.G.pure (.bool true) (by kernel_rfl) (fun w => by kernel_rfl) ?_
        refine Sx.G.pure (.pointer (some ⟨b5, 2, none⟩)) (by kernel_rfl) (fun w => by kernel_rfl) ?_
        refine Sx.G.ld1 3 (.tmp 57) b5 2 0 [.slice xA0 (stK l 6).prog.length xc0, .int .i64 (stK l 6).a, .int .i64 (stK l 6).pc, .slice xA1 (stK l 6).wr.length xc1, .slice xA2 (stK l 6).lv.length xc2, .int .i64 (stK l 6).t.1, .int .i64 (stK l 6).t.2.1, .bool (stK l 6).t.2.2, .int .i64 (stK l 6).pd, .int .i64 (stK l 6).x.1, .int .i64 (stK l 6).x.2.1, .bool (stK l 6).x.2.2.1, .int .i64 (stK l 6).x.2.2.2, .bool (stK l 6).hl, .slice xA3 (stK l 6).seen.length xc3] (.int .i64 (stK l 6).pc) rfl (by kernel_rfl) (by kernel_rfl) rfl (by kernel_rfl) (by kernel_rfl) ?_
        refine Sx.G.pureq (.bool ((stK l 6).pc == 6)) (.bool true) (by kernel_rfl) (fun w => by kernel_rfl) (congrArg Value.bool (rfl)) ?_
        refine Sx.G.pure (.bool true) (by kernel_rfl) (fun w => by kernel_rfl) ?_
        refine Sx.G.pure (.bool true) (by kernel_rfl) (fun w => by kernel_rfl) ?_
        refine Sx.G.ld 32 (.tmp 7) b5 0 0 [.slice xA0 (stK l 6).prog.length xc0, .int .i64 (stK l 6).a, .int .i64 (stK l 6).pc, .slice xA1 (stK l 6).wr.length xc1, .slice xA2 (stK l 6).lv.length xc2, .int .i64 (stK l 6).t.1, .int .i64 (stK l 6).t.2.1, .bool (stK l 6).t.2.2, .int .i64 (stK l 6).pd, .int .i64 (stK l 6).x.1, .int .i64 (stK l 6).x.2.1, .bool (stK l 6).x.2.2.1, .int .i64 (stK l 6).x.2.2.2, .bool (stK l 6).hl, .slice xA3 (stK l 6).seen.length xc3] [.slice xA0 (stK l 6).prog.length xc0, .int .i64 (stK l 6).a, .int .i64 (stK l 6).pc, .slice xA1 (stK l 6).wr.length xc1, .slice xA2 (stK l 6).lv.length xc2, .int .i64 (stK l 6).t.1, .int .i64 (stK l 6).t.2.1, .bool (stK l 6).t.2.2, .int .i64 (stK l 6).pd, .int .i64 (stK l 6).x.1, .int .i64 (stK l 6).x.2.1, .bool (stK l 6).x.2.2.1, .int .i64 (stK l 6).x.2.2.2, .bool (stK l 6).hl, .slice xA3 (stK l 6).seen.length xc3] rfl (by kernel_rfl) (by kernel_rfl) rfl (by kernel_rfl) (by kernel_rfl) (by kernel_rfl) ?_
        refine Sx.G.plain 27 #[.agg #[.slice xA0 (stK l 6).prog.length xc0, .int .i64 (stK l 6).a, .int .i64 (stK l 6).pc, .slice xA1 (stK l 6).wr.length xc1, .slice xA2 (stK l 6).lv.length xc2, .int .i64 (stK l 6).t.1, .int .i64 (stK l 6).t.2.1, .bool (stK l 6).t.2.2, .int .i64 (stK l 6).pd, .int .i64 (stK l 6).x.1, .int .i64 (stK l 6).x.2.1, .bool (stK l 6).x.2.2.1, .int .i64 (stK l 6).x.2.2.2, .bool (stK l 6).hl, .slice xA3 (stK l 6).seen.length xc3]] (.int .i64 7) (by kernel_rfl) (fun w => by kernel_rfl) (fun w S => by exact ((impl_want (stK l 6) _ _ (stK_wf hl0 6 (by omega)) (stK_cap l 6) (Sx.St.rdc S 1 rfl)).mono fun e w' h => And.intro (h.1.trans (by rw [wantS_end])) h.2)) ?_
        refine Sx.G.pure (.bool true) (by kernel_rfl) (fun w => by kernel_rfl) ?_
        refine Sx.G.pure (.bool true) (by kernel_rfl) (fun w => by kernel_rfl) ?_
        refine Sx.G.pure (.bool true) (by kernel_rfl) (fun w => by kernel_rfl) ?_
        refine Sx.G.ld 32 (.tmp 7) b5 0 0 [.slice xA0 (stK l 6).prog.length xc0, .int .i64 (stK l 6).a, .int .i64 (stK l 6).pc, .slice xA1 (stK l 6).wr.length xc1, .slice xA2 (stK l 6).lv.length xc2, .int .i64 (stK l 6).t.1, .int .i64 (stK l 6).t.2.1, .bool (stK l 6).t.2.2, .int .i64 (stK l 6).pd, .int .i64 (stK l 6).x.1, .int .i64 (stK l 6).x.2.1, .bool (stK l 6).x.2.2.1, .int .i64 (stK l 6).x.2.2.2, .bool (stK l 6).hl, .slice xA3 (stK l 6).seen.length xc3] [.slice xA0 (stK l 6).prog.length xc0, .int .i64 (stK l 6).a, .int .i64 (stK l 6).pc, .slice xA1 (stK l 6).wr.length xc1, .slice xA2 (stK l 6).lv.length xc2, .int .i64 (stK l 6).t.1, .int .i64 (stK l 6).t.2.1, .bool (stK l 6).t.2.2, .int .i64 (stK l 6).pd, .int .i64 (stK l 6).x.1, .int .i64 (stK l 6).x.2.1, .bool (stK l 6).x.2.2.1, .int .i64 (stK l 6).x.2.2.2, .bool (stK l 6).hl, .slice xA3 (stK l 6).seen.length xc3] rfl (by kernel_rfl) (by kernel_rfl) rfl (by kernel_rfl) (by kernel_rfl) (by kernel_rfl) ?_
        refine Sx.G.plain 36 #[.agg #[.slice xA0 (stK l 6).prog.length xc0, .int .i64 (stK l 6).a, .int .i64 (stK l 6).pc, .slice xA1 (stK l 6).wr.length xc1, .slice xA2 (stK l 6).lv.length xc2, .int .i64 (stK l 6).t.1, .int .i64 (stK l 6).t.2.1, .bool (stK l 6).t.2.2, .int .i64 (stK l 6).pd, .int .i64 (stK l 6).x.1, .int .i64 (stK l 6).x.2.1, .bool (stK l 6).x.2.2.1, .int .i64 (stK l 6).x.2.2.2, .bool (stK l 6).hl, .slice xA3 (stK l 6).seen.length xc3]] (.bool true) (by kernel_rfl) (fun w => by kernel_rfl) (fun w S => by exact impl_canRun (stK l 6) _ _ (stK_wf hl0 6 (by omega)) (stK_cap l 6) (Sx.St.rdc S 1 rfl)) ?_
        refine Sx.G.pure (.bool true) (by kernel_rfl) (fun w => by kernel_rfl) ?_
        refine Sx.G.pure (.bool true) (by kernel_rfl) (fun w => by kernel_rfl) ?_
        refine Sx.G.nil ?_
        refine Sx.E.next ?_
        refine Sx.C.ret ?_
        refine Sx.E.ret1 (.bool true) rfl (by kernel_rfl) (fun w S => ?_)
        exact ⟨rfl, S.below⟩
      · have hb6 := hc6
        replace hc6 := of_decide_eq_true hc6
        refine Sx.C.yes (by kernel_rfl) (by kernel_rfl) ?_
        refine Sx.C.skip ?_
        refine Sx.E.next ?_
        refine Sx.C.seq ?_
        refine Sx.C.block ?_
        refine Sx.C.region ?_
        refine Sx.G.ld 32 (.tmp 7) b5 0 0 [.slice xA0 (stK l k).prog.length xc0, .int .i64 (stK l k).a, .int .i64 (stK l k).pc, .slice xA1 (stK l k).wr.length xc1, .slice xA2 (stK l k).lv.length xc2, .int .i64 (stK l k).t.1, .int .i64 (stK l k).t.2.1, .bool (stK l k).t.2.2, .int .i64 (stK l k).pd, .int .i64 (stK l k).x.1, .int .i64 (stK l k).x.2.1, .bool (stK l k).x.2.2.1, .int .i64 (stK l k).x.2.2.2, .bool (stK l k).hl, .slice xA3 (stK l k).seen.length xc3] [.slice xA0 (stK l k).prog.length xc0, .int .i64 (stK l k).a, .int .i64 (stK l k).pc, .slice xA1 (stK l k).wr.length xc1, .slice xA2 (stK l k).lv.length xc2, .int .i64 (stK l k).t.1, .int .i64 (stK l k).t.2.1, .bool (stK l k).t.2.2, .int .i64 (stK l k).pd, .int .i64 (stK l k).x.1, .int .i64 (stK l k).x.2.1, .bool (stK l k).x.2.2.1, .int .i64 (stK l k).x.2.2.2, .bool (stK l k).hl, .slice xA3 (stK l k).seen.length xc3] rfl (by kernel_rfl) (by kernel_rfl) rfl (by kernel_rfl) (by kernel_rfl) (by kernel_rfl) ?_
        refine Sx.G.call 14 #[.agg #[.slice xA0 (stK l k).prog.length xc0, .int .i64 (stK l k).a, .int .i64 (stK l k).pc, .slice xA1 (stK l k).wr.length xc1, .slice xA2 (stK l k).lv.length xc2, .int .i64 (stK l k).t.1, .int .i64 (stK l k).t.2.1, .bool (stK l k).t.2.2, .int .i64 (stK l k).pd, .int .i64 (stK l k).x.1, .int .i64 (stK l k).x.2.1, .bool (stK l k).x.2.2.1, .int .i64 (stK l k).x.2.2.2, .bool (stK l k).hl, .slice xA3 (stK l k).seen.length xc3]] (by kernel_rfl) (fun w => by kernel_rfl) (fun w7 S => ((show Calls _ _ _ _ (gP _ (stK l (k + 1))) from plainS hl0 (show k < 6 by omega) ▸ impl_plain (stK l k) _ _ (stK_wf hl0 k (by omega)) (stK_cap l k) (Sx.St.rdc S 1 rfl))).mono fun e w7' hp => ?_)
        obtain ⟨y0, y1, y2, y3, rfl, ho, hb⟩ := hp
        obtain ⟨PA7_0, Pc7_0, e0, -⟩ := ho.r0
        subst e0
        obtain ⟨PA7_1, Pc7_1, e0, -⟩ := ho.r1
        subst e0
        obtain ⟨PA7_2, Pc7_2, e0, -⟩ := ho.r2
        subst e0
        obtain ⟨PA7_3, Pc7_3, e0, -⟩ := ho.r3
        subst e0
        have hrd := ho.rg
        refine ⟨_, _, rfl, (Sx.St.gotR S hb hrd), ?_⟩
        clear S ho hb hrd
        refine Sx.G.sto 32 (.tmp 7) (.tmp 51) b5 0 1 [.slice xA0 (stK l k).prog.length xc0, .int .i64 (stK l k).a, .int .i64 (stK l k).pc, .slice xA1 (stK l k).wr.length xc1, .slice xA2 (stK l k).lv.length xc2, .int .i64 (stK l k).t.1, .int .i64 (stK l k).t.2.1, .bool (stK l k).t.2.2, .int .i64 (stK l k).pd, .int .i64 (stK l k).x.1, .int .i64 (stK l k).x.2.1, .bool (stK l k).x.2.2.1, .int .i64 (stK l k).x.2.2.2, .bool (stK l k).hl, .slice xA3 (stK l k).seen.length xc3] [.slice PA7_0 (stK l (k + 1)).prog.length Pc7_0, .int .i64 (stK l (k + 1)).a, .int .i64 (stK l (k + 1)).pc, .slice PA7_1 (stK l (k + 1)).wr.length Pc7_1, .slice PA7_2 (stK l (k + 1)).lv.length Pc7_2, .int .i64 (stK l (k + 1)).t.1, .int .i64 (stK l (k + 1)).t.2.1, .bool (stK l (k + 1)).t.2.2, .int .i64 (stK l (k + 1)).pd, .int .i64 (stK l (k + 1)).x.1, .int .i64 (stK l (k + 1)).x.2.1, .bool (stK l (k + 1)).x.2.2.1, .int .i64 (stK l (k + 1)).x.2.2.2, .bool (stK l (k + 1)).hl, .slice PA7_3 (stK l (k + 1)).seen.length Pc7_3] [.slice PA7_0 (stK l (k + 1)).prog.length Pc7_0, .int .i64 (stK l (k + 1)).a, .int .i64 (stK l (k + 1)).pc, .slice PA7_1 (stK l (k + 1)).wr.length Pc7_1, .slice PA7_2 (stK l (k + 1)).lv.length Pc7_2, .int .i64 (stK l (k + 1)).t.1, .int .i64 (stK l (k + 1)).t.2.1, .bool (stK l (k + 1)).t.2.2, .int .i64 (stK l (k + 1)).pd, .int .i64 (stK l (k + 1)).x.1, .int .i64 (stK l (k + 1)).x.2.1, .bool (stK l (k + 1)).x.2.2.1, .int .i64 (stK l (k + 1)).x.2.2.2, .bool (stK l (k + 1)).hl, .slice PA7_3 (stK l (k + 1)).seen.length Pc7_3] [Sx.rdc rG w7.heap.size w7'.heap.size (stK l (k + 1)) [.slice PA7_0 (stK l (k + 1)).prog.length Pc7_0, .int .i64 (stK l (k + 1)).a, .int .i64 (stK l (k + 1)).pc, .slice PA7_1 (stK l (k + 1)).wr.length Pc7_1, .slice PA7_2 (stK l (k + 1)).lv.length Pc7_2, .int .i64 (stK l (k + 1)).t.1, .int .i64 (stK l (k + 1)).t.2.1, .bool (stK l (k + 1)).t.2.2, .int .i64 (stK l (k + 1)).pd, .int .i64 (stK l (k + 1)).x.1, .int .i64 (stK l (k + 1)).x.2.1, .bool (stK l (k + 1)).x.2.2.1, .int .i64 (stK l (k + 1)).x.2.2.2, .bool (stK l (k + 1)).hl, .slice PA7_3 (stK l (k + 1)).seen.length Pc7_3], vr b5 [.slice PA7_0 (stK l (k + 1)).prog.length Pc7_0, .int .i64 (stK l (k + 1)).a, .int .i64 (stK l (k + 1)).pc, .slice PA7_1 (stK l (k + 1)).wr.length Pc7_1, .slice PA7_2 (stK l (k + 1)).lv.length Pc7_2, .int .i64 (stK l (k + 1)).t.1, .int .i64 (stK l (k + 1)).t.2.1, .bool (stK l (k + 1)).t.2.2, .int .i64 (stK l (k + 1)).pd, .int .i64 (stK l (k + 1)).x.1, .int .i64 (stK l (k + 1)).x.2.1, .bool (stK l (k + 1)).x.2.2.1, .int .i64 (stK l (k + 1)).x.2.2.2, .bool (stK l (k + 1)).hl, .slice PA7_3 (stK l (k + 1)).seen.length Pc7_3], Sx.rdc rG xlo xhi (stK l k) [.slice xA0 (stK l k).prog.length xc0, .int .i64 (stK l k).a, .int .i64 (stK l k).pc, .slice xA1 (stK l k).wr.length xc1, .slice xA2 (stK l k).lv.length xc2, .int .i64 (stK l k).t.1, .int .i64 (stK l k).t.2.1, .bool (stK l k).t.2.2, .int .i64 (stK l k).pd, .int .i64 (stK l k).x.1, .int .i64 (stK l k).x.2.1, .bool (stK l k).x.2.2.1, .int .i64 (stK l k).x.2.2.2, .bool (stK l k).hl, .slice xA3 (stK l k).seen.length xc3]] rfl (by kernel_rfl) (by kernel_rfl) (by kernel_rfl) rfl (by kernel_rfl) rfl (by kernel_rfl) (by kernel_rfl) (by kernel_rfl) ?_
        refine Sx.G.nil ?_
        refine Sx.E.block_normal ?_
        refine Sx.E.next ?_
        refine Sx.C.region ?_
        refine Sx.G.pure (.int .i64 (k : Int)) (by kernel_rfl) (fun w => by kernel_rfl) ?_
        refine Sx.G.pureq (.int .i64 (IntKind.i64.wrap ((k : Int) + 1))) (.int .i64 ((k + 1 : Nat) : Int)) (by kernel_rfl) (fun w => by kernel_rfl) (congrArg (Value.int .i64) (Sx.wrap_up k (by omega))) ?_
        refine Sx.G.pure (.int .i64 ((k + 1 : Nat) : Int)) (by kernel_rfl) (fun w => by kernel_rfl) ?_
        refine Sx.G.nil ?_
        exact Sx.E.again (k + 1, PA7_0, Pc7_0, PA7_1, Pc7_1, PA7_2, Pc7_2, PA7_3, Pc7_3, w7.heap.size, w7'.heap.size) (by show k + 1 ≤ 6; omega) (by show 6 - (k + 1) < 6 - k; omega) (fun a hA => (Sx.Ag.and hA (Sx.Ag.and hA (Sx.Ag.and hA (Sx.Ag.and hA (Sx.Ag.none hA) _ _ (by kernel_rfl)) _ _ (by kernel_rfl)) _ _ (by kernel_rfl)) _ _ (by kernel_rfl))) (fun w S => St.pick S [1, 0] _ rfl (by decide))
    · have hb3 := hc3
      replace hc3 := of_decide_eq_true hc3
      refine Sx.C.yes (by kernel_rfl) (by kernel_rfl) ?_
      refine Sx.C.skip ?_
      refine Sx.E.next ?_
      refine Sx.C.seq ?_
      refine Sx.C.block ?_
      refine Sx.C.seq ?_
      refine Sx.C.region ?_
      refine Sx.G.pure (.slice xA (m + 1) xc) (by kernel_rfl) (fun w => by kernel_rfl) ?_
      refine Sx.G.pure (.slice (some ⟨gp, 0, none⟩) 12 cp) (by kernel_rfl) (fun w => by kernel_rfl) ?_
      refine Sx.G.pure (.int .i64 ((m + 1 : Nat) : Int)) (by kernel_rfl) (fun w => by kernel_rfl) ?_
      refine Sx.G.pure (.pointer (some ⟨gp, 0 + (m + 1) * 1, none⟩)) (by kernel_rfl) (fun w => Sx.run_elemO 3 1 8 gp 0 12 cp (m + 1) rfl (by kernel_rfl) (by kernel_rfl) (by kernel_rfl) (by omega) w) ?_
      have ha31 := avS_range hl0 (m + 1)
      unfold avS at ha31
      refine Sx.G.reads (.int .i64 (l.getD (m + 1) 0)) (by kernel_rfl) (fun w S => Sx.run_ldr1 rfl (by kernel_rfl) (by kernel_rfl) (show w.cell? ⟨gp, 0 + (m + 1) * 1, none⟩ = some (.int .i64 (l.getD (m + 1) 0)) by rw [Nat.zero_add, Nat.mul_one]; exact St.cell S 1 rfl (m + 1) (cell_get l (m + 1) (by omega)))) ?_
      refine Sx.G.pure (.int .i64 ((l.getD (m + 1) 0).tmod 100)) (by kernel_rfl) (fun w => by kernel_rfl) ?_
      refine Sx.G.pure (.agg #[.int .i64 2, .int .i64 ((l.getD (m + 1) 0).tmod 100)]) (by kernel_rfl) (fun w => by kernel_rfl) ?_
      refine Sx.G.made 42 [.int .i64 2, .int .i64 ((l.getD (m + 1) 0).tmod 100)] 1 (by kernel_rfl) (fun w => by kernel_rfl) (fun b8 => ?_)
      refine Sx.G.apps (r := (rPair rInt rInt)) 1 rfl (prgS l (m + 1 + 1)) (ys := [(2, avS l (m + 1))]) (fun w S => St.box (r := (rPair rInt rInt)) (x := (2, avS l (m + 1))) S 0 rfl (show (rPair rInt rInt).rd w 0 w.heap.size (2, avS l (m + 1)) _ from ⟨[_], [_], rfl, rfl, rfl⟩) 1 (Nat.le_refl _)) (prgS_step l (by omega)) (m + 1 + 1) (prgS_len l _) flat_P2 (.tmp 27) (.tmp 34) 24 2 16 rfl rfl (by kernel_rfl) (by kernel_rfl) rfl (by kernel_rfl) (by kernel_rfl) (by rw [prgS_len]; simp only [maxLen, List.length_cons, List.length_nil]; omega) (by rw [prgS_len]; simp only [List.length_cons, List.length_nil]; omega) (fun A9 c9 F9 hi9 hm9 => ?_)
      refine Sx.G.pure (.slice A9 (m + 1 + 1) c9) (by kernel_rfl) (fun w => by kernel_rfl) ?_
      refine Sx.G.nil ?_
      refine Sx.E.next ?_
      refine Sx.C.region ?_
      refine Sx.G.pure (.int .i64 (sumS l (m + 1))) (by kernel_rfl) (fun w => by kernel_rfl) ?_
      refine Sx.G.pure (.slice (some ⟨gp, 0, none⟩) 12 cp) (by kernel_rfl) (fun w => by kernel_rfl) ?_
      refine Sx.G.pure (.int .i64 ((m + 1 : Nat) : Int)) (by kernel_rfl) (fun w => by kernel_rfl) ?_
      refine Sx.G.pure (.pointer (some ⟨gp, 0 + (m + 1) * 1, none⟩)) (by kernel_rfl) (fun w => Sx.run_elemO 3 1 8 gp 0 12 cp (m + 1) rfl (by kernel_rfl) (by kernel_rfl) (by kernel_rfl) (by omega) w) ?_
      have ha40 := avS_range hl0 (m + 1)
      unfold avS at ha40
      refine Sx.G.reads (.int .i64 (l.getD (m + 1) 0)) (by kernel_rfl) (fun w S => Sx.run_ldr1 rfl (by kernel_rfl) (by kernel_rfl) (show w.cell? ⟨gp, 0 + (m + 1) * 1, none⟩ = some (.int .i64 (l.getD (m + 1) 0)) by rw [Nat.zero_add, Nat.mul_one]; exact St.cell S 2 rfl (m + 1) (cell_get l (m + 1) (by omega)))) ?_
      refine Sx.G.pure (.int .i64 ((l.getD (m + 1) 0).tmod 100)) (by kernel_rfl) (fun w => by kernel_rfl) ?_
      refine Sx.G.pureq (.int .i64 (IntKind.i64.wrap ((sumS l (m + 1)) + ((l.getD (m + 1) 0).tmod 100)))) (.int .i64 ((sumS l (m + 1)) + ((l.getD (m + 1) 0).tmod 100))) (by kernel_rfl) (fun w => by kernel_rfl) (congrArg (Value.int .i64) (by rw [IntKind.wrap_i64]; omega)) ?_
      refine Sx.G.pure (.int .i64 (((sumS l (m + 1)) + ((l.getD (m + 1) 0).tmod 100)).tmod 100)) (by kernel_rfl) (fun w => by kernel_rfl) ?_
      refine Sx.G.pure (.int .i64 (((sumS l (m + 1)) + ((l.getD (m + 1) 0).tmod 100)).tmod 100)) (by kernel_rfl) (fun w => by kernel_rfl) ?_
      refine Sx.G.nil ?_
      refine Sx.E.block_normal ?_
      refine Sx.E.next ?_
      refine Sx.C.region ?_
      refine Sx.G.pure (.int .i64 ((m + 1 : Nat) : Int)) (by kernel_rfl) (fun w => by kernel_rfl) ?_
      refine Sx.G.pureq (.int .i64 (IntKind.i64.wrap (((m + 1 : Nat) : Int) + 1))) (.int .i64 ((m + 2 : Nat) : Int)) (by kernel_rfl) (fun w => by kernel_rfl) (congrArg (Value.int .i64) (Sx.wrap_up (m + 1) (by omega))) ?_
      refine Sx.G.pure (.int .i64 ((m + 2 : Nat) : Int)) (by kernel_rfl) (fun w => by kernel_rfl) ?_
      refine Sx.G.nil ?_
      exact Sx.E.again (m + 1, A9, c9, hi9, F9) (by show m + 1 ≤ 5; omega) (by show 5 - (m + 1) < 5 - m; omega) (fun a hA => (Sx.Ag.and hA (Sx.Ag.and hA (Sx.Ag.and hA (Sx.Ag.and hA (Sx.Ag.and hA (Sx.Ag.none hA) _ _ (by kernel_rfl)) _ _ (by kernel_rfl)) _ _ (by kernel_rfl)) _ _ (by kernel_rfl)) _ _ (by kernel_rfl))) (fun w' S => St.pick S [1, 2] _ rfl (by decide))
set_option maxRecDepth 100000 in
theorem lifted (os : Os) (started : os.Started) (H : Type) (enc : TypeId × Value → H) :
    ReturnsInHanded {} Try.checked os 4 .any (Rows.fnSumsSpec.pre6 enc Try.prog Try.f4 Rows.fnSumsRow.domain false) (Rows.fnSumsSpec.post enc Try.prog Try.f4 false true false false) := by
  refine returnsInHanded_of_change (C := Try.checked) Base.own started (by kernel_rfl) Try.func4
    (ChangeSpec.witness6 (enc := enc) (C := Try.checked) false ⟨#[], #[.slice none 0 0], []⟩ 8 (by kernel_rfl) (by kernel_rfl) (by kernel_rfl) (by kernel_rfl)) ?_
  intro W base args ds gs before hval0 hW hcnd _
  have hval : ∀ (j : Nat) t v, Try.f4.params[j]? = some t → args[j]? = some v → Value.okWide Try.prog W .any base t v := hval0
  have hW' := hW
  obtain ⟨p, q, hA0, hV, rfl, hfz, hnd⟩ := hW
  have hA : DataW.TrodAll enc Try.prog W 0 (fun _ => true) true Try.f4.params.toList args.toList ds p := hA0
  have hA1 := hA
  rw [Try.params4] at hA hval
  obtain ⟨v0, vs0, d0, ds0, p0, q0, hargs, rfl, rfl, h0, r0⟩ := trodAll_cons hA
  obtain ⟨rfl, rfl, rfl⟩ := trodAll_nil r0
  obtain rfl : args = #[v0] := by cases args; simp_all
  obtain ⟨rfl, rfl⟩ := trodVars_none hV
  obtain ⟨A0, n0, c0, rfl, hn0, hcode0, _⟩ := Draw.open_code (hval 0 22 v0 rfl rfl) h0
  clear hA0 hval0
  rw [List.append_nil] at hW'
  refine (walk A0 n0 c0 hn0 hcode0).mono fun e W' ⟨he, hg⟩ => ?_
  subst he
  exact ⟨_, rfl, Mem.post_args Slots.laid (by kernel_rfl) rfl rfl rfl hW' hA1 hg (fun _ _ _ => (trodAll_cons_mk (shut_bool Try.underlying4 _) trodAll_mk0)) (ok_one (by kernel_rfl) rfl (okWide_bool_mk Try.underlying4 _))⟩
theorem over : Rows.fnSumsRow.holds Try.pinned (OpenSpec.ofChange Rows.fnSumsSpec) :=
  OpenClaim.holds_of_wide 4 Try.f4 rfl rfl rfl rfl rfl rfl rfl ⟨rfl, rfl, rfl, rfl, rfl⟩ rfl rfl rfl rfl rfl (by kernel_rfl) Try.func4 (by kernel_rfl)
    (of_decide_eq_true (by kernel_rfl)) (by unfold Func.isWrapper; first | (rw [if_pos (by decide +kernel)]; kernel_rfl) | (rw [if_neg (by decide +kernel)]; exact ⟨rfl, rfl⟩))
    (fun os started H enc _ => lifted os started H enc)
/-- The given statement. -/
theorem proved : Rows.FnSumsSaid :=
  over
#print axioms proved
end Go.Proofs.Ytdbhfadiinmgiaa.fnSums
