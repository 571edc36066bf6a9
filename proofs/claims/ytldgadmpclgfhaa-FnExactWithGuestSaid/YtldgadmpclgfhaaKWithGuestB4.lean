/-
  The texts that KWithGuest wants, part 4: MemPutS BareX BareM CtlImpl GuestImpl Ro BareImpl. No condition.
-/
import Derived.Test.YtldgadmpclgfhaaKWithGuestB3
namespace Go.Proofs.Ytldgadmpclgfhaa.Grid
set_option maxRecDepth 100000
open Go.ChangeShapes Go.WideShapes Go.ChangeAt Go.RowKit
open Go.Proofs.Ytldgadmpclgfhaa.Base Go.Proofs.Ytldgadmpclgfhaa.Mem Go.Proofs.Ytldgadmpclgfhaa.Ints
set_option linter.unusedVariables false
def SameP {α : Type} [DecidableEq α] (w : World) (l m : List α) (e : Ending) (w' : World) : Prop := e = .returned (.bool (decide (l = m))) ∧ ∃ q, w' = w.drewN q
section
variable {α : Type} [DecidableEq α] {w : World} {l m : List α}
theorem SameP.yes {P : Program} {f : FuncId} {args : Array Value} {w0 : World} (h : Calls P f args w0 (SameP w l m)) (e : l = m) : Calls P f args w0 fun e w' => e = .returned (.bool true) ∧ ∃ q, w' = w.drewN q :=
  h.mono fun e1 w' ⟨h1, h2⟩ => ⟨by rw [h1, decide_eq_true e], h2⟩
theorem SameP.no {P : Program} {f : FuncId} {args : Array Value} {w0 : World} (h : Calls P f args w0 (SameP w l m)) (e : l ≠ m) : Calls P f args w0 fun e w' => e = .returned (.bool false) ∧ ∃ q, w' = w.drewN q :=
  h.mono fun e1 w' ⟨h1, h2⟩ => ⟨by rw [h1, decide_eq_false e], h2⟩
/-- The world has drawn, and nothing else. -/
def Drawn (w w' : World) : Prop := ∃ q, w' = w.drewN q
theorem Drawn.cell {w' : World} (h : Drawn w w') (p : Addr) : w'.cell? p = w.cell? p := by
  obtain ⟨q, rfl⟩ := h
  rfl
theorem Drawn.lies {w' : World} (h : Drawn w w') {lo hi : Nat} {A : Option Addr} {cs : List Value} (k : Lies w lo hi A cs) : Lies w' lo hi A cs := by
  obtain ⟨q, rfl⟩ := h
  exact k
theorem Drawn.more {w' : World} (h : Drawn w w') (r : Nat) : Drawn w (w'.drewN (1 + r)) := by
  obtain ⟨q, rfl⟩ := h
  exact ⟨q + (1 + r), World.drewN_drewN ..⟩
end
end Go.Proofs.Ytldgadmpclgfhaa.Grid
namespace Go.Proofs.Ytldgadmpclgfhaa.Kit
set_option maxRecDepth 100000
open Go.ChangeShapes Go.WideShapes Go.ChangeAt Go.RowKit Go.Deep
open Go.Proofs.Ytldgadmpclgfhaa.Base Go.Proofs.Ytldgadmpclgfhaa.Mem Go.Proofs.Ytldgadmpclgfhaa.Data Go.Proofs.Ytldgadmpclgfhaa.Stt Go.Proofs.Ytldgadmpclgfhaa.Guests Go.Proofs.Ytldgadmpclgfhaa.Ctls Go.Proofs.Ytldgadmpclgfhaa.Exits Go.Proofs.Ytldgadmpclgfhaa.Irqs
set_option linter.unusedVariables false
set_option linter.unusedSimpArgs false
set_option maxRecDepth 100000 in
set_option maxHeartbeats 4000000 in
theorem specx_mcopy (xs : (List (List Int))) (A : Option Addr) (c : Nat) (w : World) (hc : (rLsw (rLsw rInt)).cap xs) (h : rdLst (rLsw rInt) w 0 w.heap.size xs [.slice A xs.length c]) : Calls Try.prog 110 #[.slice A xs.length c] w (Gives (rLst 26 (rLsw rInt)) w xs) := by
  obtain ⟨hl, hce⟩ := hc
  refine Sx.enter (args := [.slice A xs.length c]) Try.func110 rfl Try.ntmps110 rfl ?_
  refine Sx.C.seq ?_
  refine Sx.C.region ?_
  refine Sx.G.pure (.slice none 0 0) (by kernel_rfl) (fun w => by kernel_rfl) ?_
  refine Sx.G.nil ?_
  refine Sx.E.next ?_
  refine Sx.C.seq ?_
  refine Sx.C.region ?_
  refine Sx.G.fresh 26 (rLsw rInt) (by kernel_rfl) (fun w => by kernel_rfl) (fun b1 hi1 => ?_)
  refine Sx.G.pure (.slice (some ⟨b1, 0, none⟩) 0 0) (by kernel_rfl) (fun w => by kernel_rfl) ?_
  refine Sx.G.nil ?_
  refine Sx.E.next ?_
  refine Sx.C.seq ?_
  refine Sx.C.seq ?_
  refine Sx.C.region ?_
  refine Sx.G.pure (.int .i64 0) (by kernel_rfl) (fun w => by kernel_rfl) ?_
  refine Sx.G.nil ?_
  refine Sx.E.next ?_
  refine Sx.C.block ?_
  refine Sx.C.loop (α := Nat × Option Addr × Nat × Nat × List Nat) (fun x => x.1 ≤ xs.length) (fun x => [(4, .int .i64 (x.1 : Int)), (3, .slice x.2.1 x.1 x.2.2.1), (0, .slice A xs.length c), (2, .slice none 0 0)]) (fun x => [ow (rLst 26 (rLsw rInt)) w.heap.size x.2.2.2.1 (xs.take x.1) [.slice x.2.1 x.1 x.2.2.1] x.2.2.2.2]) (fun x => xs.length - x.1) (0, (some ⟨b1, 0, none⟩), 0, hi1, [b1]) (Nat.zero_le _) (fun a hA => (Sx.Ag.and hA (Sx.Ag.and hA (Sx.Ag.and hA (Sx.Ag.and hA (Sx.Ag.none hA) _ _ (by kernel_rfl)) _ _ (by kernel_rfl)) _ _ (by kernel_rfl)) _ _ (by kernel_rfl))) (fun w' S => by have S2 := Sx.St.widen S 0 rfl (Nat.le_refl _) (S.hi 0 _ rfl); exact S2) (fun x hx => ?_)
  obtain ⟨i, xA, xc, xh, xF⟩ := x
  dsimp only at hx
  refine Sx.C.seq ?_
  refine Sx.C.seq ?_
  refine Sx.C.region ?_
  refine Sx.G.pure (.int .i64 (i : Int)) (by kernel_rfl) (fun w => by kernel_rfl) ?_
  refine Sx.G.pure (.slice A xs.length c) (by kernel_rfl) (fun w => by kernel_rfl) ?_
  refine Sx.G.pure (.int .i64 ((xs.length : Nat) : Int)) (by kernel_rfl) (fun w => by kernel_rfl) ?_
  refine Sx.G.pure (.bool (decide ((i : Int) < ((xs.length : Nat) : Int)))) (by kernel_rfl) (fun w => by kernel_rfl) ?_
  refine Sx.G.nil ?_
  refine Sx.E.next ?_
  cases hc2 : (decide ((i : Int) < ((xs.length : Nat) : Int)))
  · have hb2 := hc2
    replace hc2 := of_decide_eq_false hc2
    refine Sx.C.no (by kernel_rfl) (by kernel_rfl) ?_
    refine Sx.C.exit ?_
    refine Sx.E.then_exit ?_
    refine Sx.E.then_exit ?_
    refine Sx.E.block_hit ?_
    refine Sx.E.next ?_
    refine Sx.C.seq ?_
    refine Sx.C.region ?_
    refine Sx.G.pure (.slice xA i xc) (by kernel_rfl) (fun w => by kernel_rfl) ?_
    refine Sx.G.pure (.slice xA i xc) (by kernel_rfl) (fun w => by kernel_rfl) ?_
    refine Sx.G.nil ?_
    refine Sx.E.next ?_
    refine Sx.C.ret ?_
    refine Sx.E.ret1 (.slice xA i xc) rfl (by kernel_rfl) (fun w S => ?_)
    have h2' : xs.take i = xs := List.take_of_length_le (by omega)
    obtain rfl : i = xs.length := by omega
    rw [h2'] at S
    exact ⟨[_], _, rfl, S.own 0 rfl, S.nodup 0 rfl, S.below⟩
  · have hb2 := hc2
    replace hc2 := of_decide_eq_true hc2
    refine Sx.C.yes (by kernel_rfl) (by kernel_rfl) ?_
    refine Sx.C.skip ?_
    refine Sx.E.next ?_
    refine Sx.C.seq ?_
    refine Sx.C.block ?_
    refine Sx.C.region ?_
    refine Sx.G.pure (.slice xA i xc) (by kernel_rfl) (fun w => by kernel_rfl) ?_
    refine Sx.G.fresh 3 rInt (by kernel_rfl) (fun w => by kernel_rfl) (fun b3 hi3 => ?_)
    refine Sx.G.pure (.slice A xs.length c) (by kernel_rfl) (fun w => by kernel_rfl) ?_
    refine Sx.G.pure (.int .i64 (i : Int)) (by kernel_rfl) (fun w => by kernel_rfl) ?_
    obtain ⟨b4, f4, es4, eA4, hr4, hl4, hm4⟩ := Sx.old_elem (by decide) h i (by omega)
    subst eA4
    obtain ⟨x4, hx4⟩ : ∃ z_, z_ = (xs[i]'(by omega)) := ⟨_, rfl⟩
    rw [← hx4] at hr4
    have hle4 : x4.length ≤ 1048576 := (hce _ (hx4 ▸ List.getElem_mem _)).1
    replace hr4 : rdLst rInt w 0 w.heap.size x4 es4 := hr4
    obtain ⟨P4, rfl⟩ := lst_rd hr4
    obtain ⟨A4, c4, e4, -⟩ := lst_val hr4
    subst e4
    refine Sx.G.elem 24 26 (.tmp 14) (.tmp 15) 1 24 b4 f4 xs.length c i rfl (by kernel_rfl) (by kernel_rfl) (by kernel_rfl) (by kernel_rfl) (by omega) ?_
    refine Sx.G.ldr1 26 (.tmp 16) b4 ((f4 + i * 1) + 0) (.slice A4 x4.length c4) rfl (by kernel_rfl) (by kernel_rfl) (fun w S => hm4 w _ S 0 _ rfl) (by kernel_rfl) ?_
    refine Sx.G.apps 0 rfl x4 (fun w S => St.old (r := (rLsw rInt)) S hr4) (List.nil_append _) x4.length (by simp) flat_int (.tmp 13) (.tmp 17) 26 1 8 rfl rfl (by kernel_rfl) (by kernel_rfl) rfl (by kernel_rfl) (by kernel_rfl) (by simp only [maxLen, List.length_nil, List.length_cons]; omega) (by simp only [List.length_nil, List.length_cons]; omega) (fun A5 c5 F5 hi5 hm5 => ?_)
    refine Sx.G.made 26 [.slice A5 x4.length c5] 1 (by kernel_rfl) (fun w => by kernel_rfl) (fun b6 => ?_)
    refine Sx.G.turn (ι := List Nat) (p := fun _ => True) (fun F7 => [vr b6 [.slice A5 x4.length c5], ow (rLsw rInt) w.heap.size hi5 x4 [.slice A5 x4.length c5] F7, ow (rLst 26 (rLsw rInt)) w.heap.size xh (xs.take i) [.slice xA i xc] xF]) (fun w S => by obtain ⟨F', S⟩ := St.weak S 1 rfl; exact ⟨F', trivial, S⟩) (fun F7 _ => ?_)
    refine Sx.G.claims (L' := [ow (rLst 26 (rLsw rInt)) w.heap.size xh (xs.take i) [.slice xA i xc] xF, ow (rLsw rInt) w.heap.size hi5 x4 [.slice A5 x4.length c5] F7, vr b6 [.slice A5 x4.length c5]]) (fun w S => St.pick S [2, 1, 0] _ rfl (by decide)) ?_
    refine Sx.G.appr (.tmp 12) (.tmp 19) 24 1 24 1 rfl (by kernel_rfl) (by kernel_rfl) rfl (by kernel_rfl) (by kernel_rfl) (by kernel_rfl) (by rw [List.length_take]; simp only [maxLen]; omega) (by rw [List.length_take]; omega) (xs.take (i + 1)) (by rw [hx4]; exact (Kit.take_step (by omega)).symm) (i + 1) (by rw [List.length_take]; omega) (fun A8 c8 F8 hi8 hm8 => ?_)
    refine Sx.G.pure (.slice A8 (i + 1) c8) (by kernel_rfl) (fun w => by kernel_rfl) ?_
    refine Sx.G.nil ?_
    refine Sx.E.block_normal ?_
    refine Sx.E.next ?_
    refine Sx.C.region ?_
    refine Sx.G.pure (.int .i64 (i : Int)) (by kernel_rfl) (fun w => by kernel_rfl) ?_
    refine Sx.G.pureq (.int .i64 (IntKind.i64.wrap ((i : Int) + 1))) (.int .i64 ((i + 1 : Nat) : Int)) (by kernel_rfl) (fun w => by kernel_rfl) (congrArg (Value.int .i64) (Sx.wrap_up i (by omega))) ?_
    refine Sx.G.pure (.int .i64 ((i + 1 : Nat) : Int)) (by kernel_rfl) (fun w => by kernel_rfl) ?_
    refine Sx.G.nil ?_
    exact Sx.E.again (i + 1, A8, c8, hi8, F8) (by show i + 1 ≤ xs.length; omega) (by show xs.length - (i + 1) < xs.length - i; omega) (fun a hA => (Sx.Ag.and hA (Sx.Ag.and hA (Sx.Ag.and hA (Sx.Ag.and hA (Sx.Ag.none hA) _ _ (by kernel_rfl)) _ _ (by kernel_rfl)) _ _ (by kernel_rfl)) _ _ (by kernel_rfl))) (fun w' S => St.pick S [0] _ rfl (by decide))
set_option maxRecDepth 100000 in
set_option maxHeartbeats 4000000 in
theorem specx_gscopy (xs : (List gT)) (A : Option Addr) (c : Nat) (w : World) (hc : (rLsw wG).cap xs) (h : rdLst wG w 0 w.heap.size xs [.slice A xs.length c]) : Calls Try.prog 111 #[.slice A xs.length c] w (Gives (rLst 51 wG) w xs) := by
  obtain ⟨hl, hce⟩ := hc
  refine Sx.enter (args := [.slice A xs.length c]) Try.func111 rfl Try.ntmps111 rfl ?_
  refine Sx.C.seq ?_
  refine Sx.C.region ?_
  refine Sx.G.pure (.slice none 0 0) (by kernel_rfl) (fun w => by kernel_rfl) ?_
  refine Sx.G.nil ?_
  refine Sx.E.next ?_
  refine Sx.C.seq ?_
  refine Sx.C.region ?_
  refine Sx.G.fresh 51 wG (by kernel_rfl) (fun w => by kernel_rfl) (fun b1 hi1 => ?_)
  refine Sx.G.pure (.slice (some ⟨b1, 0, none⟩) 0 0) (by kernel_rfl) (fun w => by kernel_rfl) ?_
  refine Sx.G.nil ?_
  refine Sx.E.next ?_
  refine Sx.C.seq ?_
  refine Sx.C.seq ?_
  refine Sx.C.region ?_
  refine Sx.G.pure (.int .i64 0) (by kernel_rfl) (fun w => by kernel_rfl) ?_
  refine Sx.G.nil ?_
  refine Sx.E.next ?_
  refine Sx.C.block ?_
  refine Sx.C.loop (α := Nat × Option Addr × Nat × Nat × List Nat) (fun x => x.1 ≤ xs.length) (fun x => [(4, .int .i64 (x.1 : Int)), (3, .slice x.2.1 x.1 x.2.2.1), (0, .slice A xs.length c), (2, .slice none 0 0)]) (fun x => [ow (rLst 51 wG) w.heap.size x.2.2.2.1 (xs.take x.1) [.slice x.2.1 x.1 x.2.2.1] x.2.2.2.2]) (fun x => xs.length - x.1) (0, (some ⟨b1, 0, none⟩), 0, hi1, [b1]) (Nat.zero_le _) (fun a hA => (Sx.Ag.and hA (Sx.Ag.and hA (Sx.Ag.and hA (Sx.Ag.and hA (Sx.Ag.none hA) _ _ (by kernel_rfl)) _ _ (by kernel_rfl)) _ _ (by kernel_rfl)) _ _ (by kernel_rfl))) (fun w' S => by have S2 := Sx.St.widen S 0 rfl (Nat.le_refl _) (S.hi 0 _ rfl); exact S2) (fun x hx => ?_)
  obtain ⟨i, xA, xc, xh, xF⟩ := x
  dsimp only at hx
  refine Sx.C.seq ?_
  refine Sx.C.seq ?_
  refine Sx.C.region ?_
  refine Sx.G.pure (.int .i64 (i : Int)) (by kernel_rfl) (fun w => by kernel_rfl) ?_
  refine Sx.G.pure (.slice A xs.length c) (by kernel_rfl) (fun w => by kernel_rfl) ?_
  refine Sx.G.pure (.int .i64 ((xs.length : Nat) : Int)) (by kernel_rfl) (fun w => by kernel_rfl) ?_
  refine Sx.G.pure (.bool (decide ((i : Int) < ((xs.length : Nat) : Int)))) (by kernel_rfl) (fun w => by kernel_rfl) ?_
  refine Sx.G.nil ?_
  refine Sx.E.next ?_
  cases hc2 : (decide ((i : Int) < ((xs.length : Nat) : Int)))
  · have hb2 := hc2
    replace hc2 := of_decide_eq_false hc2
    refine Sx.C.no (by kernel_rfl) (by kernel_rfl) ?_
    refine Sx.C.exit ?_
    refine Sx.E.then_exit ?_
    refine Sx.E.then_exit ?_
    refine Sx.E.block_hit ?_
    refine Sx.E.next ?_
    refine Sx.C.seq ?_
    refine Sx.C.region ?_
    refine Sx.G.pure (.slice xA i xc) (by kernel_rfl) (fun w => by kernel_rfl) ?_
    refine Sx.G.pure (.slice xA i xc) (by kernel_rfl) (fun w => by kernel_rfl) ?_
    refine Sx.G.nil ?_
    refine Sx.E.next ?_
    refine Sx.C.ret ?_
    refine Sx.E.ret1 (.slice xA i xc) rfl (by kernel_rfl) (fun w S => ?_)
    have h2' : xs.take i = xs := List.take_of_length_le (by omega)
    obtain rfl : i = xs.length := by omega
    rw [h2'] at S
    exact ⟨[_], _, rfl, S.own 0 rfl, S.nodup 0 rfl, S.below⟩
  · have hb2 := hc2
    replace hc2 := of_decide_eq_true hc2
    refine Sx.C.yes (by kernel_rfl) (by kernel_rfl) ?_
    refine Sx.C.skip ?_
    refine Sx.E.next ?_
    refine Sx.C.seq ?_
    refine Sx.C.block ?_
    refine Sx.C.region ?_
    refine Sx.G.pure (.slice xA i xc) (by kernel_rfl) (fun w => by kernel_rfl) ?_
    refine Sx.G.pure (.slice A xs.length c) (by kernel_rfl) (fun w => by kernel_rfl) ?_
    refine Sx.G.pure (.int .i64 (i : Int)) (by kernel_rfl) (fun w => by kernel_rfl) ?_
    obtain ⟨b3, f3, es3, eA3, hr3, hl3, hm3⟩ := Sx.old_elem (by decide) h i (by omega)
    subst eA3
    obtain ⟨x3, hx3⟩ : ∃ z_, z_ = (xs[i]'(by omega)) := ⟨_, rfl⟩
    rw [← hx3] at hr3
    have hR3 := hr3
    obtain ⟨P3_0, P3_1, P3_2, P3_3, rfl, hf3_0, hf3_1, hf3_2, hf3_3⟩ := wG_rd hr3
    obtain ⟨A3_0, c3_0, e3_0, -⟩ := lst_val hf3_0
    subst e3_0
    obtain ⟨A3_1, c3_1, e3_1, -⟩ := lst_val hf3_1
    subst e3_1
    obtain ⟨A3_2, c3_2, e3_2, -⟩ := lst_val hf3_2
    subst e3_2
    obtain ⟨A3_3, c3_3, e3_3, -⟩ := lst_val hf3_3
    subst e3_3
    refine Sx.G.elem 25 51 (.tmp 13) (.tmp 14) 15 184 b3 f3 xs.length c i rfl (by kernel_rfl) (by kernel_rfl) (by kernel_rfl) (by kernel_rfl) (by omega) ?_
    refine Sx.G.ldr 51 (.tmp 15) b3 (f3 + i * 15) [.slice A3_0 x3.prog.length c3_0, .int .i64 x3.a, .int .i64 x3.pc, .slice A3_1 x3.wr.length c3_1, .slice A3_2 x3.lv.length c3_2, .int .i64 x3.t.1, .int .i64 x3.t.2.1, .bool x3.t.2.2, .int .i64 x3.pd, .int .i64 x3.x.1, .int .i64 x3.x.2.1, .bool x3.x.2.2.1, .int .i64 x3.x.2.2.2, .bool x3.hl, .slice A3_3 x3.seen.length c3_3] rfl (by kernel_rfl) (by kernel_rfl) (fun w S => hm3 w _ S) (by kernel_rfl) (by kernel_rfl) ?_
    refine Sx.G.call 67 #[.agg #[.slice A3_0 x3.prog.length c3_0, .int .i64 x3.a, .int .i64 x3.pc, .slice A3_1 x3.wr.length c3_1, .slice A3_2 x3.lv.length c3_2, .int .i64 x3.t.1, .int .i64 x3.t.2.1, .bool x3.t.2.2, .int .i64 x3.pd, .int .i64 x3.x.1, .int .i64 x3.x.2.1, .bool x3.x.2.2.1, .int .i64 x3.x.2.2.2, .bool x3.hl, .slice A3_3 x3.seen.length c3_3]] (by kernel_rfl) (fun w => by kernel_rfl) (fun w4 S => (((Guests.specx_copy x3 _ _ (cap_G (hce _ (hx3 ▸ List.getElem_mem _))) (rd_G (St.old S hR3))).mono weak_G)).mono fun e w4' hp => ?_)
    obtain ⟨cs, F, rfl, ho, hF, hb⟩ := hp
    obtain ⟨P4_0, P4_1, P4_2, P4_3, rfl, f4_0, f4_1, f4_2, f4_3⟩ := wG_rd (wG.reads ho)
    obtain ⟨A4_0, c4_0, e4_0, -⟩ := lst_val f4_0
    subst e4_0
    obtain ⟨A4_1, c4_1, e4_1, -⟩ := lst_val f4_1
    subst e4_1
    obtain ⟨A4_2, c4_2, e4_2, -⟩ := lst_val f4_2
    subst e4_2
    obtain ⟨A4_3, c4_3, e4_3, -⟩ := lst_val f4_3
    subst e4_3
    generalize F = F4 at ho hF
    refine ⟨_, _, rfl, (St.got S hb ho hF), ?_⟩
    clear S hb ho hF f4_0 f4_1 f4_2 f4_3
    refine Sx.G.made 51 [.slice A4_0 x3.prog.length c4_0, .int .i64 x3.a, .int .i64 x3.pc, .slice A4_1 x3.wr.length c4_1, .slice A4_2 x3.lv.length c4_2, .int .i64 x3.t.1, .int .i64 x3.t.2.1, .bool x3.t.2.2, .int .i64 x3.pd, .int .i64 x3.x.1, .int .i64 x3.x.2.1, .bool x3.x.2.2.1, .int .i64 x3.x.2.2.2, .bool x3.hl, .slice A4_3 x3.seen.length c4_3] 1 (by kernel_rfl) (fun w => by kernel_rfl) (fun b5 => ?_)
    refine Sx.G.claims (L' := [ow (rLst 51 wG) w.heap.size xh (xs.take i) [.slice xA i xc] xF, ow wG w4.heap.size w4'.heap.size x3 [.slice A4_0 x3.prog.length c4_0, .int .i64 x3.a, .int .i64 x3.pc, .slice A4_1 x3.wr.length c4_1, .slice A4_2 x3.lv.length c4_2, .int .i64 x3.t.1, .int .i64 x3.t.2.1, .bool x3.t.2.2, .int .i64 x3.pd, .int .i64 x3.x.1, .int .i64 x3.x.2.1, .bool x3.x.2.2.1, .int .i64 x3.x.2.2.2, .bool x3.hl, .slice A4_3 x3.seen.length c4_3] F4, vr b5 [.slice A4_0 x3.prog.length c4_0, .int .i64 x3.a, .int .i64 x3.pc, .slice A4_1 x3.wr.length c4_1, .slice A4_2 x3.lv.length c4_2, .int .i64 x3.t.1, .int .i64 x3.t.2.1, .bool x3.t.2.2, .int .i64 x3.pd, .int .i64 x3.x.1, .int .i64 x3.x.2.1, .bool x3.x.2.2.1, .int .i64 x3.x.2.2.2, .bool x3.hl, .slice A4_3 x3.seen.length c4_3]]) (fun w S => St.pick S [2, 1, 0] _ rfl (by decide)) ?_
    refine Sx.G.appr (.tmp 12) (.tmp 18) 25 15 184 1 rfl (by kernel_rfl) (by kernel_rfl) rfl (by kernel_rfl) (by kernel_rfl) (by kernel_rfl) (by rw [List.length_take]; simp only [maxLen]; omega) (by rw [List.length_take]; omega) (xs.take (i + 1)) (by rw [hx3]; exact (Kit.take_step (by omega)).symm) (i + 1) (by rw [List.length_take]; omega) (fun A6 c6 F6 hi6 hm6 => ?_)
    refine Sx.G.pure (.slice A6 (i + 1) c6) (by kernel_rfl) (fun w => by kernel_rfl) ?_
    refine Sx.G.nil ?_
    refine Sx.E.block_normal ?_
    refine Sx.E.next ?_
    refine Sx.C.region ?_
    refine Sx.G.pure (.int .i64 (i : Int)) (by kernel_rfl) (fun w => by kernel_rfl) ?_
    refine Sx.G.pureq (.int .i64 (IntKind.i64.wrap ((i : Int) + 1))) (.int .i64 ((i + 1 : Nat) : Int)) (by kernel_rfl) (fun w => by kernel_rfl) (congrArg (Value.int .i64) (Sx.wrap_up i (by omega))) ?_
    refine Sx.G.pure (.int .i64 ((i + 1 : Nat) : Int)) (by kernel_rfl) (fun w => by kernel_rfl) ?_
    refine Sx.G.nil ?_
    exact Sx.E.again (i + 1, A6, c6, hi6, F6) (by show i + 1 ≤ xs.length; omega) (by show xs.length - (i + 1) < xs.length - i; omega) (fun a hA => (Sx.Ag.and hA (Sx.Ag.and hA (Sx.Ag.and hA (Sx.Ag.and hA (Sx.Ag.none hA) _ _ (by kernel_rfl)) _ _ (by kernel_rfl)) _ _ (by kernel_rfl)) _ _ (by kernel_rfl))) (fun w' S => St.pick S [0] _ rfl (by decide))
def withG (b : bT) (g : Int) (x : gT) : bT := if inB g 0 ((b.gs.length : Int) - 1) = true then { b with gs := b.gs.set g.toNat x } else b
theorem set_at {α : Type} {xs : List α} {j : Nat} {y : α} (h : j < xs.length) : xs.set j y = xs.take j ++ y :: xs.drop (j + 1) := by
  rw [List.set_eq_take_append_cons_drop, if_pos h]
set_option maxRecDepth 100000 in
set_option maxHeartbeats 4000000 in
theorem specx_bcopy (x : bT) (cs : List Value) (w : World) (hc : wB.cap x) (h : wB.rd w 0 w.heap.size x cs) : Calls Try.prog 77 #[.agg cs.toArray] w (Gives rB w x) := by
  obtain ⟨hcap0, hcap1, hcap2, hcap3⟩ := hc
  have hlo : x.outs.length ≤ 1048576 := hcap2.1
  have hR := h
  obtain ⟨hP0, hP1, hP2, rfl, hf0, hf1, hf2⟩ := wB_rd h
  obtain ⟨hA0, hK0, he0, -⟩ := lst_val hf0
  subst he0
  obtain ⟨hA1, hK1, he1, -⟩ := lst_val hf1
  subst he1
  obtain ⟨hA2, hK2, he2, -⟩ := lst_val hf2
  subst he2
  refine Sx.enter (args := [.agg #[.slice hA0 x.mem.length hK0, .slice hA1 x.gs.length hK1, .slice hA2 x.outs.length hK2, .int .i64 x.pd]]) Try.func77 rfl Try.ntmps77 rfl ?_
  refine Sx.C.seq ?_
  refine Sx.C.region ?_
  refine Sx.G.box 28 (.tmp 0) [.slice hA0 x.mem.length hK0, .slice hA1 x.gs.length hK1, .slice hA2 x.outs.length hK2, .int .i64 x.pd] rfl (by kernel_rfl) (by kernel_rfl) (fun b1 => ?_)
  refine Sx.G.alloc 28 (.agg #[.slice none 0 0, .slice none 0 0, .slice none 0 0, .int .i64 0]) [.slice none 0 0, .slice none 0 0, .slice none 0 0, .int .i64 0] rfl (by kernel_rfl) (fun w => by kernel_rfl) (by kernel_rfl) (fun b2 => ?_)
  refine Sx.G.nil ?_
  refine Sx.E.next ?_
  refine Sx.C.seq ?_
  refine Sx.C.cut (fun e a w' => e = .normal ∧ ∃ (Y0 : Option Addr) (Y1 : Nat) (Y2 : List Nat) (Y3 : Nat) (Y4 : Nat) (Y5 : Option Addr) (Y6 : Nat) (Y7 : List Nat) (Y8 : Nat) (Y9 : Nat) (Y10 : Nat) (Y11 : Nat) (Y12 : Option Addr) (Y13 : Nat) (Y14 : List Nat) (Y15 : Nat), Sx.Ag 16 [(2, .pointer (some ⟨b2, 0, none⟩))] a ∧ St w w' [ow (rLst 3 rInt) w.heap.size Y15 x.outs [.slice Y12 x.outs.length Y13] Y14, ow (rLsw wG) Y8 Y9 x.gs [.slice Y5 x.gs.length Y6] Y7, ow (rLsw (rLsw rInt)) Y3 Y4 x.mem [.slice Y0 x.mem.length Y1] Y2, vr b2 [.slice Y0 x.mem.length Y1, .slice Y5 x.gs.length Y6, .slice Y12 x.outs.length Y13, .int .i64 x.pd], vr b1 [.slice hA0 x.mem.length hK0, .slice hA1 x.gs.length hK1, .slice hA2 x.outs.length hK2, .int .i64 x.pd]]) ?_ ?_
  · refine Sx.C.draw (.take 0 (.take 1 (.take 3 (.take 4 (.take 7 (.take 8 (.take 10 (.take 11 (.two 2 (.two 5 (.alone 6 (.alone 9 (.take 12 (.alone 13 .nil)))) 6 (.alone 5 (.alone 9 (.take 12 (.alone 13 .nil))))) 6 (.alone 2 (.alone 5 (.alone 9 (.take 12 (.alone 13 .nil)))))))))))))) [vr b1 [.slice hA0 x.mem.length hK0, .slice hA1 x.gs.length hK1, .slice hA2 x.outs.length hK2, .int .i64 x.pd]] (fun w S => St.pick S [1] _ rfl (by decide)) (by kernel_rfl) (by kernel_rfl) (by kernel_rfl) ?_
    refine Sx.GT.pure (.pointer (some ⟨b1, 0, none⟩)) 0 (by rfl) (by kernel_rfl) (fun w => by kernel_rfl) ?_
    refine Sx.GT.ld1 24 (.tmp 3) b1 0 0 [.slice hA0 x.mem.length hK0, .slice hA1 x.gs.length hK1, .slice hA2 x.outs.length hK2, .int .i64 x.pd] (.slice hA0 x.mem.length hK0) 1 (by rfl) (by rfl) (by kernel_rfl) (by kernel_rfl) (by rfl) (by kernel_rfl) (by kernel_rfl) ?_
    refine Sx.GT.pure (.pointer (some ⟨b1, 1, none⟩)) 3 (by rfl) (by kernel_rfl) (fun w => by kernel_rfl) ?_
    refine Sx.GT.ld1 25 (.tmp 6) b1 1 0 [.slice hA0 x.mem.length hK0, .slice hA1 x.gs.length hK1, .slice hA2 x.outs.length hK2, .int .i64 x.pd] (.slice hA1 x.gs.length hK1) 4 (by rfl) (by rfl) (by kernel_rfl) (by kernel_rfl) (by rfl) (by kernel_rfl) (by kernel_rfl) ?_
    refine Sx.GT.pure (.pointer (some ⟨b1, 2, none⟩)) 7 (by rfl) (by kernel_rfl) (fun w => by kernel_rfl) ?_
    refine Sx.GT.ld1 26 (.tmp 10) b1 2 0 [.slice hA0 x.mem.length hK0, .slice hA1 x.gs.length hK1, .slice hA2 x.outs.length hK2, .int .i64 x.pd] (.slice hA2 x.outs.length hK2) 8 (by rfl) (by rfl) (by kernel_rfl) (by kernel_rfl) (by rfl) (by kernel_rfl) (by kernel_rfl) ?_
    refine Sx.GT.pure (.pointer (some ⟨b1, 3, none⟩)) 10 (by rfl) (by kernel_rfl) (fun w => by kernel_rfl) ?_
    refine Sx.GT.ld1 3 (.tmp 13) b1 3 0 [.slice hA0 x.mem.length hK0, .slice hA1 x.gs.length hK1, .slice hA2 x.outs.length hK2, .int .i64 x.pd] (.int .i64 x.pd) 11 (by rfl) (by rfl) (by kernel_rfl) (by kernel_rfl) (by rfl) (by kernel_rfl) (by kernel_rfl) ?_
    refine Sx.GT.two ?_ ?_
    · refine Sx.Alone.call 110 #[.slice hA0 x.mem.length hK0] (by rfl) (by kernel_rfl) (fun w => by kernel_rfl) (fun w3 S => (specx_mcopy x.mem hA0 hK0 _ hcap0 (St.old (r := (rLsw (rLsw rInt))) S hf0)).mono fun e w3' hp => ?_)
      obtain ⟨cs, F, rfl, ho, hF, hb⟩ := hp
      obtain ⟨u3, rfl⟩ := lst_own ho
      obtain ⟨A3, c3, e3, -⟩ := lst_val ((rLst _ _).reads ho)
      subst e3
      obtain ⟨F3, S'⟩ := St.weak (St.got S hb ho hF) 0 rfl
      refine ⟨_, _, rfl, S', (fun w S => St.pick S [2] _ rfl (by decide)), ?_⟩
      clear S S' hb ho hF
      refine Sx.GT.two ?_ ?_
      · refine Sx.Alone.call 111 #[.slice hA1 x.gs.length hK1] (by rfl) (by kernel_rfl) (fun w => by kernel_rfl) (fun w4 S => (specx_gscopy x.gs hA1 hK1 _ hcap1 (St.old (r := (rLsw wG)) S hf1)).mono fun e w4' hp => ?_)
        obtain ⟨cs, F, rfl, ho, hF, hb⟩ := hp
        obtain ⟨u4, rfl⟩ := lst_own ho
        obtain ⟨A4, c4, e4, -⟩ := lst_val ((rLst _ _).reads ho)
        subst e4
        obtain ⟨F4, S'⟩ := St.weak (St.got S hb ho hF) 0 rfl
        refine ⟨_, _, rfl, S', (fun w S => St.pick S [3] _ rfl (by decide)), ?_⟩
        clear S S' hb ho hF
        refine Sx.GT.alone (Sx.Alone.fresh 3 rInt (by rfl) (by kernel_rfl) (fun w => by kernel_rfl) (fun w S => St.pick S [3] _ rfl (by decide)) (fun b5 hi5 => ?_))
        refine Sx.GT.alone (Sx.Alone.apps 0 (by rfl) x.outs (fun w S => St.old (r := (rLsw rInt)) S hf2) (List.nil_append _) x.outs.length (by simp) flat_int (.tmp 9) (.tmp 11) 26 1 8 (by rfl) (by rfl) (by kernel_rfl) (by kernel_rfl) (by rfl) (by kernel_rfl) (by kernel_rfl) (by simp only [maxLen, List.length_nil, List.length_cons]; omega) (by simp only [List.length_nil, List.length_cons]; omega) (fun _ _ _ _ w S => St.pick S [4] _ rfl (by decide)) (fun A6 c6 F6 hi6 hm6 => ?_))
        refine Sx.GT.pure (.agg #[.slice A3 x.mem.length c3, .slice A4 x.gs.length c4, .slice A6 x.outs.length c6, .int .i64 x.pd]) 12 (by rfl) (by kernel_rfl) (fun w => by kernel_rfl) ?_
        refine Sx.GT.alone (Sx.Alone.sto 28 (.tmp 2) (.tmp 15) b2 0 3 [.slice none 0 0, .slice none 0 0, .slice none 0 0, .int .i64 0] [.slice A3 x.mem.length c3, .slice A4 x.gs.length c4, .slice A6 x.outs.length c6, .int .i64 x.pd] [.slice A3 x.mem.length c3, .slice A4 x.gs.length c4, .slice A6 x.outs.length c6, .int .i64 x.pd] [ow (rLst 3 rInt) w.heap.size hi6 x.outs [.slice A6 x.outs.length c6] F6, ow (rLsw wG) w4.heap.size w4'.heap.size x.gs [.slice A4 x.gs.length c4] F4, ow (rLsw (rLsw rInt)) w3.heap.size w3'.heap.size x.mem [.slice A3 x.mem.length c3] F3, vr b2 [.slice A3 x.mem.length c3, .slice A4 x.gs.length c4, .slice A6 x.outs.length c6, .int .i64 x.pd], vr b1 [.slice hA0 x.mem.length hK0, .slice hA1 x.gs.length hK1, .slice hA2 x.outs.length hK2, .int .i64 x.pd]] (by rfl) (by rfl) (by kernel_rfl) (by kernel_rfl) (by kernel_rfl) (by rfl) (by kernel_rfl) (by rfl) (by kernel_rfl) (by kernel_rfl) (by kernel_rfl) (fun w S => St.pick S [4] _ rfl (by decide)) ?_)
        exact Sx.GT.nil (fun a w' hA S => ⟨rfl, A3, c3, F3, w3.heap.size, w3'.heap.size, A4, c4, F4, w4.heap.size, w4'.heap.size, 0, 0, A6, c6, F6, hi6, (Sx.Ag.and hA (Sx.Ag.none hA) _ _ (by kernel_rfl)), St.pick S [0, 1, 2, 3, 4] _ rfl (by decide)⟩)
      · refine Sx.Alone.fresh 3 rInt (by rfl) (by kernel_rfl) (fun w => by kernel_rfl) (fun w S => St.pick S [2] _ rfl (by decide)) (fun b7 hi7 => ?_)
        refine Sx.GT.alone (Sx.Alone.call 111 #[.slice hA1 x.gs.length hK1] (by rfl) (by kernel_rfl) (fun w => by kernel_rfl) (fun w8 S => (specx_gscopy x.gs hA1 hK1 _ hcap1 (St.old (r := (rLsw wG)) S hf1)).mono fun e w8' hp => ?_))
        obtain ⟨cs, F, rfl, ho, hF, hb⟩ := hp
        obtain ⟨u8, rfl⟩ := lst_own ho
        obtain ⟨A8, c8, e8, -⟩ := lst_val ((rLst _ _).reads ho)
        subst e8
        obtain ⟨F8, S'⟩ := St.weak (St.got S hb ho hF) 0 rfl
        refine ⟨_, _, rfl, S', (fun w S => St.pick S [4] _ rfl (by decide)), ?_⟩
        clear S S' hb ho hF
        refine Sx.GT.alone (Sx.Alone.apps 1 (by rfl) x.outs (fun w S => St.old (r := (rLsw rInt)) S hf2) (List.nil_append _) x.outs.length (by simp) flat_int (.tmp 9) (.tmp 11) 26 1 8 (by rfl) (by rfl) (by kernel_rfl) (by kernel_rfl) (by rfl) (by kernel_rfl) (by kernel_rfl) (by simp only [maxLen, List.length_nil, List.length_cons]; omega) (by simp only [List.length_nil, List.length_cons]; omega) (fun _ _ _ _ w S => St.pick S [4] _ rfl (by decide)) (fun A9 c9 F9 hi9 hm9 => ?_))
        refine Sx.GT.pure (.agg #[.slice A3 x.mem.length c3, .slice A8 x.gs.length c8, .slice A9 x.outs.length c9, .int .i64 x.pd]) 12 (by rfl) (by kernel_rfl) (fun w => by kernel_rfl) ?_
        refine Sx.GT.alone (Sx.Alone.sto 28 (.tmp 2) (.tmp 15) b2 0 3 [.slice none 0 0, .slice none 0 0, .slice none 0 0, .int .i64 0] [.slice A3 x.mem.length c3, .slice A8 x.gs.length c8, .slice A9 x.outs.length c9, .int .i64 x.pd] [.slice A3 x.mem.length c3, .slice A8 x.gs.length c8, .slice A9 x.outs.length c9, .int .i64 x.pd] [ow (rLsw wG) w8.heap.size w8'.heap.size x.gs [.slice A8 x.gs.length c8] F8, ow (rLst 3 rInt) w.heap.size hi9 x.outs [.slice A9 x.outs.length c9] F9, ow (rLsw (rLsw rInt)) w3.heap.size w3'.heap.size x.mem [.slice A3 x.mem.length c3] F3, vr b2 [.slice A3 x.mem.length c3, .slice A8 x.gs.length c8, .slice A9 x.outs.length c9, .int .i64 x.pd], vr b1 [.slice hA0 x.mem.length hK0, .slice hA1 x.gs.length hK1, .slice hA2 x.outs.length hK2, .int .i64 x.pd]] (by rfl) (by rfl) (by kernel_rfl) (by kernel_rfl) (by kernel_rfl) (by rfl) (by kernel_rfl) (by rfl) (by kernel_rfl) (by kernel_rfl) (by kernel_rfl) (fun w S => St.pick S [4] _ rfl (by decide)) ?_)
        exact Sx.GT.nil (fun a w' hA S => ⟨rfl, A3, c3, F3, w3.heap.size, w3'.heap.size, A8, c8, F8, w8.heap.size, w8'.heap.size, 0, 0, A9, c9, F9, hi9, (Sx.Ag.and hA (Sx.Ag.none hA) _ _ (by kernel_rfl)), St.pick S [1, 0, 2, 3, 4] _ rfl (by decide)⟩)
    · refine Sx.Alone.fresh 3 rInt (by rfl) (by kernel_rfl) (fun w => by kernel_rfl) (fun w S => St.pick S [1] _ rfl (by decide)) (fun b10 hi10 => ?_)
      refine Sx.GT.alone (Sx.Alone.call 110 #[.slice hA0 x.mem.length hK0] (by rfl) (by kernel_rfl) (fun w => by kernel_rfl) (fun w11 S => (specx_mcopy x.mem hA0 hK0 _ hcap0 (St.old (r := (rLsw (rLsw rInt))) S hf0)).mono fun e w11' hp => ?_))
      obtain ⟨cs, F, rfl, ho, hF, hb⟩ := hp
      obtain ⟨u11, rfl⟩ := lst_own ho
      obtain ⟨A11, c11, e11, -⟩ := lst_val ((rLst _ _).reads ho)
      subst e11
      obtain ⟨F11, S'⟩ := St.weak (St.got S hb ho hF) 0 rfl
      refine ⟨_, _, rfl, S', (fun w S => St.pick S [3] _ rfl (by decide)), ?_⟩
      clear S S' hb ho hF
      refine Sx.GT.alone (Sx.Alone.call 111 #[.slice hA1 x.gs.length hK1] (by rfl) (by kernel_rfl) (fun w => by kernel_rfl) (fun w12 S => (specx_gscopy x.gs hA1 hK1 _ hcap1 (St.old (r := (rLsw wG)) S hf1)).mono fun e w12' hp => ?_))
      obtain ⟨cs, F, rfl, ho, hF, hb⟩ := hp
      obtain ⟨u12, rfl⟩ := lst_own ho
      obtain ⟨A12, c12, e12, -⟩ := lst_val ((rLst _ _).reads ho)
      subst e12
      obtain ⟨F12, S'⟩ := St.weak (St.got S hb ho hF) 0 rfl
      refine ⟨_, _, rfl, S', (fun w S => St.pick S [4] _ rfl (by decide)), ?_⟩
      clear S S' hb ho hF
      refine Sx.GT.alone (Sx.Alone.apps 2 (by rfl) x.outs (fun w S => St.old (r := (rLsw rInt)) S hf2) (List.nil_append _) x.outs.length (by simp) flat_int (.tmp 9) (.tmp 11) 26 1 8 (by rfl) (by rfl) (by kernel_rfl) (by kernel_rfl) (by rfl) (by kernel_rfl) (by kernel_rfl) (by simp only [maxLen, List.length_nil, List.length_cons]; omega) (by simp only [List.length_nil, List.length_cons]; omega) (fun _ _ _ _ w S => St.pick S [4] _ rfl (by decide)) (fun A13 c13 F13 hi13 hm13 => ?_))
      refine Sx.GT.pure (.agg #[.slice A11 x.mem.length c11, .slice A12 x.gs.length c12, .slice A13 x.outs.length c13, .int .i64 x.pd]) 12 (by rfl) (by kernel_rfl) (fun w => by kernel_rfl) ?_
      refine Sx.GT.alone (Sx.Alone.sto 28 (.tmp 2) (.tmp 15) b2 0 3 [.slice none 0 0, .slice none 0 0, .slice none 0 0, .int .i64 0] [.slice A11 x.mem.length c11, .slice A12 x.gs.length c12, .slice A13 x.outs.length c13, .int .i64 x.pd] [.slice A11 x.mem.length c11, .slice A12 x.gs.length c12, .slice A13 x.outs.length c13, .int .i64 x.pd] [ow (rLsw wG) w12.heap.size w12'.heap.size x.gs [.slice A12 x.gs.length c12] F12, ow (rLsw (rLsw rInt)) w11.heap.size w11'.heap.size x.mem [.slice A11 x.mem.length c11] F11, ow (rLst 3 rInt) w.heap.size hi13 x.outs [.slice A13 x.outs.length c13] F13, vr b2 [.slice A11 x.mem.length c11, .slice A12 x.gs.length c12, .slice A13 x.outs.length c13, .int .i64 x.pd], vr b1 [.slice hA0 x.mem.length hK0, .slice hA1 x.gs.length hK1, .slice hA2 x.outs.length hK2, .int .i64 x.pd]] (by rfl) (by rfl) (by kernel_rfl) (by kernel_rfl) (by kernel_rfl) (by rfl) (by kernel_rfl) (by rfl) (by kernel_rfl) (by kernel_rfl) (by kernel_rfl) (fun w S => St.pick S [4] _ rfl (by decide)) ?_)
      exact Sx.GT.nil (fun a w' hA S => ⟨rfl, A11, c11, F11, w11.heap.size, w11'.heap.size, A12, c12, F12, w12.heap.size, w12'.heap.size, 0, 0, A13, c13, F13, hi13, (Sx.Ag.and hA (Sx.Ag.none hA) _ _ (by kernel_rfl)), St.pick S [2, 0, 1, 3, 4] _ rfl (by decide)⟩)
  rintro e a w' ⟨rfl, y14_0, y14_1, y14_2, y14_3, y14_4, y14_5, y14_6, y14_7, y14_8, y14_9, y14_10, y14_11, y14_12, y14_13, y14_14, y14_15, hA, S⟩
  refine Sx.E.out ?_ hA S
  clear hA S a w'
  refine Sx.E.next ?_
  refine Sx.C.ret ?_
  refine Sx.E.retc b2 3 [.slice y14_0 x.mem.length y14_1, .slice y14_5 x.gs.length y14_6, .slice y14_12 x.outs.length y14_13, .int .i64 x.pd] rfl (by kernel_rfl) rfl (by kernel_rfl) (by kernel_rfl) (fun w S => ?_)
  obtain ⟨ho, hF⟩ := rB_shut (g := x) S 2 rfl 1 rfl 0 rfl (by decide) (by decide) (by decide)
  exact ⟨_, _, rfl, ho, hF, S.below⟩
set_option maxRecDepth 100000 in
set_option maxHeartbeats 4000000 in
theorem specx_withg (x : bT) (cs : List Value) (g : Int) (y : gT) (ds : List Value) (w : World) (hc : wB.cap x) (hy : wG.cap y) (h : wB.rd w 0 w.heap.size x cs) (k : wG.rd w 0 w.heap.size y ds) : Calls Try.prog 28 #[.agg cs.toArray, .int .i64 g, .agg ds.toArray] w (Gives rB w (withG x g y)) := by
  have hgl : x.gs.length ≤ 1048576 := hc.2.1.1
  have hR := h
  obtain ⟨hP0, hP1, hP2, rfl, hf0, hf1, hf2⟩ := wB_rd h
  obtain ⟨hA0, hK0, he0, -⟩ := lst_val hf0
  subst he0
  obtain ⟨hA1, hK1, he1, -⟩ := lst_val hf1
  subst he1
  obtain ⟨hA2, hK2, he2, -⟩ := lst_val hf2
  subst he2
  have kR := k
  obtain ⟨kP0, kP1, kP2, kP3, rfl, kf0, kf1, kf2, kf3⟩ := wG_rd k
  obtain ⟨kA0, kK0, ke0, -⟩ := lst_val kf0
  subst ke0
  obtain ⟨kA1, kK1, ke1, -⟩ := lst_val kf1
  subst ke1
  obtain ⟨kA2, kK2, ke2, -⟩ := lst_val kf2
  subst ke2
  obtain ⟨kA3, kK3, ke3, -⟩ := lst_val kf3
  subst ke3
  refine Sx.enter (args := [.agg #[.slice hA0 x.mem.length hK0, .slice hA1 x.gs.length hK1, .slice hA2 x.outs.length hK2, .int .i64 x.pd], .int .i64 g, .agg #[.slice kA0 y.prog.length kK0, .int .i64 y.a, .int .i64 y.pc, .slice kA1 y.wr.length kK1, .slice kA2 y.lv.length kK2, .int .i64 y.t.1, .int .i64 y.t.2.1, .bool y.t.2.2, .int .i64 y.pd, .int .i64 y.x.1, .int .i64 y.x.2.1, .bool y.x.2.2.1, .int .i64 y.x.2.2.2, .bool y.hl, .slice kA3 y.seen.length kK3]]) Try.func28 rfl Try.ntmps28 rfl ?_
  refine Sx.C.seq ?_
  refine Sx.C.region ?_
  refine Sx.G.box 28 (.tmp 0) [.slice hA0 x.mem.length hK0, .slice hA1 x.gs.length hK1, .slice hA2 x.outs.length hK2, .int .i64 x.pd] rfl (by kernel_rfl) (by kernel_rfl) (fun b1 => ?_)
  refine Sx.G.box 51 (.tmp 2) [.slice kA0 y.prog.length kK0, .int .i64 y.a, .int .i64 y.pc, .slice kA1 y.wr.length kK1, .slice kA2 y.lv.length kK2, .int .i64 y.t.1, .int .i64 y.t.2.1, .bool y.t.2.2, .int .i64 y.pd, .int .i64 y.x.1, .int .i64 y.x.2.1, .bool y.x.2.2.1, .int .i64 y.x.2.2.2, .bool y.hl, .slice kA3 y.seen.length kK3] rfl (by kernel_rfl) (by kernel_rfl) (fun b2 => ?_)
  refine Sx.G.alloc 28 (.agg #[.slice none 0 0, .slice none 0 0, .slice none 0 0, .int .i64 0]) [.slice none 0 0, .slice none 0 0, .slice none 0 0, .int .i64 0] rfl (by kernel_rfl) (fun w => by kernel_rfl) (by kernel_rfl) (fun b3 => ?_)
  refine Sx.G.nil ?_
  refine Sx.E.next ?_
  refine Sx.C.seq ?_
  refine Sx.C.region ?_
  refine Sx.G.ld 28 (.tmp 3) b1 0 2 [.slice hA0 x.mem.length hK0, .slice hA1 x.gs.length hK1, .slice hA2 x.outs.length hK2, .int .i64 x.pd] [.slice hA0 x.mem.length hK0, .slice hA1 x.gs.length hK1, .slice hA2 x.outs.length hK2, .int .i64 x.pd] rfl (by kernel_rfl) (by kernel_rfl) rfl (by kernel_rfl) (by kernel_rfl) (by kernel_rfl) ?_
  refine Sx.G.call 77 #[.agg #[.slice hA0 x.mem.length hK0, .slice hA1 x.gs.length hK1, .slice hA2 x.outs.length hK2, .int .i64 x.pd]] (by kernel_rfl) (fun w => by kernel_rfl) (fun w4 S => (specx_bcopy x _ _ hc (St.old S hR)).mono fun e w4' hp => ?_)
  obtain ⟨cs, F, rfl, ho, hF, hb⟩ := hp
  obtain ⟨P4_0, P4_1, P4_2, G4_0, G4_1, G4_2, rfl, S'⟩ := rB_open (St.got S hb ho hF)
  obtain ⟨A4_0, c4_0, e4_0, -⟩ := lst_val (S'.reads 0 rfl)
  subst e4_0
  obtain ⟨A4_1, c4_1, e4_1, -⟩ := lst_val (S'.reads 1 rfl)
  subst e4_1
  obtain ⟨A4_2, c4_2, e4_2, -⟩ := lst_val (S'.reads 2 rfl)
  subst e4_2
  refine ⟨_, _, rfl, S', ?_⟩
  clear S S' ho hF hb
  refine Sx.G.sto 28 (.tmp 3) (.tmp 8) b1 0 5 [.slice hA0 x.mem.length hK0, .slice hA1 x.gs.length hK1, .slice hA2 x.outs.length hK2, .int .i64 x.pd] [.slice A4_0 x.mem.length c4_0, .slice A4_1 x.gs.length c4_1, .slice A4_2 x.outs.length c4_2, .int .i64 x.pd] [.slice A4_0 x.mem.length c4_0, .slice A4_1 x.gs.length c4_1, .slice A4_2 x.outs.length c4_2, .int .i64 x.pd] [ow (rLsw (rLsw rInt)) w4.heap.size w4'.heap.size x.mem [.slice A4_0 x.mem.length c4_0] G4_0, ow (rLsw wG) w4.heap.size w4'.heap.size x.gs [.slice A4_1 x.gs.length c4_1] G4_1, ow (rLst 3 rInt) w4.heap.size (w4'.heap.size) x.outs [.slice A4_2 x.outs.length c4_2] G4_2, vr b3 [.slice none 0 0, .slice none 0 0, .slice none 0 0, .int .i64 0], vr b2 [.slice kA0 y.prog.length kK0, .int .i64 y.a, .int .i64 y.pc, .slice kA1 y.wr.length kK1, .slice kA2 y.lv.length kK2, .int .i64 y.t.1, .int .i64 y.t.2.1, .bool y.t.2.2, .int .i64 y.pd, .int .i64 y.x.1, .int .i64 y.x.2.1, .bool y.x.2.2.1, .int .i64 y.x.2.2.2, .bool y.hl, .slice kA3 y.seen.length kK3], vr b1 [.slice A4_0 x.mem.length c4_0, .slice A4_1 x.gs.length c4_1, .slice A4_2 x.outs.length c4_2, .int .i64 x.pd]] rfl (by kernel_rfl) (by kernel_rfl) (by kernel_rfl) rfl (by kernel_rfl) rfl (by kernel_rfl) (by kernel_rfl) (by kernel_rfl) ?_
  refine Sx.G.nil ?_
  refine Sx.E.next ?_
  refine Sx.C.seq ?_
  refine Sx.C.seq ?_
  refine Sx.C.region ?_
  refine Sx.G.pure (.int .i64 g) (by kernel_rfl) (fun w => by kernel_rfl) ?_
  refine Sx.G.pure (.pointer (some ⟨b1, 1, none⟩)) (by kernel_rfl) (fun w => by kernel_rfl) ?_
  refine Sx.G.ld1 25 (.tmp 10) b1 1 5 [.slice A4_0 x.mem.length c4_0, .slice A4_1 x.gs.length c4_1, .slice A4_2 x.outs.length c4_2, .int .i64 x.pd] (.slice A4_1 x.gs.length c4_1) rfl (by kernel_rfl) (by kernel_rfl) rfl (by kernel_rfl) (by kernel_rfl) ?_
  refine Sx.G.pure (.int .i64 ((x.gs.length : Nat) : Int)) (by kernel_rfl) (fun w => by kernel_rfl) ?_
  refine Sx.G.pureq (.int .i64 (IntKind.i64.wrap (((x.gs.length : Nat) : Int) - 1))) (.int .i64 (((x.gs.length : Nat) : Int) - 1)) (by kernel_rfl) (fun w => by kernel_rfl) (congrArg (Value.int .i64) (by rw [IntKind.wrap_i64]; omega)) ?_
  refine Sx.G.plain 57 #[.int .i64 g, .int .i64 0, .int .i64 (((x.gs.length : Nat) : Int) - 1)] (.bool (inB g 0 (((x.gs.length : Nat) : Int) - 1))) (by kernel_rfl) (fun w => by kernel_rfl) (fun w S => by exact ((spec_in g 0 (((x.gs.length : Nat) : Int) - 1) _).mono fun e w' h => And.intro h.1 (Guests.below_same h.2))) ?_
  refine Sx.G.nil ?_
  refine Sx.E.next ?_
  cases hc5 : (inB g 0 (((x.gs.length : Nat) : Int) - 1))
  · have hb5 := hc5
    refine Sx.C.no (by kernel_rfl) (by kernel_rfl) ?_
    refine Sx.C.skip ?_
    refine Sx.E.next ?_
    refine Sx.C.seq ?_
    refine Sx.C.region ?_
    refine Sx.G.ld 28 (.tmp 3) b1 0 5 [.slice A4_0 x.mem.length c4_0, .slice A4_1 x.gs.length c4_1, .slice A4_2 x.outs.length c4_2, .int .i64 x.pd] [.slice A4_0 x.mem.length c4_0, .slice A4_1 x.gs.length c4_1, .slice A4_2 x.outs.length c4_2, .int .i64 x.pd] rfl (by kernel_rfl) (by kernel_rfl) rfl (by kernel_rfl) (by kernel_rfl) (by kernel_rfl) ?_
    refine Sx.G.sto 28 (.tmp 6) (.tmp 21) b3 0 3 [.slice none 0 0, .slice none 0 0, .slice none 0 0, .int .i64 0] [.slice A4_0 x.mem.length c4_0, .slice A4_1 x.gs.length c4_1, .slice A4_2 x.outs.length c4_2, .int .i64 x.pd] [.slice A4_0 x.mem.length c4_0, .slice A4_1 x.gs.length c4_1, .slice A4_2 x.outs.length c4_2, .int .i64 x.pd] [ow (rLsw (rLsw rInt)) w4.heap.size w4'.heap.size x.mem [.slice A4_0 x.mem.length c4_0] G4_0, ow (rLsw wG) w4.heap.size w4'.heap.size x.gs [.slice A4_1 x.gs.length c4_1] G4_1, ow (rLst 3 rInt) w4.heap.size (w4'.heap.size) x.outs [.slice A4_2 x.outs.length c4_2] G4_2, vr b3 [.slice A4_0 x.mem.length c4_0, .slice A4_1 x.gs.length c4_1, .slice A4_2 x.outs.length c4_2, .int .i64 x.pd], vr b2 [.slice kA0 y.prog.length kK0, .int .i64 y.a, .int .i64 y.pc, .slice kA1 y.wr.length kK1, .slice kA2 y.lv.length kK2, .int .i64 y.t.1, .int .i64 y.t.2.1, .bool y.t.2.2, .int .i64 y.pd, .int .i64 y.x.1, .int .i64 y.x.2.1, .bool y.x.2.2.1, .int .i64 y.x.2.2.2, .bool y.hl, .slice kA3 y.seen.length kK3], vr b1 [.slice A4_0 x.mem.length c4_0, .slice A4_1 x.gs.length c4_1, .slice A4_2 x.outs.length c4_2, .int .i64 x.pd]] rfl (by kernel_rfl) (by kernel_rfl) (by kernel_rfl) rfl (by kernel_rfl) rfl (by kernel_rfl) (by kernel_rfl) (by kernel_rfl) ?_
    refine Sx.G.nil ?_
    refine Sx.E.next ?_
    refine Sx.C.ret ?_
    refine Sx.E.retc b3 3 [.slice A4_0 x.mem.length c4_0, .slice A4_1 x.gs.length c4_1, .slice A4_2 x.outs.length c4_2, .int .i64 x.pd] rfl (by kernel_rfl) rfl (by kernel_rfl) (by kernel_rfl) (fun w S => ?_)
    rw [show withG x g y = x from if_neg (by rw [hc5]; decide)]
    obtain ⟨ho, hF⟩ := rB_shut (g := x) S 0 rfl 1 rfl 2 rfl (by decide) (by decide) (by decide)
    exact ⟨_, _, rfl, ho, hF, S.below⟩
  · have hb5 := hc5
    have hin := inB_iff.1 hc5
    obtain ⟨j, hj⟩ : ∃ j : Nat, g = (j : Int) := ⟨g.toNat, by omega⟩
    subst hj
    have hjl : j < x.gs.length := by omega
    refine Sx.C.yes (by kernel_rfl) (by kernel_rfl) ?_
    refine Sx.C.claims (L' := [ow (rLsw wG) w4.heap.size w4'.heap.size x.gs [.slice A4_1 x.gs.length c4_1] G4_1, ow (rLsw (rLsw rInt)) w4.heap.size w4'.heap.size x.mem [.slice A4_0 x.mem.length c4_0] G4_0, ow (rLst 3 rInt) w4.heap.size (w4'.heap.size) x.outs [.slice A4_2 x.outs.length c4_2] G4_2, vr b3 [.slice none 0 0, .slice none 0 0, .slice none 0 0, .int .i64 0], vr b2 [.slice kA0 y.prog.length kK0, .int .i64 y.a, .int .i64 y.pc, .slice kA1 y.wr.length kK1, .slice kA2 y.lv.length kK2, .int .i64 y.t.1, .int .i64 y.t.2.1, .bool y.t.2.2, .int .i64 y.pd, .int .i64 y.x.1, .int .i64 y.x.2.1, .bool y.x.2.2.1, .int .i64 y.x.2.2.2, .bool y.hl, .slice kA3 y.seen.length kK3], vr b1 [.slice A4_0 x.mem.length c4_0, .slice A4_1 x.gs.length c4_1, .slice A4_2 x.outs.length c4_2, .int .i64 x.pd]]) (fun w S => St.pick S [1, 0, 2, 3, 4, 5] _ rfl (by decide)) ?_
    refine Sx.C.open (r := wG) (pre := x.gs.take j) (x := x.gs[j]) (post := x.gs.drop (j + 1)) (by rw [← Kit.drop_step hjl, List.take_append_drop]) (by decide) (fun b off es F1 F2' F2 eA eF hes hm hmc => ?_)
    subst eA eF
    refine Sx.C.know (p := ∃ P0 P1 P2 P3, es = [P0, .int .i64 (x.gs[j]).a, .int .i64 (x.gs[j]).pc, P1, P2, .int .i64 (x.gs[j]).t.1, .int .i64 (x.gs[j]).t.2.1, .bool (x.gs[j]).t.2.2, .int .i64 (x.gs[j]).pd, .int .i64 (x.gs[j]).x.1, .int .i64 (x.gs[j]).x.2.1, .bool (x.gs[j]).x.2.2.1, .int .i64 (x.gs[j]).x.2.2.2, .bool (x.gs[j]).hl, P3]) (fun w S => by obtain ⟨P0, P1, P2, P3, -, -, -, -, e, -⟩ := wG_own (St.at_ S 1 rfl).1; exact ⟨P0, P1, P2, P3, e⟩) ?_
    rintro ⟨P0, P1, P2, P3, rfl⟩
    refine Sx.C.draw (.take 0 (.take 1 (.take 2 (.take 3 (.alone 4 (.take 5 (.alone 6 .nil))))))) [vr b2 [.slice kA0 y.prog.length kK0, .int .i64 y.a, .int .i64 y.pc, .slice kA1 y.wr.length kK1, .slice kA2 y.lv.length kK2, .int .i64 y.t.1, .int .i64 y.t.2.1, .bool y.t.2.2, .int .i64 y.pd, .int .i64 y.x.1, .int .i64 y.x.2.1, .bool y.x.2.2.1, .int .i64 y.x.2.2.2, .bool y.hl, .slice kA3 y.seen.length kK3], vr b1 [.slice A4_0 x.mem.length c4_0, .slice (some ⟨b, off, none⟩) x.gs.length c4_1, .slice A4_2 x.outs.length c4_2, .int .i64 x.pd]] (fun w S => St.pick S [5, 6] _ rfl (by decide)) (by kernel_rfl) (by kernel_rfl) (by kernel_rfl) ?_
    refine Sx.GT.pure (.pointer (some ⟨b1, 1, none⟩)) 0 (by rfl) (by kernel_rfl) (fun w => by kernel_rfl) ?_
    refine Sx.GT.ld1 25 (.tmp 15) b1 1 1 [.slice A4_0 x.mem.length c4_0, .slice (some ⟨b, off, none⟩) x.gs.length c4_1, .slice A4_2 x.outs.length c4_2, .int .i64 x.pd] (.slice (some ⟨b, off, none⟩) x.gs.length c4_1) 1 (by rfl) (by rfl) (by kernel_rfl) (by kernel_rfl) (by rfl) (by kernel_rfl) (by kernel_rfl) ?_
    refine Sx.GT.pure (.int .i64 (j : Int)) 2 (by rfl) (by kernel_rfl) (fun w => by kernel_rfl) ?_
    refine Sx.GT.ld 51 (.tmp 5) b2 0 0 [.slice kA0 y.prog.length kK0, .int .i64 y.a, .int .i64 y.pc, .slice kA1 y.wr.length kK1, .slice kA2 y.lv.length kK2, .int .i64 y.t.1, .int .i64 y.t.2.1, .bool y.t.2.2, .int .i64 y.pd, .int .i64 y.x.1, .int .i64 y.x.2.1, .bool y.x.2.2.1, .int .i64 y.x.2.2.2, .bool y.hl, .slice kA3 y.seen.length kK3] [.slice kA0 y.prog.length kK0, .int .i64 y.a, .int .i64 y.pc, .slice kA1 y.wr.length kK1, .slice kA2 y.lv.length kK2, .int .i64 y.t.1, .int .i64 y.t.2.1, .bool y.t.2.2, .int .i64 y.pd, .int .i64 y.x.1, .int .i64 y.x.2.1, .bool y.x.2.2.1, .int .i64 y.x.2.2.2, .bool y.hl, .slice kA3 y.seen.length kK3] 3 (by rfl) (by rfl) (by kernel_rfl) (by kernel_rfl) (by rfl) (by kernel_rfl) (by kernel_rfl) (by kernel_rfl) ?_
    refine Sx.GT.alone (Sx.Alone.call 67 #[.agg #[.slice kA0 y.prog.length kK0, .int .i64 y.a, .int .i64 y.pc, .slice kA1 y.wr.length kK1, .slice kA2 y.lv.length kK2, .int .i64 y.t.1, .int .i64 y.t.2.1, .bool y.t.2.2, .int .i64 y.pd, .int .i64 y.x.1, .int .i64 y.x.2.1, .bool y.x.2.2.1, .int .i64 y.x.2.2.2, .bool y.hl, .slice kA3 y.seen.length kK3]] (by rfl) (by kernel_rfl) (fun w => by kernel_rfl) (fun w6 S => (((Guests.specx_copy y _ _ (cap_G hy) (rd_G (St.old S kR))).mono weak_G)).mono fun e w6' hp => ?_))
    obtain ⟨cs, F, rfl, ho, hF, hb⟩ := hp
    obtain ⟨P6_0, P6_1, P6_2, P6_3, rfl, f6_0, f6_1, f6_2, f6_3⟩ := wG_rd (wG.reads ho)
    obtain ⟨A6_0, c6_0, e6_0, -⟩ := lst_val f6_0
    subst e6_0
    obtain ⟨A6_1, c6_1, e6_1, -⟩ := lst_val f6_1
    subst e6_1
    obtain ⟨A6_2, c6_2, e6_2, -⟩ := lst_val f6_2
    subst e6_2
    obtain ⟨A6_3, c6_3, e6_3, -⟩ := lst_val f6_3
    subst e6_3
    generalize F = F6 at ho hF
    refine ⟨_, _, rfl, (St.got S hb ho hF), (fun w S => St.pick S [6, 7] _ rfl (by decide)), ?_⟩
    clear S hb ho hF f6_0 f6_1 f6_2 f6_3
    refine Sx.GT.elem 25 51 (.tmp 16) (.tmp 17) 15 184 b off x.gs.length c4_1 j 5 (by rfl) (by rfl) (by kernel_rfl) (by kernel_rfl) (by kernel_rfl) (by kernel_rfl) (by omega) ?_
    refine Sx.GT.alone (Sx.Alone.hsto (k := j) (size := 15) 51 (.tmp 20) (.tmp 19) b ((off + j * 15) + 0) 0 1 [.slice A6_0 y.prog.length c6_0, .int .i64 y.a, .int .i64 y.pc, .slice A6_1 y.wr.length c6_1, .slice A6_2 y.lv.length c6_2, .int .i64 y.t.1, .int .i64 y.t.2.1, .bool y.t.2.2, .int .i64 y.pd, .int .i64 y.x.1, .int .i64 y.x.2.1, .bool y.x.2.2.1, .int .i64 y.x.2.2.2, .bool y.hl, .slice A6_3 y.seen.length c6_3] [.slice A6_0 y.prog.length c6_0, .int .i64 y.a, .int .i64 y.pc, .slice A6_1 y.wr.length c6_1, .slice A6_2 y.lv.length c6_2, .int .i64 y.t.1, .int .i64 y.t.2.1, .bool y.t.2.2, .int .i64 y.pd, .int .i64 y.x.1, .int .i64 y.x.2.1, .bool y.x.2.2.1, .int .i64 y.x.2.2.2, .bool y.hl, .slice A6_3 y.seen.length c6_3] [ow wG w6.heap.size w6'.heap.size y [.slice A6_0 y.prog.length c6_0, .int .i64 y.a, .int .i64 y.pc, .slice A6_1 y.wr.length c6_1, .slice A6_2 y.lv.length c6_2, .int .i64 y.t.1, .int .i64 y.t.2.1, .bool y.t.2.2, .int .i64 y.pd, .int .i64 y.x.1, .int .i64 y.x.2.1, .bool y.x.2.2.1, .int .i64 y.x.2.2.2, .bool y.hl, .slice A6_3 y.seen.length c6_3] F6, Sx.hole wG b off w4.heap.size w4'.heap.size (x.gs.take j) (x.gs.drop (j + 1)) [.slice A6_0 y.prog.length c6_0, .int .i64 y.a, .int .i64 y.pc, .slice A6_1 y.wr.length c6_1, .slice A6_2 y.lv.length c6_2, .int .i64 y.t.1, .int .i64 y.t.2.1, .bool y.t.2.2, .int .i64 y.pd, .int .i64 y.x.1, .int .i64 y.x.2.1, .bool y.x.2.2.1, .int .i64 y.x.2.2.2, .bool y.hl, .slice A6_3 y.seen.length c6_3] F1 F2, ow wG w4.heap.size w4'.heap.size (x.gs[j]) [P0, .int .i64 (x.gs[j]).a, .int .i64 (x.gs[j]).pc, P1, P2, .int .i64 (x.gs[j]).t.1, .int .i64 (x.gs[j]).t.2.1, .bool (x.gs[j]).t.2.2, .int .i64 (x.gs[j]).pd, .int .i64 (x.gs[j]).x.1, .int .i64 (x.gs[j]).x.2.1, .bool (x.gs[j]).x.2.2.1, .int .i64 (x.gs[j]).x.2.2.2, .bool (x.gs[j]).hl, P3] F2', ow (rLsw (rLsw rInt)) w4.heap.size w4'.heap.size x.mem [.slice A4_0 x.mem.length c4_0] G4_0, ow (rLst 3 rInt) w4.heap.size (w4'.heap.size) x.outs [.slice A4_2 x.outs.length c4_2] G4_2, vr b3 [.slice none 0 0, .slice none 0 0, .slice none 0 0, .int .i64 0], vr b2 [.slice kA0 y.prog.length kK0, .int .i64 y.a, .int .i64 y.pc, .slice kA1 y.wr.length kK1, .slice kA2 y.lv.length kK2, .int .i64 y.t.1, .int .i64 y.t.2.1, .bool y.t.2.2, .int .i64 y.pd, .int .i64 y.x.1, .int .i64 y.x.2.1, .bool y.x.2.2.1, .int .i64 y.x.2.2.2, .bool y.hl, .slice kA3 y.seen.length kK3], vr b1 [.slice A4_0 x.mem.length c4_0, .slice (some ⟨b, off, none⟩) x.gs.length c4_1, .slice A4_2 x.outs.length c4_2, .int .i64 x.pd]] (by rfl) (by rfl) (by kernel_rfl) (by kernel_rfl) (by kernel_rfl) (by rfl) (by rw [List.length_take]; omega) (by rfl) (by rfl) (by rfl) (by rfl) (by kernel_rfl) (by kernel_rfl) (by kernel_rfl) (fun w S => St.pick S [6, 7] _ rfl (by decide)) ?_)
    refine Sx.GT.nil ?_
    refine Sx.E.next ?_
    refine Sx.C.seq ?_
    refine Sx.C.claims (L' := [ow (rLsw wG) w.heap.size (max w4'.heap.size w6'.heap.size) (x.gs.set j y) [.slice (some ⟨b, off, none⟩) x.gs.length c4_1] (b :: (F1 ++ (F6 ++ F2))), ow (rLsw (rLsw rInt)) w4.heap.size w4'.heap.size x.mem [.slice A4_0 x.mem.length c4_0] G4_0, ow (rLst 3 rInt) w4.heap.size (w4'.heap.size) x.outs [.slice A4_2 x.outs.length c4_2] G4_2, vr b3 [.slice none 0 0, .slice none 0 0, .slice none 0 0, .int .i64 0], vr b2 [.slice kA0 y.prog.length kK0, .int .i64 y.a, .int .i64 y.pc, .slice kA1 y.wr.length kK1, .slice kA2 y.lv.length kK2, .int .i64 y.t.1, .int .i64 y.t.2.1, .bool y.t.2.2, .int .i64 y.pd, .int .i64 y.x.1, .int .i64 y.x.2.1, .bool y.x.2.2.1, .int .i64 y.x.2.2.2, .bool y.hl, .slice kA3 y.seen.length kK3], vr b1 [.slice A4_0 x.mem.length c4_0, .slice (some ⟨b, off, none⟩) x.gs.length c4_1, .slice A4_2 x.outs.length c4_2, .int .i64 x.pd]]) (fun w' S => by
      have S2 := St.pick S [1, 0, 3, 4, 5, 6, 7] (_ :: _ :: [ow (rLsw (rLsw rInt)) w4.heap.size w4'.heap.size x.mem [.slice A4_0 x.mem.length c4_0] G4_0, ow (rLst 3 rInt) w4.heap.size (w4'.heap.size) x.outs [.slice A4_2 x.outs.length c4_2] G4_2, vr b3 [.slice none 0 0, .slice none 0 0, .slice none 0 0, .int .i64 0], vr b2 [.slice kA0 y.prog.length kK0, .int .i64 y.a, .int .i64 y.pc, .slice kA1 y.wr.length kK1, .slice kA2 y.lv.length kK2, .int .i64 y.t.1, .int .i64 y.t.2.1, .bool y.t.2.2, .int .i64 y.pd, .int .i64 y.x.1, .int .i64 y.x.2.1, .bool y.x.2.2.1, .int .i64 y.x.2.2.2, .bool y.hl, .slice kA3 y.seen.length kK3], vr b1 [.slice A4_0 x.mem.length c4_0, .slice (some ⟨b, off, none⟩) x.gs.length c4_1, .slice A4_2 x.outs.length c4_2, .int .i64 x.pd]]) rfl (by decide)
      have S3 := Sx.St.closeW S2 (by decide) x.gs.length _ (by rw [List.length_append, List.length_cons, List.length_take, List.length_drop]; omega) hmc
      rw [← set_at hjl] at S3
      exact S3) ?_
    refine Sx.C.region ?_
    refine Sx.G.ld 28 (.tmp 3) b1 0 5 [.slice A4_0 x.mem.length c4_0, .slice (some ⟨b, off, none⟩) x.gs.length c4_1, .slice A4_2 x.outs.length c4_2, .int .i64 x.pd] [.slice A4_0 x.mem.length c4_0, .slice (some ⟨b, off, none⟩) x.gs.length c4_1, .slice A4_2 x.outs.length c4_2, .int .i64 x.pd] rfl (by kernel_rfl) (by kernel_rfl) rfl (by kernel_rfl) (by kernel_rfl) (by kernel_rfl) ?_
    refine Sx.G.sto 28 (.tmp 6) (.tmp 21) b3 0 3 [.slice none 0 0, .slice none 0 0, .slice none 0 0, .int .i64 0] [.slice A4_0 x.mem.length c4_0, .slice (some ⟨b, off, none⟩) x.gs.length c4_1, .slice A4_2 x.outs.length c4_2, .int .i64 x.pd] [.slice A4_0 x.mem.length c4_0, .slice (some ⟨b, off, none⟩) x.gs.length c4_1, .slice A4_2 x.outs.length c4_2, .int .i64 x.pd] [ow (rLsw wG) w.heap.size (max w4'.heap.size w6'.heap.size) (x.gs.set j y) [.slice (some ⟨b, off, none⟩) x.gs.length c4_1] (b :: (F1 ++ (F6 ++ F2))), ow (rLsw (rLsw rInt)) w4.heap.size w4'.heap.size x.mem [.slice A4_0 x.mem.length c4_0] G4_0, ow (rLst 3 rInt) w4.heap.size (w4'.heap.size) x.outs [.slice A4_2 x.outs.length c4_2] G4_2, vr b3 [.slice A4_0 x.mem.length c4_0, .slice (some ⟨b, off, none⟩) x.gs.length c4_1, .slice A4_2 x.outs.length c4_2, .int .i64 x.pd], vr b2 [.slice kA0 y.prog.length kK0, .int .i64 y.a, .int .i64 y.pc, .slice kA1 y.wr.length kK1, .slice kA2 y.lv.length kK2, .int .i64 y.t.1, .int .i64 y.t.2.1, .bool y.t.2.2, .int .i64 y.pd, .int .i64 y.x.1, .int .i64 y.x.2.1, .bool y.x.2.2.1, .int .i64 y.x.2.2.2, .bool y.hl, .slice kA3 y.seen.length kK3], vr b1 [.slice A4_0 x.mem.length c4_0, .slice (some ⟨b, off, none⟩) x.gs.length c4_1, .slice A4_2 x.outs.length c4_2, .int .i64 x.pd]] rfl (by kernel_rfl) (by kernel_rfl) (by kernel_rfl) rfl (by kernel_rfl) rfl (by kernel_rfl) (by kernel_rfl) (by kernel_rfl) ?_
    refine Sx.G.nil ?_
    refine Sx.E.next ?_
    refine Sx.C.ret ?_
    refine Sx.E.retc b3 3 [.slice A4_0 x.mem.length c4_0, .slice (some ⟨b, off, none⟩) x.gs.length c4_1, .slice A4_2 x.outs.length c4_2, .int .i64 x.pd] rfl (by kernel_rfl) rfl (by kernel_rfl) (by kernel_rfl) (fun w S => ?_)
    rw [show withG x (j : Int) y = ({ x with gs := x.gs.set j y } : bT) from by unfold withG; rw [hc5, if_pos rfl]; rfl]
    have hll : x.gs.length = (x.gs.set j y).length := by rw [List.length_set]
    skip
    obtain ⟨ho, hF⟩ := rB_shut (g := ({ x with gs := x.gs.set j y } : bT)) S 1 rfl 0 rfl 2 rfl (by decide) (by decide) (by decide)
    exact ⟨_, _, rfl, ho, hF, S.below⟩
end Go.Proofs.Ytldgadmpclgfhaa.Kit
namespace Go.Proofs.Ytldgadmpclgfhaa.Kit
set_option maxRecDepth 100000
open Go.ChangeShapes Go.WideShapes Go.ChangeAt Go.RowKit Go.Deep
open Go.Proofs.Ytldgadmpclgfhaa.Base Go.Proofs.Ytldgadmpclgfhaa.Mem Go.Proofs.Ytldgadmpclgfhaa.Data Go.Proofs.Ytldgadmpclgfhaa.Stt Go.Proofs.Ytldgadmpclgfhaa.Guests Go.Proofs.Ytldgadmpclgfhaa.Ctls Go.Proofs.Ytldgadmpclgfhaa.Exits
set_option linter.unusedVariables false
set_option linter.unusedSimpArgs false
theorem sizeAll_set {α : Type} {r : Rp α} : ∀ (xs : List α) (j : Nat) (y : α), sizeAll r (xs.set j y) ≤ sizeAll r xs + r.size y
  | [], j, y => by simp [sizeAll]
  | x :: xs, 0, y => by rw [List.set_cons_zero, sizeAll, sizeAll]; omega
  | x :: xs, j + 1, y => by have := sizeAll_set (r := r) xs j y; rw [List.set_cons_succ, sizeAll, sizeAll]; omega
theorem cap_withG {b : bT} {y : gT} (g : Int) (h : wB.cap b) (hy : wG.cap y) : wB.cap (withG b g y) := by
  unfold withG
  split
  · refine ⟨h.1, ⟨by show (b.gs.set g.toNat y).length ≤ _; rw [List.length_set]; exact h.2.1.1, fun z hz => ?_⟩, h.2.2.1, trivial⟩
    rcases List.mem_or_eq_of_mem_set hz with hz | rfl
    · exact h.2.1.2 z hz
    · exact hy
  · exact h
theorem size_withG (b : bT) (g : Int) (y : gT) : wB.size (withG b g y) ≤ wB.size b + wG.size y := by
  unfold withG
  split
  · have := sizeAll_set (r := wG) b.gs g.toNat y
    rw [size_Bare, size_Bare]; simp only [List.length_set]; omega
  · omega
end Go.Proofs.Ytldgadmpclgfhaa.Kit
namespace Go.Proofs.Ytldgadmpclgfhaa.Ctls
set_option maxRecDepth 100000
open Go.ChangeShapes Go.WideShapes Go.ChangeAt Go.RowKit
open Go.Proofs.Ytldgadmpclgfhaa.Base Go.Proofs.Ytldgadmpclgfhaa.Mem Go.Proofs.Ytldgadmpclgfhaa.Data Go.Proofs.Ytldgadmpclgfhaa.Ints Go.Proofs.Ytldgadmpclgfhaa.Slots
set_option linter.unusedVariables false
set_option linter.unusedSimpArgs false
def p1 (s : CT) : Bool := !inB s.1 0 3
def p2 (s : CT) : Bool := !inB s.2.1 0 255
def p3 (s : CT) : Bool := (s.2.1 != 0) && !s.2.2
end Go.Proofs.Ytldgadmpclgfhaa.Ctls
namespace Go.Proofs.Ytldgadmpclgfhaa.Guests
set_option maxRecDepth 100000
open Go.ChangeShapes Go.WideShapes Go.ChangeAt Go.RowKit
open Go.Proofs.Ytldgadmpclgfhaa.Base Go.Proofs.Ytldgadmpclgfhaa.Mem Go.Proofs.Ytldgadmpclgfhaa.Data Go.Proofs.Ytldgadmpclgfhaa.Slots Go.Proofs.Ytldgadmpclgfhaa.Ints Go.Proofs.Ytldgadmpclgfhaa.Ctls Go.Proofs.Ytldgadmpclgfhaa.Exits Go.Proofs.Ytldgadmpclgfhaa.Stt Go.Proofs.Ytldgadmpclgfhaa.Irqs Go.Proofs.Ytldgadmpclgfhaa.Inss
set_option linter.unusedVariables false
set_option linter.unusedSimpArgs false
set_option maxRecDepth 100000 in
set_option maxHeartbeats 4000000 in
theorem lib_cloneIns (xs : List (Int × Int)) (A : Option Addr) (c : Nat) (w : World) (hp : xs.length ≤ 1048576) (h : rdLst (rPair rInt rInt) w 0 w.heap.size xs [.slice A xs.length c]) : Calls Try.prog 121 #[.slice A xs.length c] w (Gives (rLst 111 (rPair rInt rInt)) w xs) := by
  rcases A with _ | ad
  · obtain rfl := Sx.p2_nothing h
    refine Sx.enter (args := [.slice none 0 c]) Try.func121 rfl Try.ntmps121 rfl ?_
    refine Sx.C.seq ?_
    refine Sx.C.region ?_
    refine Sx.G.pure (.slice none 0 0) (by kernel_rfl) (fun w => by kernel_rfl) ?_
    refine Sx.G.nil ?_
    refine Sx.E.next ?_
    refine Sx.C.seq ?_
    refine Sx.C.seq ?_
    refine Sx.C.region ?_
    refine Sx.G.pure (.slice none 0 c) (by kernel_rfl) (fun w => by kernel_rfl) ?_
    refine Sx.G.pure (.bool true) (by kernel_rfl) (fun w => by kernel_rfl) ?_
    refine Sx.G.nil ?_
    refine Sx.E.next ?_
    refine Sx.C.yes (by kernel_rfl) (by kernel_rfl) ?_
    refine Sx.C.seq ?_
    refine Sx.C.region ?_
    refine Sx.G.pure (.slice none 0 0) (by kernel_rfl) (fun w => by kernel_rfl) ?_
    refine Sx.G.nil ?_
    refine Sx.E.next ?_
    refine Sx.C.ret ?_
    refine Sx.E.then_ret ?_
    refine Sx.E.ret1 (.slice none 0 0) rfl (by kernel_rfl) (fun w S => ?_)
    have S' := St.nil S 111 (rPair rInt rInt)
    exact ⟨[_], _, rfl, S'.own 0 rfl, S'.nodup 0 rfl, S.below⟩
  · refine Sx.enter (args := [.slice (some ad) xs.length c]) Try.func121 rfl Try.ntmps121 rfl ?_
    refine Sx.C.seq ?_
    refine Sx.C.region ?_
    refine Sx.G.pure (.slice none 0 0) (by kernel_rfl) (fun w => by kernel_rfl) ?_
    refine Sx.G.nil ?_
    refine Sx.E.next ?_
    refine Sx.C.seq ?_
    refine Sx.C.seq ?_
    refine Sx.C.region ?_
    refine Sx.G.pure (.slice (some ad) xs.length c) (by kernel_rfl) (fun w => by kernel_rfl) ?_
    refine Sx.G.pure (.bool false) (by kernel_rfl) (fun w => by kernel_rfl) ?_
    refine Sx.G.nil ?_
    refine Sx.E.next ?_
    refine Sx.C.no (by kernel_rfl) (by kernel_rfl) ?_
    refine Sx.C.skip ?_
    refine Sx.E.next ?_
    refine Sx.C.seq ?_
    refine Sx.C.region ?_
    refine Sx.G.fresh 111 (rPair rInt rInt) (by kernel_rfl) (fun w => by kernel_rfl) (fun b1 hi1 => ?_)
    refine Sx.G.pure (.slice (some ad) xs.length c) (by kernel_rfl) (fun w => by kernel_rfl) ?_
    refine Sx.G.apps 0 rfl xs (fun w S => St.old (r := rLsw (rPair rInt rInt)) S h) (List.nil_append _) xs.length (by simp) flat_P2 (.tmp 5) (.tmp 6) 44 2 16 rfl rfl (by kernel_rfl) (by kernel_rfl) rfl (by kernel_rfl) (by kernel_rfl) (by simp only [maxLen, List.length_nil, List.length_cons]; omega) (by simp only [List.length_nil, List.length_cons]; omega) (fun A2 c2 F2 hi2 hm2 => ?_)
    refine Sx.G.pure (.slice A2 xs.length c2) (by kernel_rfl) (fun w => by kernel_rfl) ?_
    refine Sx.G.nil ?_
    refine Sx.E.next ?_
    refine Sx.C.ret ?_
    refine Sx.E.ret1 (.slice A2 xs.length c2) rfl (by kernel_rfl) (fun w S => ?_)
    exact ⟨[_], _, rfl, S.own 0 rfl, S.nodup 0 rfl, S.below⟩
set_option maxRecDepth 100000 in
set_option maxHeartbeats 4000000 in
theorem lib_cloneSlot (xs : List (Int × Int)) (A : Option Addr) (c : Nat) (w : World) (hp : xs.length ≤ 1048576) (h : rdLst (rPair rInt rInt) w 0 w.heap.size xs [.slice A xs.length c]) : Calls Try.prog 130 #[.slice A xs.length c] w (Gives (rLst 129 (rPair rInt rInt)) w xs) := by
  rcases A with _ | ad
  · obtain rfl := Sx.p2_nothing h
    refine Sx.enter (args := [.slice none 0 c]) Try.func130 rfl Try.ntmps130 rfl ?_
    refine Sx.C.seq ?_
    refine Sx.C.region ?_
    refine Sx.G.pure (.slice none 0 0) (by kernel_rfl) (fun w => by kernel_rfl) ?_
    refine Sx.G.nil ?_
    refine Sx.E.next ?_
    refine Sx.C.seq ?_
    refine Sx.C.seq ?_
    refine Sx.C.region ?_
    refine Sx.G.pure (.slice none 0 c) (by kernel_rfl) (fun w => by kernel_rfl) ?_
    refine Sx.G.pure (.bool true) (by kernel_rfl) (fun w => by kernel_rfl) ?_
    refine Sx.G.nil ?_
    refine Sx.E.next ?_
    refine Sx.C.yes (by kernel_rfl) (by kernel_rfl) ?_
    refine Sx.C.seq ?_
    refine Sx.C.region ?_
    refine Sx.G.pure (.slice none 0 0) (by kernel_rfl) (fun w => by kernel_rfl) ?_
    refine Sx.G.nil ?_
    refine Sx.E.next ?_
    refine Sx.C.ret ?_
    refine Sx.E.then_ret ?_
    refine Sx.E.ret1 (.slice none 0 0) rfl (by kernel_rfl) (fun w S => ?_)
    have S' := St.nil S 129 (rPair rInt rInt)
    exact ⟨[_], _, rfl, S'.own 0 rfl, S'.nodup 0 rfl, S.below⟩
  · refine Sx.enter (args := [.slice (some ad) xs.length c]) Try.func130 rfl Try.ntmps130 rfl ?_
    refine Sx.C.seq ?_
    refine Sx.C.region ?_
    refine Sx.G.pure (.slice none 0 0) (by kernel_rfl) (fun w => by kernel_rfl) ?_
    refine Sx.G.nil ?_
    refine Sx.E.next ?_
    refine Sx.C.seq ?_
    refine Sx.C.seq ?_
    refine Sx.C.region ?_
    refine Sx.G.pure (.slice (some ad) xs.length c) (by kernel_rfl) (fun w => by kernel_rfl) ?_
    refine Sx.G.pure (.bool false) (by kernel_rfl) (fun w => by kernel_rfl) ?_
    refine Sx.G.nil ?_
    refine Sx.E.next ?_
    refine Sx.C.no (by kernel_rfl) (by kernel_rfl) ?_
    refine Sx.C.skip ?_
    refine Sx.E.next ?_
    refine Sx.C.seq ?_
    refine Sx.C.region ?_
    refine Sx.G.fresh 129 (rPair rInt rInt) (by kernel_rfl) (fun w => by kernel_rfl) (fun b1 hi1 => ?_)
    refine Sx.G.pure (.slice (some ad) xs.length c) (by kernel_rfl) (fun w => by kernel_rfl) ?_
    refine Sx.G.apps 0 rfl xs (fun w S => St.old (r := rLsw (rPair rInt rInt)) S h) (List.nil_append _) xs.length (by simp) flat_P2 (.tmp 5) (.tmp 6) 45 2 16 rfl rfl (by kernel_rfl) (by kernel_rfl) rfl (by kernel_rfl) (by kernel_rfl) (by simp only [maxLen, List.length_nil, List.length_cons]; omega) (by simp only [List.length_nil, List.length_cons]; omega) (fun A2 c2 F2 hi2 hm2 => ?_)
    refine Sx.G.pure (.slice A2 xs.length c2) (by kernel_rfl) (fun w => by kernel_rfl) ?_
    refine Sx.G.nil ?_
    refine Sx.E.next ?_
    refine Sx.C.ret ?_
    refine Sx.E.ret1 (.slice A2 xs.length c2) rfl (by kernel_rfl) (fun w S => ?_)
    exact ⟨[_], _, rfl, S.own 0 rfl, S.nodup 0 rfl, S.below⟩
set_option maxRecDepth 100000 in
set_option maxHeartbeats 4000000 in
theorem lib_cloneInt (xs : List (Int)) (A : Option Addr) (c : Nat) (w : World) (hp : xs.length ≤ 1048576) (h : rdLst rInt w 0 w.heap.size xs [.slice A xs.length c]) : Calls Try.prog 115 #[.slice A xs.length c] w (Gives (rLst 3 rInt) w xs) := by
  rcases A with _ | ad
  · obtain rfl := Sx.i1_nothing h
    refine Sx.enter (args := [.slice none 0 c]) Try.func115 rfl Try.ntmps115 rfl ?_
    refine Sx.C.seq ?_
    refine Sx.C.region ?_
    refine Sx.G.pure (.slice none 0 0) (by kernel_rfl) (fun w => by kernel_rfl) ?_
    refine Sx.G.nil ?_
    refine Sx.E.next ?_
    refine Sx.C.seq ?_
    refine Sx.C.seq ?_
    refine Sx.C.region ?_
    refine Sx.G.pure (.slice none 0 c) (by kernel_rfl) (fun w => by kernel_rfl) ?_
    refine Sx.G.pure (.bool true) (by kernel_rfl) (fun w => by kernel_rfl) ?_
    refine Sx.G.nil ?_
    refine Sx.E.next ?_
    refine Sx.C.yes (by kernel_rfl) (by kernel_rfl) ?_
    refine Sx.C.seq ?_
    refine Sx.C.region ?_
    refine Sx.G.pure (.slice none 0 0) (by kernel_rfl) (fun w => by kernel_rfl) ?_
    refine Sx.G.nil ?_
    refine Sx.E.next ?_
    refine Sx.C.ret ?_
    refine Sx.E.then_ret ?_
    refine Sx.E.ret1 (.slice none 0 0) rfl (by kernel_rfl) (fun w S => ?_)
    have S' := St.nil S 3 rInt
    exact ⟨[_], _, rfl, S'.own 0 rfl, S'.nodup 0 rfl, S.below⟩
  · refine Sx.enter (args := [.slice (some ad) xs.length c]) Try.func115 rfl Try.ntmps115 rfl ?_
    refine Sx.C.seq ?_
    refine Sx.C.region ?_
    refine Sx.G.pure (.slice none 0 0) (by kernel_rfl) (fun w => by kernel_rfl) ?_
    refine Sx.G.nil ?_
    refine Sx.E.next ?_
    refine Sx.C.seq ?_
    refine Sx.C.seq ?_
    refine Sx.C.region ?_
    refine Sx.G.pure (.slice (some ad) xs.length c) (by kernel_rfl) (fun w => by kernel_rfl) ?_
    refine Sx.G.pure (.bool false) (by kernel_rfl) (fun w => by kernel_rfl) ?_
    refine Sx.G.nil ?_
    refine Sx.E.next ?_
    refine Sx.C.no (by kernel_rfl) (by kernel_rfl) ?_
    refine Sx.C.skip ?_
    refine Sx.E.next ?_
    refine Sx.C.seq ?_
    refine Sx.C.region ?_
    refine Sx.G.fresh 3 rInt (by kernel_rfl) (fun w => by kernel_rfl) (fun b1 hi1 => ?_)
    refine Sx.G.pure (.slice (some ad) xs.length c) (by kernel_rfl) (fun w => by kernel_rfl) ?_
    refine Sx.G.apps 0 rfl xs (fun w S => St.old (r := rLsw rInt) S h) (List.nil_append _) xs.length (by simp) flat_int (.tmp 5) (.tmp 6) 26 1 8 rfl rfl (by kernel_rfl) (by kernel_rfl) rfl (by kernel_rfl) (by kernel_rfl) (by simp only [maxLen, List.length_nil, List.length_cons]; omega) (by simp only [List.length_nil, List.length_cons]; omega) (fun A2 c2 F2 hi2 hm2 => ?_)
    refine Sx.G.pure (.slice A2 xs.length c2) (by kernel_rfl) (fun w => by kernel_rfl) ?_
    refine Sx.G.nil ?_
    refine Sx.E.next ?_
    refine Sx.C.ret ?_
    refine Sx.E.ret1 (.slice A2 xs.length c2) rfl (by kernel_rfl) (fun w S => ?_)
    exact ⟨[_], _, rfl, S.own 0 rfl, S.nodup 0 rfl, S.below⟩
set_option maxRecDepth 100000 in
set_option maxHeartbeats 4000000 in
theorem impl_regs (g : gT) (cs : List Value) (w : World) (h : rG.rd w 0 w.heap.size g cs) : Calls Try.prog 117 #[.agg cs.toArray] w (fun e w' => e = .returned (.agg #[.int .i64 g.a, .int .i64 g.pc, .int .i64 g.t.1, .int .i64 g.t.2.1, .bool g.t.2.2, .int .i64 g.pd, .int .i64 g.x.1, .int .i64 g.x.2.1, .bool g.x.2.2.1, .int .i64 g.x.2.2.2, .bool g.hl]) ∧ Below w.heap.size w w') := by
  have hr := h
  obtain ⟨P0, P1, P2, P3, rfl, h0, h1, h2, h3⟩ := rG_rd h
  obtain ⟨PA0, Pc0, e0, hP0⟩ := lst_val h0
  subst e0
  obtain ⟨PA1, Pc1, e1, hP1⟩ := lst_val h1
  subst e1
  obtain ⟨PA2, Pc2, e2, hP2⟩ := lst_val h2
  subst e2
  obtain ⟨PA3, Pc3, e3, hP3⟩ := lst_val h3
  subst e3
  refine Sx.enter (args := [.agg #[.slice PA0 g.prog.length Pc0, .int .i64 g.a, .int .i64 g.pc, .slice PA1 g.wr.length Pc1, .slice PA2 g.lv.length Pc2, .int .i64 g.t.1, .int .i64 g.t.2.1, .bool g.t.2.2, .int .i64 g.pd, .int .i64 g.x.1, .int .i64 g.x.2.1, .bool g.x.2.2.1, .int .i64 g.x.2.2.2, .bool g.hl, .slice PA3 g.seen.length Pc3]]) Try.func117 rfl Try.ntmps117 rfl ?_
  refine Sx.C.seq ?_
  refine Sx.C.region ?_
  refine Sx.G.box 51 (.tmp 0) [.slice PA0 g.prog.length Pc0, .int .i64 g.a, .int .i64 g.pc, .slice PA1 g.wr.length Pc1, .slice PA2 g.lv.length Pc2, .int .i64 g.t.1, .int .i64 g.t.2.1, .bool g.t.2.2, .int .i64 g.pd, .int .i64 g.x.1, .int .i64 g.x.2.1, .bool g.x.2.2.1, .int .i64 g.x.2.2.2, .bool g.hl, .slice PA3 g.seen.length Pc3] rfl (by kernel_rfl) (by kernel_rfl) (fun b1 => ?_)
  refine Sx.G.alloc 135 (.agg #[.int .i64 0, .int .i64 0, .int .i64 0, .int .i64 0, .bool false, .int .i64 0, .int .i64 0, .int .i64 0, .bool false, .int .i64 0, .bool false]) [.int .i64 0, .int .i64 0, .int .i64 0, .int .i64 0, .bool false, .int .i64 0, .int .i64 0, .int .i64 0, .bool false, .int .i64 0, .bool false] rfl (by kernel_rfl) (fun w => by kernel_rfl) (by kernel_rfl) (fun b2 => ?_)
  refine Sx.G.nil ?_
  refine Sx.E.next ?_
  refine Sx.C.seq ?_
  refine Sx.C.region ?_
  refine Sx.G.pure (.pointer (some ⟨b1, 1, none⟩)) (by kernel_rfl) (fun w => by kernel_rfl) ?_
  refine Sx.G.ld1 3 (.tmp 3) b1 1 1 [.slice PA0 g.prog.length Pc0, .int .i64 g.a, .int .i64 g.pc, .slice PA1 g.wr.length Pc1, .slice PA2 g.lv.length Pc2, .int .i64 g.t.1, .int .i64 g.t.2.1, .bool g.t.2.2, .int .i64 g.pd, .int .i64 g.x.1, .int .i64 g.x.2.1, .bool g.x.2.2.1, .int .i64 g.x.2.2.2, .bool g.hl, .slice PA3 g.seen.length Pc3] (.int .i64 g.a) rfl (by kernel_rfl) (by kernel_rfl) rfl (by kernel_rfl) (by kernel_rfl) ?_
  refine Sx.G.pure (.pointer (some ⟨b1, 2, none⟩)) (by kernel_rfl) (fun w => by kernel_rfl) ?_
  refine Sx.G.ld1 3 (.tmp 5) b1 2 1 [.slice PA0 g.prog.length Pc0, .int .i64 g.a, .int .i64 g.pc, .slice PA1 g.wr.length Pc1, .slice PA2 g.lv.length Pc2, .int .i64 g.t.1, .int .i64 g.t.2.1, .bool g.t.2.2, .int .i64 g.pd, .int .i64 g.x.1, .int .i64 g.x.2.1, .bool g.x.2.2.1, .int .i64 g.x.2.2.2, .bool g.hl, .slice PA3 g.seen.length Pc3] (.int .i64 g.pc) rfl (by kernel_rfl) (by kernel_rfl) rfl (by kernel_rfl) (by kernel_rfl) ?_
  refine Sx.G.pure (.pointer (some ⟨b1, 5, none⟩)) (by kernel_rfl) (fun w => by kernel_rfl) ?_
  refine Sx.G.ld 47 (.tmp 7) b1 5 1 [.slice PA0 g.prog.length Pc0, .int .i64 g.a, .int .i64 g.pc, .slice PA1 g.wr.length Pc1, .slice PA2 g.lv.length Pc2, .int .i64 g.t.1, .int .i64 g.t.2.1, .bool g.t.2.2, .int .i64 g.pd, .int .i64 g.x.1, .int .i64 g.x.2.1, .bool g.x.2.2.1, .int .i64 g.x.2.2.2, .bool g.hl, .slice PA3 g.seen.length Pc3] [.int .i64 g.t.1, .int .i64 g.t.2.1, .bool g.t.2.2] rfl (by kernel_rfl) (by kernel_rfl) rfl (by kernel_rfl) (by kernel_rfl) (by kernel_rfl) ?_
  refine Sx.G.pure (.pointer (some ⟨b1, 8, none⟩)) (by kernel_rfl) (fun w => by kernel_rfl) ?_
  refine Sx.G.ld1 3 (.tmp 9) b1 8 1 [.slice PA0 g.prog.length Pc0, .int .i64 g.a, .int .i64 g.pc, .slice PA1 g.wr.length Pc1, .slice PA2 g.lv.length Pc2, .int .i64 g.t.1, .int .i64 g.t.2.1, .bool g.t.2.2, .int .i64 g.pd, .int .i64 g.x.1, .int .i64 g.x.2.1, .bool g.x.2.2.1, .int .i64 g.x.2.2.2, .bool g.hl, .slice PA3 g.seen.length Pc3] (.int .i64 g.pd) rfl (by kernel_rfl) (by kernel_rfl) rfl (by kernel_rfl) (by kernel_rfl) ?_
  refine Sx.G.pure (.pointer (some ⟨b1, 9, none⟩)) (by kernel_rfl) (fun w => by kernel_rfl) ?_
  refine Sx.G.ld 49 (.tmp 11) b1 9 1 [.slice PA0 g.prog.length Pc0, .int .i64 g.a, .int .i64 g.pc, .slice PA1 g.wr.length Pc1, .slice PA2 g.lv.length Pc2, .int .i64 g.t.1, .int .i64 g.t.2.1, .bool g.t.2.2, .int .i64 g.pd, .int .i64 g.x.1, .int .i64 g.x.2.1, .bool g.x.2.2.1, .int .i64 g.x.2.2.2, .bool g.hl, .slice PA3 g.seen.length Pc3] [.int .i64 g.x.1, .int .i64 g.x.2.1, .bool g.x.2.2.1, .int .i64 g.x.2.2.2] rfl (by kernel_rfl) (by kernel_rfl) rfl (by kernel_rfl) (by kernel_rfl) (by kernel_rfl) ?_
  refine Sx.G.pure (.pointer (some ⟨b1, 13, none⟩)) (by kernel_rfl) (fun w => by kernel_rfl) ?_
  refine Sx.G.ld1 4 (.tmp 13) b1 13 1 [.slice PA0 g.prog.length Pc0, .int .i64 g.a, .int .i64 g.pc, .slice PA1 g.wr.length Pc1, .slice PA2 g.lv.length Pc2, .int .i64 g.t.1, .int .i64 g.t.2.1, .bool g.t.2.2, .int .i64 g.pd, .int .i64 g.x.1, .int .i64 g.x.2.1, .bool g.x.2.2.1, .int .i64 g.x.2.2.2, .bool g.hl, .slice PA3 g.seen.length Pc3] (.bool g.hl) rfl (by kernel_rfl) (by kernel_rfl) rfl (by kernel_rfl) (by kernel_rfl) ?_
  refine Sx.G.pure (.agg #[.int .i64 g.a, .int .i64 g.pc, .int .i64 g.t.1, .int .i64 g.t.2.1, .bool g.t.2.2, .int .i64 g.pd, .int .i64 g.x.1, .int .i64 g.x.2.1, .bool g.x.2.2.1, .int .i64 g.x.2.2.2, .bool g.hl]) (by kernel_rfl) (fun w => by kernel_rfl) ?_
  refine Sx.G.sto 135 (.tmp 2) (.tmp 15) b2 0 0 [.int .i64 0, .int .i64 0, .int .i64 0, .int .i64 0, .bool false, .int .i64 0, .int .i64 0, .int .i64 0, .bool false, .int .i64 0, .bool false] [.int .i64 g.a, .int .i64 g.pc, .int .i64 g.t.1, .int .i64 g.t.2.1, .bool g.t.2.2, .int .i64 g.pd, .int .i64 g.x.1, .int .i64 g.x.2.1, .bool g.x.2.2.1, .int .i64 g.x.2.2.2, .bool g.hl] [.int .i64 g.a, .int .i64 g.pc, .int .i64 g.t.1, .int .i64 g.t.2.1, .bool g.t.2.2, .int .i64 g.pd, .int .i64 g.x.1, .int .i64 g.x.2.1, .bool g.x.2.2.1, .int .i64 g.x.2.2.2, .bool g.hl] [vr b2 [.int .i64 g.a, .int .i64 g.pc, .int .i64 g.t.1, .int .i64 g.t.2.1, .bool g.t.2.2, .int .i64 g.pd, .int .i64 g.x.1, .int .i64 g.x.2.1, .bool g.x.2.2.1, .int .i64 g.x.2.2.2, .bool g.hl], vr b1 [.slice PA0 g.prog.length Pc0, .int .i64 g.a, .int .i64 g.pc, .slice PA1 g.wr.length Pc1, .slice PA2 g.lv.length Pc2, .int .i64 g.t.1, .int .i64 g.t.2.1, .bool g.t.2.2, .int .i64 g.pd, .int .i64 g.x.1, .int .i64 g.x.2.1, .bool g.x.2.2.1, .int .i64 g.x.2.2.2, .bool g.hl, .slice PA3 g.seen.length Pc3]] rfl (by kernel_rfl) (by kernel_rfl) (by kernel_rfl) rfl (by kernel_rfl) rfl (by kernel_rfl) (by kernel_rfl) (by kernel_rfl) ?_
  refine Sx.G.nil ?_
  refine Sx.E.next ?_
  refine Sx.C.ret ?_
  refine Sx.E.retc b2 0 [.int .i64 g.a, .int .i64 g.pc, .int .i64 g.t.1, .int .i64 g.t.2.1, .bool g.t.2.2, .int .i64 g.pd, .int .i64 g.x.1, .int .i64 g.x.2.1, .bool g.x.2.2.1, .int .i64 g.x.2.2.2, .bool g.hl] rfl (by kernel_rfl) rfl (by kernel_rfl) (by kernel_rfl) (fun w S => ?_)
  exact ⟨rfl, S.below⟩
set_option maxRecDepth 100000 in
set_option maxHeartbeats 4000000 in
theorem impl_copyM (g : gT) (cs : List Value) (w : World) (hc : rG.cap g) (h : rG.rd w 0 w.heap.size g cs) : Calls Try.prog 107 #[.agg cs.toArray] w (fun e w' => ∃ (b : Nat) (A0 : Option Addr) (c0 l0 h0 : Nat) (F0 : List Nat) (A1 : Option Addr) (c1 l1 h1 : Nat) (F1 : List Nat) (A2 : Option Addr) (c2 l2 h2 : Nat) (F2 : List Nat) (A3 : Option Addr) (c3 l3 h3 : Nat) (F3 : List Nat), e = .returned (.pointer (some ⟨b, 0, none⟩)) ∧ St w w' [vr b [.int .i64 g.a, .int .i64 g.pc, .int .i64 g.t.1, .int .i64 g.t.2.1, .bool g.t.2.2, .int .i64 g.pd, .int .i64 g.x.1, .int .i64 g.x.2.1, .bool g.x.2.2.1, .int .i64 g.x.2.2.2, .bool g.hl, .slice A0 g.prog.length c0, .slice A1 g.wr.length c1, .slice A2 g.lv.length c2, .slice A3 g.seen.length c3], ow (rLst 111 (rPair rInt rInt)) l0 h0 g.prog [.slice A0 g.prog.length c0] F0, ow (rLst 129 (rPair rInt rInt)) l1 h1 g.wr [.slice A1 g.wr.length c1] F1, ow (rLst 129 (rPair rInt rInt)) l2 h2 g.lv [.slice A2 g.lv.length c2] F2, ow (rLst 3 rInt) l3 h3 g.seen [.slice A3 g.seen.length c3] F3]) := by
  obtain ⟨q0, q1, q2, q3⟩ := rG_len hc
  have hr := h
  obtain ⟨P0, P1, P2, P3, rfl, h0, h1, h2, h3⟩ := rG_rd h
  obtain ⟨PA0, Pc0, e0, hP0⟩ := lst_val h0
  subst e0
  obtain ⟨PA1, Pc1, e1, hP1⟩ := lst_val h1
  subst e1
  obtain ⟨PA2, Pc2, e2, hP2⟩ := lst_val h2
  subst e2
  obtain ⟨PA3, Pc3, e3, hP3⟩ := lst_val h3
  subst e3
  refine Sx.enter (args := [.agg #[.slice PA0 g.prog.length Pc0, .int .i64 g.a, .int .i64 g.pc, .slice PA1 g.wr.length Pc1, .slice PA2 g.lv.length Pc2, .int .i64 g.t.1, .int .i64 g.t.2.1, .bool g.t.2.2, .int .i64 g.pd, .int .i64 g.x.1, .int .i64 g.x.2.1, .bool g.x.2.2.1, .int .i64 g.x.2.2.2, .bool g.hl, .slice PA3 g.seen.length Pc3]]) Try.func107 rfl Try.ntmps107 rfl ?_
  refine Sx.C.seq ?_
  refine Sx.C.region ?_
  refine Sx.G.box 51 (.tmp 0) [.slice PA0 g.prog.length Pc0, .int .i64 g.a, .int .i64 g.pc, .slice PA1 g.wr.length Pc1, .slice PA2 g.lv.length Pc2, .int .i64 g.t.1, .int .i64 g.t.2.1, .bool g.t.2.2, .int .i64 g.pd, .int .i64 g.x.1, .int .i64 g.x.2.1, .bool g.x.2.2.1, .int .i64 g.x.2.2.2, .bool g.hl, .slice PA3 g.seen.length Pc3] rfl (by kernel_rfl) (by kernel_rfl) (fun b1 => ?_)
  refine Sx.G.pure (.pointer none) (by kernel_rfl) (fun w => by kernel_rfl) ?_
  refine Sx.G.nil ?_
  refine Sx.E.next ?_
  refine Sx.C.seq ?_
  refine Sx.C.draw (.take 0 (.take 2 (.take 3 (.take 5 (.take 6 (.take 8 (.take 9 (.take 11 (.take 12 (.alone 1 (.alone 4 (.alone 7 (.alone 10 (.alone 13 (.take 14 (.alone 15 (.take 16 .nil))))))))))))))))) [vr b1 [.slice PA0 g.prog.length Pc0, .int .i64 g.a, .int .i64 g.pc, .slice PA1 g.wr.length Pc1, .slice PA2 g.lv.length Pc2, .int .i64 g.t.1, .int .i64 g.t.2.1, .bool g.t.2.2, .int .i64 g.pd, .int .i64 g.x.1, .int .i64 g.x.2.1, .bool g.x.2.2.1, .int .i64 g.x.2.2.2, .bool g.hl, .slice PA3 g.seen.length Pc3]] (fun w S => St.pick S [0] _ rfl (by decide)) (by kernel_rfl) (by kernel_rfl) (by kernel_rfl) ?_
  refine Sx.GT.ld 51 (.tmp 1) b1 0 0 [.slice PA0 g.prog.length Pc0, .int .i64 g.a, .int .i64 g.pc, .slice PA1 g.wr.length Pc1, .slice PA2 g.lv.length Pc2, .int .i64 g.t.1, .int .i64 g.t.2.1, .bool g.t.2.2, .int .i64 g.pd, .int .i64 g.x.1, .int .i64 g.x.2.1, .bool g.x.2.2.1, .int .i64 g.x.2.2.2, .bool g.hl, .slice PA3 g.seen.length Pc3] [.slice PA0 g.prog.length Pc0, .int .i64 g.a, .int .i64 g.pc, .slice PA1 g.wr.length Pc1, .slice PA2 g.lv.length Pc2, .int .i64 g.t.1, .int .i64 g.t.2.1, .bool g.t.2.2, .int .i64 g.pd, .int .i64 g.x.1, .int .i64 g.x.2.1, .bool g.x.2.2.1, .int .i64 g.x.2.2.2, .bool g.hl, .slice PA3 g.seen.length Pc3] 0 (by rfl) (by rfl) (by kernel_rfl) (by kernel_rfl) (by rfl) (by kernel_rfl) (by kernel_rfl) (by kernel_rfl) ?_
  refine Sx.GT.pure (.pointer (some ⟨b1, 0, none⟩)) 2 (by rfl) (by kernel_rfl) (fun w => by kernel_rfl) ?_
  refine Sx.GT.ld1 44 (.tmp 5) b1 0 0 [.slice PA0 g.prog.length Pc0, .int .i64 g.a, .int .i64 g.pc, .slice PA1 g.wr.length Pc1, .slice PA2 g.lv.length Pc2, .int .i64 g.t.1, .int .i64 g.t.2.1, .bool g.t.2.2, .int .i64 g.pd, .int .i64 g.x.1, .int .i64 g.x.2.1, .bool g.x.2.2.1, .int .i64 g.x.2.2.2, .bool g.hl, .slice PA3 g.seen.length Pc3] (.slice PA0 g.prog.length Pc0) 3 (by rfl) (by rfl) (by kernel_rfl) (by kernel_rfl) (by rfl) (by kernel_rfl) (by kernel_rfl) ?_
  refine Sx.GT.pure (.pointer (some ⟨b1, 3, none⟩)) 5 (by rfl) (by kernel_rfl) (fun w => by kernel_rfl) ?_
  refine Sx.GT.ld1 45 (.tmp 8) b1 3 0 [.slice PA0 g.prog.length Pc0, .int .i64 g.a, .int .i64 g.pc, .slice PA1 g.wr.length Pc1, .slice PA2 g.lv.length Pc2, .int .i64 g.t.1, .int .i64 g.t.2.1, .bool g.t.2.2, .int .i64 g.pd, .int .i64 g.x.1, .int .i64 g.x.2.1, .bool g.x.2.2.1, .int .i64 g.x.2.2.2, .bool g.hl, .slice PA3 g.seen.length Pc3] (.slice PA1 g.wr.length Pc1) 6 (by rfl) (by rfl) (by kernel_rfl) (by kernel_rfl) (by rfl) (by kernel_rfl) (by kernel_rfl) ?_
  refine Sx.GT.pure (.pointer (some ⟨b1, 4, none⟩)) 8 (by rfl) (by kernel_rfl) (fun w => by kernel_rfl) ?_
  refine Sx.GT.ld1 45 (.tmp 11) b1 4 0 [.slice PA0 g.prog.length Pc0, .int .i64 g.a, .int .i64 g.pc, .slice PA1 g.wr.length Pc1, .slice PA2 g.lv.length Pc2, .int .i64 g.t.1, .int .i64 g.t.2.1, .bool g.t.2.2, .int .i64 g.pd, .int .i64 g.x.1, .int .i64 g.x.2.1, .bool g.x.2.2.1, .int .i64 g.x.2.2.2, .bool g.hl, .slice PA3 g.seen.length Pc3] (.slice PA2 g.lv.length Pc2) 9 (by rfl) (by rfl) (by kernel_rfl) (by kernel_rfl) (by rfl) (by kernel_rfl) (by kernel_rfl) ?_
  refine Sx.GT.pure (.pointer (some ⟨b1, 14, none⟩)) 11 (by rfl) (by kernel_rfl) (fun w => by kernel_rfl) ?_
  refine Sx.GT.ld1 26 (.tmp 14) b1 14 0 [.slice PA0 g.prog.length Pc0, .int .i64 g.a, .int .i64 g.pc, .slice PA1 g.wr.length Pc1, .slice PA2 g.lv.length Pc2, .int .i64 g.t.1, .int .i64 g.t.2.1, .bool g.t.2.2, .int .i64 g.pd, .int .i64 g.x.1, .int .i64 g.x.2.1, .bool g.x.2.2.1, .int .i64 g.x.2.2.2, .bool g.hl, .slice PA3 g.seen.length Pc3] (.slice PA3 g.seen.length Pc3) 12 (by rfl) (by rfl) (by kernel_rfl) (by kernel_rfl) (by rfl) (by kernel_rfl) (by kernel_rfl) ?_
  refine Sx.GT.alone (Sx.Alone.plain 117 #[.agg #[.slice PA0 g.prog.length Pc0, .int .i64 g.a, .int .i64 g.pc, .slice PA1 g.wr.length Pc1, .slice PA2 g.lv.length Pc2, .int .i64 g.t.1, .int .i64 g.t.2.1, .bool g.t.2.2, .int .i64 g.pd, .int .i64 g.x.1, .int .i64 g.x.2.1, .bool g.x.2.2.1, .int .i64 g.x.2.2.2, .bool g.hl, .slice PA3 g.seen.length Pc3]] (.agg #[.int .i64 g.a, .int .i64 g.pc, .int .i64 g.t.1, .int .i64 g.t.2.1, .bool g.t.2.2, .int .i64 g.pd, .int .i64 g.x.1, .int .i64 g.x.2.1, .bool g.x.2.2.1, .int .i64 g.x.2.2.2, .bool g.hl]) (by rfl) (by kernel_rfl) (fun w => by kernel_rfl) (fun w S => by exact impl_regs g _ _ (St.old S hr)) (fun w S => St.pick S [0] _ rfl (by decide)) ?_)
  refine Sx.GT.alone (Sx.Alone.call 121 #[.slice PA0 g.prog.length Pc0] (by rfl) (by kernel_rfl) (fun w => by kernel_rfl) (fun w2 S => (lib_cloneIns g.prog PA0 Pc0 _ q0 (St.old S h0)).mono fun e w2' hp => ?_))
  obtain ⟨cs, F, rfl, ho, hF, hb⟩ := hp
  obtain ⟨u2, rfl⟩ := lst_own ho
  obtain ⟨A2, c2, e2, -⟩ := lst_val ((St.got S hb ho hF).reads 0 rfl)
  subst e2
  generalize F = F2 at ho hF
  refine ⟨_, _, rfl, (St.got S hb ho hF), (fun w S => St.pick S [1] _ rfl (by decide)), ?_⟩
  clear S hb ho hF
  refine Sx.GT.alone (Sx.Alone.call 130 #[.slice PA1 g.wr.length Pc1] (by rfl) (by kernel_rfl) (fun w => by kernel_rfl) (fun w3 S => (lib_cloneSlot g.wr PA1 Pc1 _ q1 (St.old S h1)).mono fun e w3' hp => ?_))
  obtain ⟨cs, F, rfl, ho, hF, hb⟩ := hp
  obtain ⟨u3, rfl⟩ := lst_own ho
  obtain ⟨A3, c3, e3, -⟩ := lst_val ((St.got S hb ho hF).reads 0 rfl)
  subst e3
  generalize F = F3 at ho hF
  refine ⟨_, _, rfl, (St.got S hb ho hF), (fun w S => St.pick S [2] _ rfl (by decide)), ?_⟩
  clear S hb ho hF
  refine Sx.GT.alone (Sx.Alone.call 130 #[.slice PA2 g.lv.length Pc2] (by rfl) (by kernel_rfl) (fun w => by kernel_rfl) (fun w4 S => (lib_cloneSlot g.lv PA2 Pc2 _ q2 (St.old S h2)).mono fun e w4' hp => ?_))
  obtain ⟨cs, F, rfl, ho, hF, hb⟩ := hp
  obtain ⟨u4, rfl⟩ := lst_own ho
  obtain ⟨A4, c4, e4, -⟩ := lst_val ((St.got S hb ho hF).reads 0 rfl)
  subst e4
  generalize F = F4 at ho hF
  refine ⟨_, _, rfl, (St.got S hb ho hF), (fun w S => St.pick S [3] _ rfl (by decide)), ?_⟩
  clear S hb ho hF
  refine Sx.GT.alone (Sx.Alone.call 115 #[.slice PA3 g.seen.length Pc3] (by rfl) (by kernel_rfl) (fun w => by kernel_rfl) (fun w5 S => (lib_cloneInt g.seen PA3 Pc3 _ q3 (St.old S h3)).mono fun e w5' hp => ?_))
  obtain ⟨cs, F, rfl, ho, hF, hb⟩ := hp
  obtain ⟨u5, rfl⟩ := lst_own ho
  obtain ⟨A5, c5, e5, -⟩ := lst_val ((St.got S hb ho hF).reads 0 rfl)
  subst e5
  generalize F = F5 at ho hF
  refine ⟨_, _, rfl, (St.got S hb ho hF), (fun w S => St.pick S [4] _ rfl (by decide)), ?_⟩
  clear S hb ho hF
  refine Sx.GT.pure (.agg #[.int .i64 g.a, .int .i64 g.pc, .int .i64 g.t.1, .int .i64 g.t.2.1, .bool g.t.2.2, .int .i64 g.pd, .int .i64 g.x.1, .int .i64 g.x.2.1, .bool g.x.2.2.1, .int .i64 g.x.2.2.2, .bool g.hl, .slice A2 g.prog.length c2, .slice A3 g.wr.length c3, .slice A4 g.lv.length c4, .slice A5 g.seen.length c5]) 14 (by rfl) (by kernel_rfl) (fun w => by kernel_rfl) ?_
  refine Sx.GT.alone (Sx.Alone.box 145 (.tmp 17) [.int .i64 g.a, .int .i64 g.pc, .int .i64 g.t.1, .int .i64 g.t.2.1, .bool g.t.2.2, .int .i64 g.pd, .int .i64 g.x.1, .int .i64 g.x.2.1, .bool g.x.2.2.1, .int .i64 g.x.2.2.2, .bool g.hl, .slice A2 g.prog.length c2, .slice A3 g.wr.length c3, .slice A4 g.lv.length c4, .slice A5 g.seen.length c5] (by rfl) (by rfl) (by kernel_rfl) (by kernel_rfl) (fun w S => St.pick S [4] _ rfl (by decide)) (fun b6 => ?_))
  refine Sx.GT.pure (.pointer (some ⟨b6, 0, none⟩)) 16 (by rfl) (by kernel_rfl) (fun w => by kernel_rfl) ?_
  refine Sx.GT.nil ?_
  refine Sx.E.next ?_
  refine Sx.C.ret ?_
  refine Sx.E.ret1 (.pointer (some ⟨b6, 0, none⟩)) rfl (by kernel_rfl) (fun w S => ?_)
  exact ⟨_, _, _, _, _, _, _, _, _, _, _, _, _, _, _, _, _, _, _, _, _, rfl, St.pick S [0, 4, 3, 2, 1] _ rfl (by decide)⟩
set_option maxRecDepth 100000 in
set_option maxHeartbeats 4000000 in
theorem impl_guestM {w0 w : World} {b : Nat} {R : List Res} {A0 A1 A2 A3 : Option Addr} {c0 c1 c2 c3 : Nat} (g : gT) (S : St w0 w (vr b [.int .i64 g.a, .int .i64 g.pc, .int .i64 g.t.1, .int .i64 g.t.2.1, .bool g.t.2.2, .int .i64 g.pd, .int .i64 g.x.1, .int .i64 g.x.2.1, .bool g.x.2.2.1, .int .i64 g.x.2.2.2, .bool g.hl, .slice A0 g.prog.length c0, .slice A1 g.wr.length c1, .slice A2 g.lv.length c2, .slice A3 g.seen.length c3] :: R)) : Calls Try.prog 108 #[.pointer (some ⟨b, 0, none⟩)] w fun e w' => e = .returned (.agg #[.slice A0 g.prog.length c0, .int .i64 g.a, .int .i64 g.pc, .slice A1 g.wr.length c1, .slice A2 g.lv.length c2, .int .i64 g.t.1, .int .i64 g.t.2.1, .bool g.t.2.2, .int .i64 g.pd, .int .i64 g.x.1, .int .i64 g.x.2.1, .bool g.x.2.2.1, .int .i64 g.x.2.2.2, .bool g.hl, .slice A3 g.seen.length c3]) ∧ St w0 w' (vr b [.int .i64 g.a, .int .i64 g.pc, .int .i64 g.t.1, .int .i64 g.t.2.1, .bool g.t.2.2, .int .i64 g.pd, .int .i64 g.x.1, .int .i64 g.x.2.1, .bool g.x.2.2.1, .int .i64 g.x.2.2.2, .bool g.hl, .slice A0 g.prog.length c0, .slice A1 g.wr.length c1, .slice A2 g.lv.length c2, .slice A3 g.seen.length c3] :: R) := by
  refine Sx.enterS (args := [.pointer (some ⟨b, 0, none⟩)]) S Try.func108 rfl Try.ntmps108 rfl ?_
  refine Sx.C.seq ?_
  refine Sx.C.region ?_
  refine Sx.G.alloc 51 (.agg #[.slice none 0 0, .int .i64 0, .int .i64 0, .slice none 0 0, .slice none 0 0, .int .i64 0, .int .i64 0, .bool false, .int .i64 0, .int .i64 0, .int .i64 0, .bool false, .int .i64 0, .bool false, .slice none 0 0]) [.slice none 0 0, .int .i64 0, .int .i64 0, .slice none 0 0, .slice none 0 0, .int .i64 0, .int .i64 0, .bool false, .int .i64 0, .int .i64 0, .int .i64 0, .bool false, .int .i64 0, .bool false, .slice none 0 0] rfl (by kernel_rfl) (fun w => by kernel_rfl) (by kernel_rfl) (fun b1 => ?_)
  refine Sx.G.nil ?_
  refine Sx.E.next ?_
  refine Sx.C.seq ?_
  refine Sx.C.draw (.take 0 (.take 1 (.take 2 (.take 3 (.take 4 (.take 5 (.take 6 (.take 7 (.take 8 (.take 9 (.take 10 (.take 11 (.take 12 (.take 13 (.take 14 (.take 15 (.take 16 (.take 17 (.take 18 (.take 19 (.take 20 (.take 21 (.take 22 (.take 23 (.take 24 (.take 25 (.take 26 (.take 27 (.take 28 (.take 29 (.take 30 (.take 31 (.take 32 (.take 33 (.take 34 (.take 35 (.take 36 (.take 37 (.take 38 (.take 39 (.take 40 (.take 41 (.take 42 (.take 43 (.take 44 (.take 45 (.take 46 (.alone 47 .nil)))))))))))))))))))))))))))))))))))))))))))))))) [vr b [.int .i64 g.a, .int .i64 g.pc, .int .i64 g.t.1, .int .i64 g.t.2.1, .bool g.t.2.2, .int .i64 g.pd, .int .i64 g.x.1, .int .i64 g.x.2.1, .bool g.x.2.2.1, .int .i64 g.x.2.2.2, .bool g.hl, .slice A0 g.prog.length c0, .slice A1 g.wr.length c1, .slice A2 g.lv.length c2, .slice A3 g.seen.length c3]] (fun w S => St.pick S [1] _ rfl (by decide)) (by kernel_rfl) (by kernel_rfl) (by kernel_rfl) ?_
  refine Sx.GT.pure (.pointer (some ⟨b, 0, none⟩)) 0 (by rfl) (by kernel_rfl) (fun w => by kernel_rfl) ?_
  refine Sx.GT.pure (.pointer (some ⟨b, 0, none⟩)) 1 (by rfl) (by kernel_rfl) (fun w => by kernel_rfl) ?_
  refine Sx.GT.pure (.pointer (some ⟨b, 11, none⟩)) 2 (by rfl) (by kernel_rfl) (fun w => by kernel_rfl) ?_
  refine Sx.GT.ld1 44 (.tmp 5) b 11 0 [.int .i64 g.a, .int .i64 g.pc, .int .i64 g.t.1, .int .i64 g.t.2.1, .bool g.t.2.2, .int .i64 g.pd, .int .i64 g.x.1, .int .i64 g.x.2.1, .bool g.x.2.2.1, .int .i64 g.x.2.2.2, .bool g.hl, .slice A0 g.prog.length c0, .slice A1 g.wr.length c1, .slice A2 g.lv.length c2, .slice A3 g.seen.length c3] (.slice A0 g.prog.length c0) 3 (by rfl) (by rfl) (by kernel_rfl) (by kernel_rfl) (by rfl) (by kernel_rfl) (by kernel_rfl) ?_
  refine Sx.GT.pure (.pointer (some ⟨b, 0, none⟩)) 4 (by rfl) (by kernel_rfl) (fun w => by kernel_rfl) ?_
  refine Sx.GT.pure (.pointer (some ⟨b, 0, none⟩)) 5 (by rfl) (by kernel_rfl) (fun w => by kernel_rfl) ?_
  refine Sx.GT.pure (.pointer (some ⟨b, 0, none⟩)) 6 (by rfl) (by kernel_rfl) (fun w => by kernel_rfl) ?_
  refine Sx.GT.pure (.pointer (some ⟨b, 0, none⟩)) 7 (by rfl) (by kernel_rfl) (fun w => by kernel_rfl) ?_
  refine Sx.GT.ld1 3 (.tmp 10) b 0 0 [.int .i64 g.a, .int .i64 g.pc, .int .i64 g.t.1, .int .i64 g.t.2.1, .bool g.t.2.2, .int .i64 g.pd, .int .i64 g.x.1, .int .i64 g.x.2.1, .bool g.x.2.2.1, .int .i64 g.x.2.2.2, .bool g.hl, .slice A0 g.prog.length c0, .slice A1 g.wr.length c1, .slice A2 g.lv.length c2, .slice A3 g.seen.length c3] (.int .i64 g.a) 8 (by rfl) (by rfl) (by kernel_rfl) (by kernel_rfl) (by rfl) (by kernel_rfl) (by kernel_rfl) ?_
  refine Sx.GT.pure (.pointer (some ⟨b, 0, none⟩)) 9 (by rfl) (by kernel_rfl) (fun w => by kernel_rfl) ?_
  refine Sx.GT.pure (.pointer (some ⟨b, 0, none⟩)) 10 (by rfl) (by kernel_rfl) (fun w => by kernel_rfl) ?_
  refine Sx.GT.pure (.pointer (some ⟨b, 0, none⟩)) 11 (by rfl) (by kernel_rfl) (fun w => by kernel_rfl) ?_
  refine Sx.GT.pure (.pointer (some ⟨b, 1, none⟩)) 12 (by rfl) (by kernel_rfl) (fun w => by kernel_rfl) ?_
  refine Sx.GT.ld1 3 (.tmp 15) b 1 0 [.int .i64 g.a, .int .i64 g.pc, .int .i64 g.t.1, .int .i64 g.t.2.1, .bool g.t.2.2, .int .i64 g.pd, .int .i64 g.x.1, .int .i64 g.x.2.1, .bool g.x.2.2.1, .int .i64 g.x.2.2.2, .bool g.hl, .slice A0 g.prog.length c0, .slice A1 g.wr.length c1, .slice A2 g.lv.length c2, .slice A3 g.seen.length c3] (.int .i64 g.pc) 13 (by rfl) (by rfl) (by kernel_rfl) (by kernel_rfl) (by rfl) (by kernel_rfl) (by kernel_rfl) ?_
  refine Sx.GT.pure (.pointer (some ⟨b, 0, none⟩)) 14 (by rfl) (by kernel_rfl) (fun w => by kernel_rfl) ?_
  refine Sx.GT.pure (.pointer (some ⟨b, 0, none⟩)) 15 (by rfl) (by kernel_rfl) (fun w => by kernel_rfl) ?_
  refine Sx.GT.pure (.pointer (some ⟨b, 12, none⟩)) 16 (by rfl) (by kernel_rfl) (fun w => by kernel_rfl) ?_
  refine Sx.GT.ld1 45 (.tmp 19) b 12 0 [.int .i64 g.a, .int .i64 g.pc, .int .i64 g.t.1, .int .i64 g.t.2.1, .bool g.t.2.2, .int .i64 g.pd, .int .i64 g.x.1, .int .i64 g.x.2.1, .bool g.x.2.2.1, .int .i64 g.x.2.2.2, .bool g.hl, .slice A0 g.prog.length c0, .slice A1 g.wr.length c1, .slice A2 g.lv.length c2, .slice A3 g.seen.length c3] (.slice A1 g.wr.length c1) 17 (by rfl) (by rfl) (by kernel_rfl) (by kernel_rfl) (by rfl) (by kernel_rfl) (by kernel_rfl) ?_
  refine Sx.GT.pure (.pointer (some ⟨b, 0, none⟩)) 18 (by rfl) (by kernel_rfl) (fun w => by kernel_rfl) ?_
  refine Sx.GT.pure (.pointer (some ⟨b, 0, none⟩)) 19 (by rfl) (by kernel_rfl) (fun w => by kernel_rfl) ?_
  refine Sx.GT.pure (.pointer (some ⟨b, 13, none⟩)) 20 (by rfl) (by kernel_rfl) (fun w => by kernel_rfl) ?_
  refine Sx.GT.ld1 45 (.tmp 23) b 13 0 [.int .i64 g.a, .int .i64 g.pc, .int .i64 g.t.1, .int .i64 g.t.2.1, .bool g.t.2.2, .int .i64 g.pd, .int .i64 g.x.1, .int .i64 g.x.2.1, .bool g.x.2.2.1, .int .i64 g.x.2.2.2, .bool g.hl, .slice A0 g.prog.length c0, .slice A1 g.wr.length c1, .slice A2 g.lv.length c2, .slice A3 g.seen.length c3] (.slice A2 g.lv.length c2) 21 (by rfl) (by rfl) (by kernel_rfl) (by kernel_rfl) (by rfl) (by kernel_rfl) (by kernel_rfl) ?_
  refine Sx.GT.pure (.pointer (some ⟨b, 0, none⟩)) 22 (by rfl) (by kernel_rfl) (fun w => by kernel_rfl) ?_
  refine Sx.GT.pure (.pointer (some ⟨b, 0, none⟩)) 23 (by rfl) (by kernel_rfl) (fun w => by kernel_rfl) ?_
  refine Sx.GT.pure (.pointer (some ⟨b, 0, none⟩)) 24 (by rfl) (by kernel_rfl) (fun w => by kernel_rfl) ?_
  refine Sx.GT.pure (.pointer (some ⟨b, 2, none⟩)) 25 (by rfl) (by kernel_rfl) (fun w => by kernel_rfl) ?_
  refine Sx.GT.ld 47 (.tmp 28) b 2 0 [.int .i64 g.a, .int .i64 g.pc, .int .i64 g.t.1, .int .i64 g.t.2.1, .bool g.t.2.2, .int .i64 g.pd, .int .i64 g.x.1, .int .i64 g.x.2.1, .bool g.x.2.2.1, .int .i64 g.x.2.2.2, .bool g.hl, .slice A0 g.prog.length c0, .slice A1 g.wr.length c1, .slice A2 g.lv.length c2, .slice A3 g.seen.length c3] [.int .i64 g.t.1, .int .i64 g.t.2.1, .bool g.t.2.2] 26 (by rfl) (by rfl) (by kernel_rfl) (by kernel_rfl) (by rfl) (by kernel_rfl) (by kernel_rfl) (by kernel_rfl) ?_
  refine Sx.GT.pure (.pointer (some ⟨b, 0, none⟩)) 27 (by rfl) (by kernel_rfl) (fun w => by kernel_rfl) ?_
  refine Sx.GT.pure (.pointer (some ⟨b, 0, none⟩)) 28 (by rfl) (by kernel_rfl) (fun w => by kernel_rfl) ?_
  refine Sx.GT.pure (.pointer (some ⟨b, 0, none⟩)) 29 (by rfl) (by kernel_rfl) (fun w => by kernel_rfl) ?_
  refine Sx.GT.pure (.pointer (some ⟨b, 5, none⟩)) 30 (by rfl) (by kernel_rfl) (fun w => by kernel_rfl) ?_
  refine Sx.GT.ld1 3 (.tmp 33) b 5 0 [.int .i64 g.a, .int .i64 g.pc, .int .i64 g.t.1, .int .i64 g.t.2.1, .bool g.t.2.2, .int .i64 g.pd, .int .i64 g.x.1, .int .i64 g.x.2.1, .bool g.x.2.2.1, .int .i64 g.x.2.2.2, .bool g.hl, .slice A0 g.prog.length c0, .slice A1 g.wr.length c1, .slice A2 g.lv.length c2, .slice A3 g.seen.length c3] (.int .i64 g.pd) 31 (by rfl) (by rfl) (by kernel_rfl) (by kernel_rfl) (by rfl) (by kernel_rfl) (by kernel_rfl) ?_
  refine Sx.GT.pure (.pointer (some ⟨b, 0, none⟩)) 32 (by rfl) (by kernel_rfl) (fun w => by kernel_rfl) ?_
  refine Sx.GT.pure (.pointer (some ⟨b, 0, none⟩)) 33 (by rfl) (by kernel_rfl) (fun w => by kernel_rfl) ?_
  refine Sx.GT.pure (.pointer (some ⟨b, 0, none⟩)) 34 (by rfl) (by kernel_rfl) (fun w => by kernel_rfl) ?_
  refine Sx.GT.pure (.pointer (some ⟨b, 6, none⟩)) 35 (by rfl) (by kernel_rfl) (fun w => by kernel_rfl) ?_
  refine Sx.GT.ld 49 (.tmp 38) b 6 0 [.int .i64 g.a, .int .i64 g.pc, .int .i64 g.t.1, .int .i64 g.t.2.1, .bool g.t.2.2, .int .i64 g.pd, .int .i64 g.x.1, .int .i64 g.x.2.1, .bool g.x.2.2.1, .int .i64 g.x.2.2.2, .bool g.hl, .slice A0 g.prog.length c0, .slice A1 g.wr.length c1, .slice A2 g.lv.length c2, .slice A3 g.seen.length c3] [.int .i64 g.x.1, .int .i64 g.x.2.1, .bool g.x.2.2.1, .int .i64 g.x.2.2.2] 36 (by rfl) (by rfl) (by kernel_rfl) (by kernel_rfl) (by rfl) (by kernel_rfl) (by kernel_rfl) (by kernel_rfl) ?_
  refine Sx.GT.pure (.pointer (some ⟨b, 0, none⟩)) 37 (by rfl) (by kernel_rfl) (fun w => by kernel_rfl) ?_
  refine Sx.GT.pure (.pointer (some ⟨b, 0, none⟩)) 38 (by rfl) (by kernel_rfl) (fun w => by kernel_rfl) ?_
  refine Sx.GT.pure (.pointer (some ⟨b, 0, none⟩)) 39 (by rfl) (by kernel_rfl) (fun w => by kernel_rfl) ?_
  refine Sx.GT.pure (.pointer (some ⟨b, 10, none⟩)) 40 (by rfl) (by kernel_rfl) (fun w => by kernel_rfl) ?_
  refine Sx.GT.ld1 4 (.tmp 43) b 10 0 [.int .i64 g.a, .int .i64 g.pc, .int .i64 g.t.1, .int .i64 g.t.2.1, .bool g.t.2.2, .int .i64 g.pd, .int .i64 g.x.1, .int .i64 g.x.2.1, .bool g.x.2.2.1, .int .i64 g.x.2.2.2, .bool g.hl, .slice A0 g.prog.length c0, .slice A1 g.wr.length c1, .slice A2 g.lv.length c2, .slice A3 g.seen.length c3] (.bool g.hl) 41 (by rfl) (by rfl) (by kernel_rfl) (by kernel_rfl) (by rfl) (by kernel_rfl) (by kernel_rfl) ?_
  refine Sx.GT.pure (.pointer (some ⟨b, 0, none⟩)) 42 (by rfl) (by kernel_rfl) (fun w => by kernel_rfl) ?_
  refine Sx.GT.pure (.pointer (some ⟨b, 0, none⟩)) 43 (by rfl) (by kernel_rfl) (fun w => by kernel_rfl) ?_
  refine Sx.GT.pure (.pointer (some ⟨b, 14, none⟩)) 44 (by rfl) (by kernel_rfl) (fun w => by kernel_rfl) ?_
  refine Sx.GT.ld1 26 (.tmp 47) b 14 0 [.int .i64 g.a, .int .i64 g.pc, .int .i64 g.t.1, .int .i64 g.t.2.1, .bool g.t.2.2, .int .i64 g.pd, .int .i64 g.x.1, .int .i64 g.x.2.1, .bool g.x.2.2.1, .int .i64 g.x.2.2.2, .bool g.hl, .slice A0 g.prog.length c0, .slice A1 g.wr.length c1, .slice A2 g.lv.length c2, .slice A3 g.seen.length c3] (.slice A3 g.seen.length c3) 45 (by rfl) (by rfl) (by kernel_rfl) (by kernel_rfl) (by rfl) (by kernel_rfl) (by kernel_rfl) ?_
  refine Sx.GT.pure (.agg #[.slice A0 g.prog.length c0, .int .i64 g.a, .int .i64 g.pc, .slice A1 g.wr.length c1, .slice A2 g.lv.length c2, .int .i64 g.t.1, .int .i64 g.t.2.1, .bool g.t.2.2, .int .i64 g.pd, .int .i64 g.x.1, .int .i64 g.x.2.1, .bool g.x.2.2.1, .int .i64 g.x.2.2.2, .bool g.hl, .slice A3 g.seen.length c3]) 46 (by rfl) (by kernel_rfl) (fun w => by kernel_rfl) ?_
  refine Sx.GT.alone (Sx.Alone.sto 51 (.tmp 2) (.tmp 49) b1 0 0 [.slice none 0 0, .int .i64 0, .int .i64 0, .slice none 0 0, .slice none 0 0, .int .i64 0, .int .i64 0, .bool false, .int .i64 0, .int .i64 0, .int .i64 0, .bool false, .int .i64 0, .bool false, .slice none 0 0] [.slice A0 g.prog.length c0, .int .i64 g.a, .int .i64 g.pc, .slice A1 g.wr.length c1, .slice A2 g.lv.length c2, .int .i64 g.t.1, .int .i64 g.t.2.1, .bool g.t.2.2, .int .i64 g.pd, .int .i64 g.x.1, .int .i64 g.x.2.1, .bool g.x.2.2.1, .int .i64 g.x.2.2.2, .bool g.hl, .slice A3 g.seen.length c3] [.slice A0 g.prog.length c0, .int .i64 g.a, .int .i64 g.pc, .slice A1 g.wr.length c1, .slice A2 g.lv.length c2, .int .i64 g.t.1, .int .i64 g.t.2.1, .bool g.t.2.2, .int .i64 g.pd, .int .i64 g.x.1, .int .i64 g.x.2.1, .bool g.x.2.2.1, .int .i64 g.x.2.2.2, .bool g.hl, .slice A3 g.seen.length c3] (vr b1 [.slice A0 g.prog.length c0, .int .i64 g.a, .int .i64 g.pc, .slice A1 g.wr.length c1, .slice A2 g.lv.length c2, .int .i64 g.t.1, .int .i64 g.t.2.1, .bool g.t.2.2, .int .i64 g.pd, .int .i64 g.x.1, .int .i64 g.x.2.1, .bool g.x.2.2.1, .int .i64 g.x.2.2.2, .bool g.hl, .slice A3 g.seen.length c3] :: vr b [.int .i64 g.a, .int .i64 g.pc, .int .i64 g.t.1, .int .i64 g.t.2.1, .bool g.t.2.2, .int .i64 g.pd, .int .i64 g.x.1, .int .i64 g.x.2.1, .bool g.x.2.2.1, .int .i64 g.x.2.2.2, .bool g.hl, .slice A0 g.prog.length c0, .slice A1 g.wr.length c1, .slice A2 g.lv.length c2, .slice A3 g.seen.length c3] :: R) (by rfl) (by rfl) (by kernel_rfl) (by kernel_rfl) (by kernel_rfl) (by rfl) (by kernel_rfl) (by rfl) (by kernel_rfl) (by kernel_rfl) (by kernel_rfl) (fun w S => St.pick S [1] _ rfl (by decide)) ?_)
  refine Sx.GT.nil ?_
  refine Sx.E.next ?_
  refine Sx.C.ret ?_
  refine Sx.E.retc b1 0 [.slice A0 g.prog.length c0, .int .i64 g.a, .int .i64 g.pc, .slice A1 g.wr.length c1, .slice A2 g.lv.length c2, .int .i64 g.t.1, .int .i64 g.t.2.1, .bool g.t.2.2, .int .i64 g.pd, .int .i64 g.x.1, .int .i64 g.x.2.1, .bool g.x.2.2.1, .int .i64 g.x.2.2.2, .bool g.hl, .slice A3 g.seen.length c3] rfl (by kernel_rfl) rfl (by kernel_rfl) (by kernel_rfl) (fun w S => ?_)
  replace S := Sx.St.tail S
  exact ⟨rfl, S⟩
end Go.Proofs.Ytldgadmpclgfhaa.Guests
namespace Go.Proofs.Ytldgadmpclgfhaa.Sx
set_option maxRecDepth 100000
open Go.ChangeShapes Go.WideShapes Go.ChangeAt Go.RowKit Go.Deep
open Go.Proofs.Ytldgadmpclgfhaa.Base Go.Proofs.Ytldgadmpclgfhaa.Mem Go.Proofs.Ytldgadmpclgfhaa.Data Go.Proofs.Ytldgadmpclgfhaa.Stt Go.Proofs.Ytldgadmpclgfhaa.Draw
set_option linter.unusedVariables false
set_option linter.unusedSimpArgs false
section
variable {α β : Type} {r : Rp α} {P : Program} {n : Nat} {ops : Array Oper} {Q : Exit → Act → World → Prop} {Z : World → Prop} {w0 : World} {T : Tl} {L L' M : List Res} {rest : List Oper} {l : List Oper} {o : Oper} {t : Ord.Ot} {w : World} {x : α} {cs : List Value}
/-- The slots told anew. -/
theorem C.slots {T' : Tl} {c : Code} (h : ∀ a, Ag n T a → Ag n T' a) (k : C P n Q w0 T' L c) : C P n Q w0 T L c := fun a w hA S => k a w (h a hA) S
theorem Fresh.one {w' : World} (q : Res) (hs : q.says w') (h0 : w0.heap.size ≤ w.heap.size) (hl : w.heap.size ≤ q.lo) (hh : q.hi ≤ w'.heap.size) : Fresh w0 w w' [q] :=
  ⟨fun i r h => by
    match i, h with
    | 0, h => cases h; exact hs
    | i + 1, h => simp at h, fun i r h => by
    match i, h with
    | 0, h => cases h; exact Nat.le_trans h0 hl
    | i + 1, h => simp at h, fun i r h => by
    match i, h with
    | 0, h => cases h; exact hh
    | i + 1, h => simp at h, fun i r h k hk => by
    match i, h with
    | 0, h => cases h; exact Nat.le_trans hl (q.inn k hk).1
    | i + 1, h => simp at h, fun i j r s h1 h2 hne => by
    match i, j, h1, h2 with
    | 0, 0, _, _ => exact absurd rfl hne
    | 0, j + 1, _, h2 => simp at h2
    | i + 1, _, h1, _ => simp at h1⟩
theorem Fresh.nil (w0 w w' : World) : Fresh w0 w w' [] := ⟨fun i r h => by simp at h, fun i r h => by simp at h, fun i r h => by simp at h, fun i r h => by simp at h, fun i j r s h => by simp at h⟩
end
end Go.Proofs.Ytldgadmpclgfhaa.Sx
namespace Go.Proofs.Ytldgadmpclgfhaa.Kit
set_option maxRecDepth 100000
open Go.ChangeShapes Go.WideShapes Go.ChangeAt Go.RowKit Go.Deep
open Go.Proofs.Ytldgadmpclgfhaa.Base Go.Proofs.Ytldgadmpclgfhaa.Mem Go.Proofs.Ytldgadmpclgfhaa.Data Go.Proofs.Ytldgadmpclgfhaa.Stt Go.Proofs.Ytldgadmpclgfhaa.Guests Go.Proofs.Ytldgadmpclgfhaa.Ctls Go.Proofs.Ytldgadmpclgfhaa.Exits
set_option linter.unusedVariables false
set_option linter.unusedSimpArgs false
theorem i1_own {w : World} {lo hi c : Nat} {A : Option Addr} {l : List Int} (hc : l.length ≤ c) (h : Owned w lo hi A (icells l)) : (rLsw rInt).own w lo hi l [.slice A l.length c] (blks A (icells l)) ∧ (blks A (icells l)).Nodup :=
  ⟨⟨A, c, icells l, [], rfl, hc, by simp, (show ∀ l : List Int, ownAll rInt w lo hi l (icells l) [] from fun l => by
    induction l with
    | nil => exact ⟨rfl, rfl⟩
    | cons s l ih => exact ⟨[.int .i64 s], icells l, [], [], rfl, rfl, ⟨rfl, rfl⟩, ih⟩) l, h⟩, by
    unfold blks
    split
    · simp
    · cases A <;> simp⟩
set_option maxHeartbeats 1000000 in
theorem implx_copypage0 (A : Option Addr) (n c lo : Nat) (l : List Int) (w : World) (hn : n ≤ 1048576) (hl : l.length = n) (h1 : Lies w lo w.heap.size A (Ints.ncells l)) :
    Calls Try.prog 131 #[.slice A n c] w (Grid.IPostC w l) := by
  obtain ⟨i0, hi0, hz0, hz1, hz2⟩ := info_parts Grid.Try.infoInt
  obtain ⟨wm, hmk, hown, hgm⟩ := run_make_full w w.heap.size 26 3 i0 _ 1 Try.underlying26 hi0 hz0 hz1 .i64 .i64 n (by rw [hz2]; omega) (by simp only [maxLen]; omega) (Nat.le_refl _)
  obtain ⟨cur, hblk, hcur⟩ := Grid.block_of_row hown
  have hb0 : Below w.heap.size w wm := (Below.refl _ _).grown hgm (Nat.le_refl _) (fun _ h => by cases h)
  have hsrc := Lib.hid (Grid.Lies.src (h1.below hb0 (Nat.le_refl _)))
  have hlen := Lib.hid (show (Ints.ncells l).length = Nat.min n n by rw [Ints.ncells_len, hl]; exact (Nat.min_self n).symm)
  have hfit := Lib.hid (show 0 + (Ints.ncells l).length ≤ cur.length by rw [Ints.ncells_len, hl, hcur]; omega)
  have hs := Lib.hid (Grid.splice_all cur (Ints.ncells l) (by rw [Ints.ncells_len, hl, hcur]))
  have hsz := Lib.hid (show (Try.prog.info? 3).map (·.size) = some 1 by rw [hi0]; simp [hz1])
  have HB := Lib.hid hb0
  have HL := Lib.hid hl
  have HC := Lib.hid hblk
  have hlo := Nat.le_refl w.heap.size
  clear h1 hl hown hgm hblk hb0 hcur
  go_enter Try.func131, Try.ntmps131
  go_wp2_with (with_reducible refine wpList_copy_splice rfl (.tmp 7) (.tmp 8) 26 26 rfl 3 Try.underlying26 hsz.out (some ⟨w.heap.size, 0, none⟩) A n n n c rfl rfl w.heap.size 0 cur 3 HC.out (Ints.ncells l) hlen.out (fun hp => ⟨rfl, by obtain ⟨ad, e, _⟩ := hsrc.out 0 _ (List.getElem?_eq_getElem hp); subst e; exact ⟨_, rfl, fun j v hv => by obtain ⟨ad', e', hc⟩ := hsrc.out j v hv; cases e'; exact hc⟩⟩) hfit.out (Grid.ncells_one l) w.heap.size w HB.out hlo ?_; intro w2 HG hb2; have HB2 := Lib.hid hb2; clear hb2)
  go_ret
  have hg := HG.out
  rw [hs.out] at hg
  exact ⟨_, _, _, rfl, Nat.le_refl _, HL.out, Mem.Owned.of_row (Grid.row_of_block (n := n) hg (Nat.le_refl _) (by rw [Ints.ncells_len]; exact HL.out) (by simp only [maxLen]; omega)), HB2.out⟩
theorem implx_copypage (xs : List Int) (A : Option Addr) (c : Nat) (w : World) (hc : (rLsw rInt).cap xs) (h : rdLst rInt w 0 w.heap.size xs [.slice A xs.length c]) : Calls Try.prog 131 #[.slice A xs.length c] w (Gives (rLsw rInt) w xs) :=
  (implx_copypage0 A xs.length c 0 xs w hc.1 rfl (i1_lies h)).mono fun e w' h => by
    obtain ⟨B, n, d, rfl, hnd, hln, ho, hb⟩ := h
    subst hln
    exact ⟨[_], _, rfl, (i1_own hnd ho).1, (i1_own hnd ho).2, hb⟩
set_option maxRecDepth 100000 in
set_option maxHeartbeats 4000000 in
theorem implx_copymem (xs : (List (List Int))) (A : Option Addr) (c : Nat) (w : World) (hc : (rLsw (rLsw rInt)).cap xs) (h : rdLst (rLsw rInt) w 0 w.heap.size xs [.slice A xs.length c]) : Calls Try.prog 113 #[.slice A xs.length c] w (Gives (rLsw (rLsw rInt)) w xs) := by
  obtain ⟨hl, hce⟩ := hc
  refine Sx.enter (args := [.slice A xs.length c]) Try.func113 rfl Try.ntmps113 rfl ?_
  refine Sx.C.seq ?_
  refine Sx.C.region ?_
  refine Sx.G.pure (.slice none 0 0) (by kernel_rfl) (fun w => by kernel_rfl) ?_
  refine Sx.G.nil ?_
  refine Sx.E.next ?_
  refine Sx.C.seq ?_
  refine Sx.C.region ?_
  refine Sx.G.pure (.slice A xs.length c) (by kernel_rfl) (fun w => by kernel_rfl) ?_
  refine Sx.G.pure (.int .i64 ((xs.length : Nat) : Int)) (by kernel_rfl) (fun w => by kernel_rfl) ?_
  refine Sx.G.mks (r := (rLsw rInt)) ([] : (List Int)) [.slice none 0 0] 24 26 (.tmp 7) (.tmp 7) 1 24 xs.length rfl (by kernel_rfl) (by kernel_rfl) (by kernel_rfl) rfl rfl (fun w lo hi => Kit.own_nil _ _ _) (by kernel_rfl) (by kernel_rfl) (by simp only [maxLen]; omega) (by omega) (fun b1 hi1 F1 => ?_)
  refine Sx.G.pure (.slice (some ⟨b1, 0, none⟩) xs.length xs.length) (by kernel_rfl) (fun w => by kernel_rfl) ?_
  refine Sx.G.nil ?_
  refine Sx.E.next ?_
  refine Sx.C.seq ?_
  refine Sx.C.seq ?_
  refine Sx.C.region ?_
  refine Sx.G.pure (.slice A xs.length c) (by kernel_rfl) (fun w => by kernel_rfl) ?_
  refine Sx.G.pure (.int .i64 ((xs.length : Nat) : Int)) (by kernel_rfl) (fun w => by kernel_rfl) ?_
  refine Sx.G.pure (.int .i64 0) (by kernel_rfl) (fun w => by kernel_rfl) ?_
  refine Sx.G.nil ?_
  refine Sx.E.next ?_
  refine Sx.C.block ?_
  refine Sx.C.loop (α := Nat × Nat × List Nat) (fun x => x.1 ≤ xs.length) (fun x => [(11, .int .i64 (x.1 : Int)), (2, .slice none 0 0), (3, .slice (some ⟨b1, 0, none⟩) xs.length xs.length), (9, .slice A xs.length c), (10, .int .i64 ((xs.length : Nat) : Int))]) (fun x => [ow (rLsw (rLsw rInt)) w.heap.size x.2.1 (xs.take x.1 ++ List.replicate (xs.length - x.1) ([] : (List Int))) [.slice (some ⟨b1, 0, none⟩) xs.length xs.length] x.2.2]) (fun x => xs.length - x.1) (0, hi1, F1) (Nat.zero_le _) (fun a hA => (Sx.Ag.and hA (Sx.Ag.and hA (Sx.Ag.and hA (Sx.Ag.and hA (Sx.Ag.and hA (Sx.Ag.none hA) _ _ (by kernel_rfl)) _ _ (by kernel_rfl)) _ _ (by kernel_rfl)) _ _ (by kernel_rfl)) _ _ (by kernel_rfl))) (fun w' S => by have S2 := Sx.St.widen S 0 rfl (Nat.le_refl _) (S.hi 0 _ rfl); exact S2) (fun x hx => ?_)
  obtain ⟨i, hi, F⟩ := x
  dsimp only at hx
  obtain hi' := hx
  refine Sx.C.seq ?_
  refine Sx.C.region ?_
  refine Sx.G.pure (.bool (decide ((i : Int) < ((xs.length : Nat) : Int)))) (by kernel_rfl) (fun w => by kernel_rfl) ?_
  refine Sx.G.nil ?_
  refine Sx.E.next ?_
  refine Sx.C.seq ?_
  cases hc2 : (decide ((i : Int) < ((xs.length : Nat) : Int)))
  · have hb2 := hc2
    replace hc2 := of_decide_eq_false hc2
    refine Sx.C.no (by kernel_rfl) (by kernel_rfl) ?_
    refine Sx.C.exit ?_
    refine Sx.E.then_exit ?_
    refine Sx.E.then_exit ?_
    refine Sx.E.block_hit ?_
    refine Sx.E.next ?_
    refine Sx.C.seq ?_
    refine Sx.C.region ?_
    refine Sx.G.pure (.slice (some ⟨b1, 0, none⟩) xs.length xs.length) (by kernel_rfl) (fun w => by kernel_rfl) ?_
    refine Sx.G.pure (.slice (some ⟨b1, 0, none⟩) xs.length xs.length) (by kernel_rfl) (fun w => by kernel_rfl) ?_
    refine Sx.G.nil ?_
    refine Sx.E.next ?_
    refine Sx.C.ret ?_
    refine Sx.E.ret1 (.slice (some ⟨b1, 0, none⟩) xs.length xs.length) rfl (by kernel_rfl) (fun w S => ?_)
    have h2' : xs.take i = xs := List.take_of_length_le (by omega)
    rw [h2', show xs.length - i = 0 by omega, List.replicate_zero, List.append_nil] at S
    exact ⟨[_], F, rfl, S.own 0 rfl, S.nodup 0 rfl, S.below⟩
  · have hb2 := hc2
    replace hc2 := of_decide_eq_true hc2
    refine Sx.C.yes (by kernel_rfl) (by kernel_rfl) ?_
    refine Sx.C.skip ?_
    refine Sx.E.next ?_
    refine Sx.C.seq ?_
    have hlt : i < xs.length := by omega
    refine Sx.C.open (r := (rLsw rInt)) (pre := xs.take i) (x := ([] : (List Int))) (post := List.replicate (xs.length - (i + 1)) ([] : (List Int))) (by rw [show xs.length - i = (xs.length - (i + 1)) + 1 by omega, List.replicate_succ]) (by decide) (fun b off es F1 Fi F2 eA eF hes hm hmc => ?_)
    obtain ⟨rfl, rfl⟩ : b1 = b ∧ 0 = off := by cases eA; exact ⟨rfl, rfl⟩
    subst eF
    refine Sx.C.know (p := ∃ A0 c0, es = [.slice A0 0 c0]) (fun w S => Kit.open_nil (St.at_ S 1 rfl).1) ?_
    rintro ⟨z0, d0, rfl⟩
    refine Sx.C.block ?_
    refine Sx.C.seq ?_
    refine Sx.C.region ?_
    refine Sx.G.pure (.int .i64 (i : Int)) (by kernel_rfl) (fun w => by kernel_rfl) ?_
    obtain ⟨b3, f3, es3, eA3, hr3, hl3, hm3⟩ := Sx.old_elem (by decide) h i (by omega)
    subst eA3
    obtain ⟨x3, hx3⟩ : ∃ z_, z_ = (xs[i]'(by omega)) := ⟨_, rfl⟩
    rw [← hx3] at hr3
    replace hr3 : rdLst rInt w 0 w.heap.size x3 es3 := hr3
    obtain ⟨P3, rfl⟩ := lst_rd hr3
    obtain ⟨A3, c3, e3, -⟩ := lst_val hr3
    subst e3
    refine Sx.G.elem 24 26 (.tmp 9) (.tmp 11) 1 24 b3 f3 xs.length c i rfl (by kernel_rfl) (by kernel_rfl) (by kernel_rfl) (by kernel_rfl) (by omega) ?_
    refine Sx.G.ldr1 26 (.tmp 14) b3 ((f3 + i * 1) + 0) (.slice A3 x3.length c3) rfl (by kernel_rfl) (by kernel_rfl) (fun w S => hm3 w _ S 0 _ rfl) (by kernel_rfl) ?_
    refine Sx.G.pure (.int .i64 (i : Int)) (by kernel_rfl) (fun w => by kernel_rfl) ?_
    refine Sx.G.pure (.slice A3 x3.length c3) (by kernel_rfl) (fun w => by kernel_rfl) ?_
    refine Sx.G.nil ?_
    refine Sx.E.next ?_
    refine Sx.C.region ?_
    refine Sx.G.pure (.slice (some ⟨b1, 0, none⟩) xs.length xs.length) (by kernel_rfl) (fun w => by kernel_rfl) ?_
    refine Sx.G.pure (.int .i64 (i : Int)) (by kernel_rfl) (fun w => by kernel_rfl) ?_
    refine Sx.G.pure (.slice A3 x3.length c3) (by kernel_rfl) (fun w => by kernel_rfl) ?_
    refine Sx.G.call 131 #[.slice A3 x3.length c3] (by kernel_rfl) (fun w => by kernel_rfl) (fun w4 S => (implx_copypage x3 A3 c3 _ (hce _ (hx3 ▸ List.getElem_mem _)) (St.old (r := (rLsw rInt)) S hr3)).mono fun e w4' hp => ?_)
    obtain ⟨cs, F, rfl, ho, hF, hb⟩ := hp
    obtain ⟨u4, rfl⟩ := lsw_own ho
    obtain ⟨A4, c4, e4, -⟩ := lst_val ((rLsw _).reads ho)
    subst e4
    generalize F = F4 at ho hF
    refine ⟨_, _, rfl, (St.got S hb ho hF), ?_⟩
    clear S hb ho hF
    refine Sx.G.elem 24 26 (.tmp 16) (.tmp 17) 1 24 b1 0 xs.length xs.length i rfl (by kernel_rfl) (by kernel_rfl) (by kernel_rfl) (by kernel_rfl) (by omega) ?_
    refine Sx.G.hsto (k := i) (size := 1) 26 (.tmp 20) (.tmp 19) b1 ((0 + i * 1) + 0) 0 1 [.slice A4 x3.length c4] [.slice A4 x3.length c4] [ow (rLsw rInt) w4.heap.size w4'.heap.size x3 [.slice A4 x3.length c4] F4, Sx.hole (rLsw rInt) b1 0 w.heap.size hi (xs.take i) (List.replicate (xs.length - (i + 1)) ([] : (List Int))) [.slice A4 x3.length c4] F1 F2, ow (rLsw rInt) w.heap.size hi ([] : (List Int)) [.slice z0 0 d0] Fi] rfl (by kernel_rfl) (by kernel_rfl) (by kernel_rfl) rfl (by rw [List.length_take]; omega) rfl rfl rfl rfl (by kernel_rfl) (by kernel_rfl) (by kernel_rfl) ?_
    refine Sx.G.nil ?_
    refine Sx.E.block_normal ?_
    refine Sx.E.next ?_
    refine Sx.C.region ?_
    refine Sx.G.pureq (.int .i64 (IntKind.i64.wrap ((i : Int) + 1))) (.int .i64 ((i + 1 : Nat) : Int)) (by kernel_rfl) (fun w => by kernel_rfl) (congrArg (Value.int .i64) (Sx.wrap_up i (by omega))) ?_
    refine Sx.G.pure (.int .i64 ((i + 1 : Nat) : Int)) (by kernel_rfl) (fun w => by kernel_rfl) ?_
    refine Sx.G.nil ?_
    exact Sx.E.again (i + 1, max hi w4'.heap.size, _) (show i + 1 ≤ xs.length by omega) (show xs.length - (i + 1) < xs.length - i by omega) (fun a hA => (Sx.Ag.and hA (Sx.Ag.and hA (Sx.Ag.and hA (Sx.Ag.and hA (Sx.Ag.and hA (Sx.Ag.none hA) _ _ (by kernel_rfl)) _ _ (by kernel_rfl)) _ _ (by kernel_rfl)) _ _ (by kernel_rfl)) _ _ (by kernel_rfl))) (fun w' S => by
      replace S := St.pick S [1, 0] [_, _] rfl (by decide)
      have S3 := Sx.St.closeW S (by decide) xs.length xs.length (by simp [List.length_take]; omega) hmc
      rw [hx3] at S3
      rw [show xs.take i ++ xs[i] :: List.replicate (xs.length - (i + 1)) ([] : (List Int)) = xs.take (i + 1) ++ List.replicate (xs.length - (i + 1)) ([] : (List Int)) by rw [Kit.take_step hlt, List.append_assoc]; rfl] at S3
      exact S3
      )
set_option maxRecDepth 100000 in
set_option maxHeartbeats 4000000 in
theorem implx_another_g (g : gT) (cs : List Value) (w : World) (hc : rG.cap g) (h : rG.rd w 0 w.heap.size g cs) : Calls Try.prog 69 #[.agg cs.toArray] w (Gives rG w g) := by
  obtain ⟨q0, q1, q2, q3⟩ := rG_len hc
  have hr := h
  obtain ⟨P0, P1, P2, P3, rfl, h0, h1, h2, h3⟩ := rG_rd h
  obtain ⟨PA0, Pc0, e0, hP0⟩ := lst_val h0
  subst e0
  obtain ⟨PA1, Pc1, e1, hP1⟩ := lst_val h1
  subst e1
  obtain ⟨PA2, Pc2, e2, hP2⟩ := lst_val h2
  subst e2
  obtain ⟨PA3, Pc3, e3, hP3⟩ := lst_val h3
  subst e3
  refine Sx.enter (args := [.agg #[.slice PA0 g.prog.length Pc0, .int .i64 g.a, .int .i64 g.pc, .slice PA1 g.wr.length Pc1, .slice PA2 g.lv.length Pc2, .int .i64 g.t.1, .int .i64 g.t.2.1, .bool g.t.2.2, .int .i64 g.pd, .int .i64 g.x.1, .int .i64 g.x.2.1, .bool g.x.2.2.1, .int .i64 g.x.2.2.2, .bool g.hl, .slice PA3 g.seen.length Pc3]]) Try.func69 rfl Try.ntmps69 rfl ?_
  refine Sx.C.seq ?_
  refine Sx.C.region ?_
  refine Sx.G.box 51 (.tmp 0) [.slice PA0 g.prog.length Pc0, .int .i64 g.a, .int .i64 g.pc, .slice PA1 g.wr.length Pc1, .slice PA2 g.lv.length Pc2, .int .i64 g.t.1, .int .i64 g.t.2.1, .bool g.t.2.2, .int .i64 g.pd, .int .i64 g.x.1, .int .i64 g.x.2.1, .bool g.x.2.2.1, .int .i64 g.x.2.2.2, .bool g.hl, .slice PA3 g.seen.length Pc3] rfl (by kernel_rfl) (by kernel_rfl) (fun b1 => ?_)
  refine Sx.G.alloc 51 (.agg #[.slice none 0 0, .int .i64 0, .int .i64 0, .slice none 0 0, .slice none 0 0, .int .i64 0, .int .i64 0, .bool false, .int .i64 0, .int .i64 0, .int .i64 0, .bool false, .int .i64 0, .bool false, .slice none 0 0]) [.slice none 0 0, .int .i64 0, .int .i64 0, .slice none 0 0, .slice none 0 0, .int .i64 0, .int .i64 0, .bool false, .int .i64 0, .int .i64 0, .int .i64 0, .bool false, .int .i64 0, .bool false, .slice none 0 0] rfl (by kernel_rfl) (fun w => by kernel_rfl) (by kernel_rfl) (fun b2 => ?_)
  refine Sx.G.nil ?_
  refine Sx.E.next ?_
  refine Sx.C.seq ?_
  refine Sx.C.region ?_
  refine Sx.G.ld 51 (.tmp 1) b1 0 1 [.slice PA0 g.prog.length Pc0, .int .i64 g.a, .int .i64 g.pc, .slice PA1 g.wr.length Pc1, .slice PA2 g.lv.length Pc2, .int .i64 g.t.1, .int .i64 g.t.2.1, .bool g.t.2.2, .int .i64 g.pd, .int .i64 g.x.1, .int .i64 g.x.2.1, .bool g.x.2.2.1, .int .i64 g.x.2.2.2, .bool g.hl, .slice PA3 g.seen.length Pc3] [.slice PA0 g.prog.length Pc0, .int .i64 g.a, .int .i64 g.pc, .slice PA1 g.wr.length Pc1, .slice PA2 g.lv.length Pc2, .int .i64 g.t.1, .int .i64 g.t.2.1, .bool g.t.2.2, .int .i64 g.pd, .int .i64 g.x.1, .int .i64 g.x.2.1, .bool g.x.2.2.1, .int .i64 g.x.2.2.2, .bool g.hl, .slice PA3 g.seen.length Pc3] rfl (by kernel_rfl) (by kernel_rfl) rfl (by kernel_rfl) (by kernel_rfl) (by kernel_rfl) ?_
  refine Sx.G.call 107 #[.agg #[.slice PA0 g.prog.length Pc0, .int .i64 g.a, .int .i64 g.pc, .slice PA1 g.wr.length Pc1, .slice PA2 g.lv.length Pc2, .int .i64 g.t.1, .int .i64 g.t.2.1, .bool g.t.2.2, .int .i64 g.pd, .int .i64 g.x.1, .int .i64 g.x.2.1, .bool g.x.2.2.1, .int .i64 g.x.2.2.2, .bool g.hl, .slice PA3 g.seen.length Pc3]] (by kernel_rfl) (fun w => by kernel_rfl) (fun w3 S => (impl_copyM g _ _ hc (St.old S hr)).mono fun e w3' hp => ?_)
  obtain ⟨b3, A3_0, c3_0, l3_0, h3_0, F3_0, A3_1, c3_1, l3_1, h3_1, F3_1, A3_2, c3_2, l3_2, h3_2, F3_2, A3_3, c3_3, l3_3, h3_3, F3_3, rfl, U⟩ := hp
  refine ⟨_, _, rfl, (Sx.St.join S U), ?_⟩
  clear S U
  refine Sx.G.call 108 #[.pointer (some ⟨b3, 0, none⟩)] (by kernel_rfl) (fun w => by kernel_rfl) (fun w4 S => (impl_guestM g S).mono fun e w4' hp => ?_)
  obtain ⟨rfl, S'⟩ := hp
  refine ⟨_, _, rfl, S', ?_⟩
  clear S S'
  refine Sx.G.sto 51 (.tmp 2) (.tmp 5) b2 0 5 [.slice none 0 0, .int .i64 0, .int .i64 0, .slice none 0 0, .slice none 0 0, .int .i64 0, .int .i64 0, .bool false, .int .i64 0, .int .i64 0, .int .i64 0, .bool false, .int .i64 0, .bool false, .slice none 0 0] [.slice A3_0 g.prog.length c3_0, .int .i64 g.a, .int .i64 g.pc, .slice A3_1 g.wr.length c3_1, .slice A3_2 g.lv.length c3_2, .int .i64 g.t.1, .int .i64 g.t.2.1, .bool g.t.2.2, .int .i64 g.pd, .int .i64 g.x.1, .int .i64 g.x.2.1, .bool g.x.2.2.1, .int .i64 g.x.2.2.2, .bool g.hl, .slice A3_3 g.seen.length c3_3] [.slice A3_0 g.prog.length c3_0, .int .i64 g.a, .int .i64 g.pc, .slice A3_1 g.wr.length c3_1, .slice A3_2 g.lv.length c3_2, .int .i64 g.t.1, .int .i64 g.t.2.1, .bool g.t.2.2, .int .i64 g.pd, .int .i64 g.x.1, .int .i64 g.x.2.1, .bool g.x.2.2.1, .int .i64 g.x.2.2.2, .bool g.hl, .slice A3_3 g.seen.length c3_3] [vr b3 [.int .i64 g.a, .int .i64 g.pc, .int .i64 g.t.1, .int .i64 g.t.2.1, .bool g.t.2.2, .int .i64 g.pd, .int .i64 g.x.1, .int .i64 g.x.2.1, .bool g.x.2.2.1, .int .i64 g.x.2.2.2, .bool g.hl, .slice A3_0 g.prog.length c3_0, .slice A3_1 g.wr.length c3_1, .slice A3_2 g.lv.length c3_2, .slice A3_3 g.seen.length c3_3], ow (rLst 111 (rPair rInt rInt)) l3_0 h3_0 g.prog [.slice A3_0 g.prog.length c3_0] F3_0, ow (rLst 129 (rPair rInt rInt)) l3_1 h3_1 g.wr [.slice A3_1 g.wr.length c3_1] F3_1, ow (rLst 129 (rPair rInt rInt)) l3_2 h3_2 g.lv [.slice A3_2 g.lv.length c3_2] F3_2, ow (rLst 3 rInt) l3_3 h3_3 g.seen [.slice A3_3 g.seen.length c3_3] F3_3, vr b2 [.slice A3_0 g.prog.length c3_0, .int .i64 g.a, .int .i64 g.pc, .slice A3_1 g.wr.length c3_1, .slice A3_2 g.lv.length c3_2, .int .i64 g.t.1, .int .i64 g.t.2.1, .bool g.t.2.2, .int .i64 g.pd, .int .i64 g.x.1, .int .i64 g.x.2.1, .bool g.x.2.2.1, .int .i64 g.x.2.2.2, .bool g.hl, .slice A3_3 g.seen.length c3_3], vr b1 [.slice PA0 g.prog.length Pc0, .int .i64 g.a, .int .i64 g.pc, .slice PA1 g.wr.length Pc1, .slice PA2 g.lv.length Pc2, .int .i64 g.t.1, .int .i64 g.t.2.1, .bool g.t.2.2, .int .i64 g.pd, .int .i64 g.x.1, .int .i64 g.x.2.1, .bool g.x.2.2.1, .int .i64 g.x.2.2.2, .bool g.hl, .slice PA3 g.seen.length Pc3]] rfl (by kernel_rfl) (by kernel_rfl) (by kernel_rfl) rfl (by kernel_rfl) rfl (by kernel_rfl) (by kernel_rfl) (by kernel_rfl) ?_
  refine Sx.G.nil ?_
  refine Sx.E.next ?_
  refine Sx.C.ret ?_
  refine Sx.E.retc b2 5 [.slice A3_0 g.prog.length c3_0, .int .i64 g.a, .int .i64 g.pc, .slice A3_1 g.wr.length c3_1, .slice A3_2 g.lv.length c3_2, .int .i64 g.t.1, .int .i64 g.t.2.1, .bool g.t.2.2, .int .i64 g.pd, .int .i64 g.x.1, .int .i64 g.x.2.1, .bool g.x.2.2.1, .int .i64 g.x.2.2.2, .bool g.hl, .slice A3_3 g.seen.length c3_3] rfl (by kernel_rfl) rfl (by kernel_rfl) (by kernel_rfl) (fun w S => ?_)
  obtain ⟨GW2, S⟩ := S.weak 2 rfl
  obtain ⟨GW3, S⟩ := S.weak 3 rfl
  obtain ⟨ho, hF⟩ := rG_shut (g := g) S 1 rfl 2 rfl 3 rfl 4 rfl (by decide) (by decide) (by decide) (by decide) (by decide) (by decide)
  exact ⟨_, _, rfl, ho, hF, S.below⟩
theorem implx_another (g : gT) (cs : List Value) (w : World) (hc : wG.cap g) (h : wG.rd w 0 w.heap.size g cs) : Calls Try.prog 69 #[.agg cs.toArray] w (Gives wG w g) := (implx_another_g g cs w (cap_G hc) (rd_G h)).mono weak_G
set_option maxRecDepth 100000 in
set_option maxHeartbeats 4000000 in
theorem implx_copyguests (xs : (List gT)) (A : Option Addr) (c : Nat) (w : World) (hc : (rLsw wG).cap xs) (h : rdLst wG w 0 w.heap.size xs [.slice A xs.length c]) : Calls Try.prog 114 #[.slice A xs.length c] w (Gives (rLsw wG) w xs) := by
  obtain ⟨hl, hce⟩ := hc
  refine Sx.enter (args := [.slice A xs.length c]) Try.func114 rfl Try.ntmps114 rfl ?_
  refine Sx.C.seq ?_
  refine Sx.C.region ?_
  refine Sx.G.pure (.slice none 0 0) (by kernel_rfl) (fun w => by kernel_rfl) ?_
  refine Sx.G.nil ?_
  refine Sx.E.next ?_
  refine Sx.C.seq ?_
  refine Sx.C.region ?_
  refine Sx.G.pure (.slice A xs.length c) (by kernel_rfl) (fun w => by kernel_rfl) ?_
  refine Sx.G.pure (.int .i64 ((xs.length : Nat) : Int)) (by kernel_rfl) (fun w => by kernel_rfl) ?_
  refine Sx.G.mks (r := wG) ({ prog := [], a := 0, pc := 0, wr := [], lv := [], t := (0, 0, false), pd := 0, x := (0, 0, false, 0), hl := false, seen := [] } : gT) [.slice none 0 0, .int .i64 0, .int .i64 0, .slice none 0 0, .slice none 0 0, .int .i64 0, .int .i64 0, .bool false, .int .i64 0, .int .i64 0, .int .i64 0, .bool false, .int .i64 0, .bool false, .slice none 0 0] 25 51 (.tmp 7) (.tmp 7) 15 184 xs.length rfl (by kernel_rfl) (by kernel_rfl) (by kernel_rfl) rfl rfl (fun w lo hi => Kit.own_zero_Guest w lo hi) (by kernel_rfl) (by kernel_rfl) (by simp only [maxLen]; omega) (by omega) (fun b1 hi1 F1 => ?_)
  refine Sx.G.pure (.slice (some ⟨b1, 0, none⟩) xs.length xs.length) (by kernel_rfl) (fun w => by kernel_rfl) ?_
  refine Sx.G.nil ?_
  refine Sx.E.next ?_
  refine Sx.C.seq ?_
  refine Sx.C.seq ?_
  refine Sx.C.region ?_
  refine Sx.G.pure (.slice A xs.length c) (by kernel_rfl) (fun w => by kernel_rfl) ?_
  refine Sx.G.pure (.int .i64 ((xs.length : Nat) : Int)) (by kernel_rfl) (fun w => by kernel_rfl) ?_
  refine Sx.G.pure (.int .i64 0) (by kernel_rfl) (fun w => by kernel_rfl) ?_
  refine Sx.G.nil ?_
  refine Sx.E.next ?_
  refine Sx.C.block ?_
  refine Sx.C.loop (α := Nat × Nat × List Nat) (fun x => x.1 ≤ xs.length) (fun x => [(11, .int .i64 (x.1 : Int)), (2, .slice none 0 0), (3, .slice (some ⟨b1, 0, none⟩) xs.length xs.length), (9, .slice A xs.length c), (10, .int .i64 ((xs.length : Nat) : Int))]) (fun x => [ow (rLsw wG) w.heap.size x.2.1 (xs.take x.1 ++ List.replicate (xs.length - x.1) ({ prog := [], a := 0, pc := 0, wr := [], lv := [], t := (0, 0, false), pd := 0, x := (0, 0, false, 0), hl := false, seen := [] } : gT)) [.slice (some ⟨b1, 0, none⟩) xs.length xs.length] x.2.2]) (fun x => xs.length - x.1) (0, hi1, F1) (Nat.zero_le _) (fun a hA => (Sx.Ag.and hA (Sx.Ag.and hA (Sx.Ag.and hA (Sx.Ag.and hA (Sx.Ag.and hA (Sx.Ag.none hA) _ _ (by kernel_rfl)) _ _ (by kernel_rfl)) _ _ (by kernel_rfl)) _ _ (by kernel_rfl)) _ _ (by kernel_rfl))) (fun w' S => by have S2 := Sx.St.widen S 0 rfl (Nat.le_refl _) (S.hi 0 _ rfl); exact S2) (fun x hx => ?_)
  obtain ⟨i, hi, F⟩ := x
  dsimp only at hx
  obtain hi' := hx
  refine Sx.C.seq ?_
  refine Sx.C.region ?_
  refine Sx.G.pure (.bool (decide ((i : Int) < ((xs.length : Nat) : Int)))) (by kernel_rfl) (fun w => by kernel_rfl) ?_
  refine Sx.G.nil ?_
  refine Sx.E.next ?_
  refine Sx.C.seq ?_
  cases hc2 : (decide ((i : Int) < ((xs.length : Nat) : Int)))
  · have hb2 := hc2
    replace hc2 := of_decide_eq_false hc2
    refine Sx.C.no (by kernel_rfl) (by kernel_rfl) ?_
    refine Sx.C.exit ?_
    refine Sx.E.then_exit ?_
    refine Sx.E.then_exit ?_
    refine Sx.E.block_hit ?_
    refine Sx.E.next ?_
    refine Sx.C.seq ?_
    refine Sx.C.region ?_
    refine Sx.G.pure (.slice (some ⟨b1, 0, none⟩) xs.length xs.length) (by kernel_rfl) (fun w => by kernel_rfl) ?_
    refine Sx.G.pure (.slice (some ⟨b1, 0, none⟩) xs.length xs.length) (by kernel_rfl) (fun w => by kernel_rfl) ?_
    refine Sx.G.nil ?_
    refine Sx.E.next ?_
    refine Sx.C.ret ?_
    refine Sx.E.ret1 (.slice (some ⟨b1, 0, none⟩) xs.length xs.length) rfl (by kernel_rfl) (fun w S => ?_)
    have h2' : xs.take i = xs := List.take_of_length_le (by omega)
    rw [h2', show xs.length - i = 0 by omega, List.replicate_zero, List.append_nil] at S
    exact ⟨[_], F, rfl, S.own 0 rfl, S.nodup 0 rfl, S.below⟩
  · have hb2 := hc2
    replace hc2 := of_decide_eq_true hc2
    refine Sx.C.yes (by kernel_rfl) (by kernel_rfl) ?_
    refine Sx.C.skip ?_
    refine Sx.E.next ?_
    refine Sx.C.seq ?_
    have hlt : i < xs.length := by omega
    refine Sx.C.open (r := wG) (pre := xs.take i) (x := ({ prog := [], a := 0, pc := 0, wr := [], lv := [], t := (0, 0, false), pd := 0, x := (0, 0, false, 0), hl := false, seen := [] } : gT)) (post := List.replicate (xs.length - (i + 1)) ({ prog := [], a := 0, pc := 0, wr := [], lv := [], t := (0, 0, false), pd := 0, x := (0, 0, false, 0), hl := false, seen := [] } : gT)) (by rw [show xs.length - i = (xs.length - (i + 1)) + 1 by omega, List.replicate_succ]) (by decide) (fun b off es F1 Fi F2 eA eF hes hm hmc => ?_)
    obtain ⟨rfl, rfl⟩ : b1 = b ∧ 0 = off := by cases eA; exact ⟨rfl, rfl⟩
    subst eF
    refine Sx.C.know (p := ∃ A0 A1 A2 A3 c0 c1 c2 c3, es = [.slice A0 0 c0, .int .i64 ({ prog := [], a := 0, pc := 0, wr := [], lv := [], t := (0, 0, false), pd := 0, x := (0, 0, false, 0), hl := false, seen := [] } : gT).a, .int .i64 ({ prog := [], a := 0, pc := 0, wr := [], lv := [], t := (0, 0, false), pd := 0, x := (0, 0, false, 0), hl := false, seen := [] } : gT).pc, .slice A1 0 c1, .slice A2 0 c2, .int .i64 ({ prog := [], a := 0, pc := 0, wr := [], lv := [], t := (0, 0, false), pd := 0, x := (0, 0, false, 0), hl := false, seen := [] } : gT).t.1, .int .i64 ({ prog := [], a := 0, pc := 0, wr := [], lv := [], t := (0, 0, false), pd := 0, x := (0, 0, false, 0), hl := false, seen := [] } : gT).t.2.1, .bool ({ prog := [], a := 0, pc := 0, wr := [], lv := [], t := (0, 0, false), pd := 0, x := (0, 0, false, 0), hl := false, seen := [] } : gT).t.2.2, .int .i64 ({ prog := [], a := 0, pc := 0, wr := [], lv := [], t := (0, 0, false), pd := 0, x := (0, 0, false, 0), hl := false, seen := [] } : gT).pd, .int .i64 ({ prog := [], a := 0, pc := 0, wr := [], lv := [], t := (0, 0, false), pd := 0, x := (0, 0, false, 0), hl := false, seen := [] } : gT).x.1, .int .i64 ({ prog := [], a := 0, pc := 0, wr := [], lv := [], t := (0, 0, false), pd := 0, x := (0, 0, false, 0), hl := false, seen := [] } : gT).x.2.1, .bool ({ prog := [], a := 0, pc := 0, wr := [], lv := [], t := (0, 0, false), pd := 0, x := (0, 0, false, 0), hl := false, seen := [] } : gT).x.2.2.1, .int .i64 ({ prog := [], a := 0, pc := 0, wr := [], lv := [], t := (0, 0, false), pd := 0, x := (0, 0, false, 0), hl := false, seen := [] } : gT).x.2.2.2, .bool ({ prog := [], a := 0, pc := 0, wr := [], lv := [], t := (0, 0, false), pd := 0, x := (0, 0, false, 0), hl := false, seen := [] } : gT).hl, .slice A3 0 c3]) (fun w S => Kit.open_zero_Guest (St.at_ S 1 rfl).1) ?_
    rintro ⟨z0, z1, z2, z3, d0, d1, d2, d3, rfl⟩
    refine Sx.C.block ?_
    refine Sx.C.seq ?_
    refine Sx.C.region ?_
    refine Sx.G.pure (.int .i64 (i : Int)) (by kernel_rfl) (fun w => by kernel_rfl) ?_
    obtain ⟨b3, f3, es3, eA3, hr3, hl3, hm3⟩ := Sx.old_elem (by decide) h i (by omega)
    subst eA3
    obtain ⟨x3, hx3⟩ : ∃ z_, z_ = (xs[i]'(by omega)) := ⟨_, rfl⟩
    rw [← hx3] at hr3
    have hR3 := hr3
    obtain ⟨P3_0, P3_1, P3_2, P3_3, rfl, hf3_0, hf3_1, hf3_2, hf3_3⟩ := wG_rd hr3
    obtain ⟨A3_0, c3_0, e3_0, -⟩ := lst_val hf3_0
    subst e3_0
    obtain ⟨A3_1, c3_1, e3_1, -⟩ := lst_val hf3_1
    subst e3_1
    obtain ⟨A3_2, c3_2, e3_2, -⟩ := lst_val hf3_2
    subst e3_2
    obtain ⟨A3_3, c3_3, e3_3, -⟩ := lst_val hf3_3
    subst e3_3
    refine Sx.G.elem 25 51 (.tmp 9) (.tmp 11) 15 184 b3 f3 xs.length c i rfl (by kernel_rfl) (by kernel_rfl) (by kernel_rfl) (by kernel_rfl) (by omega) ?_
    refine Sx.G.ldr 51 (.tmp 14) b3 (f3 + i * 15) [.slice A3_0 x3.prog.length c3_0, .int .i64 x3.a, .int .i64 x3.pc, .slice A3_1 x3.wr.length c3_1, .slice A3_2 x3.lv.length c3_2, .int .i64 x3.t.1, .int .i64 x3.t.2.1, .bool x3.t.2.2, .int .i64 x3.pd, .int .i64 x3.x.1, .int .i64 x3.x.2.1, .bool x3.x.2.2.1, .int .i64 x3.x.2.2.2, .bool x3.hl, .slice A3_3 x3.seen.length c3_3] rfl (by kernel_rfl) (by kernel_rfl) (fun w S => hm3 w _ S) (by kernel_rfl) (by kernel_rfl) ?_
    refine Sx.G.alloc 51 (.agg #[.slice none 0 0, .int .i64 0, .int .i64 0, .slice none 0 0, .slice none 0 0, .int .i64 0, .int .i64 0, .bool false, .int .i64 0, .int .i64 0, .int .i64 0, .bool false, .int .i64 0, .bool false, .slice none 0 0]) [.slice none 0 0, .int .i64 0, .int .i64 0, .slice none 0 0, .slice none 0 0, .int .i64 0, .int .i64 0, .bool false, .int .i64 0, .int .i64 0, .int .i64 0, .bool false, .int .i64 0, .bool false, .slice none 0 0] rfl (by kernel_rfl) (fun w => by kernel_rfl) (by kernel_rfl) (fun b4 => ?_)
    refine Sx.G.pure (.int .i64 (i : Int)) (by kernel_rfl) (fun w => by kernel_rfl) ?_
    refine Sx.G.sto 51 (.tmp 5) (.tmp 15) b4 0 0 [.slice none 0 0, .int .i64 0, .int .i64 0, .slice none 0 0, .slice none 0 0, .int .i64 0, .int .i64 0, .bool false, .int .i64 0, .int .i64 0, .int .i64 0, .bool false, .int .i64 0, .bool false, .slice none 0 0] [.slice A3_0 x3.prog.length c3_0, .int .i64 x3.a, .int .i64 x3.pc, .slice A3_1 x3.wr.length c3_1, .slice A3_2 x3.lv.length c3_2, .int .i64 x3.t.1, .int .i64 x3.t.2.1, .bool x3.t.2.2, .int .i64 x3.pd, .int .i64 x3.x.1, .int .i64 x3.x.2.1, .bool x3.x.2.2.1, .int .i64 x3.x.2.2.2, .bool x3.hl, .slice A3_3 x3.seen.length c3_3] [.slice A3_0 x3.prog.length c3_0, .int .i64 x3.a, .int .i64 x3.pc, .slice A3_1 x3.wr.length c3_1, .slice A3_2 x3.lv.length c3_2, .int .i64 x3.t.1, .int .i64 x3.t.2.1, .bool x3.t.2.2, .int .i64 x3.pd, .int .i64 x3.x.1, .int .i64 x3.x.2.1, .bool x3.x.2.2.1, .int .i64 x3.x.2.2.2, .bool x3.hl, .slice A3_3 x3.seen.length c3_3] [vr b4 [.slice A3_0 x3.prog.length c3_0, .int .i64 x3.a, .int .i64 x3.pc, .slice A3_1 x3.wr.length c3_1, .slice A3_2 x3.lv.length c3_2, .int .i64 x3.t.1, .int .i64 x3.t.2.1, .bool x3.t.2.2, .int .i64 x3.pd, .int .i64 x3.x.1, .int .i64 x3.x.2.1, .bool x3.x.2.2.1, .int .i64 x3.x.2.2.2, .bool x3.hl, .slice A3_3 x3.seen.length c3_3], Sx.hole wG b1 0 w.heap.size hi (xs.take i) (List.replicate (xs.length - (i + 1)) ({ prog := [], a := 0, pc := 0, wr := [], lv := [], t := (0, 0, false), pd := 0, x := (0, 0, false, 0), hl := false, seen := [] } : gT)) [.slice z0 0 d0, .int .i64 ({ prog := [], a := 0, pc := 0, wr := [], lv := [], t := (0, 0, false), pd := 0, x := (0, 0, false, 0), hl := false, seen := [] } : gT).a, .int .i64 ({ prog := [], a := 0, pc := 0, wr := [], lv := [], t := (0, 0, false), pd := 0, x := (0, 0, false, 0), hl := false, seen := [] } : gT).pc, .slice z1 0 d1, .slice z2 0 d2, .int .i64 ({ prog := [], a := 0, pc := 0, wr := [], lv := [], t := (0, 0, false), pd := 0, x := (0, 0, false, 0), hl := false, seen := [] } : gT).t.1, .int .i64 ({ prog := [], a := 0, pc := 0, wr := [], lv := [], t := (0, 0, false), pd := 0, x := (0, 0, false, 0), hl := false, seen := [] } : gT).t.2.1, .bool ({ prog := [], a := 0, pc := 0, wr := [], lv := [], t := (0, 0, false), pd := 0, x := (0, 0, false, 0), hl := false, seen := [] } : gT).t.2.2, .int .i64 ({ prog := [], a := 0, pc := 0, wr := [], lv := [], t := (0, 0, false), pd := 0, x := (0, 0, false, 0), hl := false, seen := [] } : gT).pd, .int .i64 ({ prog := [], a := 0, pc := 0, wr := [], lv := [], t := (0, 0, false), pd := 0, x := (0, 0, false, 0), hl := false, seen := [] } : gT).x.1, .int .i64 ({ prog := [], a := 0, pc := 0, wr := [], lv := [], t := (0, 0, false), pd := 0, x := (0, 0, false, 0), hl := false, seen := [] } : gT).x.2.1, .bool ({ prog := [], a := 0, pc := 0, wr := [], lv := [], t := (0, 0, false), pd := 0, x := (0, 0, false, 0), hl := false, seen := [] } : gT).x.2.2.1, .int .i64 ({ prog := [], a := 0, pc := 0, wr := [], lv := [], t := (0, 0, false), pd := 0, x := (0, 0, false, 0), hl := false, seen := [] } : gT).x.2.2.2, .bool ({ prog := [], a := 0, pc := 0, wr := [], lv := [], t := (0, 0, false), pd := 0, x := (0, 0, false, 0), hl := false, seen := [] } : gT).hl, .slice z3 0 d3] F1 F2, ow wG w.heap.size hi ({ prog := [], a := 0, pc := 0, wr := [], lv := [], t := (0, 0, false), pd := 0, x := (0, 0, false, 0), hl := false, seen := [] } : gT) [.slice z0 0 d0, .int .i64 ({ prog := [], a := 0, pc := 0, wr := [], lv := [], t := (0, 0, false), pd := 0, x := (0, 0, false, 0), hl := false, seen := [] } : gT).a, .int .i64 ({ prog := [], a := 0, pc := 0, wr := [], lv := [], t := (0, 0, false), pd := 0, x := (0, 0, false, 0), hl := false, seen := [] } : gT).pc, .slice z1 0 d1, .slice z2 0 d2, .int .i64 ({ prog := [], a := 0, pc := 0, wr := [], lv := [], t := (0, 0, false), pd := 0, x := (0, 0, false, 0), hl := false, seen := [] } : gT).t.1, .int .i64 ({ prog := [], a := 0, pc := 0, wr := [], lv := [], t := (0, 0, false), pd := 0, x := (0, 0, false, 0), hl := false, seen := [] } : gT).t.2.1, .bool ({ prog := [], a := 0, pc := 0, wr := [], lv := [], t := (0, 0, false), pd := 0, x := (0, 0, false, 0), hl := false, seen := [] } : gT).t.2.2, .int .i64 ({ prog := [], a := 0, pc := 0, wr := [], lv := [], t := (0, 0, false), pd := 0, x := (0, 0, false, 0), hl := false, seen := [] } : gT).pd, .int .i64 ({ prog := [], a := 0, pc := 0, wr := [], lv := [], t := (0, 0, false), pd := 0, x := (0, 0, false, 0), hl := false, seen := [] } : gT).x.1, .int .i64 ({ prog := [], a := 0, pc := 0, wr := [], lv := [], t := (0, 0, false), pd := 0, x := (0, 0, false, 0), hl := false, seen := [] } : gT).x.2.1, .bool ({ prog := [], a := 0, pc := 0, wr := [], lv := [], t := (0, 0, false), pd := 0, x := (0, 0, false, 0), hl := false, seen := [] } : gT).x.2.2.1, .int .i64 ({ prog := [], a := 0, pc := 0, wr := [], lv := [], t := (0, 0, false), pd := 0, x := (0, 0, false, 0), hl := false, seen := [] } : gT).x.2.2.2, .bool ({ prog := [], a := 0, pc := 0, wr := [], lv := [], t := (0, 0, false), pd := 0, x := (0, 0, false, 0), hl := false, seen := [] } : gT).hl, .slice z3 0 d3] Fi] rfl (by kernel_rfl) (by kernel_rfl) (by kernel_rfl) rfl (by kernel_rfl) rfl (by kernel_rfl) (by kernel_rfl) (by kernel_rfl) ?_
    refine Sx.G.nil ?_
    refine Sx.E.next ?_
    refine Sx.C.region ?_
    refine Sx.G.pure (.slice (some ⟨b1, 0, none⟩) xs.length xs.length) (by kernel_rfl) (fun w => by kernel_rfl) ?_
    refine Sx.G.pure (.int .i64 (i : Int)) (by kernel_rfl) (fun w => by kernel_rfl) ?_
    refine Sx.G.ld 51 (.tmp 5) b4 0 0 [.slice A3_0 x3.prog.length c3_0, .int .i64 x3.a, .int .i64 x3.pc, .slice A3_1 x3.wr.length c3_1, .slice A3_2 x3.lv.length c3_2, .int .i64 x3.t.1, .int .i64 x3.t.2.1, .bool x3.t.2.2, .int .i64 x3.pd, .int .i64 x3.x.1, .int .i64 x3.x.2.1, .bool x3.x.2.2.1, .int .i64 x3.x.2.2.2, .bool x3.hl, .slice A3_3 x3.seen.length c3_3] [.slice A3_0 x3.prog.length c3_0, .int .i64 x3.a, .int .i64 x3.pc, .slice A3_1 x3.wr.length c3_1, .slice A3_2 x3.lv.length c3_2, .int .i64 x3.t.1, .int .i64 x3.t.2.1, .bool x3.t.2.2, .int .i64 x3.pd, .int .i64 x3.x.1, .int .i64 x3.x.2.1, .bool x3.x.2.2.1, .int .i64 x3.x.2.2.2, .bool x3.hl, .slice A3_3 x3.seen.length c3_3] rfl (by kernel_rfl) (by kernel_rfl) rfl (by kernel_rfl) (by kernel_rfl) (by kernel_rfl) ?_
    refine Sx.G.call 69 #[.agg #[.slice A3_0 x3.prog.length c3_0, .int .i64 x3.a, .int .i64 x3.pc, .slice A3_1 x3.wr.length c3_1, .slice A3_2 x3.lv.length c3_2, .int .i64 x3.t.1, .int .i64 x3.t.2.1, .bool x3.t.2.2, .int .i64 x3.pd, .int .i64 x3.x.1, .int .i64 x3.x.2.1, .bool x3.x.2.2.1, .int .i64 x3.x.2.2.2, .bool x3.hl, .slice A3_3 x3.seen.length c3_3]] (by kernel_rfl) (fun w => by kernel_rfl) (fun w5 S => (implx_another x3 _ _ (hce _ (hx3 ▸ List.getElem_mem _)) (St.old S hR3)).mono fun e w5' hp => ?_)
    obtain ⟨cs, F, rfl, ho, hF, hb⟩ := hp
    obtain ⟨P5_0, P5_1, P5_2, P5_3, G5_0, G5_1, G5_2, G5_3, rfl, -, S'⟩ := wG_open2 (St.got S hb ho hF)
    obtain ⟨A5_0, c5_0, e5_0, -⟩ := lst_val (S'.reads 0 rfl)
    subst e5_0
    obtain ⟨A5_1, c5_1, e5_1, -⟩ := lst_val (S'.reads 1 rfl)
    subst e5_1
    obtain ⟨A5_2, c5_2, e5_2, -⟩ := lst_val (S'.reads 2 rfl)
    subst e5_2
    obtain ⟨A5_3, c5_3, e5_3, -⟩ := lst_val (S'.reads 3 rfl)
    subst e5_3
    refine ⟨_, _, rfl, S', ?_⟩
    clear S S' ho hF hb
    refine Sx.G.elem 25 51 (.tmp 16) (.tmp 17) 15 184 b1 0 xs.length xs.length i rfl (by kernel_rfl) (by kernel_rfl) (by kernel_rfl) (by kernel_rfl) (by omega) ?_
    refine Sx.G.hsto (k := i) (size := 15) 51 (.tmp 20) (.tmp 19) b1 ((0 + i * 15) + 0) 0 5 [.slice A5_0 x3.prog.length c5_0, .int .i64 x3.a, .int .i64 x3.pc, .slice A5_1 x3.wr.length c5_1, .slice A5_2 x3.lv.length c5_2, .int .i64 x3.t.1, .int .i64 x3.t.2.1, .bool x3.t.2.2, .int .i64 x3.pd, .int .i64 x3.x.1, .int .i64 x3.x.2.1, .bool x3.x.2.2.1, .int .i64 x3.x.2.2.2, .bool x3.hl, .slice A5_3 x3.seen.length c5_3] [.slice A5_0 x3.prog.length c5_0, .int .i64 x3.a, .int .i64 x3.pc, .slice A5_1 x3.wr.length c5_1, .slice A5_2 x3.lv.length c5_2, .int .i64 x3.t.1, .int .i64 x3.t.2.1, .bool x3.t.2.2, .int .i64 x3.pd, .int .i64 x3.x.1, .int .i64 x3.x.2.1, .bool x3.x.2.2.1, .int .i64 x3.x.2.2.2, .bool x3.hl, .slice A5_3 x3.seen.length c5_3] [ow (rLsw (rPair rInt rInt)) w5.heap.size w5'.heap.size x3.prog [.slice A5_0 x3.prog.length c5_0] G5_0, ow (rLsw (rPair rInt rInt)) w5.heap.size w5'.heap.size x3.wr [.slice A5_1 x3.wr.length c5_1] G5_1, ow (rLsw (rPair rInt rInt)) w5.heap.size w5'.heap.size x3.lv [.slice A5_2 x3.lv.length c5_2] G5_2, ow (rLsw rInt) w5.heap.size w5'.heap.size x3.seen [.slice A5_3 x3.seen.length c5_3] G5_3, vr b4 [.slice A3_0 x3.prog.length c3_0, .int .i64 x3.a, .int .i64 x3.pc, .slice A3_1 x3.wr.length c3_1, .slice A3_2 x3.lv.length c3_2, .int .i64 x3.t.1, .int .i64 x3.t.2.1, .bool x3.t.2.2, .int .i64 x3.pd, .int .i64 x3.x.1, .int .i64 x3.x.2.1, .bool x3.x.2.2.1, .int .i64 x3.x.2.2.2, .bool x3.hl, .slice A3_3 x3.seen.length c3_3], Sx.hole wG b1 0 w.heap.size hi (xs.take i) (List.replicate (xs.length - (i + 1)) ({ prog := [], a := 0, pc := 0, wr := [], lv := [], t := (0, 0, false), pd := 0, x := (0, 0, false, 0), hl := false, seen := [] } : gT)) [.slice A5_0 x3.prog.length c5_0, .int .i64 x3.a, .int .i64 x3.pc, .slice A5_1 x3.wr.length c5_1, .slice A5_2 x3.lv.length c5_2, .int .i64 x3.t.1, .int .i64 x3.t.2.1, .bool x3.t.2.2, .int .i64 x3.pd, .int .i64 x3.x.1, .int .i64 x3.x.2.1, .bool x3.x.2.2.1, .int .i64 x3.x.2.2.2, .bool x3.hl, .slice A5_3 x3.seen.length c5_3] F1 F2, ow wG w.heap.size hi ({ prog := [], a := 0, pc := 0, wr := [], lv := [], t := (0, 0, false), pd := 0, x := (0, 0, false, 0), hl := false, seen := [] } : gT) [.slice z0 0 d0, .int .i64 ({ prog := [], a := 0, pc := 0, wr := [], lv := [], t := (0, 0, false), pd := 0, x := (0, 0, false, 0), hl := false, seen := [] } : gT).a, .int .i64 ({ prog := [], a := 0, pc := 0, wr := [], lv := [], t := (0, 0, false), pd := 0, x := (0, 0, false, 0), hl := false, seen := [] } : gT).pc, .slice z1 0 d1, .slice z2 0 d2, .int .i64 ({ prog := [], a := 0, pc := 0, wr := [], lv := [], t := (0, 0, false), pd := 0, x := (0, 0, false, 0), hl := false, seen := [] } : gT).t.1, .int .i64 ({ prog := [], a := 0, pc := 0, wr := [], lv := [], t := (0, 0, false), pd := 0, x := (0, 0, false, 0), hl := false, seen := [] } : gT).t.2.1, .bool ({ prog := [], a := 0, pc := 0, wr := [], lv := [], t := (0, 0, false), pd := 0, x := (0, 0, false, 0), hl := false, seen := [] } : gT).t.2.2, .int .i64 ({ prog := [], a := 0, pc := 0, wr := [], lv := [], t := (0, 0, false), pd := 0, x := (0, 0, false, 0), hl := false, seen := [] } : gT).pd, .int .i64 ({ prog := [], a := 0, pc := 0, wr := [], lv := [], t := (0, 0, false), pd := 0, x := (0, 0, false, 0), hl := false, seen := [] } : gT).x.1, .int .i64 ({ prog := [], a := 0, pc := 0, wr := [], lv := [], t := (0, 0, false), pd := 0, x := (0, 0, false, 0), hl := false, seen := [] } : gT).x.2.1, .bool ({ prog := [], a := 0, pc := 0, wr := [], lv := [], t := (0, 0, false), pd := 0, x := (0, 0, false, 0), hl := false, seen := [] } : gT).x.2.2.1, .int .i64 ({ prog := [], a := 0, pc := 0, wr := [], lv := [], t := (0, 0, false), pd := 0, x := (0, 0, false, 0), hl := false, seen := [] } : gT).x.2.2.2, .bool ({ prog := [], a := 0, pc := 0, wr := [], lv := [], t := (0, 0, false), pd := 0, x := (0, 0, false, 0), hl := false, seen := [] } : gT).hl, .slice z3 0 d3] Fi] rfl (by kernel_rfl) (by kernel_rfl) (by kernel_rfl) rfl (by rw [List.length_take]; omega) rfl rfl rfl rfl (by kernel_rfl) (by kernel_rfl) (by kernel_rfl) ?_
    refine Sx.G.nil ?_
    refine Sx.E.block_normal ?_
    refine Sx.E.next ?_
    refine Sx.C.region ?_
    refine Sx.G.pureq (.int .i64 (IntKind.i64.wrap ((i : Int) + 1))) (.int .i64 ((i + 1 : Nat) : Int)) (by kernel_rfl) (fun w => by kernel_rfl) (congrArg (Value.int .i64) (Sx.wrap_up i (by omega))) ?_
    refine Sx.G.pure (.int .i64 ((i + 1 : Nat) : Int)) (by kernel_rfl) (fun w => by kernel_rfl) ?_
    refine Sx.G.nil ?_
    exact Sx.E.again (i + 1, max hi w5'.heap.size, _) (show i + 1 ≤ xs.length by omega) (show xs.length - (i + 1) < xs.length - i by omega) (fun a hA => (Sx.Ag.and hA (Sx.Ag.and hA (Sx.Ag.and hA (Sx.Ag.and hA (Sx.Ag.and hA (Sx.Ag.none hA) _ _ (by kernel_rfl)) _ _ (by kernel_rfl)) _ _ (by kernel_rfl)) _ _ (by kernel_rfl)) _ _ (by kernel_rfl))) (fun w' S => by
      replace S := wG_shut2 (g := x3) S
      replace S := St.pick S [2, 0] [_, _] rfl (by decide)
      have S3 := Sx.St.closeW S (by decide) xs.length xs.length (by simp [List.length_take]; omega) hmc
      rw [hx3] at S3
      rw [show xs.take i ++ xs[i] :: List.replicate (xs.length - (i + 1)) ({ prog := [], a := 0, pc := 0, wr := [], lv := [], t := (0, 0, false), pd := 0, x := (0, 0, false, 0), hl := false, seen := [] } : gT) = xs.take (i + 1) ++ List.replicate (xs.length - (i + 1)) ({ prog := [], a := 0, pc := 0, wr := [], lv := [], t := (0, 0, false), pd := 0, x := (0, 0, false, 0), hl := false, seen := [] } : gT) by rw [Kit.take_step hlt, List.append_assoc]; rfl] at S3
      exact S3
      )
set_option maxRecDepth 100000 in
set_option maxHeartbeats 4000000 in
theorem implx_copybare (x : bT) (cs : List Value) (w : World) (hc : wB.cap x) (h : wB.rd w 0 w.heap.size x cs) : Calls Try.prog 81 #[.agg cs.toArray] w (Gives rB w x) := by
  obtain ⟨hcap0, hcap1, hcap2, hcap3⟩ := hc
  have hlo : x.outs.length ≤ 1048576 := hcap2.1
  have hR := h
  obtain ⟨hP0, hP1, hP2, rfl, hf0, hf1, hf2⟩ := wB_rd h
  obtain ⟨hA0, hK0, he0, -⟩ := lst_val hf0
  subst he0
  obtain ⟨hA1, hK1, he1, -⟩ := lst_val hf1
  subst he1
  obtain ⟨hA2, hK2, he2, -⟩ := lst_val hf2
  subst he2
  refine Sx.enter (args := [.agg #[.slice hA0 x.mem.length hK0, .slice hA1 x.gs.length hK1, .slice hA2 x.outs.length hK2, .int .i64 x.pd]]) Try.func81 rfl Try.ntmps81 rfl ?_
  refine Sx.C.seq ?_
  refine Sx.C.region ?_
  refine Sx.G.box 28 (.tmp 0) [.slice hA0 x.mem.length hK0, .slice hA1 x.gs.length hK1, .slice hA2 x.outs.length hK2, .int .i64 x.pd] rfl (by kernel_rfl) (by kernel_rfl) (fun b1 => ?_)
  refine Sx.G.alloc 28 (.agg #[.slice none 0 0, .slice none 0 0, .slice none 0 0, .int .i64 0]) [.slice none 0 0, .slice none 0 0, .slice none 0 0, .int .i64 0] rfl (by kernel_rfl) (fun w => by kernel_rfl) (by kernel_rfl) (fun b2 => ?_)
  refine Sx.G.nil ?_
  refine Sx.E.next ?_
  refine Sx.C.seq ?_
  refine Sx.C.draw (.take 0 (.take 1 (.take 3 (.take 4 (.take 6 (.take 7 (.take 9 (.take 10 (.alone 2 (.alone 5 (.alone 8 (.take 11 (.alone 12 .nil))))))))))))) [vr b1 [.slice hA0 x.mem.length hK0, .slice hA1 x.gs.length hK1, .slice hA2 x.outs.length hK2, .int .i64 x.pd]] (fun w S => St.pick S [1] _ rfl (by decide)) (by kernel_rfl) (by kernel_rfl) (by kernel_rfl) ?_
  refine Sx.GT.pure (.pointer (some ⟨b1, 0, none⟩)) 0 (by rfl) (by kernel_rfl) (fun w => by kernel_rfl) ?_
  refine Sx.GT.ld1 24 (.tmp 3) b1 0 0 [.slice hA0 x.mem.length hK0, .slice hA1 x.gs.length hK1, .slice hA2 x.outs.length hK2, .int .i64 x.pd] (.slice hA0 x.mem.length hK0) 1 (by rfl) (by rfl) (by kernel_rfl) (by kernel_rfl) (by rfl) (by kernel_rfl) (by kernel_rfl) ?_
  refine Sx.GT.pure (.pointer (some ⟨b1, 1, none⟩)) 3 (by rfl) (by kernel_rfl) (fun w => by kernel_rfl) ?_
  refine Sx.GT.ld1 25 (.tmp 6) b1 1 0 [.slice hA0 x.mem.length hK0, .slice hA1 x.gs.length hK1, .slice hA2 x.outs.length hK2, .int .i64 x.pd] (.slice hA1 x.gs.length hK1) 4 (by rfl) (by rfl) (by kernel_rfl) (by kernel_rfl) (by rfl) (by kernel_rfl) (by kernel_rfl) ?_
  refine Sx.GT.pure (.pointer (some ⟨b1, 2, none⟩)) 6 (by rfl) (by kernel_rfl) (fun w => by kernel_rfl) ?_
  refine Sx.GT.ld1 26 (.tmp 9) b1 2 0 [.slice hA0 x.mem.length hK0, .slice hA1 x.gs.length hK1, .slice hA2 x.outs.length hK2, .int .i64 x.pd] (.slice hA2 x.outs.length hK2) 7 (by rfl) (by rfl) (by kernel_rfl) (by kernel_rfl) (by rfl) (by kernel_rfl) (by kernel_rfl) ?_
  refine Sx.GT.pure (.pointer (some ⟨b1, 3, none⟩)) 9 (by rfl) (by kernel_rfl) (fun w => by kernel_rfl) ?_
  refine Sx.GT.ld1 3 (.tmp 12) b1 3 0 [.slice hA0 x.mem.length hK0, .slice hA1 x.gs.length hK1, .slice hA2 x.outs.length hK2, .int .i64 x.pd] (.int .i64 x.pd) 10 (by rfl) (by rfl) (by kernel_rfl) (by kernel_rfl) (by rfl) (by kernel_rfl) (by kernel_rfl) ?_
  refine Sx.GT.alone (Sx.Alone.call 113 #[.slice hA0 x.mem.length hK0] (by rfl) (by kernel_rfl) (fun w => by kernel_rfl) (fun w3 S => (implx_copymem x.mem hA0 hK0 _ hcap0 (St.old (r := (rLsw (rLsw rInt))) S hf0)).mono fun e w3' hp => ?_))
  obtain ⟨cs, F, rfl, ho, hF, hb⟩ := hp
  obtain ⟨u3, rfl⟩ := lsw_own ho
  obtain ⟨A3, c3, e3, -⟩ := lst_val ((rLsw _).reads ho)
  subst e3
  generalize F = F3 at ho hF
  refine ⟨_, _, rfl, (St.got S hb ho hF), (fun w S => St.pick S [2] _ rfl (by decide)), ?_⟩
  clear S hb ho hF
  refine Sx.GT.alone (Sx.Alone.call 114 #[.slice hA1 x.gs.length hK1] (by rfl) (by kernel_rfl) (fun w => by kernel_rfl) (fun w4 S => (implx_copyguests x.gs hA1 hK1 _ hcap1 (St.old (r := (rLsw wG)) S hf1)).mono fun e w4' hp => ?_))
  obtain ⟨cs, F, rfl, ho, hF, hb⟩ := hp
  obtain ⟨u4, rfl⟩ := lsw_own ho
  obtain ⟨A4, c4, e4, -⟩ := lst_val ((rLsw _).reads ho)
  subst e4
  generalize F = F4 at ho hF
  refine ⟨_, _, rfl, (St.got S hb ho hF), (fun w S => St.pick S [3] _ rfl (by decide)), ?_⟩
  clear S hb ho hF
  refine Sx.GT.alone (Sx.Alone.call 115 #[.slice hA2 x.outs.length hK2] (by rfl) (by kernel_rfl) (fun w => by kernel_rfl) (fun w5 S => (Guests.lib_cloneInt x.outs hA2 hK2 _ hlo (St.old (r := (rLsw rInt)) S hf2)).mono fun e w5' hp => ?_))
  obtain ⟨cs, F, rfl, ho, hF, hb⟩ := hp
  obtain ⟨u5, rfl⟩ := lst_own ho
  obtain ⟨A5, c5, e5, -⟩ := lst_val ((St.got S hb ho hF).reads 0 rfl)
  subst e5
  generalize F = F5 at ho hF
  refine ⟨_, _, rfl, (St.got S hb ho hF), (fun w S => St.pick S [4] _ rfl (by decide)), ?_⟩
  clear S hb ho hF
  refine Sx.GT.pure (.agg #[.slice A3 x.mem.length c3, .slice A4 x.gs.length c4, .slice A5 x.outs.length c5, .int .i64 x.pd]) 11 (by rfl) (by kernel_rfl) (fun w => by kernel_rfl) ?_
  refine Sx.GT.alone (Sx.Alone.sto 28 (.tmp 2) (.tmp 14) b2 0 3 [.slice none 0 0, .slice none 0 0, .slice none 0 0, .int .i64 0] [.slice A3 x.mem.length c3, .slice A4 x.gs.length c4, .slice A5 x.outs.length c5, .int .i64 x.pd] [.slice A3 x.mem.length c3, .slice A4 x.gs.length c4, .slice A5 x.outs.length c5, .int .i64 x.pd] [ow (rLst 3 rInt) w5.heap.size (w5'.heap.size) x.outs [.slice A5 x.outs.length c5] F5, ow (rLsw wG) w4.heap.size w4'.heap.size x.gs [.slice A4 x.gs.length c4] F4, ow (rLsw (rLsw rInt)) w3.heap.size w3'.heap.size x.mem [.slice A3 x.mem.length c3] F3, vr b2 [.slice A3 x.mem.length c3, .slice A4 x.gs.length c4, .slice A5 x.outs.length c5, .int .i64 x.pd], vr b1 [.slice hA0 x.mem.length hK0, .slice hA1 x.gs.length hK1, .slice hA2 x.outs.length hK2, .int .i64 x.pd]] (by rfl) (by rfl) (by kernel_rfl) (by kernel_rfl) (by kernel_rfl) (by rfl) (by kernel_rfl) (by rfl) (by kernel_rfl) (by kernel_rfl) (by kernel_rfl) (fun w S => St.pick S [4] _ rfl (by decide)) ?_)
  refine Sx.GT.nil ?_
  refine Sx.E.next ?_
  refine Sx.C.ret ?_
  refine Sx.E.retc b2 3 [.slice A3 x.mem.length c3, .slice A4 x.gs.length c4, .slice A5 x.outs.length c5, .int .i64 x.pd] rfl (by kernel_rfl) rfl (by kernel_rfl) (by kernel_rfl) (fun w S => ?_)
  obtain ⟨ho, hF⟩ := rB_shut (g := x) S 2 rfl 1 rfl 0 rfl (by decide) (by decide) (by decide)
  exact ⟨_, _, rfl, ho, hF, S.below⟩
theorem inB_dec (g n : Int) : inB g 0 (n - 1) = (decide (g ≥ 0) && decide (g < n)) := by
  rw [Bool.eq_iff_iff, inB_iff]; simp; omega
set_option maxRecDepth 100000 in
set_option maxHeartbeats 4000000 in
theorem implx_has (A : Option Addr) (n c : Nat) (g : Int) (w : World)  : Calls Try.prog 68 #[.slice A n c, .int .i64 g] w (fun e w' => e = .returned (.bool (inB g 0 (((n : Nat) : Int) - 1))) ∧ Below w.heap.size w w') := by
  refine Sx.enter (args := [.slice A n c, .int .i64 g]) Try.func68 rfl Try.ntmps68 rfl ?_
  refine Sx.C.seq ?_
  refine Sx.C.region ?_
  refine Sx.G.pure (.bool false) (by kernel_rfl) (fun w => by kernel_rfl) ?_
  refine Sx.G.nil ?_
  refine Sx.E.next ?_
  refine Sx.C.seq ?_
  refine Sx.C.region ?_
  refine Sx.G.pure (.int .i64 g) (by kernel_rfl) (fun w => by kernel_rfl) ?_
  refine Sx.G.pure (.bool (decide (g ≥ 0))) (by kernel_rfl) (fun w => by kernel_rfl) ?_
  refine Sx.G.pure (.bool (decide (g ≥ 0))) (by kernel_rfl) (fun w => by kernel_rfl) ?_
  cases hc1 : (decide (g ≥ 0))
  · have hb1 := hc1
    replace hc1 := of_decide_eq_false hc1
    refine Sx.G.skip (by kernel_rfl) ?_
    refine Sx.G.skip (by kernel_rfl) ?_
    refine Sx.G.skip (by kernel_rfl) ?_
    refine Sx.G.skip (by kernel_rfl) ?_
    refine Sx.G.pure (.bool false) (by kernel_rfl) (fun w => by kernel_rfl) ?_
    refine Sx.G.pure (.bool false) (by kernel_rfl) (fun w => by kernel_rfl) ?_
    refine Sx.G.nil ?_
    refine Sx.E.next ?_
    refine Sx.C.ret ?_
    refine Sx.E.ret1 (.bool false) rfl (by kernel_rfl) (fun w S => ?_)
    exact ⟨congrArg Ending.returned (congrArg Value.bool (by rw [inB_dec]; simp only [hb1, Bool.true_and, Bool.false_and])), S.below⟩
  · have hb1 := hc1
    replace hc1 := of_decide_eq_true hc1
    refine Sx.G.pure (.int .i64 g) (by kernel_rfl) (fun w => by kernel_rfl) ?_
    refine Sx.G.pure (.slice A n c) (by kernel_rfl) (fun w => by kernel_rfl) ?_
    refine Sx.G.pure (.int .i64 ((n : Nat) : Int)) (by kernel_rfl) (fun w => by kernel_rfl) ?_
    refine Sx.G.pure (.bool (decide (g < ((n : Nat) : Int)))) (by kernel_rfl) (fun w => by kernel_rfl) ?_
    refine Sx.G.pure (.bool (decide (g < ((n : Nat) : Int)))) (by kernel_rfl) (fun w => by kernel_rfl) ?_
    refine Sx.G.pure (.bool (decide (g < ((n : Nat) : Int)))) (by kernel_rfl) (fun w => by kernel_rfl) ?_
    refine Sx.G.nil ?_
    refine Sx.E.next ?_
    refine Sx.C.ret ?_
    refine Sx.E.ret1 (.bool (decide (g < ((n : Nat) : Int)))) rfl (by kernel_rfl) (fun w S => ?_)
    exact ⟨congrArg Ending.returned (congrArg Value.bool (by rw [inB_dec]; simp only [hb1, Bool.true_and, Bool.false_and])), S.below⟩
set_option maxRecDepth 100000 in
set_option maxHeartbeats 4000000 in
theorem impl_withg (x : bT) (cs : List Value) (g : Int) (y : gT) (ds : List Value) (w : World) (hn : wB.wf x) (hc : wB.cap x) (h : wB.rd w 0 w.heap.size x cs) (hg : (Lit.int .i64 g).wf = true) (hy : wG.wf y) (hd : wG.cap y) (k : wG.rd w 0 w.heap.size y ds) : Calls Try.prog 30 #[.agg cs.toArray, .int .i64 g, .agg ds.toArray] w (Gives wB w (withG x g y)) := by
  have hgl : x.gs.length ≤ 1048576 := hc.2.1.1
  have hR := h
  obtain ⟨hP0, hP1, hP2, rfl, hf0, hf1, hf2⟩ := wB_rd h
  obtain ⟨hA0, hK0, he0, -⟩ := lst_val hf0
  subst he0
  obtain ⟨hA1, hK1, he1, -⟩ := lst_val hf1
  subst he1
  obtain ⟨hA2, hK2, he2, -⟩ := lst_val hf2
  subst he2
  have kR := k
  obtain ⟨kP0, kP1, kP2, kP3, rfl, kf0, kf1, kf2, kf3⟩ := wG_rd k
  obtain ⟨kA0, kK0, ke0, -⟩ := lst_val kf0
  subst ke0
  obtain ⟨kA1, kK1, ke1, -⟩ := lst_val kf1
  subst ke1
  obtain ⟨kA2, kK2, ke2, -⟩ := lst_val kf2
  subst ke2
  obtain ⟨kA3, kK3, ke3, -⟩ := lst_val kf3
  subst ke3
  refine Sx.enter (args := [.agg #[.slice hA0 x.mem.length hK0, .slice hA1 x.gs.length hK1, .slice hA2 x.outs.length hK2, .int .i64 x.pd], .int .i64 g, .agg #[.slice kA0 y.prog.length kK0, .int .i64 y.a, .int .i64 y.pc, .slice kA1 y.wr.length kK1, .slice kA2 y.lv.length kK2, .int .i64 y.t.1, .int .i64 y.t.2.1, .bool y.t.2.2, .int .i64 y.pd, .int .i64 y.x.1, .int .i64 y.x.2.1, .bool y.x.2.2.1, .int .i64 y.x.2.2.2, .bool y.hl, .slice kA3 y.seen.length kK3]]) Try.func30 rfl Try.ntmps30 rfl ?_
  refine Sx.C.seq ?_
  refine Sx.C.region ?_
  refine Sx.G.box 28 (.tmp 0) [.slice hA0 x.mem.length hK0, .slice hA1 x.gs.length hK1, .slice hA2 x.outs.length hK2, .int .i64 x.pd] rfl (by kernel_rfl) (by kernel_rfl) (fun b1 => ?_)
  refine Sx.G.box 51 (.tmp 2) [.slice kA0 y.prog.length kK0, .int .i64 y.a, .int .i64 y.pc, .slice kA1 y.wr.length kK1, .slice kA2 y.lv.length kK2, .int .i64 y.t.1, .int .i64 y.t.2.1, .bool y.t.2.2, .int .i64 y.pd, .int .i64 y.x.1, .int .i64 y.x.2.1, .bool y.x.2.2.1, .int .i64 y.x.2.2.2, .bool y.hl, .slice kA3 y.seen.length kK3] rfl (by kernel_rfl) (by kernel_rfl) (fun b2 => ?_)
  refine Sx.G.alloc 28 (.agg #[.slice none 0 0, .slice none 0 0, .slice none 0 0, .int .i64 0]) [.slice none 0 0, .slice none 0 0, .slice none 0 0, .int .i64 0] rfl (by kernel_rfl) (fun w => by kernel_rfl) (by kernel_rfl) (fun b3 => ?_)
  refine Sx.G.nil ?_
  refine Sx.E.next ?_
  refine Sx.C.seq ?_
  refine Sx.C.region ?_
  refine Sx.G.ld 28 (.tmp 3) b1 0 2 [.slice hA0 x.mem.length hK0, .slice hA1 x.gs.length hK1, .slice hA2 x.outs.length hK2, .int .i64 x.pd] [.slice hA0 x.mem.length hK0, .slice hA1 x.gs.length hK1, .slice hA2 x.outs.length hK2, .int .i64 x.pd] rfl (by kernel_rfl) (by kernel_rfl) rfl (by kernel_rfl) (by kernel_rfl) (by kernel_rfl) ?_
  refine Sx.G.call 81 #[.agg #[.slice hA0 x.mem.length hK0, .slice hA1 x.gs.length hK1, .slice hA2 x.outs.length hK2, .int .i64 x.pd]] (by kernel_rfl) (fun w => by kernel_rfl) (fun w4 S => (implx_copybare x _ _ hc (St.old S hR)).mono fun e w4' hp => ?_)
  obtain ⟨cs, F, rfl, ho, hF, hb⟩ := hp
  obtain ⟨P4_0, P4_1, P4_2, G4_0, G4_1, G4_2, rfl, S'⟩ := rB_open (St.got S hb ho hF)
  obtain ⟨A4_0, c4_0, e4_0, -⟩ := lst_val (S'.reads 0 rfl)
  subst e4_0
  obtain ⟨A4_1, c4_1, e4_1, -⟩ := lst_val (S'.reads 1 rfl)
  subst e4_1
  obtain ⟨A4_2, c4_2, e4_2, -⟩ := lst_val (S'.reads 2 rfl)
  subst e4_2
  refine ⟨_, _, rfl, S', ?_⟩
  clear S S' ho hF hb
  refine Sx.G.alloc 28 (.agg #[.slice none 0 0, .slice none 0 0, .slice none 0 0, .int .i64 0]) [.slice none 0 0, .slice none 0 0, .slice none 0 0, .int .i64 0] rfl (by kernel_rfl) (fun w => by kernel_rfl) (by kernel_rfl) (fun b5 => ?_)
  refine Sx.G.sto 28 (.tmp 7) (.tmp 9) b5 0 0 [.slice none 0 0, .slice none 0 0, .slice none 0 0, .int .i64 0] [.slice A4_0 x.mem.length c4_0, .slice A4_1 x.gs.length c4_1, .slice A4_2 x.outs.length c4_2, .int .i64 x.pd] [.slice A4_0 x.mem.length c4_0, .slice A4_1 x.gs.length c4_1, .slice A4_2 x.outs.length c4_2, .int .i64 x.pd] [vr b5 [.slice A4_0 x.mem.length c4_0, .slice A4_1 x.gs.length c4_1, .slice A4_2 x.outs.length c4_2, .int .i64 x.pd], ow (rLsw (rLsw rInt)) w4.heap.size w4'.heap.size x.mem [.slice A4_0 x.mem.length c4_0] G4_0, ow (rLsw wG) w4.heap.size w4'.heap.size x.gs [.slice A4_1 x.gs.length c4_1] G4_1, ow (rLst 3 rInt) w4.heap.size (w4'.heap.size) x.outs [.slice A4_2 x.outs.length c4_2] G4_2, vr b3 [.slice none 0 0, .slice none 0 0, .slice none 0 0, .int .i64 0], vr b2 [.slice kA0 y.prog.length kK0, .int .i64 y.a, .int .i64 y.pc, .slice kA1 y.wr.length kK1, .slice kA2 y.lv.length kK2, .int .i64 y.t.1, .int .i64 y.t.2.1, .bool y.t.2.2, .int .i64 y.pd, .int .i64 y.x.1, .int .i64 y.x.2.1, .bool y.x.2.2.1, .int .i64 y.x.2.2.2, .bool y.hl, .slice kA3 y.seen.length kK3], vr b1 [.slice hA0 x.mem.length hK0, .slice hA1 x.gs.length hK1, .slice hA2 x.outs.length hK2, .int .i64 x.pd]] rfl (by kernel_rfl) (by kernel_rfl) (by kernel_rfl) rfl (by kernel_rfl) rfl (by kernel_rfl) (by kernel_rfl) (by kernel_rfl) ?_
  refine Sx.G.nil ?_
  refine Sx.E.next ?_
  refine Sx.C.seq ?_
  refine Sx.C.seq ?_
  refine Sx.C.region ?_
  refine Sx.G.pure (.pointer (some ⟨b5, 1, none⟩)) (by kernel_rfl) (fun w => by kernel_rfl) ?_
  refine Sx.G.ld1 25 (.tmp 10) b5 1 0 [.slice A4_0 x.mem.length c4_0, .slice A4_1 x.gs.length c4_1, .slice A4_2 x.outs.length c4_2, .int .i64 x.pd] (.slice A4_1 x.gs.length c4_1) rfl (by kernel_rfl) (by kernel_rfl) rfl (by kernel_rfl) (by kernel_rfl) ?_
  refine Sx.G.pure (.int .i64 g) (by kernel_rfl) (fun w => by kernel_rfl) ?_
  refine Sx.G.plain 68 #[.slice A4_1 x.gs.length c4_1, .int .i64 g] (.bool (inB g 0 (((x.gs.length : Nat) : Int) - 1))) (by kernel_rfl) (fun w => by kernel_rfl) (fun w S => by exact implx_has A4_1 x.gs.length c4_1 g _) ?_
  refine Sx.G.nil ?_
  refine Sx.E.next ?_
  cases hc6 : (inB g 0 (((x.gs.length : Nat) : Int) - 1))
  · have hb6 := hc6
    refine Sx.C.no (by kernel_rfl) (by kernel_rfl) ?_
    refine Sx.C.skip ?_
    refine Sx.E.next ?_
    refine Sx.C.seq ?_
    refine Sx.C.region ?_
    refine Sx.G.ld 28 (.tmp 7) b5 0 0 [.slice A4_0 x.mem.length c4_0, .slice A4_1 x.gs.length c4_1, .slice A4_2 x.outs.length c4_2, .int .i64 x.pd] [.slice A4_0 x.mem.length c4_0, .slice A4_1 x.gs.length c4_1, .slice A4_2 x.outs.length c4_2, .int .i64 x.pd] rfl (by kernel_rfl) (by kernel_rfl) rfl (by kernel_rfl) (by kernel_rfl) (by kernel_rfl) ?_
    refine Sx.G.sto 28 (.tmp 6) (.tmp 20) b3 0 4 [.slice none 0 0, .slice none 0 0, .slice none 0 0, .int .i64 0] [.slice A4_0 x.mem.length c4_0, .slice A4_1 x.gs.length c4_1, .slice A4_2 x.outs.length c4_2, .int .i64 x.pd] [.slice A4_0 x.mem.length c4_0, .slice A4_1 x.gs.length c4_1, .slice A4_2 x.outs.length c4_2, .int .i64 x.pd] [vr b5 [.slice A4_0 x.mem.length c4_0, .slice A4_1 x.gs.length c4_1, .slice A4_2 x.outs.length c4_2, .int .i64 x.pd], ow (rLsw (rLsw rInt)) w4.heap.size w4'.heap.size x.mem [.slice A4_0 x.mem.length c4_0] G4_0, ow (rLsw wG) w4.heap.size w4'.heap.size x.gs [.slice A4_1 x.gs.length c4_1] G4_1, ow (rLst 3 rInt) w4.heap.size (w4'.heap.size) x.outs [.slice A4_2 x.outs.length c4_2] G4_2, vr b3 [.slice A4_0 x.mem.length c4_0, .slice A4_1 x.gs.length c4_1, .slice A4_2 x.outs.length c4_2, .int .i64 x.pd], vr b2 [.slice kA0 y.prog.length kK0, .int .i64 y.a, .int .i64 y.pc, .slice kA1 y.wr.length kK1, .slice kA2 y.lv.length kK2, .int .i64 y.t.1, .int .i64 y.t.2.1, .bool y.t.2.2, .int .i64 y.pd, .int .i64 y.x.1, .int .i64 y.x.2.1, .bool y.x.2.2.1, .int .i64 y.x.2.2.2, .bool y.hl, .slice kA3 y.seen.length kK3], vr b1 [.slice hA0 x.mem.length hK0, .slice hA1 x.gs.length hK1, .slice hA2 x.outs.length hK2, .int .i64 x.pd]] rfl (by kernel_rfl) (by kernel_rfl) (by kernel_rfl) rfl (by kernel_rfl) rfl (by kernel_rfl) (by kernel_rfl) (by kernel_rfl) ?_
    refine Sx.G.nil ?_
    refine Sx.E.next ?_
    refine Sx.C.ret ?_
    refine Sx.E.retc b3 4 [.slice A4_0 x.mem.length c4_0, .slice A4_1 x.gs.length c4_1, .slice A4_2 x.outs.length c4_2, .int .i64 x.pd] rfl (by kernel_rfl) rfl (by kernel_rfl) (by kernel_rfl) (fun w S => ?_)
    rw [show withG x g y = x from if_neg (by rw [hc6]; decide)]
    obtain ⟨ho, hF⟩ := rB_shut (g := x) S 1 rfl 2 rfl 3 rfl (by decide) (by decide) (by decide)
    exact weak_B _ _ ⟨_, _, rfl, ho, hF, S.below⟩
  · have hb6 := hc6
    have hin := inB_iff.1 hc6
    obtain ⟨j, hj⟩ : ∃ j : Nat, g = (j : Int) := ⟨g.toNat, by omega⟩
    subst hj
    have hjl : j < x.gs.length := by omega
    refine Sx.C.yes (by kernel_rfl) (by kernel_rfl) ?_
    refine Sx.C.claims (L' := [ow (rLsw wG) w4.heap.size w4'.heap.size x.gs [.slice A4_1 x.gs.length c4_1] G4_1, vr b5 [.slice A4_0 x.mem.length c4_0, .slice A4_1 x.gs.length c4_1, .slice A4_2 x.outs.length c4_2, .int .i64 x.pd], ow (rLsw (rLsw rInt)) w4.heap.size w4'.heap.size x.mem [.slice A4_0 x.mem.length c4_0] G4_0, ow (rLst 3 rInt) w4.heap.size (w4'.heap.size) x.outs [.slice A4_2 x.outs.length c4_2] G4_2, vr b3 [.slice none 0 0, .slice none 0 0, .slice none 0 0, .int .i64 0], vr b2 [.slice kA0 y.prog.length kK0, .int .i64 y.a, .int .i64 y.pc, .slice kA1 y.wr.length kK1, .slice kA2 y.lv.length kK2, .int .i64 y.t.1, .int .i64 y.t.2.1, .bool y.t.2.2, .int .i64 y.pd, .int .i64 y.x.1, .int .i64 y.x.2.1, .bool y.x.2.2.1, .int .i64 y.x.2.2.2, .bool y.hl, .slice kA3 y.seen.length kK3], vr b1 [.slice hA0 x.mem.length hK0, .slice hA1 x.gs.length hK1, .slice hA2 x.outs.length hK2, .int .i64 x.pd]]) (fun w S => St.pick S [2, 0, 1, 3, 4, 5, 6] _ rfl (by decide)) ?_
    have hjk7 : j < x.gs.length := hjl
    refine Sx.C.open (r := wG) (pre := x.gs.take j) (x := x.gs[j]'(hjl)) (post := x.gs.drop (j + 1)) (by rw [← Kit.drop_step (hjl), List.take_append_drop]) (by decide) (fun b7 o7 es G17 Gi7 G27 eA eF hes hm hmc7 => ?_)
    subst eA eF
    refine Sx.C.know (p := ∃ P7_0 P7_1 P7_2 P7_3, es = [P7_0, .int .i64 (x.gs[j]'(hjl)).a, .int .i64 (x.gs[j]'(hjl)).pc, P7_1, P7_2, .int .i64 (x.gs[j]'(hjl)).t.1, .int .i64 (x.gs[j]'(hjl)).t.2.1, .bool (x.gs[j]'(hjl)).t.2.2, .int .i64 (x.gs[j]'(hjl)).pd, .int .i64 (x.gs[j]'(hjl)).x.1, .int .i64 (x.gs[j]'(hjl)).x.2.1, .bool (x.gs[j]'(hjl)).x.2.2.1, .int .i64 (x.gs[j]'(hjl)).x.2.2.2, .bool (x.gs[j]'(hjl)).hl, P7_3]) (fun w S => by obtain ⟨P7_0, P7_1, P7_2, P7_3, e, -⟩ := wG_rd ((wG).reads (St.at_ S 1 rfl).1); exact ⟨P7_0, P7_1, P7_2, P7_3, e⟩) ?_
    rintro ⟨P7_0, P7_1, P7_2, P7_3, rfl⟩
    refine Sx.C.draw (.take 0 (.take 1 (.take 2 (.take 3 (.alone 4 (.take 5 (.alone 6 .nil))))))) [vr b5 [.slice A4_0 x.mem.length c4_0, .slice (some ⟨b7, o7, none⟩) x.gs.length c4_1, .slice A4_2 x.outs.length c4_2, .int .i64 x.pd], vr b2 [.slice kA0 y.prog.length kK0, .int .i64 y.a, .int .i64 y.pc, .slice kA1 y.wr.length kK1, .slice kA2 y.lv.length kK2, .int .i64 y.t.1, .int .i64 y.t.2.1, .bool y.t.2.2, .int .i64 y.pd, .int .i64 y.x.1, .int .i64 y.x.2.1, .bool y.x.2.2.1, .int .i64 y.x.2.2.2, .bool y.hl, .slice kA3 y.seen.length kK3]] (fun w S => St.pick S [2, 6] _ rfl (by decide)) (by kernel_rfl) (by kernel_rfl) (by kernel_rfl) ?_
    refine Sx.GT.pure (.pointer (some ⟨b5, 1, none⟩)) 0 (by rfl) (by kernel_rfl) (fun w => by kernel_rfl) ?_
    refine Sx.GT.ld1 25 (.tmp 14) b5 1 0 [.slice A4_0 x.mem.length c4_0, .slice (some ⟨b7, o7, none⟩) x.gs.length c4_1, .slice A4_2 x.outs.length c4_2, .int .i64 x.pd] (.slice (some ⟨b7, o7, none⟩) x.gs.length c4_1) 1 (by rfl) (by rfl) (by kernel_rfl) (by kernel_rfl) (by rfl) (by kernel_rfl) (by kernel_rfl) ?_
    refine Sx.GT.pure (.int .i64 (j : Int)) 2 (by rfl) (by kernel_rfl) (fun w => by kernel_rfl) ?_
    refine Sx.GT.ld 51 (.tmp 5) b2 0 1 [.slice kA0 y.prog.length kK0, .int .i64 y.a, .int .i64 y.pc, .slice kA1 y.wr.length kK1, .slice kA2 y.lv.length kK2, .int .i64 y.t.1, .int .i64 y.t.2.1, .bool y.t.2.2, .int .i64 y.pd, .int .i64 y.x.1, .int .i64 y.x.2.1, .bool y.x.2.2.1, .int .i64 y.x.2.2.2, .bool y.hl, .slice kA3 y.seen.length kK3] [.slice kA0 y.prog.length kK0, .int .i64 y.a, .int .i64 y.pc, .slice kA1 y.wr.length kK1, .slice kA2 y.lv.length kK2, .int .i64 y.t.1, .int .i64 y.t.2.1, .bool y.t.2.2, .int .i64 y.pd, .int .i64 y.x.1, .int .i64 y.x.2.1, .bool y.x.2.2.1, .int .i64 y.x.2.2.2, .bool y.hl, .slice kA3 y.seen.length kK3] 3 (by rfl) (by rfl) (by kernel_rfl) (by kernel_rfl) (by rfl) (by kernel_rfl) (by kernel_rfl) (by kernel_rfl) ?_
    refine Sx.GT.alone (Sx.Alone.call 69 #[.agg #[.slice kA0 y.prog.length kK0, .int .i64 y.a, .int .i64 y.pc, .slice kA1 y.wr.length kK1, .slice kA2 y.lv.length kK2, .int .i64 y.t.1, .int .i64 y.t.2.1, .bool y.t.2.2, .int .i64 y.pd, .int .i64 y.x.1, .int .i64 y.x.2.1, .bool y.x.2.2.1, .int .i64 y.x.2.2.2, .bool y.hl, .slice kA3 y.seen.length kK3]] (by rfl) (by kernel_rfl) (fun w => by kernel_rfl) (fun w8 S => (implx_another y _ _ hd (St.old S kR)).mono fun e w8' hp => ?_))
    obtain ⟨cs, F, rfl, ho, hF, hb⟩ := hp
    obtain ⟨P8_0, P8_1, P8_2, P8_3, rfl, f8_0, f8_1, f8_2, f8_3⟩ := wG_rd (wG.reads ho)
    obtain ⟨A8_0, c8_0, e8_0, -⟩ := lst_val f8_0
    subst e8_0
    obtain ⟨A8_1, c8_1, e8_1, -⟩ := lst_val f8_1
    subst e8_1
    obtain ⟨A8_2, c8_2, e8_2, -⟩ := lst_val f8_2
    subst e8_2
    obtain ⟨A8_3, c8_3, e8_3, -⟩ := lst_val f8_3
    subst e8_3
    generalize F = F8 at ho hF
    refine ⟨_, _, rfl, (St.got S hb ho hF), (fun w S => St.pick S [3, 7] _ rfl (by decide)), ?_⟩
    clear S hb ho hF f8_0 f8_1 f8_2 f8_3
    refine Sx.GT.elem 25 51 (.tmp 15) (.tmp 16) 15 184 b7 o7 x.gs.length c4_1 j 5 (by rfl) (by rfl) (by kernel_rfl) (by kernel_rfl) (by kernel_rfl) (by kernel_rfl) (by omega) ?_
    refine Sx.GT.alone (Sx.Alone.hsto (k := j) (size := 15) 51 (.tmp 19) (.tmp 18) b7 ((o7 + j * 15) + 0) 0 1 [.slice A8_0 y.prog.length c8_0, .int .i64 y.a, .int .i64 y.pc, .slice A8_1 y.wr.length c8_1, .slice A8_2 y.lv.length c8_2, .int .i64 y.t.1, .int .i64 y.t.2.1, .bool y.t.2.2, .int .i64 y.pd, .int .i64 y.x.1, .int .i64 y.x.2.1, .bool y.x.2.2.1, .int .i64 y.x.2.2.2, .bool y.hl, .slice A8_3 y.seen.length c8_3] [.slice A8_0 y.prog.length c8_0, .int .i64 y.a, .int .i64 y.pc, .slice A8_1 y.wr.length c8_1, .slice A8_2 y.lv.length c8_2, .int .i64 y.t.1, .int .i64 y.t.2.1, .bool y.t.2.2, .int .i64 y.pd, .int .i64 y.x.1, .int .i64 y.x.2.1, .bool y.x.2.2.1, .int .i64 y.x.2.2.2, .bool y.hl, .slice A8_3 y.seen.length c8_3] [ow wG w8.heap.size w8'.heap.size y [.slice A8_0 y.prog.length c8_0, .int .i64 y.a, .int .i64 y.pc, .slice A8_1 y.wr.length c8_1, .slice A8_2 y.lv.length c8_2, .int .i64 y.t.1, .int .i64 y.t.2.1, .bool y.t.2.2, .int .i64 y.pd, .int .i64 y.x.1, .int .i64 y.x.2.1, .bool y.x.2.2.1, .int .i64 y.x.2.2.2, .bool y.hl, .slice A8_3 y.seen.length c8_3] F8, Sx.hole wG b7 o7 w4.heap.size w4'.heap.size (x.gs.take j) (x.gs.drop (j + 1)) [.slice A8_0 y.prog.length c8_0, .int .i64 y.a, .int .i64 y.pc, .slice A8_1 y.wr.length c8_1, .slice A8_2 y.lv.length c8_2, .int .i64 y.t.1, .int .i64 y.t.2.1, .bool y.t.2.2, .int .i64 y.pd, .int .i64 y.x.1, .int .i64 y.x.2.1, .bool y.x.2.2.1, .int .i64 y.x.2.2.2, .bool y.hl, .slice A8_3 y.seen.length c8_3] G17 G27, ow wG w4.heap.size w4'.heap.size (x.gs[j]'(hjl)) [P7_0, .int .i64 (x.gs[j]'(hjl)).a, .int .i64 (x.gs[j]'(hjl)).pc, P7_1, P7_2, .int .i64 (x.gs[j]'(hjl)).t.1, .int .i64 (x.gs[j]'(hjl)).t.2.1, .bool (x.gs[j]'(hjl)).t.2.2, .int .i64 (x.gs[j]'(hjl)).pd, .int .i64 (x.gs[j]'(hjl)).x.1, .int .i64 (x.gs[j]'(hjl)).x.2.1, .bool (x.gs[j]'(hjl)).x.2.2.1, .int .i64 (x.gs[j]'(hjl)).x.2.2.2, .bool (x.gs[j]'(hjl)).hl, P7_3] Gi7, vr b5 [.slice A4_0 x.mem.length c4_0, .slice (some ⟨b7, o7, none⟩) x.gs.length c4_1, .slice A4_2 x.outs.length c4_2, .int .i64 x.pd], ow (rLsw (rLsw rInt)) w4.heap.size w4'.heap.size x.mem [.slice A4_0 x.mem.length c4_0] G4_0, ow (rLst 3 rInt) w4.heap.size (w4'.heap.size) x.outs [.slice A4_2 x.outs.length c4_2] G4_2, vr b3 [.slice none 0 0, .slice none 0 0, .slice none 0 0, .int .i64 0], vr b2 [.slice kA0 y.prog.length kK0, .int .i64 y.a, .int .i64 y.pc, .slice kA1 y.wr.length kK1, .slice kA2 y.lv.length kK2, .int .i64 y.t.1, .int .i64 y.t.2.1, .bool y.t.2.2, .int .i64 y.pd, .int .i64 y.x.1, .int .i64 y.x.2.1, .bool y.x.2.2.1, .int .i64 y.x.2.2.2, .bool y.hl, .slice kA3 y.seen.length kK3], vr b1 [.slice hA0 x.mem.length hK0, .slice hA1 x.gs.length hK1, .slice hA2 x.outs.length hK2, .int .i64 x.pd]] (by rfl) (by rfl) (by kernel_rfl) (by kernel_rfl) (by kernel_rfl) (by rfl) (by rw [List.length_take]; have : j < x.gs.length := hjl; omega) (by rfl) (by rfl) (by rfl) (by rfl) (by kernel_rfl) (by kernel_rfl) (by kernel_rfl) (fun w S => St.pick S [3, 7] _ rfl (by decide)) ?_)
    refine Sx.GT.nil ?_
    refine Sx.E.next ?_
    refine Sx.C.claims (L' := [ow (rLsw wG) w.heap.size (max w4'.heap.size w8'.heap.size) (x.gs.set j y) [.slice (some ⟨b7, o7, none⟩) x.gs.length c4_1] (b7 :: (G17 ++ (F8 ++ G27))), vr b5 [.slice A4_0 x.mem.length c4_0, .slice (some ⟨b7, o7, none⟩) x.gs.length c4_1, .slice A4_2 x.outs.length c4_2, .int .i64 x.pd], ow (rLsw (rLsw rInt)) w4.heap.size w4'.heap.size x.mem [.slice A4_0 x.mem.length c4_0] G4_0, ow (rLst 3 rInt) w4.heap.size (w4'.heap.size) x.outs [.slice A4_2 x.outs.length c4_2] G4_2, vr b3 [.slice none 0 0, .slice none 0 0, .slice none 0 0, .int .i64 0], vr b2 [.slice kA0 y.prog.length kK0, .int .i64 y.a, .int .i64 y.pc, .slice kA1 y.wr.length kK1, .slice kA2 y.lv.length kK2, .int .i64 y.t.1, .int .i64 y.t.2.1, .bool y.t.2.2, .int .i64 y.pd, .int .i64 y.x.1, .int .i64 y.x.2.1, .bool y.x.2.2.1, .int .i64 y.x.2.2.2, .bool y.hl, .slice kA3 y.seen.length kK3], vr b1 [.slice hA0 x.mem.length hK0, .slice hA1 x.gs.length hK1, .slice hA2 x.outs.length hK2, .int .i64 x.pd]]) (fun w' S => by
      have S2 := St.pick S [1, 0, 3, 4, 5, 6, 7, 8] (_ :: _ :: [vr b5 [.slice A4_0 x.mem.length c4_0, .slice (some ⟨b7, o7, none⟩) x.gs.length c4_1, .slice A4_2 x.outs.length c4_2, .int .i64 x.pd], ow (rLsw (rLsw rInt)) w4.heap.size w4'.heap.size x.mem [.slice A4_0 x.mem.length c4_0] G4_0, ow (rLst 3 rInt) w4.heap.size (w4'.heap.size) x.outs [.slice A4_2 x.outs.length c4_2] G4_2, vr b3 [.slice none 0 0, .slice none 0 0, .slice none 0 0, .int .i64 0], vr b2 [.slice kA0 y.prog.length kK0, .int .i64 y.a, .int .i64 y.pc, .slice kA1 y.wr.length kK1, .slice kA2 y.lv.length kK2, .int .i64 y.t.1, .int .i64 y.t.2.1, .bool y.t.2.2, .int .i64 y.pd, .int .i64 y.x.1, .int .i64 y.x.2.1, .bool y.x.2.2.1, .int .i64 y.x.2.2.2, .bool y.hl, .slice kA3 y.seen.length kK3], vr b1 [.slice hA0 x.mem.length hK0, .slice hA1 x.gs.length hK1, .slice hA2 x.outs.length hK2, .int .i64 x.pd]]) rfl (by decide)
      have S3 := Sx.St.closeW S2 (by decide) x.gs.length _ (by rw [List.length_append, List.length_cons, List.length_take, List.length_drop]; have : j < x.gs.length := hjl; omega) hmc7
      rw [← set_at (hjl)] at S3
      exact S3) ?_
    refine Sx.C.seq ?_
    refine Sx.C.slots (T' := [(6, .pointer (some ⟨b3, 0, none⟩)), (7, .pointer (some ⟨b5, 0, none⟩))]) (fun a hA => (Sx.Ag.and hA (Sx.Ag.and hA (Sx.Ag.none hA) _ _ (by kernel_rfl)) _ _ (by kernel_rfl))) ?_
    refine Sx.C.region ?_
    refine Sx.G.ld 28 (.tmp 7) b5 0 1 [.slice A4_0 x.mem.length c4_0, .slice (some ⟨b7, o7, none⟩) x.gs.length c4_1, .slice A4_2 x.outs.length c4_2, .int .i64 x.pd] [.slice A4_0 x.mem.length c4_0, .slice (some ⟨b7, o7, none⟩) x.gs.length c4_1, .slice A4_2 x.outs.length c4_2, .int .i64 x.pd] rfl (by kernel_rfl) (by kernel_rfl) rfl (by kernel_rfl) (by kernel_rfl) (by kernel_rfl) ?_
    refine Sx.G.sto 28 (.tmp 6) (.tmp 20) b3 0 4 [.slice none 0 0, .slice none 0 0, .slice none 0 0, .int .i64 0] [.slice A4_0 x.mem.length c4_0, .slice (some ⟨b7, o7, none⟩) x.gs.length c4_1, .slice A4_2 x.outs.length c4_2, .int .i64 x.pd] [.slice A4_0 x.mem.length c4_0, .slice (some ⟨b7, o7, none⟩) x.gs.length c4_1, .slice A4_2 x.outs.length c4_2, .int .i64 x.pd] [ow (rLsw wG) w.heap.size (max w4'.heap.size w8'.heap.size) (x.gs.set j y) [.slice (some ⟨b7, o7, none⟩) x.gs.length c4_1] (b7 :: (G17 ++ (F8 ++ G27))), vr b5 [.slice A4_0 x.mem.length c4_0, .slice (some ⟨b7, o7, none⟩) x.gs.length c4_1, .slice A4_2 x.outs.length c4_2, .int .i64 x.pd], ow (rLsw (rLsw rInt)) w4.heap.size w4'.heap.size x.mem [.slice A4_0 x.mem.length c4_0] G4_0, ow (rLst 3 rInt) w4.heap.size (w4'.heap.size) x.outs [.slice A4_2 x.outs.length c4_2] G4_2, vr b3 [.slice A4_0 x.mem.length c4_0, .slice (some ⟨b7, o7, none⟩) x.gs.length c4_1, .slice A4_2 x.outs.length c4_2, .int .i64 x.pd], vr b2 [.slice kA0 y.prog.length kK0, .int .i64 y.a, .int .i64 y.pc, .slice kA1 y.wr.length kK1, .slice kA2 y.lv.length kK2, .int .i64 y.t.1, .int .i64 y.t.2.1, .bool y.t.2.2, .int .i64 y.pd, .int .i64 y.x.1, .int .i64 y.x.2.1, .bool y.x.2.2.1, .int .i64 y.x.2.2.2, .bool y.hl, .slice kA3 y.seen.length kK3], vr b1 [.slice hA0 x.mem.length hK0, .slice hA1 x.gs.length hK1, .slice hA2 x.outs.length hK2, .int .i64 x.pd]] rfl (by kernel_rfl) (by kernel_rfl) (by kernel_rfl) rfl (by kernel_rfl) rfl (by kernel_rfl) (by kernel_rfl) (by kernel_rfl) ?_
    refine Sx.G.nil ?_
    refine Sx.E.next ?_
    refine Sx.C.ret ?_
    refine Sx.E.retc b3 4 [.slice A4_0 x.mem.length c4_0, .slice (some ⟨b7, o7, none⟩) x.gs.length c4_1, .slice A4_2 x.outs.length c4_2, .int .i64 x.pd] rfl (by kernel_rfl) rfl (by kernel_rfl) (by kernel_rfl) (fun w S => ?_)
    rw [show withG x (j : Int) y = ({ x with gs := x.gs.set j y } : bT) from by unfold withG; rw [hc6, if_pos rfl]; rfl]
    obtain ⟨ho, hF⟩ := rB_shut (g := ({ x with gs := x.gs.set j y } : bT)) S 2 rfl 0 rfl 3 rfl (by decide) (by decide) (by decide)
    exact weak_B _ _ ⟨_, _, rfl, ho, hF, S.below⟩
end Go.Proofs.Ytldgadmpclgfhaa.Kit
