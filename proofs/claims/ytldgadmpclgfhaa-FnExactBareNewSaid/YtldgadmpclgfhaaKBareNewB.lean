/-
  At every argument the law FnExactBareNew returns true: the project's BareNew answers as the given model's BareNew, changes no argument, and what it returns is its own. No condition.
-/
import Derived.Test.YtldgadmpclgfhaaKBareNewB2
namespace Go.Proofs.Ytldgadmpclgfhaa.Kit
set_option maxRecDepth 100000
open Go.ChangeShapes Go.WideShapes Go.ChangeAt Go.RowKit Go.Deep
open Go.Proofs.Ytldgadmpclgfhaa.Base Go.Proofs.Ytldgadmpclgfhaa.Mem Go.Proofs.Ytldgadmpclgfhaa.Data Go.Proofs.Ytldgadmpclgfhaa.Stt Go.Proofs.Ytldgadmpclgfhaa.Guests Go.Proofs.Ytldgadmpclgfhaa.Ctls Go.Proofs.Ytldgadmpclgfhaa.Exits Go.Proofs.Ytldgadmpclgfhaa.Irqs
set_option linter.unusedVariables false
set_option linter.unusedSimpArgs false
/-- A new machine. -/
def newB (progs : List (List (Int × Int))) : bT := { mem := List.replicate 8 ([0, 0, 0, 0] : List Int), gs := (progs.take 2).map newG, outs := [], pd := 0 }
set_option maxRecDepth 100000 in
set_option maxHeartbeats 4000000 in
theorem specx_memnew (p : Int) (w : World)  : Calls Try.prog 36 #[.int .i64 p] w (Gives (rLst 26 (rLsw rInt)) w (List.replicate (Grid.newN p) ([0, 0, 0, 0] : List Int))) := by
  obtain ⟨m, hm, hm24⟩ : ∃ m : Nat, BroughtW.brought p 0 24 = (m : Int) ∧ m ≤ 24 := ⟨Grid.newN p, Grid.newN_eq p, Grid.newN_le p⟩
  have hmm : Grid.newN p = m := by have := Grid.newN_eq p; omega
  refine Sx.enter (args := [.int .i64 p]) Try.func36 rfl Try.ntmps36 rfl ?_
  refine Sx.C.seq ?_
  refine Sx.C.region ?_
  refine Sx.G.pure (.slice none 0 0) (by kernel_rfl) (fun w => by kernel_rfl) ?_
  refine Sx.G.nil ?_
  refine Sx.E.next ?_
  refine Sx.C.seq ?_
  refine Sx.C.region ?_
  refine Sx.G.fresh 26 (rLsw rInt) (by kernel_rfl) (fun w => by kernel_rfl) (fun b1 hi1 => ?_)
  refine Sx.G.pure (.slice (some ⟨b1, 0, none⟩) 0 0) (by kernel_rfl) (fun w => by kernel_rfl) ?_
  refine Sx.G.nil ?_
  refine Sx.E.next ?_
  refine Sx.C.seq ?_
  refine Sx.C.seq ?_
  refine Sx.C.region ?_
  refine Sx.G.pure (.int .i64 p) (by kernel_rfl) (fun w => by kernel_rfl) ?_
  refine Sx.G.plain 90 #[.int .i64 p, .int .i64 0, .int .i64 24] (.int .i64 ((m : Nat) : Int)) (by kernel_rfl) (fun w => by kernel_rfl) (fun w S => by exact ((Grid.spec_brought p 0 24 _).mono fun e w' h => And.intro (h.1.trans (by rw [hm])) (Guests.below_same h.2))) ?_
  refine Sx.G.pure (.int .i64 ((m : Nat) : Int)) (by kernel_rfl) (fun w => by kernel_rfl) ?_
  refine Sx.G.nil ?_
  refine Sx.E.next ?_
  refine Sx.C.block ?_
  refine Sx.C.loop (α := Nat × Option Addr × Nat × Nat × List Nat) (fun x => x.1 ≤ m) (fun x => [(4, .int .i64 (((m - x.1 : Nat)) : Int)), (3, .slice x.2.1 x.1 x.2.2.1), (2, .slice none 0 0)]) (fun x => [ow (rLst 26 (rLsw rInt)) w.heap.size x.2.2.2.1 (List.replicate x.1 ([0, 0, 0, 0] : List Int)) [.slice x.2.1 x.1 x.2.2.1] x.2.2.2.2]) (fun x => m - x.1) (0, (some ⟨b1, 0, none⟩), 0, hi1, [b1]) (Nat.zero_le _) (fun a hA => (Sx.Ag.and hA (Sx.Ag.and hA (Sx.Ag.and hA (Sx.Ag.none hA) _ _ (by kernel_rfl)) _ _ (by kernel_rfl)) _ _ (by kernel_rfl))) (fun w' S => by have S2 := Sx.St.widen S 0 rfl (Nat.le_refl _) (S.hi 0 _ rfl); exact S2) (fun x hx => ?_)
  obtain ⟨i, xA, xc, xh, xF⟩ := x
  dsimp only at hx
  refine Sx.C.seq ?_
  refine Sx.C.seq ?_
  refine Sx.C.region ?_
  refine Sx.G.pure (.int .i64 (((m - i : Nat)) : Int)) (by kernel_rfl) (fun w => by kernel_rfl) ?_
  refine Sx.G.pure (.bool (decide ((((m - i : Nat)) : Int) > 0))) (by kernel_rfl) (fun w => by kernel_rfl) ?_
  refine Sx.G.nil ?_
  refine Sx.E.next ?_
  cases hc2 : (decide ((((m - i : Nat)) : Int) > 0))
  · have hb2 := hc2
    replace hc2 := of_decide_eq_false hc2
    refine Sx.C.no (by kernel_rfl) (by kernel_rfl) ?_
    refine Sx.C.exit ?_
    refine Sx.E.then_exit ?_
    refine Sx.E.then_exit ?_
    refine Sx.E.block_hit ?_
    refine Sx.E.next ?_
    refine Sx.C.seq ?_
    refine Sx.C.region ?_
    refine Sx.G.pure (.slice xA i xc) (by kernel_rfl) (fun w => by kernel_rfl) ?_
    refine Sx.G.pure (.slice xA i xc) (by kernel_rfl) (fun w => by kernel_rfl) ?_
    refine Sx.G.nil ?_
    refine Sx.E.next ?_
    refine Sx.C.ret ?_
    refine Sx.E.ret1 (.slice xA i xc) rfl (by kernel_rfl) (fun w S => ?_)
    obtain rfl : i = m := by omega
    rw [hmm]
    exact ⟨[_], _, rfl, S.own 0 rfl, S.nodup 0 rfl, S.below⟩
  · have hb2 := hc2
    replace hc2 := of_decide_eq_true hc2
    refine Sx.C.yes (by kernel_rfl) (by kernel_rfl) ?_
    refine Sx.C.skip ?_
    refine Sx.E.next ?_
    refine Sx.C.seq ?_
    refine Sx.C.block ?_
    refine Sx.C.region ?_
    refine Sx.G.pure (.slice xA i xc) (by kernel_rfl) (fun w => by kernel_rfl) ?_
    refine Sx.G.mks (r := rInt) (0 : Int) [.int .i64 0] 26 3 (.const (.int .i64 4)) (.const (.int .i64 4)) 1 8 4 rfl (by kernel_rfl) (by kernel_rfl) (by kernel_rfl) rfl rfl (fun w lo hi => Kit.own_mk_Int w lo hi 0) (by kernel_rfl) (by kernel_rfl) (by decide) (by decide) (fun b3 hi3 F3 => ?_)
    refine Sx.G.made 26 [.slice (some ⟨b3, 0, none⟩) 4 4] 1 (by kernel_rfl) (fun w => by kernel_rfl) (fun b4 => ?_)
    refine Sx.G.claims (L' := [ow (rLst 26 (rLsw rInt)) w.heap.size xh (List.replicate i ([0, 0, 0, 0] : List Int)) [.slice xA i xc] xF, ow (rLsw rInt) b3 hi3 ([0, 0, 0, 0] : List Int) [.slice (some ⟨b3, 0, none⟩) 4 4] F3, vr b4 [.slice (some ⟨b3, 0, none⟩) 4 4]]) (fun w S => St.pick S [2, 1, 0] _ rfl (by decide)) ?_
    refine Sx.G.appr (.tmp 12) (.tmp 14) 24 1 24 1 rfl (by kernel_rfl) (by kernel_rfl) rfl (by kernel_rfl) (by kernel_rfl) (by kernel_rfl) (by rw [List.length_replicate]; simp only [maxLen]; omega) (by rw [List.length_replicate]; omega) (List.replicate (i + 1) ([0, 0, 0, 0] : List Int)) (by rw [List.replicate_succ']) (i + 1) (by rw [List.length_replicate]) (fun A5 c5 F5 hi5 hm5 => ?_)
    refine Sx.G.pure (.slice A5 (i + 1) c5) (by kernel_rfl) (fun w => by kernel_rfl) ?_
    refine Sx.G.nil ?_
    refine Sx.E.block_normal ?_
    refine Sx.E.next ?_
    refine Sx.C.region ?_
    refine Sx.G.pure (.int .i64 (((m - i : Nat)) : Int)) (by kernel_rfl) (fun w => by kernel_rfl) ?_
    refine Sx.G.pureq (.int .i64 (IntKind.i64.wrap ((((m - i : Nat)) : Int) - 1))) (.int .i64 (((m - (i + 1) : Nat)) : Int)) (by kernel_rfl) (fun w => by kernel_rfl) (congrArg (Value.int .i64) (by rw [IntKind.wrap_i64]; omega)) ?_
    refine Sx.G.pure (.int .i64 (((m - (i + 1) : Nat)) : Int)) (by kernel_rfl) (fun w => by kernel_rfl) ?_
    refine Sx.G.nil ?_
    exact Sx.E.again (i + 1, A5, c5, hi5, F5) (by show i + 1 ≤ m; omega) (by show m - (i + 1) < m - i; omega) (fun a hA => (Sx.Ag.and hA (Sx.Ag.and hA (Sx.Ag.and hA (Sx.Ag.none hA) _ _ (by kernel_rfl)) _ _ (by kernel_rfl)) _ _ (by kernel_rfl))) (fun w' S => St.pick S [0] _ rfl (by decide))
set_option maxRecDepth 100000 in
set_option maxHeartbeats 4000000 in
theorem specx_bnew (xs : List (List (Int × Int))) (A : Option Addr) (c : Nat) (w : World) (hc : (rLsw (rLsw (rPair rInt rInt))).cap xs) (h : rdLst (rLsw (rPair rInt rInt)) w 0 w.heap.size xs [.slice A xs.length c]) : Calls Try.prog 10 #[.slice A xs.length c] w (Gives rB w (newB xs)) := by
  obtain ⟨hl, hce⟩ := hc
  refine Sx.enter (args := [.slice A xs.length c]) Try.func10 rfl Try.ntmps10 rfl ?_
  refine Sx.C.seq ?_
  refine Sx.C.region ?_
  refine Sx.G.alloc 28 (.agg #[.slice none 0 0, .slice none 0 0, .slice none 0 0, .int .i64 0]) [.slice none 0 0, .slice none 0 0, .slice none 0 0, .int .i64 0] rfl (by kernel_rfl) (fun w => by kernel_rfl) (by kernel_rfl) (fun b1 => ?_)
  refine Sx.G.nil ?_
  refine Sx.E.next ?_
  refine Sx.C.seq ?_
  refine Sx.C.region ?_
  refine Sx.G.call 36 #[.int .i64 8] (by kernel_rfl) (fun w => by kernel_rfl) (fun w2 S => (specx_memnew 8 _).mono fun e w2' hp => ?_)
  rw [show Grid.newN 8 = 8 by decide] at hp
  obtain ⟨cs, F, rfl, ho, hF, hb⟩ := hp
  obtain ⟨u2, rfl⟩ := lst_own ho
  obtain ⟨A2, c2, e2, -⟩ := lst_val ((rLst _ _).reads ho)
  rw [show (List.replicate 8 ([0, 0, 0, 0] : List Int)).length = 8 from rfl] at e2
  subst e2
  obtain ⟨F2, S'⟩ := St.weak (St.got S hb ho hF) 0 rfl
  refine ⟨_, _, rfl, S', ?_⟩
  clear S S' hb ho hF
  refine Sx.G.pure (.agg #[.slice A2 8 c2, .slice none 0 0, .slice none 0 0, .int .i64 0]) (by kernel_rfl) (fun w => by kernel_rfl) ?_
  refine Sx.G.alloc 28 (.agg #[.slice none 0 0, .slice none 0 0, .slice none 0 0, .int .i64 0]) [.slice none 0 0, .slice none 0 0, .slice none 0 0, .int .i64 0] rfl (by kernel_rfl) (fun w => by kernel_rfl) (by kernel_rfl) (fun b3 => ?_)
  refine Sx.G.sto 28 (.tmp 3) (.tmp 6) b3 0 0 [.slice none 0 0, .slice none 0 0, .slice none 0 0, .int .i64 0] [.slice A2 8 c2, .slice none 0 0, .slice none 0 0, .int .i64 0] [.slice A2 8 c2, .slice none 0 0, .slice none 0 0, .int .i64 0] [vr b3 [.slice A2 8 c2, .slice none 0 0, .slice none 0 0, .int .i64 0], ow (rLsw (rLsw rInt)) w2.heap.size w2'.heap.size (List.replicate 8 ([0, 0, 0, 0] : List Int)) [.slice A2 8 c2] F2, vr b1 [.slice none 0 0, .slice none 0 0, .slice none 0 0, .int .i64 0]] rfl (by kernel_rfl) (by kernel_rfl) (by kernel_rfl) rfl (by kernel_rfl) rfl (by kernel_rfl) (by kernel_rfl) (by kernel_rfl) ?_
  refine Sx.G.nil ?_
  refine Sx.E.next ?_
  refine Sx.C.seq ?_
  refine Sx.C.seq ?_
  refine Sx.C.region ?_
  refine Sx.G.pure (.int .i64 0) (by kernel_rfl) (fun w => by kernel_rfl) ?_
  refine Sx.G.nil ?_
  refine Sx.E.next ?_
  refine Sx.C.block ?_
  refine Sx.C.loop (α := Nat × Option Addr × Nat × Nat × List Nat) (fun x => x.1 ≤ xs.length ∧ x.1 ≤ 2) (fun x => [(4, .int .i64 (x.1 : Int)), (0, .slice A xs.length c), (2, .pointer (some ⟨b1, 0, none⟩)), (3, .pointer (some ⟨b3, 0, none⟩))]) (fun x => [ow (rLst 51 wG) w.heap.size x.2.2.2.1 ((xs.take x.1).map newG) [.slice x.2.1 x.1 x.2.2.1] x.2.2.2.2, vr b3 [.slice A2 8 c2, .slice x.2.1 x.1 x.2.2.1, .slice none 0 0, .int .i64 0], ow (rLsw (rLsw rInt)) w2.heap.size w2'.heap.size (List.replicate 8 ([0, 0, 0, 0] : List Int)) [.slice A2 8 c2] F2, vr b1 [.slice none 0 0, .slice none 0 0, .slice none 0 0, .int .i64 0]]) (fun x => 2 - x.1) (0, none, 0, w.heap.size, []) ⟨Nat.zero_le _, Nat.zero_le _⟩ (fun a hA => (Sx.Ag.and hA (Sx.Ag.and hA (Sx.Ag.and hA (Sx.Ag.and hA (Sx.Ag.none hA) _ _ (by kernel_rfl)) _ _ (by kernel_rfl)) _ _ (by kernel_rfl)) _ _ (by kernel_rfl))) (fun w' S => by have S2 := Sx.St.nil0 (St.pick S [0, 1, 2] [vr b3 [.slice A2 8 c2, .slice none 0 0, .slice none 0 0, .int .i64 0], ow (rLsw (rLsw rInt)) w2.heap.size w2'.heap.size (List.replicate 8 ([0, 0, 0, 0] : List Int)) [.slice A2 8 c2] F2, vr b1 [.slice none 0 0, .slice none 0 0, .slice none 0 0, .int .i64 0]] rfl (by decide)) 51 wG; exact S2) (fun x hx => ?_)
  obtain ⟨i, xA, xc, xh, xF⟩ := x
  dsimp only at hx
  refine Sx.C.seq ?_
  refine Sx.C.seq ?_
  refine Sx.C.region ?_
  refine Sx.G.pure (.int .i64 (i : Int)) (by kernel_rfl) (fun w => by kernel_rfl) ?_
  refine Sx.G.pure (.slice A xs.length c) (by kernel_rfl) (fun w => by kernel_rfl) ?_
  refine Sx.G.pure (.int .i64 ((xs.length : Nat) : Int)) (by kernel_rfl) (fun w => by kernel_rfl) ?_
  refine Sx.G.pure (.bool (decide ((i : Int) < ((xs.length : Nat) : Int)))) (by kernel_rfl) (fun w => by kernel_rfl) ?_
  refine Sx.G.pure (.bool (decide ((i : Int) < ((xs.length : Nat) : Int)))) (by kernel_rfl) (fun w => by kernel_rfl) ?_
  cases hc4 : (decide ((i : Int) < ((xs.length : Nat) : Int)))
  · have hb4 := hc4
    replace hc4 := of_decide_eq_false hc4
    refine Sx.G.skip (by kernel_rfl) ?_
    refine Sx.G.skip (by kernel_rfl) ?_
    refine Sx.G.pure (.bool false) (by kernel_rfl) (fun w => by kernel_rfl) ?_
    refine Sx.G.nil ?_
    refine Sx.E.next ?_
    refine Sx.C.no (by kernel_rfl) (by kernel_rfl) ?_
    refine Sx.C.exit ?_
    refine Sx.E.then_exit ?_
    refine Sx.E.then_exit ?_
    refine Sx.E.block_hit ?_
    refine Sx.E.next ?_
    refine Sx.C.seq ?_
    refine Sx.C.region ?_
    refine Sx.G.ld 28 (.tmp 3) b3 0 1 [.slice A2 8 c2, .slice xA i xc, .slice none 0 0, .int .i64 0] [.slice A2 8 c2, .slice xA i xc, .slice none 0 0, .int .i64 0] rfl (by kernel_rfl) (by kernel_rfl) rfl (by kernel_rfl) (by kernel_rfl) (by kernel_rfl) ?_
    refine Sx.G.sto 28 (.tmp 2) (.tmp 27) b1 0 3 [.slice none 0 0, .slice none 0 0, .slice none 0 0, .int .i64 0] [.slice A2 8 c2, .slice xA i xc, .slice none 0 0, .int .i64 0] [.slice A2 8 c2, .slice xA i xc, .slice none 0 0, .int .i64 0] [ow (rLst 51 wG) w.heap.size xh ((xs.take i).map newG) [.slice xA i xc] xF, vr b3 [.slice A2 8 c2, .slice xA i xc, .slice none 0 0, .int .i64 0], ow (rLsw (rLsw rInt)) w2.heap.size w2'.heap.size (List.replicate 8 ([0, 0, 0, 0] : List Int)) [.slice A2 8 c2] F2, vr b1 [.slice A2 8 c2, .slice xA i xc, .slice none 0 0, .int .i64 0]] rfl (by kernel_rfl) (by kernel_rfl) (by kernel_rfl) rfl (by kernel_rfl) rfl (by kernel_rfl) (by kernel_rfl) (by kernel_rfl) ?_
    refine Sx.G.nil ?_
    refine Sx.E.next ?_
    refine Sx.C.ret ?_
    refine Sx.E.retc b1 3 [.slice A2 8 c2, .slice xA i xc, .slice none 0 0, .int .i64 0] rfl (by kernel_rfl) rfl (by kernel_rfl) (by kernel_rfl) (fun w S => ?_)
    have htk : xs.take i = xs.take 2 := by
      rcases Nat.lt_or_ge i 2 with h2 | h2
      · rw [List.take_of_length_le (by omega), List.take_of_length_le (by omega)]
      · rw [show i = 2 by omega]
    rw [htk] at S
    have hlen : ((xs.take 2).map newG).length = i := by rw [List.length_map, ← htk, List.length_take]; omega
    subst hlen
    obtain ⟨GW, S⟩ := S.weak 0 rfl
    replace S := St.nil S 3 rInt
    obtain ⟨ho, hF⟩ := rB_shut (g := newB xs) S 3 rfl 1 rfl 0 rfl (by decide) (by decide) (by decide)
    exact ⟨_, _, rfl, ho, hF, S.below⟩
  · have hb4 := hc4
    replace hc4 := of_decide_eq_true hc4
    refine Sx.G.pure (.int .i64 (i : Int)) (by kernel_rfl) (fun w => by kernel_rfl) ?_
    refine Sx.G.pure (.bool (decide ((i : Int) < 2))) (by kernel_rfl) (fun w => by kernel_rfl) ?_
    refine Sx.G.pure (.bool (decide ((i : Int) < 2))) (by kernel_rfl) (fun w => by kernel_rfl) ?_
    refine Sx.G.nil ?_
    refine Sx.E.next ?_
    cases hc5 : (decide ((i : Int) < 2))
    · have hb5 := hc5
      replace hc5 := of_decide_eq_false hc5
      refine Sx.C.no (by kernel_rfl) (by kernel_rfl) ?_
      refine Sx.C.exit ?_
      refine Sx.E.then_exit ?_
      refine Sx.E.then_exit ?_
      refine Sx.E.block_hit ?_
      refine Sx.E.next ?_
      refine Sx.C.seq ?_
      refine Sx.C.region ?_
      refine Sx.G.ld 28 (.tmp 3) b3 0 1 [.slice A2 8 c2, .slice xA i xc, .slice none 0 0, .int .i64 0] [.slice A2 8 c2, .slice xA i xc, .slice none 0 0, .int .i64 0] rfl (by kernel_rfl) (by kernel_rfl) rfl (by kernel_rfl) (by kernel_rfl) (by kernel_rfl) ?_
      refine Sx.G.sto 28 (.tmp 2) (.tmp 27) b1 0 3 [.slice none 0 0, .slice none 0 0, .slice none 0 0, .int .i64 0] [.slice A2 8 c2, .slice xA i xc, .slice none 0 0, .int .i64 0] [.slice A2 8 c2, .slice xA i xc, .slice none 0 0, .int .i64 0] [ow (rLst 51 wG) w.heap.size xh ((xs.take i).map newG) [.slice xA i xc] xF, vr b3 [.slice A2 8 c2, .slice xA i xc, .slice none 0 0, .int .i64 0], ow (rLsw (rLsw rInt)) w2.heap.size w2'.heap.size (List.replicate 8 ([0, 0, 0, 0] : List Int)) [.slice A2 8 c2] F2, vr b1 [.slice A2 8 c2, .slice xA i xc, .slice none 0 0, .int .i64 0]] rfl (by kernel_rfl) (by kernel_rfl) (by kernel_rfl) rfl (by kernel_rfl) rfl (by kernel_rfl) (by kernel_rfl) (by kernel_rfl) ?_
      refine Sx.G.nil ?_
      refine Sx.E.next ?_
      refine Sx.C.ret ?_
      refine Sx.E.retc b1 3 [.slice A2 8 c2, .slice xA i xc, .slice none 0 0, .int .i64 0] rfl (by kernel_rfl) rfl (by kernel_rfl) (by kernel_rfl) (fun w S => ?_)
      have htk : xs.take i = xs.take 2 := by
        rcases Nat.lt_or_ge i 2 with h2 | h2
        · rw [List.take_of_length_le (by omega), List.take_of_length_le (by omega)]
        · rw [show i = 2 by omega]
      rw [htk] at S
      have hlen : ((xs.take 2).map newG).length = i := by rw [List.length_map, ← htk, List.length_take]; omega
      subst hlen
      obtain ⟨GW, S⟩ := S.weak 0 rfl
      replace S := St.nil S 3 rInt
      obtain ⟨ho, hF⟩ := rB_shut (g := newB xs) S 3 rfl 1 rfl 0 rfl (by decide) (by decide) (by decide)
      exact ⟨_, _, rfl, ho, hF, S.below⟩
    · have hb5 := hc5
      replace hc5 := of_decide_eq_true hc5
      refine Sx.C.yes (by kernel_rfl) (by kernel_rfl) ?_
      refine Sx.C.skip ?_
      refine Sx.E.next ?_
      refine Sx.C.seq ?_
      refine Sx.C.block ?_
      obtain ⟨b6, f6, es6, eA6, hr6, hl6, hm6⟩ := Sx.old_elem (by decide) h i (by omega)
      subst eA6
      obtain ⟨x6, hx6⟩ : ∃ z_, z_ = (xs[i]'(by omega)) := ⟨_, rfl⟩
      rw [← hx6] at hr6
      replace hr6 : rdLst (rPair rInt rInt) w 0 w.heap.size x6 es6 := hr6
      obtain ⟨P6, rfl⟩ := lst_rd hr6
      obtain ⟨A6, c6, e6, -⟩ := lst_val hr6
      subst e6
      refine Sx.C.cut (fun e a w' => e = .normal ∧ ∃ (Y0 : Option Addr) (Y1 : Nat) (Y2 : Option Addr) (Y3 : Nat) (Y4 : Option Addr) (Y5 : Nat) (Y6 : Option Addr) (Y7 : Nat) (Y8 : List Nat) (Y9 : Nat) (Y10 : Nat) (Y11 : Nat) (Y12 : Option Addr) (Y13 : Nat) (Y14 : List Nat) (Y15 : Nat), Sx.Ag 28 [(0, .slice (some ⟨b6, f6, none⟩) xs.length c), (2, .pointer (some ⟨b1, 0, none⟩)), (3, .pointer (some ⟨b3, 0, none⟩)), (4, .int .i64 (i : Int))] a ∧ St w w' [ow (rLst 51 wG) w.heap.size Y15 (((xs.take (i + 1)).map newG)) [.slice Y12 (i + 1) Y13] Y14, vr b3 [.slice A2 8 c2, .slice Y12 (i + 1) Y13, .slice none 0 0, .int .i64 0], ow (rLsw (rLsw rInt)) w2.heap.size w2'.heap.size (List.replicate 8 ([0, 0, 0, 0] : List Int)) [.slice A2 8 c2] F2, vr b1 [.slice none 0 0, .slice none 0 0, .slice none 0 0, .int .i64 0]]) ?_ ?_
      · refine Sx.C.draw (.take 0 (.take 2 (.take 3 (.take 4 (.take 5 (.two 1 (.alone 6 (.alone 7 (.alone 8 (.take 9 (.alone 10 .nil))))) 6 (.two 1 (.alone 7 (.alone 8 (.take 9 (.alone 10 .nil)))) 7 (.alone 1 (.alone 8 (.take 9 (.alone 10 .nil))))))))))) [] (fun w S => St.pick S [] _ rfl (by decide)) (by kernel_rfl) (by kernel_rfl) (by kernel_rfl) ?_
        refine Sx.GT.pure (.pointer (some ⟨b3, 1, none⟩)) 0 (by rfl) (by kernel_rfl) (fun w => by kernel_rfl) ?_
        refine Sx.GT.pure (.slice (some ⟨b6, f6, none⟩) xs.length c) 2 (by rfl) (by kernel_rfl) (fun w => by kernel_rfl) ?_
        refine Sx.GT.pure (.int .i64 (i : Int)) 3 (by rfl) (by kernel_rfl) (fun w => by kernel_rfl) ?_
        refine Sx.GT.elem 30 44 (.tmp 19) (.tmp 20) 1 24 b6 f6 xs.length c i 4 (by rfl) (by rfl) (by kernel_rfl) (by kernel_rfl) (by kernel_rfl) (by kernel_rfl) (by omega) ?_
        refine Sx.GT.ldr1 44 (.tmp 21) b6 ((f6 + i * 1) + 0) (.slice A6 x6.length c6) 5 (by rfl) (by rfl) (by kernel_rfl) (by kernel_rfl) (fun w S => hm6 w _ S 0 _ rfl) (by kernel_rfl) ?_
        refine Sx.GT.two ?_ ?_
        · refine Sx.Alone.ld1 25 (.tmp 17) b3 1 1 [.slice A2 8 c2, .slice xA i xc, .slice none 0 0, .int .i64 0] (.slice xA i xc) (by rfl) (by rfl) (by kernel_rfl) (by kernel_rfl) (by rfl) (by kernel_rfl) (by kernel_rfl) (fun w S => St.pick S [] _ rfl (by decide)) ?_
          refine Sx.GT.alone (Sx.Alone.call 37 #[.slice A6 x6.length c6] (by rfl) (by kernel_rfl) (fun w => by kernel_rfl) (fun w7 S => (((Guests.specx_new x6 A6 c6 _ (hce _ (hx6 ▸ List.getElem_mem _)).1 (St.old (r := (rLsw (rPair rInt rInt))) S hr6)).mono weak_G)).mono fun e w7' hp => ?_))
          obtain ⟨cs, F, rfl, ho, hF, hb⟩ := hp
          obtain ⟨P7_0, P7_1, P7_2, P7_3, rfl, f7_0, f7_1, f7_2, f7_3⟩ := wG_rd (wG.reads ho)
          obtain ⟨A7_0, c7_0, e7_0, -⟩ := lst_val f7_0
          subst e7_0
          obtain ⟨A7_1, c7_1, e7_1, -⟩ := lst_val f7_1
          subst e7_1
          obtain ⟨A7_2, c7_2, e7_2, -⟩ := lst_val f7_2
          subst e7_2
          obtain ⟨A7_3, c7_3, e7_3, -⟩ := lst_val f7_3
          subst e7_3
          generalize F = F7 at ho hF
          refine ⟨_, _, rfl, (St.got S hb ho hF), (fun w S => St.pick S [] _ rfl (by decide)), ?_⟩
          clear S hb ho hF f7_0 f7_1 f7_2 f7_3
          refine Sx.GT.alone (Sx.Alone.made 51 [.slice A7_0 (newG x6).prog.length c7_0, .int .i64 (newG x6).a, .int .i64 (newG x6).pc, .slice A7_1 (newG x6).wr.length c7_1, .slice A7_2 (newG x6).lv.length c7_2, .int .i64 (newG x6).t.1, .int .i64 (newG x6).t.2.1, .bool (newG x6).t.2.2, .int .i64 (newG x6).pd, .int .i64 (newG x6).x.1, .int .i64 (newG x6).x.2.1, .bool (newG x6).x.2.2.1, .int .i64 (newG x6).x.2.2.2, .bool (newG x6).hl, .slice A7_3 (newG x6).seen.length c7_3] 1 (by rfl) (by kernel_rfl) (fun w => by kernel_rfl) (fun w S => St.pick S [] _ rfl (by decide)) (fun b8 => ?_))
          refine Sx.GT.claims (L' := [ow (rLst 51 wG) w.heap.size xh ((xs.take i).map newG) [.slice xA i xc] xF, ow wG w7.heap.size w7'.heap.size (newG x6) [.slice A7_0 (newG x6).prog.length c7_0, .int .i64 (newG x6).a, .int .i64 (newG x6).pc, .slice A7_1 (newG x6).wr.length c7_1, .slice A7_2 (newG x6).lv.length c7_2, .int .i64 (newG x6).t.1, .int .i64 (newG x6).t.2.1, .bool (newG x6).t.2.2, .int .i64 (newG x6).pd, .int .i64 (newG x6).x.1, .int .i64 (newG x6).x.2.1, .bool (newG x6).x.2.2.1, .int .i64 (newG x6).x.2.2.2, .bool (newG x6).hl, .slice A7_3 (newG x6).seen.length c7_3] F7, vr b8 [.slice A7_0 (newG x6).prog.length c7_0, .int .i64 (newG x6).a, .int .i64 (newG x6).pc, .slice A7_1 (newG x6).wr.length c7_1, .slice A7_2 (newG x6).lv.length c7_2, .int .i64 (newG x6).t.1, .int .i64 (newG x6).t.2.1, .bool (newG x6).t.2.2, .int .i64 (newG x6).pd, .int .i64 (newG x6).x.1, .int .i64 (newG x6).x.2.1, .bool (newG x6).x.2.2.1, .int .i64 (newG x6).x.2.2.2, .bool (newG x6).hl, .slice A7_3 (newG x6).seen.length c7_3], vr b3 [.slice A2 8 c2, .slice xA i xc, .slice none 0 0, .int .i64 0], ow (rLsw (rLsw rInt)) w2.heap.size w2'.heap.size (List.replicate 8 ([0, 0, 0, 0] : List Int)) [.slice A2 8 c2] F2, vr b1 [.slice none 0 0, .slice none 0 0, .slice none 0 0, .int .i64 0]]) (fun w S => St.pick S [2, 1, 0, 3, 4, 5] _ rfl (by decide)) ?_
          refine Sx.GT.alone (Sx.Alone.appr (.tmp 18) (.tmp 24) 25 15 184 1 (by rfl) (by rfl) (by kernel_rfl) (by kernel_rfl) (by rfl) (by kernel_rfl) (by kernel_rfl) (by kernel_rfl) (by rw [List.length_map, List.length_take]; simp only [maxLen]; omega) (by rw [List.length_map, List.length_take]; omega) ((xs.take (i + 1)).map newG) (by rw [Kit.take_step (show i < xs.length by omega), List.map_append, hx6]; rfl) (i + 1) (by rw [List.length_map, List.length_take]; omega) (fun A9 c9 F9 hi9 w S => St.pick S [] _ rfl (by decide)) (fun A9 c9 F9 hi9 hm9 => ?_))
          refine Sx.GT.pure (.pointer (some ⟨b3, 1, none⟩)) 9 (by rfl) (by kernel_rfl) (fun w => by kernel_rfl) ?_
          refine Sx.GT.alone (Sx.Alone.sto 25 (.tmp 26) (.tmp 25) b3 1 1 [.slice A2 8 c2, .slice xA i xc, .slice none 0 0, .int .i64 0] [.slice A9 (i + 1) c9] [.slice A2 8 c2, .slice A9 (i + 1) c9, .slice none 0 0, .int .i64 0] [ow (rLst 51 wG) w.heap.size hi9 (((xs.take (i + 1)).map newG)) [.slice A9 (i + 1) c9] F9, vr b3 [.slice A2 8 c2, .slice A9 (i + 1) c9, .slice none 0 0, .int .i64 0], ow (rLsw (rLsw rInt)) w2.heap.size w2'.heap.size (List.replicate 8 ([0, 0, 0, 0] : List Int)) [.slice A2 8 c2] F2, vr b1 [.slice none 0 0, .slice none 0 0, .slice none 0 0, .int .i64 0]] (by rfl) (by rfl) (by kernel_rfl) (by kernel_rfl) (by kernel_rfl) (by rfl) (by kernel_rfl) (by rfl) (by kernel_rfl) (by kernel_rfl) (by kernel_rfl) (fun w S => St.pick S [] _ rfl (by decide)) ?_)
          exact Sx.GT.nil (fun a w' hA S => ⟨rfl, none, 0, none, 0, none, 0, none, 0, [], 0, 0, 0, A9, c9, F9, hi9, (Sx.Ag.and hA (Sx.Ag.and hA (Sx.Ag.and hA (Sx.Ag.and hA (Sx.Ag.none hA) _ _ (by kernel_rfl)) _ _ (by kernel_rfl)) _ _ (by kernel_rfl)) _ _ (by kernel_rfl)), St.pick S [0, 1, 2, 3] _ rfl (by decide)⟩)
        · refine Sx.Alone.call 37 #[.slice A6 x6.length c6] (by rfl) (by kernel_rfl) (fun w => by kernel_rfl) (fun w10 S => (((Guests.specx_new x6 A6 c6 _ (hce _ (hx6 ▸ List.getElem_mem _)).1 (St.old (r := (rLsw (rPair rInt rInt))) S hr6)).mono weak_G)).mono fun e w10' hp => ?_)
          obtain ⟨cs, F, rfl, ho, hF, hb⟩ := hp
          obtain ⟨P10_0, P10_1, P10_2, P10_3, rfl, f10_0, f10_1, f10_2, f10_3⟩ := wG_rd (wG.reads ho)
          obtain ⟨A10_0, c10_0, e10_0, -⟩ := lst_val f10_0
          subst e10_0
          obtain ⟨A10_1, c10_1, e10_1, -⟩ := lst_val f10_1
          subst e10_1
          obtain ⟨A10_2, c10_2, e10_2, -⟩ := lst_val f10_2
          subst e10_2
          obtain ⟨A10_3, c10_3, e10_3, -⟩ := lst_val f10_3
          subst e10_3
          generalize F = F10 at ho hF
          refine ⟨_, _, rfl, (St.got S hb ho hF), (fun w S => St.pick S [] _ rfl (by decide)), ?_⟩
          clear S hb ho hF f10_0 f10_1 f10_2 f10_3
          refine Sx.GT.two ?_ ?_
          · refine Sx.Alone.ld1 25 (.tmp 17) b3 1 2 [.slice A2 8 c2, .slice xA i xc, .slice none 0 0, .int .i64 0] (.slice xA i xc) (by rfl) (by rfl) (by kernel_rfl) (by kernel_rfl) (by rfl) (by kernel_rfl) (by kernel_rfl) (fun w S => St.pick S [] _ rfl (by decide)) ?_
            refine Sx.GT.alone (Sx.Alone.made 51 [.slice A10_0 (newG x6).prog.length c10_0, .int .i64 (newG x6).a, .int .i64 (newG x6).pc, .slice A10_1 (newG x6).wr.length c10_1, .slice A10_2 (newG x6).lv.length c10_2, .int .i64 (newG x6).t.1, .int .i64 (newG x6).t.2.1, .bool (newG x6).t.2.2, .int .i64 (newG x6).pd, .int .i64 (newG x6).x.1, .int .i64 (newG x6).x.2.1, .bool (newG x6).x.2.2.1, .int .i64 (newG x6).x.2.2.2, .bool (newG x6).hl, .slice A10_3 (newG x6).seen.length c10_3] 1 (by rfl) (by kernel_rfl) (fun w => by kernel_rfl) (fun w S => St.pick S [] _ rfl (by decide)) (fun b11 => ?_))
            refine Sx.GT.claims (L' := [ow (rLst 51 wG) w.heap.size xh ((xs.take i).map newG) [.slice xA i xc] xF, ow wG w10.heap.size w10'.heap.size (newG x6) [.slice A10_0 (newG x6).prog.length c10_0, .int .i64 (newG x6).a, .int .i64 (newG x6).pc, .slice A10_1 (newG x6).wr.length c10_1, .slice A10_2 (newG x6).lv.length c10_2, .int .i64 (newG x6).t.1, .int .i64 (newG x6).t.2.1, .bool (newG x6).t.2.2, .int .i64 (newG x6).pd, .int .i64 (newG x6).x.1, .int .i64 (newG x6).x.2.1, .bool (newG x6).x.2.2.1, .int .i64 (newG x6).x.2.2.2, .bool (newG x6).hl, .slice A10_3 (newG x6).seen.length c10_3] F10, vr b11 [.slice A10_0 (newG x6).prog.length c10_0, .int .i64 (newG x6).a, .int .i64 (newG x6).pc, .slice A10_1 (newG x6).wr.length c10_1, .slice A10_2 (newG x6).lv.length c10_2, .int .i64 (newG x6).t.1, .int .i64 (newG x6).t.2.1, .bool (newG x6).t.2.2, .int .i64 (newG x6).pd, .int .i64 (newG x6).x.1, .int .i64 (newG x6).x.2.1, .bool (newG x6).x.2.2.1, .int .i64 (newG x6).x.2.2.2, .bool (newG x6).hl, .slice A10_3 (newG x6).seen.length c10_3], vr b3 [.slice A2 8 c2, .slice xA i xc, .slice none 0 0, .int .i64 0], ow (rLsw (rLsw rInt)) w2.heap.size w2'.heap.size (List.replicate 8 ([0, 0, 0, 0] : List Int)) [.slice A2 8 c2] F2, vr b1 [.slice none 0 0, .slice none 0 0, .slice none 0 0, .int .i64 0]]) (fun w S => St.pick S [2, 1, 0, 3, 4, 5] _ rfl (by decide)) ?_
            refine Sx.GT.alone (Sx.Alone.appr (.tmp 18) (.tmp 24) 25 15 184 1 (by rfl) (by rfl) (by kernel_rfl) (by kernel_rfl) (by rfl) (by kernel_rfl) (by kernel_rfl) (by kernel_rfl) (by rw [List.length_map, List.length_take]; simp only [maxLen]; omega) (by rw [List.length_map, List.length_take]; omega) ((xs.take (i + 1)).map newG) (by rw [Kit.take_step (show i < xs.length by omega), List.map_append, hx6]; rfl) (i + 1) (by rw [List.length_map, List.length_take]; omega) (fun A12 c12 F12 hi12 w S => St.pick S [] _ rfl (by decide)) (fun A12 c12 F12 hi12 hm12 => ?_))
            refine Sx.GT.pure (.pointer (some ⟨b3, 1, none⟩)) 9 (by rfl) (by kernel_rfl) (fun w => by kernel_rfl) ?_
            refine Sx.GT.alone (Sx.Alone.sto 25 (.tmp 26) (.tmp 25) b3 1 1 [.slice A2 8 c2, .slice xA i xc, .slice none 0 0, .int .i64 0] [.slice A12 (i + 1) c12] [.slice A2 8 c2, .slice A12 (i + 1) c12, .slice none 0 0, .int .i64 0] [ow (rLst 51 wG) w.heap.size hi12 (((xs.take (i + 1)).map newG)) [.slice A12 (i + 1) c12] F12, vr b3 [.slice A2 8 c2, .slice A12 (i + 1) c12, .slice none 0 0, .int .i64 0], ow (rLsw (rLsw rInt)) w2.heap.size w2'.heap.size (List.replicate 8 ([0, 0, 0, 0] : List Int)) [.slice A2 8 c2] F2, vr b1 [.slice none 0 0, .slice none 0 0, .slice none 0 0, .int .i64 0]] (by rfl) (by rfl) (by kernel_rfl) (by kernel_rfl) (by kernel_rfl) (by rfl) (by kernel_rfl) (by rfl) (by kernel_rfl) (by kernel_rfl) (by kernel_rfl) (fun w S => St.pick S [] _ rfl (by decide)) ?_)
            exact Sx.GT.nil (fun a w' hA S => ⟨rfl, none, 0, none, 0, none, 0, none, 0, [], 0, 0, 0, A12, c12, F12, hi12, (Sx.Ag.and hA (Sx.Ag.and hA (Sx.Ag.and hA (Sx.Ag.and hA (Sx.Ag.none hA) _ _ (by kernel_rfl)) _ _ (by kernel_rfl)) _ _ (by kernel_rfl)) _ _ (by kernel_rfl)), St.pick S [0, 1, 2, 3] _ rfl (by decide)⟩)
          · refine Sx.Alone.made 51 [.slice A10_0 (newG x6).prog.length c10_0, .int .i64 (newG x6).a, .int .i64 (newG x6).pc, .slice A10_1 (newG x6).wr.length c10_1, .slice A10_2 (newG x6).lv.length c10_2, .int .i64 (newG x6).t.1, .int .i64 (newG x6).t.2.1, .bool (newG x6).t.2.2, .int .i64 (newG x6).pd, .int .i64 (newG x6).x.1, .int .i64 (newG x6).x.2.1, .bool (newG x6).x.2.2.1, .int .i64 (newG x6).x.2.2.2, .bool (newG x6).hl, .slice A10_3 (newG x6).seen.length c10_3] 1 (by rfl) (by kernel_rfl) (fun w => by kernel_rfl) (fun w S => St.pick S [] _ rfl (by decide)) (fun b13 => ?_)
            refine Sx.GT.alone (Sx.Alone.ld1 25 (.tmp 17) b3 1 3 [.slice A2 8 c2, .slice xA i xc, .slice none 0 0, .int .i64 0] (.slice xA i xc) (by rfl) (by rfl) (by kernel_rfl) (by kernel_rfl) (by rfl) (by kernel_rfl) (by kernel_rfl) (fun w S => St.pick S [] _ rfl (by decide)) ?_)
            refine Sx.GT.claims (L' := [ow (rLst 51 wG) w.heap.size xh ((xs.take i).map newG) [.slice xA i xc] xF, ow wG w10.heap.size w10'.heap.size (newG x6) [.slice A10_0 (newG x6).prog.length c10_0, .int .i64 (newG x6).a, .int .i64 (newG x6).pc, .slice A10_1 (newG x6).wr.length c10_1, .slice A10_2 (newG x6).lv.length c10_2, .int .i64 (newG x6).t.1, .int .i64 (newG x6).t.2.1, .bool (newG x6).t.2.2, .int .i64 (newG x6).pd, .int .i64 (newG x6).x.1, .int .i64 (newG x6).x.2.1, .bool (newG x6).x.2.2.1, .int .i64 (newG x6).x.2.2.2, .bool (newG x6).hl, .slice A10_3 (newG x6).seen.length c10_3] F10, vr b13 [.slice A10_0 (newG x6).prog.length c10_0, .int .i64 (newG x6).a, .int .i64 (newG x6).pc, .slice A10_1 (newG x6).wr.length c10_1, .slice A10_2 (newG x6).lv.length c10_2, .int .i64 (newG x6).t.1, .int .i64 (newG x6).t.2.1, .bool (newG x6).t.2.2, .int .i64 (newG x6).pd, .int .i64 (newG x6).x.1, .int .i64 (newG x6).x.2.1, .bool (newG x6).x.2.2.1, .int .i64 (newG x6).x.2.2.2, .bool (newG x6).hl, .slice A10_3 (newG x6).seen.length c10_3], vr b3 [.slice A2 8 c2, .slice xA i xc, .slice none 0 0, .int .i64 0], ow (rLsw (rLsw rInt)) w2.heap.size w2'.heap.size (List.replicate 8 ([0, 0, 0, 0] : List Int)) [.slice A2 8 c2] F2, vr b1 [.slice none 0 0, .slice none 0 0, .slice none 0 0, .int .i64 0]]) (fun w S => St.pick S [2, 1, 0, 3, 4, 5] _ rfl (by decide)) ?_
            refine Sx.GT.alone (Sx.Alone.appr (.tmp 18) (.tmp 24) 25 15 184 1 (by rfl) (by rfl) (by kernel_rfl) (by kernel_rfl) (by rfl) (by kernel_rfl) (by kernel_rfl) (by kernel_rfl) (by rw [List.length_map, List.length_take]; simp only [maxLen]; omega) (by rw [List.length_map, List.length_take]; omega) ((xs.take (i + 1)).map newG) (by rw [Kit.take_step (show i < xs.length by omega), List.map_append, hx6]; rfl) (i + 1) (by rw [List.length_map, List.length_take]; omega) (fun A14 c14 F14 hi14 w S => St.pick S [] _ rfl (by decide)) (fun A14 c14 F14 hi14 hm14 => ?_))
            refine Sx.GT.pure (.pointer (some ⟨b3, 1, none⟩)) 9 (by rfl) (by kernel_rfl) (fun w => by kernel_rfl) ?_
            refine Sx.GT.alone (Sx.Alone.sto 25 (.tmp 26) (.tmp 25) b3 1 1 [.slice A2 8 c2, .slice xA i xc, .slice none 0 0, .int .i64 0] [.slice A14 (i + 1) c14] [.slice A2 8 c2, .slice A14 (i + 1) c14, .slice none 0 0, .int .i64 0] [ow (rLst 51 wG) w.heap.size hi14 (((xs.take (i + 1)).map newG)) [.slice A14 (i + 1) c14] F14, vr b3 [.slice A2 8 c2, .slice A14 (i + 1) c14, .slice none 0 0, .int .i64 0], ow (rLsw (rLsw rInt)) w2.heap.size w2'.heap.size (List.replicate 8 ([0, 0, 0, 0] : List Int)) [.slice A2 8 c2] F2, vr b1 [.slice none 0 0, .slice none 0 0, .slice none 0 0, .int .i64 0]] (by rfl) (by rfl) (by kernel_rfl) (by kernel_rfl) (by kernel_rfl) (by rfl) (by kernel_rfl) (by rfl) (by kernel_rfl) (by kernel_rfl) (by kernel_rfl) (fun w S => St.pick S [] _ rfl (by decide)) ?_)
            exact Sx.GT.nil (fun a w' hA S => ⟨rfl, none, 0, none, 0, none, 0, none, 0, [], 0, 0, 0, A14, c14, F14, hi14, (Sx.Ag.and hA (Sx.Ag.and hA (Sx.Ag.and hA (Sx.Ag.and hA (Sx.Ag.none hA) _ _ (by kernel_rfl)) _ _ (by kernel_rfl)) _ _ (by kernel_rfl)) _ _ (by kernel_rfl)), St.pick S [0, 1, 2, 3] _ rfl (by decide)⟩)
      rintro e a w' ⟨rfl, y15_0, y15_1, y15_2, y15_3, y15_4, y15_5, y15_6, y15_7, y15_8, y15_9, y15_10, y15_11, y15_12, y15_13, y15_14, y15_15, hA, S⟩
      refine Sx.E.out ?_ hA S
      clear hA S a w'
      refine Sx.E.block_normal ?_
      refine Sx.E.next ?_
      refine Sx.C.region ?_
      refine Sx.G.pure (.int .i64 (i : Int)) (by kernel_rfl) (fun w => by kernel_rfl) ?_
      refine Sx.G.pureq (.int .i64 (IntKind.i64.wrap ((i : Int) + 1))) (.int .i64 ((i + 1 : Nat) : Int)) (by kernel_rfl) (fun w => by kernel_rfl) (congrArg (Value.int .i64) (Sx.wrap_up i (by omega))) ?_
      refine Sx.G.pure (.int .i64 ((i + 1 : Nat) : Int)) (by kernel_rfl) (fun w => by kernel_rfl) ?_
      refine Sx.G.nil ?_
      exact Sx.E.again (i + 1, y15_12, y15_13, y15_15, y15_14) ⟨by show i + 1 ≤ xs.length; omega, by show i + 1 ≤ 2; omega⟩ (by show 2 - (i + 1) < 2 - i; omega) (fun a hA => (Sx.Ag.and hA (Sx.Ag.and hA (Sx.Ag.and hA (Sx.Ag.and hA (Sx.Ag.none hA) _ _ (by kernel_rfl)) _ _ (by kernel_rfl)) _ _ (by kernel_rfl)) _ _ (by kernel_rfl))) (fun w' S => St.pick S [0, 1, 2, 3] _ rfl (by decide))
end Go.Proofs.Ytldgadmpclgfhaa.Kit
namespace Go.Proofs.Ytldgadmpclgfhaa.Kit
set_option maxRecDepth 100000
open Go.ChangeShapes Go.WideShapes Go.ChangeAt Go.RowKit Go.Deep
open Go.Proofs.Ytldgadmpclgfhaa.Base Go.Proofs.Ytldgadmpclgfhaa.Mem Go.Proofs.Ytldgadmpclgfhaa.Data Go.Proofs.Ytldgadmpclgfhaa.Stt Go.Proofs.Ytldgadmpclgfhaa.Guests Go.Proofs.Ytldgadmpclgfhaa.Ctls Go.Proofs.Ytldgadmpclgfhaa.Exits
set_option linter.unusedVariables false
set_option linter.unusedSimpArgs false
theorem size_new (p : List (Int × Int)) : wG.size (newG p) = p.length + 8 := by
  rw [size_Guest, sz0_Ins, sz0_Slot, sz0_Slot, sz0_Int]
  simp [newG, Slots.nosL]
theorem cap_new {p : List (Int × Int)} (h : p.length ≤ 1048576) : wG.cap (newG p) :=
  ⟨⟨h, fun _ _ => ⟨trivial, trivial⟩⟩, trivial, trivial, ⟨by simp [newG, Slots.nosL], fun _ _ => ⟨trivial, trivial⟩⟩, ⟨by simp [newG, Slots.nosL], fun _ _ => ⟨trivial, trivial⟩⟩, ⟨trivial, trivial, trivial⟩, trivial, ⟨trivial, trivial, trivial, trivial⟩, trivial, ⟨by simp [newG], fun _ _ => trivial⟩⟩
theorem cap_mem0 : (rLsw (rLsw rInt)).cap (List.replicate 8 ([0, 0, 0, 0] : List Int)) := ⟨by decide, fun x hx => by rw [(List.mem_replicate.1 hx).2]; exact ⟨by decide, fun _ _ => trivial⟩⟩
theorem cap_newB {xs : List (List (Int × Int))} (h : (rLsw (rLsw (rPair rInt rInt))).cap xs) : wB.cap (newB xs) := by
  refine ⟨cap_mem0, ⟨?_, fun g hg => ?_⟩, ⟨by simp [newB], fun _ _ => trivial⟩, trivial⟩
  · show ((xs.take 2).map newG).length ≤ _
    rw [List.length_map, List.length_take]; omega
  · obtain ⟨p, hp, rfl⟩ := List.mem_map.1 (show g ∈ (xs.take 2).map newG from hg)
    exact cap_new (h.2 p (List.mem_of_mem_take hp)).1
theorem size_newB (xs : List (List (Int × Int))) : wB.size (newB xs) ≤ (rLsw (rLsw (rPair rInt rInt))).size xs + 100 := by
  rw [size_Bare]
  show (8 + sizeAll (rLsw rInt) (List.replicate 8 ([0, 0, 0, 0] : List Int))) + (((xs.take 2).map newG).length + sizeAll wG ((xs.take 2).map newG)) + (0 + 0) ≤ (xs.length + sizeAll (rLsw (rPair rInt rInt)) xs) + 100
  have h1 : sizeAll (rLsw rInt) (List.replicate 8 ([0, 0, 0, 0] : List Int)) = 32 := by decide
  have h2 : ∀ p : List (Int × Int), (rLsw (rPair rInt rInt)).size p = p.length := fun p => by show p.length + sizeAll (rPair rInt rInt) p = _; rw [sz0_Ins]; omega
  rw [h1]
  rcases xs with _ | ⟨a, _ | ⟨b, r⟩⟩
  · simp [sizeAll]
  · simp [sizeAll, size_new, h2]; omega
  · simp [sizeAll, size_new, h2]; omega
end Go.Proofs.Ytldgadmpclgfhaa.Kit
namespace Go.Proofs.Ytldgadmpclgfhaa.Ctls
set_option maxRecDepth 100000
open Go.ChangeShapes Go.WideShapes Go.ChangeAt Go.RowKit
open Go.Proofs.Ytldgadmpclgfhaa.Base Go.Proofs.Ytldgadmpclgfhaa.Mem Go.Proofs.Ytldgadmpclgfhaa.Data Go.Proofs.Ytldgadmpclgfhaa.Ints Go.Proofs.Ytldgadmpclgfhaa.Slots
set_option linter.unusedVariables false
set_option linter.unusedSimpArgs false
def p1 (s : CT) : Bool := !inB s.1 0 3
def p2 (s : CT) : Bool := !inB s.2.1 0 255
def p3 (s : CT) : Bool := (s.2.1 != 0) && !s.2.2
end Go.Proofs.Ytldgadmpclgfhaa.Ctls
namespace Go.Proofs.Ytldgadmpclgfhaa.Guests
set_option maxRecDepth 100000
open Go.ChangeShapes Go.WideShapes Go.ChangeAt Go.RowKit
open Go.Proofs.Ytldgadmpclgfhaa.Base Go.Proofs.Ytldgadmpclgfhaa.Mem Go.Proofs.Ytldgadmpclgfhaa.Data Go.Proofs.Ytldgadmpclgfhaa.Slots Go.Proofs.Ytldgadmpclgfhaa.Ints Go.Proofs.Ytldgadmpclgfhaa.Ctls Go.Proofs.Ytldgadmpclgfhaa.Exits Go.Proofs.Ytldgadmpclgfhaa.Stt Go.Proofs.Ytldgadmpclgfhaa.Irqs Go.Proofs.Ytldgadmpclgfhaa.Inss
set_option linter.unusedVariables false
set_option linter.unusedSimpArgs false
theorem impl_new4 (w : World) : Calls Try.prog 122 #[.int .i64 4] w (RowPost w 4 (Slots.nosL 4)) := by
  have h := Slots.impl_new 4 w
  rwa [show Slots.newN 4 = 4 by decide] at h
set_option maxRecDepth 100000 in
set_option maxHeartbeats 4000000 in
theorem lib_cloneIns (xs : List (Int × Int)) (A : Option Addr) (c : Nat) (w : World) (hp : xs.length ≤ 1048576) (h : rdLst (rPair rInt rInt) w 0 w.heap.size xs [.slice A xs.length c]) : Calls Try.prog 121 #[.slice A xs.length c] w (Gives (rLst 111 (rPair rInt rInt)) w xs) := by
  rcases A with _ | ad
  · obtain rfl := Sx.p2_nothing h
    refine Sx.enter (args := [.slice none 0 c]) Try.func121 rfl Try.ntmps121 rfl ?_
    refine Sx.C.seq ?_
    refine Sx.C.region ?_
    refine Sx.G.pure (.slice none 0 0) (by kernel_rfl) (fun w => by kernel_rfl) ?_
    refine Sx.G.nil ?_
    refine Sx.E.next ?_
    refine Sx.C.seq ?_
    refine Sx.C.seq ?_
    refine Sx.C.region ?_
    refine Sx.G.pure (.slice none 0 c) (by kernel_rfl) (fun w => by kernel_rfl) ?_
    refine Sx.G.pure (.bool true) (by kernel_rfl) (fun w => by kernel_rfl) ?_
    refine Sx.G.nil ?_
    refine Sx.E.next ?_
    refine Sx.C.yes (by kernel_rfl) (by kernel_rfl) ?_
    refine Sx.C.seq ?_
    refine Sx.C.region ?_
    refine Sx.G.pure (.slice none 0 0) (by kernel_rfl) (fun w => by kernel_rfl) ?_
    refine Sx.G.nil ?_
    refine Sx.E.next ?_
    refine Sx.C.ret ?_
    refine Sx.E.then_ret ?_
    refine Sx.E.ret1 (.slice none 0 0) rfl (by kernel_rfl) (fun w S => ?_)
    have S' := St.nil S 111 (rPair rInt rInt)
    exact ⟨[_], _, rfl, S'.own 0 rfl, S'.nodup 0 rfl, S.below⟩
  · refine Sx.enter (args := [.slice (some ad) xs.length c]) Try.func121 rfl Try.ntmps121 rfl ?_
    refine Sx.C.seq ?_
    refine Sx.C.region ?_
    refine Sx.G.pure (.slice none 0 0) (by kernel_rfl) (fun w => by kernel_rfl) ?_
    refine Sx.G.nil ?_
    refine Sx.E.next ?_
    refine Sx.C.seq ?_
    refine Sx.C.seq ?_
    refine Sx.C.region ?_
    refine Sx.G.pure (.slice (some ad) xs.length c) (by kernel_rfl) (fun w => by kernel_rfl) ?_
    refine Sx.G.pure (.bool false) (by kernel_rfl) (fun w => by kernel_rfl) ?_
    refine Sx.G.nil ?_
    refine Sx.E.next ?_
    refine Sx.C.no (by kernel_rfl) (by kernel_rfl) ?_
    refine Sx.C.skip ?_
    refine Sx.E.next ?_
    refine Sx.C.seq ?_
    refine Sx.C.region ?_
    refine Sx.G.fresh 111 (rPair rInt rInt) (by kernel_rfl) (fun w => by kernel_rfl) (fun b1 hi1 => ?_)
    refine Sx.G.pure (.slice (some ad) xs.length c) (by kernel_rfl) (fun w => by kernel_rfl) ?_
    refine Sx.G.apps 0 rfl xs (fun w S => St.old (r := rLsw (rPair rInt rInt)) S h) (List.nil_append _) xs.length (by simp) flat_P2 (.tmp 5) (.tmp 6) 44 2 16 rfl rfl (by kernel_rfl) (by kernel_rfl) rfl (by kernel_rfl) (by kernel_rfl) (by simp only [maxLen, List.length_nil, List.length_cons]; omega) (by simp only [List.length_nil, List.length_cons]; omega) (fun A2 c2 F2 hi2 hm2 => ?_)
    refine Sx.G.pure (.slice A2 xs.length c2) (by kernel_rfl) (fun w => by kernel_rfl) ?_
    refine Sx.G.nil ?_
    refine Sx.E.next ?_
    refine Sx.C.ret ?_
    refine Sx.E.ret1 (.slice A2 xs.length c2) rfl (by kernel_rfl) (fun w S => ?_)
    exact ⟨[_], _, rfl, S.own 0 rfl, S.nodup 0 rfl, S.below⟩
set_option maxRecDepth 100000 in
set_option maxHeartbeats 4000000 in
theorem impl_gnew_g (p : List (Int × Int)) (A : Option Addr) (c : Nat) (w : World) (hp : p.length ≤ 1048576) (h : rdLst (rPair rInt rInt) w 0 w.heap.size p [.slice A p.length c]) : Calls Try.prog 96 #[.slice A p.length c] w (Gives rG w (newG p)) := by
  refine Sx.enter (args := [.slice A p.length c]) Try.func96 rfl Try.ntmps96 rfl ?_
  refine Sx.C.seq ?_
  refine Sx.C.region ?_
  refine Sx.G.alloc 51 (.agg #[.slice none 0 0, .int .i64 0, .int .i64 0, .slice none 0 0, .slice none 0 0, .int .i64 0, .int .i64 0, .bool false, .int .i64 0, .int .i64 0, .int .i64 0, .bool false, .int .i64 0, .bool false, .slice none 0 0]) [.slice none 0 0, .int .i64 0, .int .i64 0, .slice none 0 0, .slice none 0 0, .int .i64 0, .int .i64 0, .bool false, .int .i64 0, .int .i64 0, .int .i64 0, .bool false, .int .i64 0, .bool false, .slice none 0 0] rfl (by kernel_rfl) (fun w => by kernel_rfl) (by kernel_rfl) (fun b1 => ?_)
  refine Sx.G.nil ?_
  refine Sx.E.next ?_
  refine Sx.C.seq ?_
  refine Sx.C.region ?_
  refine Sx.G.pure (.slice A p.length c) (by kernel_rfl) (fun w => by kernel_rfl) ?_
  refine Sx.G.call 121 #[.slice A p.length c] (by kernel_rfl) (fun w => by kernel_rfl) (fun w2 S => (lib_cloneIns p A c _ hp (St.old (r := rLsw (rPair rInt rInt)) S h)).mono fun e w2' hp => ?_)
  obtain ⟨cs, F, rfl, ho, hF, hb⟩ := hp
  obtain ⟨u2, rfl⟩ := lst_own ho
  obtain ⟨A2, c2, e2, -⟩ := lst_val ((St.got S hb ho hF).reads 0 rfl)
  subst e2
  generalize F = F2 at ho hF
  refine ⟨_, _, rfl, (St.got S hb ho hF), ?_⟩
  clear S hb ho hF
  refine Sx.G.call 122 #[.int .i64 4] (by kernel_rfl) (fun w => by kernel_rfl) (fun w3 S => (impl_new4 _).mono fun e w3' hp => ?_)
  obtain ⟨ad3, tc3, rfl, hc3, ho, hb⟩ := hp
  rw [← pcells_s] at ho
  refine ⟨_, _, rfl, (S.gotp (l := (Slots.nosL 4)) hb hc3 ho), ?_⟩
  clear S ho hb
  refine Sx.G.call 122 #[.int .i64 4] (by kernel_rfl) (fun w => by kernel_rfl) (fun w4 S => (impl_new4 _).mono fun e w4' hp => ?_)
  obtain ⟨ad4, tc4, rfl, hc4, ho, hb⟩ := hp
  rw [← pcells_s] at ho
  refine ⟨_, _, rfl, (S.gotp (l := (Slots.nosL 4)) hb hc4 ho), ?_⟩
  clear S ho hb
  refine Sx.G.pure (.agg #[.slice A2 p.length c2, .int .i64 0, .int .i64 0, .slice (some ad3) 4 tc3, .slice (some ad4) 4 tc4, .int .i64 0, .int .i64 0, .bool false, .int .i64 0, .int .i64 0, .int .i64 0, .bool false, .int .i64 0, .bool false, .slice none 0 0]) (by kernel_rfl) (fun w => by kernel_rfl) ?_
  refine Sx.G.sto 51 (.tmp 2) (.tmp 7) b1 0 3 [.slice none 0 0, .int .i64 0, .int .i64 0, .slice none 0 0, .slice none 0 0, .int .i64 0, .int .i64 0, .bool false, .int .i64 0, .int .i64 0, .int .i64 0, .bool false, .int .i64 0, .bool false, .slice none 0 0] [.slice A2 p.length c2, .int .i64 0, .int .i64 0, .slice (some ad3) 4 tc3, .slice (some ad4) 4 tc4, .int .i64 0, .int .i64 0, .bool false, .int .i64 0, .int .i64 0, .int .i64 0, .bool false, .int .i64 0, .bool false, .slice none 0 0] [.slice A2 p.length c2, .int .i64 0, .int .i64 0, .slice (some ad3) 4 tc3, .slice (some ad4) 4 tc4, .int .i64 0, .int .i64 0, .bool false, .int .i64 0, .int .i64 0, .int .i64 0, .bool false, .int .i64 0, .bool false, .slice none 0 0] [ow (rLsw (rPair rInt rInt)) w4.heap.size w4'.heap.size (Slots.nosL 4) [.slice (some ad4) 4 tc4] (blks (some ad4) (pcells (Slots.nosL 4))), ow (rLsw (rPair rInt rInt)) w3.heap.size w3'.heap.size (Slots.nosL 4) [.slice (some ad3) 4 tc3] (blks (some ad3) (pcells (Slots.nosL 4))), ow (rLst 111 (rPair rInt rInt)) w2.heap.size (w2'.heap.size) p [.slice A2 p.length c2] F2, vr b1 [.slice A2 p.length c2, .int .i64 0, .int .i64 0, .slice (some ad3) 4 tc3, .slice (some ad4) 4 tc4, .int .i64 0, .int .i64 0, .bool false, .int .i64 0, .int .i64 0, .int .i64 0, .bool false, .int .i64 0, .bool false, .slice none 0 0]] rfl (by kernel_rfl) (by kernel_rfl) (by kernel_rfl) rfl (by kernel_rfl) rfl (by kernel_rfl) (by kernel_rfl) (by kernel_rfl) ?_
  refine Sx.G.nil ?_
  refine Sx.E.next ?_
  refine Sx.C.ret ?_
  refine Sx.E.retc b1 3 [.slice A2 p.length c2, .int .i64 0, .int .i64 0, .slice (some ad3) 4 tc3, .slice (some ad4) 4 tc4, .int .i64 0, .int .i64 0, .bool false, .int .i64 0, .int .i64 0, .int .i64 0, .bool false, .int .i64 0, .bool false, .slice none 0 0] rfl (by kernel_rfl) rfl (by kernel_rfl) (by kernel_rfl) (fun w S => ?_)
  replace S := St.nil S 3 rInt
  obtain ⟨ho, hF⟩ := rG_shut (g := newG p) S 3 rfl 2 rfl 1 rfl 0 rfl (by decide) (by decide) (by decide) (by decide) (by decide) (by decide)
  exact ⟨_, _, rfl, ho, hF, S.below⟩
end Go.Proofs.Ytldgadmpclgfhaa.Guests
namespace Go.Proofs.Ytldgadmpclgfhaa.Sx
set_option maxRecDepth 100000
open Go.ChangeShapes Go.WideShapes Go.ChangeAt Go.RowKit Go.Deep
open Go.Proofs.Ytldgadmpclgfhaa.Base Go.Proofs.Ytldgadmpclgfhaa.Mem Go.Proofs.Ytldgadmpclgfhaa.Data Go.Proofs.Ytldgadmpclgfhaa.Stt Go.Proofs.Ytldgadmpclgfhaa.Draw
set_option linter.unusedVariables false
set_option linter.unusedSimpArgs false
section
variable {α β : Type} {r : Rp α} {P : Program} {n : Nat} {ops : Array Oper} {Q : Exit → Act → World → Prop} {Z : World → Prop} {w0 : World} {T : Tl} {L L' M : List Res} {rest : List Oper} {l : List Oper} {o : Oper} {t : Ord.Ot} {w : World} {x : α} {cs : List Value}
/-- The slots told anew. -/
theorem C.slots {T' : Tl} {c : Code} (h : ∀ a, Ag n T a → Ag n T' a) (k : C P n Q w0 T' L c) : C P n Q w0 T L c := fun a w hA S => k a w (h a hA) S
theorem Fresh.one {w' : World} (q : Res) (hs : q.says w') (h0 : w0.heap.size ≤ w.heap.size) (hl : w.heap.size ≤ q.lo) (hh : q.hi ≤ w'.heap.size) : Fresh w0 w w' [q] :=
  ⟨fun i r h => by
    match i, h with
    | 0, h => cases h; exact hs
    | i + 1, h => simp at h, fun i r h => by
    match i, h with
    | 0, h => cases h; exact Nat.le_trans h0 hl
    | i + 1, h => simp at h, fun i r h => by
    match i, h with
    | 0, h => cases h; exact hh
    | i + 1, h => simp at h, fun i r h k hk => by
    match i, h with
    | 0, h => cases h; exact Nat.le_trans hl (q.inn k hk).1
    | i + 1, h => simp at h, fun i j r s h1 h2 hne => by
    match i, j, h1, h2 with
    | 0, 0, _, _ => exact absurd rfl hne
    | 0, j + 1, _, h2 => simp at h2
    | i + 1, _, h1, _ => simp at h1⟩
theorem Fresh.nil (w0 w w' : World) : Fresh w0 w w' [] := ⟨fun i r h => by simp at h, fun i r h => by simp at h, fun i r h => by simp at h, fun i r h => by simp at h, fun i j r s h => by simp at h⟩
end
end Go.Proofs.Ytldgadmpclgfhaa.Sx
namespace Go.Proofs.Ytldgadmpclgfhaa.Kit
set_option maxRecDepth 100000
open Go.ChangeShapes Go.WideShapes Go.ChangeAt Go.RowKit Go.Deep
open Go.Proofs.Ytldgadmpclgfhaa.Base Go.Proofs.Ytldgadmpclgfhaa.Mem Go.Proofs.Ytldgadmpclgfhaa.Data Go.Proofs.Ytldgadmpclgfhaa.Stt Go.Proofs.Ytldgadmpclgfhaa.Guests Go.Proofs.Ytldgadmpclgfhaa.Ctls Go.Proofs.Ytldgadmpclgfhaa.Exits
set_option linter.unusedVariables false
set_option linter.unusedSimpArgs false
theorem _root_.Go.Proofs.Ytldgadmpclgfhaa.Sx.St.pickT {w0 w : World} {R : List Res} (L L' : List Res) (S : St w0 w (L ++ R)) (is : List Nat) (hL : is.map (fun i => L[i]?) = L'.map some) (hn : is.Nodup) : St w0 w (L' ++ R) := by
  have hlt : ∀ i ∈ is, i < L.length := fun i hi => by
    have h1 : L[i]? ∈ is.map (fun i => L[i]?) := List.mem_map.2 ⟨i, hi, rfl⟩
    rw [hL] at h1
    obtain ⟨s, _, hs⟩ := List.mem_map.1 h1
    exact (List.getElem?_eq_some_iff.1 hs.symm).1
  refine St.pick S (is ++ (List.range R.length).map (fun k => L.length + k)) (L' ++ R) ?_ ?_
  · rw [List.map_append, List.map_append, ← hL]
    congr 1
    · exact List.map_congr_left fun i hi => List.getElem?_append_left (hlt i hi)
    · rw [List.map_map]
      apply List.ext_getElem?
      intro k
      rw [List.getElem?_map, List.getElem?_map]
      rcases Nat.lt_or_ge k R.length with h | h
      · rw [List.getElem?_range h, List.getElem?_eq_getElem h]
        simp [List.getElem?_append_right, h]
      · rw [List.getElem?_eq_none (by simpa using h), List.getElem?_eq_none h]; rfl
  · rw [List.nodup_append]
    refine ⟨hn, ?_, ?_⟩
    · exact List.Pairwise.map (fun k => L.length + k) (fun a b h => by omega) List.nodup_range
    · intro a ha b hb
      obtain ⟨k, _, rfl⟩ := List.mem_map.1 hb
      have := hlt a ha
      omega
set_option maxRecDepth 100000 in
set_option maxHeartbeats 4000000 in
theorem implx_bG (A : Option Addr) (n c : Nat) (w : World)  : Calls Try.prog 94 #[.slice A n c] w (fun e w' => e = .returned (.agg #[.slice A n c, .int .i64 2]) ∧ Below w.heap.size w w') := by
  refine Sx.enter (args := [.slice A n c]) Try.func94 rfl Try.ntmps94 rfl ?_
  refine Sx.C.seq ?_
  refine Sx.C.region ?_
  refine Sx.G.alloc 115 (.agg #[.slice none 0 0, .int .i64 0]) [.slice none 0 0, .int .i64 0] rfl (by kernel_rfl) (fun w => by kernel_rfl) (by kernel_rfl) (fun b1 => ?_)
  refine Sx.G.nil ?_
  refine Sx.E.next ?_
  refine Sx.C.seq ?_
  refine Sx.C.region ?_
  refine Sx.G.pure (.slice A n c) (by kernel_rfl) (fun w => by kernel_rfl) ?_
  refine Sx.G.pure (.agg #[.slice A n c, .int .i64 2]) (by kernel_rfl) (fun w => by kernel_rfl) ?_
  refine Sx.G.sto 115 (.tmp 2) (.tmp 4) b1 0 0 [.slice none 0 0, .int .i64 0] [.slice A n c, .int .i64 2] [.slice A n c, .int .i64 2] [vr b1 [.slice A n c, .int .i64 2]] rfl (by kernel_rfl) (by kernel_rfl) (by kernel_rfl) rfl (by kernel_rfl) rfl (by kernel_rfl) (by kernel_rfl) (by kernel_rfl) ?_
  refine Sx.G.nil ?_
  refine Sx.E.next ?_
  refine Sx.C.ret ?_
  refine Sx.E.retc b1 0 [.slice A n c, .int .i64 2] rfl (by kernel_rfl) rfl (by kernel_rfl) (by kernel_rfl) (fun w S => ?_)
  exact ⟨rfl, S.below⟩
/-- A bounded list behind an item that is added. -/
def addB {α : Type} (xs : List α) (m : Int) (x : α) : List α := if ((xs.length : Nat) : Int) < m then xs ++ [x] else xs
theorem addB_take {α : Type} (l : List α) (x : α) : addB (l.take 2) 2 x = (l ++ [x]).take 2 := by
  unfold addB
  rw [List.take_append, List.length_take]
  split
  · rw [show 2 - l.length = (1 - l.length) + 1 by omega, List.take_succ_cons]; simp
  · rw [show 2 - l.length = 0 by omega]; simp
set_option maxRecDepth 100000 in
set_option maxHeartbeats 4000000 in
theorem implx_addG {w0 w : World} {b : Nat} {R : List Res} (xs : List gT) (x : gT) (m : Int) (A : Option Addr) (c lo hi : Nat) (F : List Nat) (A0 A1 A2 A3 : Option Addr) (c0 c1 c2 c3 : Nat) (lo2 hi2 : Nat) (G : List Nat) (hl : xs.length ≤ 1048577) (S : St w0 w (vr b [.slice A xs.length c, .int .i64 m] :: ow (rLst 51 wG) lo hi xs [.slice A xs.length c] F :: ow wG lo2 hi2 x [.slice A0 x.prog.length c0, .int .i64 x.a, .int .i64 x.pc, .slice A1 x.wr.length c1, .slice A2 x.lv.length c2, .int .i64 x.t.1, .int .i64 x.t.2.1, .bool x.t.2.2, .int .i64 x.pd, .int .i64 x.x.1, .int .i64 x.x.2.1, .bool x.x.2.2.1, .int .i64 x.x.2.2.2, .bool x.hl, .slice A3 x.seen.length c3] G :: R)) : Calls Try.prog 95 #[.pointer (some ⟨b, 0, none⟩), .agg #[.slice A0 x.prog.length c0, .int .i64 x.a, .int .i64 x.pc, .slice A1 x.wr.length c1, .slice A2 x.lv.length c2, .int .i64 x.t.1, .int .i64 x.t.2.1, .bool x.t.2.2, .int .i64 x.pd, .int .i64 x.x.1, .int .i64 x.x.2.1, .bool x.x.2.2.1, .int .i64 x.x.2.2.2, .bool x.hl, .slice A3 x.seen.length c3]] w fun e w' => e = .returned (.tuple #[]) ∧ ∃ A c lo hi F, St w0 w' (vr b [.slice A (addB xs m x).length c, .int .i64 m] :: ow (rLst 51 wG) lo hi (addB xs m x) [.slice A (addB xs m x).length c] F :: R) := by
  have hlx : xs.length ≤ 1048577 := hl
  refine Sx.enterS (args := [.pointer (some ⟨b, 0, none⟩), .agg #[.slice A0 x.prog.length c0, .int .i64 x.a, .int .i64 x.pc, .slice A1 x.wr.length c1, .slice A2 x.lv.length c2, .int .i64 x.t.1, .int .i64 x.t.2.1, .bool x.t.2.2, .int .i64 x.pd, .int .i64 x.x.1, .int .i64 x.x.2.1, .bool x.x.2.2.1, .int .i64 x.x.2.2.2, .bool x.hl, .slice A3 x.seen.length c3]]) S Try.func95 rfl Try.ntmps95 rfl ?_
  refine Sx.C.seq ?_
  refine Sx.C.region ?_
  refine Sx.G.box 51 (.tmp 1) [.slice A0 x.prog.length c0, .int .i64 x.a, .int .i64 x.pc, .slice A1 x.wr.length c1, .slice A2 x.lv.length c2, .int .i64 x.t.1, .int .i64 x.t.2.1, .bool x.t.2.2, .int .i64 x.pd, .int .i64 x.x.1, .int .i64 x.x.2.1, .bool x.x.2.2.1, .int .i64 x.x.2.2.2, .bool x.hl, .slice A3 x.seen.length c3] rfl (by kernel_rfl) (by kernel_rfl) (fun b21 => ?_)
  refine Sx.G.nil ?_
  refine Sx.E.next ?_
  refine Sx.C.seq ?_
  refine Sx.C.draw (.take 0 (.take 1 (.take 2 (.take 3 (.take 4 (.take 5 (.take 6 (.take 7 (.take 8 (.take 9 .nil)))))))))) [vr b [.slice A xs.length c, .int .i64 m]] (fun w S => St.pick S [1] _ rfl (by decide)) (by kernel_rfl) (by kernel_rfl) (by kernel_rfl) ?_
  refine Sx.GT.pure (.pointer (some ⟨b, 0, none⟩)) 0 (by rfl) (by kernel_rfl) (fun w => by kernel_rfl) ?_
  refine Sx.GT.pure (.pointer (some ⟨b, 0, none⟩)) 1 (by rfl) (by kernel_rfl) (fun w => by kernel_rfl) ?_
  refine Sx.GT.pure (.pointer (some ⟨b, 0, none⟩)) 2 (by rfl) (by kernel_rfl) (fun w => by kernel_rfl) ?_
  refine Sx.GT.ld1 25 (.tmp 6) b 0 0 [.slice A xs.length c, .int .i64 m] (.slice A xs.length c) 3 (by rfl) (by rfl) (by kernel_rfl) (by kernel_rfl) (by rfl) (by kernel_rfl) (by kernel_rfl) ?_
  refine Sx.GT.pure (.int .i64 ((xs.length : Nat) : Int)) 4 (by rfl) (by kernel_rfl) (fun w => by kernel_rfl) ?_
  refine Sx.GT.pure (.pointer (some ⟨b, 0, none⟩)) 5 (by rfl) (by kernel_rfl) (fun w => by kernel_rfl) ?_
  refine Sx.GT.pure (.pointer (some ⟨b, 0, none⟩)) 6 (by rfl) (by kernel_rfl) (fun w => by kernel_rfl) ?_
  refine Sx.GT.pure (.pointer (some ⟨b, 1, none⟩)) 7 (by rfl) (by kernel_rfl) (fun w => by kernel_rfl) ?_
  refine Sx.GT.ld1 3 (.tmp 11) b 1 0 [.slice A xs.length c, .int .i64 m] (.int .i64 m) 8 (by rfl) (by rfl) (by kernel_rfl) (by kernel_rfl) (by rfl) (by kernel_rfl) (by kernel_rfl) ?_
  refine Sx.GT.pure (.bool (decide (((xs.length : Nat) : Int) < m))) 9 (by rfl) (by kernel_rfl) (fun w => by kernel_rfl) ?_
  refine Sx.GT.nil ?_
  refine Sx.E.next ?_
  cases hc22 : (decide (((xs.length : Nat) : Int) < m))
  · have hb22 := hc22
    replace hc22 := of_decide_eq_false hc22
    refine Sx.C.no (by kernel_rfl) (by kernel_rfl) ?_
    refine Sx.C.skip ?_
    refine Sx.E.end_ ?_
    refine Sx.E.ret0 rfl (fun w S => ?_)
    rw [show addB xs m x = xs from if_neg (by omega)]
    exact ⟨rfl, _, _, _, _, _, Sx.St.pickT [vr b21 [.slice A0 x.prog.length c0, .int .i64 x.a, .int .i64 x.pc, .slice A1 x.wr.length c1, .slice A2 x.lv.length c2, .int .i64 x.t.1, .int .i64 x.t.2.1, .bool x.t.2.2, .int .i64 x.pd, .int .i64 x.x.1, .int .i64 x.x.2.1, .bool x.x.2.2.1, .int .i64 x.x.2.2.2, .bool x.hl, .slice A3 x.seen.length c3], vr b [.slice A xs.length c, .int .i64 m], ow (rLst 51 wG) lo hi xs [.slice A xs.length c] F, ow wG lo2 hi2 x [.slice A0 x.prog.length c0, .int .i64 x.a, .int .i64 x.pc, .slice A1 x.wr.length c1, .slice A2 x.lv.length c2, .int .i64 x.t.1, .int .i64 x.t.2.1, .bool x.t.2.2, .int .i64 x.pd, .int .i64 x.x.1, .int .i64 x.x.2.1, .bool x.x.2.2.1, .int .i64 x.x.2.2.2, .bool x.hl, .slice A3 x.seen.length c3] G] [_, _] S [1, 2] rfl (by decide)⟩
  · have hb22 := hc22
    replace hc22 := of_decide_eq_true hc22
    refine Sx.C.yes (by kernel_rfl) (by kernel_rfl) ?_
    refine Sx.C.cut (fun e a w' => e = .normal ∧ ∃ (Y0 : Nat) (Y1 : Option Addr) (Y2 : Nat) (Y3 : List Nat) (Y4 : Nat), Sx.Ag 24 [] a ∧ St w0 w' (ow (rLst 51 wG) w0.heap.size Y4 ((xs ++ [x])) [.slice Y1 (xs ++ [x]).length Y2] Y3 :: vr b21 [.slice A0 x.prog.length c0, .int .i64 x.a, .int .i64 x.pc, .slice A1 x.wr.length c1, .slice A2 x.lv.length c2, .int .i64 x.t.1, .int .i64 x.t.2.1, .bool x.t.2.2, .int .i64 x.pd, .int .i64 x.x.1, .int .i64 x.x.2.1, .bool x.x.2.2.1, .int .i64 x.x.2.2.2, .bool x.hl, .slice A3 x.seen.length c3] :: vr b [.slice Y1 (xs ++ [x]).length Y2, .int .i64 m] :: R)) ?_ ?_
    · refine Sx.C.draw (.take 0 (.take 1 (.take 2 (.take 3 (.take 5 (.two 4 (.alone 6 (.alone 7 (.take 8 (.take 9 (.alone 10 .nil))))) 6 (.alone 4 (.alone 7 (.take 8 (.take 9 (.alone 10 .nil))))))))))) [vr b21 [.slice A0 x.prog.length c0, .int .i64 x.a, .int .i64 x.pc, .slice A1 x.wr.length c1, .slice A2 x.lv.length c2, .int .i64 x.t.1, .int .i64 x.t.2.1, .bool x.t.2.2, .int .i64 x.pd, .int .i64 x.x.1, .int .i64 x.x.2.1, .bool x.x.2.2.1, .int .i64 x.x.2.2.2, .bool x.hl, .slice A3 x.seen.length c3]] (fun w S => St.pick S [0] _ rfl (by decide)) (by kernel_rfl) (by kernel_rfl) (by kernel_rfl) ?_
      refine Sx.GT.pure (.pointer (some ⟨b, 0, none⟩)) 0 (by rfl) (by kernel_rfl) (fun w => by kernel_rfl) ?_
      refine Sx.GT.pure (.pointer (some ⟨b, 0, none⟩)) 1 (by rfl) (by kernel_rfl) (fun w => by kernel_rfl) ?_
      refine Sx.GT.pure (.pointer (some ⟨b, 0, none⟩)) 2 (by rfl) (by kernel_rfl) (fun w => by kernel_rfl) ?_
      refine Sx.GT.pure (.pointer (some ⟨b, 0, none⟩)) 3 (by rfl) (by kernel_rfl) (fun w => by kernel_rfl) ?_
      refine Sx.GT.ld 51 (.tmp 3) b21 0 0 [.slice A0 x.prog.length c0, .int .i64 x.a, .int .i64 x.pc, .slice A1 x.wr.length c1, .slice A2 x.lv.length c2, .int .i64 x.t.1, .int .i64 x.t.2.1, .bool x.t.2.2, .int .i64 x.pd, .int .i64 x.x.1, .int .i64 x.x.2.1, .bool x.x.2.2.1, .int .i64 x.x.2.2.2, .bool x.hl, .slice A3 x.seen.length c3] [.slice A0 x.prog.length c0, .int .i64 x.a, .int .i64 x.pc, .slice A1 x.wr.length c1, .slice A2 x.lv.length c2, .int .i64 x.t.1, .int .i64 x.t.2.1, .bool x.t.2.2, .int .i64 x.pd, .int .i64 x.x.1, .int .i64 x.x.2.1, .bool x.x.2.2.1, .int .i64 x.x.2.2.2, .bool x.hl, .slice A3 x.seen.length c3] 5 (by rfl) (by rfl) (by kernel_rfl) (by kernel_rfl) (by rfl) (by kernel_rfl) (by kernel_rfl) (by kernel_rfl) ?_
      refine Sx.GT.two ?_ ?_
      · refine Sx.Alone.ld1 25 (.tmp 17) b 0 1 [.slice A xs.length c, .int .i64 m] (.slice A xs.length c) (by rfl) (by rfl) (by kernel_rfl) (by kernel_rfl) (by rfl) (by kernel_rfl) (by kernel_rfl) (fun w S => St.pick S [0] _ rfl (by decide)) ?_
        refine Sx.GT.alone (Sx.Alone.made 51 [.slice A0 x.prog.length c0, .int .i64 x.a, .int .i64 x.pc, .slice A1 x.wr.length c1, .slice A2 x.lv.length c2, .int .i64 x.t.1, .int .i64 x.t.2.1, .bool x.t.2.2, .int .i64 x.pd, .int .i64 x.x.1, .int .i64 x.x.2.1, .bool x.x.2.2.1, .int .i64 x.x.2.2.2, .bool x.hl, .slice A3 x.seen.length c3] 1 (by rfl) (by kernel_rfl) (fun w => by kernel_rfl) (fun w S => St.pick S [0] _ rfl (by decide)) (fun b23 => ?_))
        refine Sx.GT.claims (L' := (ow (rLst 51 wG) lo hi xs [.slice A xs.length c] F :: ow wG lo2 hi2 x [.slice A0 x.prog.length c0, .int .i64 x.a, .int .i64 x.pc, .slice A1 x.wr.length c1, .slice A2 x.lv.length c2, .int .i64 x.t.1, .int .i64 x.t.2.1, .bool x.t.2.2, .int .i64 x.pd, .int .i64 x.x.1, .int .i64 x.x.2.1, .bool x.x.2.2.1, .int .i64 x.x.2.2.2, .bool x.hl, .slice A3 x.seen.length c3] G :: vr b23 [.slice A0 x.prog.length c0, .int .i64 x.a, .int .i64 x.pc, .slice A1 x.wr.length c1, .slice A2 x.lv.length c2, .int .i64 x.t.1, .int .i64 x.t.2.1, .bool x.t.2.2, .int .i64 x.pd, .int .i64 x.x.1, .int .i64 x.x.2.1, .bool x.x.2.2.1, .int .i64 x.x.2.2.2, .bool x.hl, .slice A3 x.seen.length c3] :: vr b21 [.slice A0 x.prog.length c0, .int .i64 x.a, .int .i64 x.pc, .slice A1 x.wr.length c1, .slice A2 x.lv.length c2, .int .i64 x.t.1, .int .i64 x.t.2.1, .bool x.t.2.2, .int .i64 x.pd, .int .i64 x.x.1, .int .i64 x.x.2.1, .bool x.x.2.2.1, .int .i64 x.x.2.2.2, .bool x.hl, .slice A3 x.seen.length c3] :: vr b [.slice A xs.length c, .int .i64 m] :: R)) (fun w S => Sx.St.pickT [vr b23 [.slice A0 x.prog.length c0, .int .i64 x.a, .int .i64 x.pc, .slice A1 x.wr.length c1, .slice A2 x.lv.length c2, .int .i64 x.t.1, .int .i64 x.t.2.1, .bool x.t.2.2, .int .i64 x.pd, .int .i64 x.x.1, .int .i64 x.x.2.1, .bool x.x.2.2.1, .int .i64 x.x.2.2.2, .bool x.hl, .slice A3 x.seen.length c3], vr b21 [.slice A0 x.prog.length c0, .int .i64 x.a, .int .i64 x.pc, .slice A1 x.wr.length c1, .slice A2 x.lv.length c2, .int .i64 x.t.1, .int .i64 x.t.2.1, .bool x.t.2.2, .int .i64 x.pd, .int .i64 x.x.1, .int .i64 x.x.2.1, .bool x.x.2.2.1, .int .i64 x.x.2.2.2, .bool x.hl, .slice A3 x.seen.length c3], vr b [.slice A xs.length c, .int .i64 m], ow (rLst 51 wG) lo hi xs [.slice A xs.length c] F, ow wG lo2 hi2 x [.slice A0 x.prog.length c0, .int .i64 x.a, .int .i64 x.pc, .slice A1 x.wr.length c1, .slice A2 x.lv.length c2, .int .i64 x.t.1, .int .i64 x.t.2.1, .bool x.t.2.2, .int .i64 x.pd, .int .i64 x.x.1, .int .i64 x.x.2.1, .bool x.x.2.2.1, .int .i64 x.x.2.2.2, .bool x.hl, .slice A3 x.seen.length c3] G] [ow (rLst 51 wG) lo hi xs [.slice A xs.length c] F, ow wG lo2 hi2 x [.slice A0 x.prog.length c0, .int .i64 x.a, .int .i64 x.pc, .slice A1 x.wr.length c1, .slice A2 x.lv.length c2, .int .i64 x.t.1, .int .i64 x.t.2.1, .bool x.t.2.2, .int .i64 x.pd, .int .i64 x.x.1, .int .i64 x.x.2.1, .bool x.x.2.2.1, .int .i64 x.x.2.2.2, .bool x.hl, .slice A3 x.seen.length c3] G, vr b23 [.slice A0 x.prog.length c0, .int .i64 x.a, .int .i64 x.pc, .slice A1 x.wr.length c1, .slice A2 x.lv.length c2, .int .i64 x.t.1, .int .i64 x.t.2.1, .bool x.t.2.2, .int .i64 x.pd, .int .i64 x.x.1, .int .i64 x.x.2.1, .bool x.x.2.2.1, .int .i64 x.x.2.2.2, .bool x.hl, .slice A3 x.seen.length c3], vr b21 [.slice A0 x.prog.length c0, .int .i64 x.a, .int .i64 x.pc, .slice A1 x.wr.length c1, .slice A2 x.lv.length c2, .int .i64 x.t.1, .int .i64 x.t.2.1, .bool x.t.2.2, .int .i64 x.pd, .int .i64 x.x.1, .int .i64 x.x.2.1, .bool x.x.2.2.1, .int .i64 x.x.2.2.2, .bool x.hl, .slice A3 x.seen.length c3], vr b [.slice A xs.length c, .int .i64 m]] S [3, 4, 0, 1, 2] rfl (by decide)) ?_
        refine Sx.GT.alone (Sx.Alone.appr (.tmp 18) (.tmp 20) 25 15 184 1 (by rfl) (by rfl) (by kernel_rfl) (by kernel_rfl) (by rfl) (by kernel_rfl) (by kernel_rfl) (by kernel_rfl) (by simp only [maxLen]; omega) (by omega) (xs ++ [x]) (by rfl) (xs ++ [x]).length (by simp) (fun A24 c24 F24 hi24 w S => St.pick S [1] _ rfl (by decide)) (fun A24 c24 F24 hi24 hm24 => ?_))
        refine Sx.GT.pure (.pointer (some ⟨b, 0, none⟩)) 8 (by rfl) (by kernel_rfl) (fun w => by kernel_rfl) ?_
        refine Sx.GT.pure (.pointer (some ⟨b, 0, none⟩)) 9 (by rfl) (by kernel_rfl) (fun w => by kernel_rfl) ?_
        refine Sx.GT.alone (Sx.Alone.sto 25 (.tmp 23) (.tmp 21) b 0 2 [.slice A xs.length c, .int .i64 m] [.slice A24 (xs ++ [x]).length c24] [.slice A24 (xs ++ [x]).length c24, .int .i64 m] (ow (rLst 51 wG) w0.heap.size hi24 ((xs ++ [x])) [.slice A24 (xs ++ [x]).length c24] F24 :: vr b21 [.slice A0 x.prog.length c0, .int .i64 x.a, .int .i64 x.pc, .slice A1 x.wr.length c1, .slice A2 x.lv.length c2, .int .i64 x.t.1, .int .i64 x.t.2.1, .bool x.t.2.2, .int .i64 x.pd, .int .i64 x.x.1, .int .i64 x.x.2.1, .bool x.x.2.2.1, .int .i64 x.x.2.2.2, .bool x.hl, .slice A3 x.seen.length c3] :: vr b [.slice A24 (xs ++ [x]).length c24, .int .i64 m] :: R) (by rfl) (by rfl) (by kernel_rfl) (by kernel_rfl) (by kernel_rfl) (by rfl) (by kernel_rfl) (by rfl) (by kernel_rfl) (by kernel_rfl) (by kernel_rfl) (fun w S => St.pick S [1] _ rfl (by decide)) ?_)
        exact Sx.GT.nil (fun a w' hA S => ⟨rfl, 0, A24, c24, F24, hi24, (Sx.Ag.none hA), Sx.St.pickT [ow (rLst 51 wG) w0.heap.size hi24 ((xs ++ [x])) [.slice A24 (xs ++ [x]).length c24] F24, vr b21 [.slice A0 x.prog.length c0, .int .i64 x.a, .int .i64 x.pc, .slice A1 x.wr.length c1, .slice A2 x.lv.length c2, .int .i64 x.t.1, .int .i64 x.t.2.1, .bool x.t.2.2, .int .i64 x.pd, .int .i64 x.x.1, .int .i64 x.x.2.1, .bool x.x.2.2.1, .int .i64 x.x.2.2.2, .bool x.hl, .slice A3 x.seen.length c3], vr b [.slice A24 (xs ++ [x]).length c24, .int .i64 m]] [_, _, _] S [0, 1, 2] rfl (by decide)⟩)
      · refine Sx.Alone.made 51 [.slice A0 x.prog.length c0, .int .i64 x.a, .int .i64 x.pc, .slice A1 x.wr.length c1, .slice A2 x.lv.length c2, .int .i64 x.t.1, .int .i64 x.t.2.1, .bool x.t.2.2, .int .i64 x.pd, .int .i64 x.x.1, .int .i64 x.x.2.1, .bool x.x.2.2.1, .int .i64 x.x.2.2.2, .bool x.hl, .slice A3 x.seen.length c3] 1 (by rfl) (by kernel_rfl) (fun w => by kernel_rfl) (fun w S => St.pick S [0] _ rfl (by decide)) (fun b25 => ?_)
        refine Sx.GT.alone (Sx.Alone.ld1 25 (.tmp 17) b 0 2 [.slice A xs.length c, .int .i64 m] (.slice A xs.length c) (by rfl) (by rfl) (by kernel_rfl) (by kernel_rfl) (by rfl) (by kernel_rfl) (by kernel_rfl) (fun w S => St.pick S [1] _ rfl (by decide)) ?_)
        refine Sx.GT.claims (L' := (ow (rLst 51 wG) lo hi xs [.slice A xs.length c] F :: ow wG lo2 hi2 x [.slice A0 x.prog.length c0, .int .i64 x.a, .int .i64 x.pc, .slice A1 x.wr.length c1, .slice A2 x.lv.length c2, .int .i64 x.t.1, .int .i64 x.t.2.1, .bool x.t.2.2, .int .i64 x.pd, .int .i64 x.x.1, .int .i64 x.x.2.1, .bool x.x.2.2.1, .int .i64 x.x.2.2.2, .bool x.hl, .slice A3 x.seen.length c3] G :: vr b25 [.slice A0 x.prog.length c0, .int .i64 x.a, .int .i64 x.pc, .slice A1 x.wr.length c1, .slice A2 x.lv.length c2, .int .i64 x.t.1, .int .i64 x.t.2.1, .bool x.t.2.2, .int .i64 x.pd, .int .i64 x.x.1, .int .i64 x.x.2.1, .bool x.x.2.2.1, .int .i64 x.x.2.2.2, .bool x.hl, .slice A3 x.seen.length c3] :: vr b21 [.slice A0 x.prog.length c0, .int .i64 x.a, .int .i64 x.pc, .slice A1 x.wr.length c1, .slice A2 x.lv.length c2, .int .i64 x.t.1, .int .i64 x.t.2.1, .bool x.t.2.2, .int .i64 x.pd, .int .i64 x.x.1, .int .i64 x.x.2.1, .bool x.x.2.2.1, .int .i64 x.x.2.2.2, .bool x.hl, .slice A3 x.seen.length c3] :: vr b [.slice A xs.length c, .int .i64 m] :: R)) (fun w S => Sx.St.pickT [vr b25 [.slice A0 x.prog.length c0, .int .i64 x.a, .int .i64 x.pc, .slice A1 x.wr.length c1, .slice A2 x.lv.length c2, .int .i64 x.t.1, .int .i64 x.t.2.1, .bool x.t.2.2, .int .i64 x.pd, .int .i64 x.x.1, .int .i64 x.x.2.1, .bool x.x.2.2.1, .int .i64 x.x.2.2.2, .bool x.hl, .slice A3 x.seen.length c3], vr b21 [.slice A0 x.prog.length c0, .int .i64 x.a, .int .i64 x.pc, .slice A1 x.wr.length c1, .slice A2 x.lv.length c2, .int .i64 x.t.1, .int .i64 x.t.2.1, .bool x.t.2.2, .int .i64 x.pd, .int .i64 x.x.1, .int .i64 x.x.2.1, .bool x.x.2.2.1, .int .i64 x.x.2.2.2, .bool x.hl, .slice A3 x.seen.length c3], vr b [.slice A xs.length c, .int .i64 m], ow (rLst 51 wG) lo hi xs [.slice A xs.length c] F, ow wG lo2 hi2 x [.slice A0 x.prog.length c0, .int .i64 x.a, .int .i64 x.pc, .slice A1 x.wr.length c1, .slice A2 x.lv.length c2, .int .i64 x.t.1, .int .i64 x.t.2.1, .bool x.t.2.2, .int .i64 x.pd, .int .i64 x.x.1, .int .i64 x.x.2.1, .bool x.x.2.2.1, .int .i64 x.x.2.2.2, .bool x.hl, .slice A3 x.seen.length c3] G] [ow (rLst 51 wG) lo hi xs [.slice A xs.length c] F, ow wG lo2 hi2 x [.slice A0 x.prog.length c0, .int .i64 x.a, .int .i64 x.pc, .slice A1 x.wr.length c1, .slice A2 x.lv.length c2, .int .i64 x.t.1, .int .i64 x.t.2.1, .bool x.t.2.2, .int .i64 x.pd, .int .i64 x.x.1, .int .i64 x.x.2.1, .bool x.x.2.2.1, .int .i64 x.x.2.2.2, .bool x.hl, .slice A3 x.seen.length c3] G, vr b25 [.slice A0 x.prog.length c0, .int .i64 x.a, .int .i64 x.pc, .slice A1 x.wr.length c1, .slice A2 x.lv.length c2, .int .i64 x.t.1, .int .i64 x.t.2.1, .bool x.t.2.2, .int .i64 x.pd, .int .i64 x.x.1, .int .i64 x.x.2.1, .bool x.x.2.2.1, .int .i64 x.x.2.2.2, .bool x.hl, .slice A3 x.seen.length c3], vr b21 [.slice A0 x.prog.length c0, .int .i64 x.a, .int .i64 x.pc, .slice A1 x.wr.length c1, .slice A2 x.lv.length c2, .int .i64 x.t.1, .int .i64 x.t.2.1, .bool x.t.2.2, .int .i64 x.pd, .int .i64 x.x.1, .int .i64 x.x.2.1, .bool x.x.2.2.1, .int .i64 x.x.2.2.2, .bool x.hl, .slice A3 x.seen.length c3], vr b [.slice A xs.length c, .int .i64 m]] S [3, 4, 0, 1, 2] rfl (by decide)) ?_
        refine Sx.GT.alone (Sx.Alone.appr (.tmp 18) (.tmp 20) 25 15 184 1 (by rfl) (by rfl) (by kernel_rfl) (by kernel_rfl) (by rfl) (by kernel_rfl) (by kernel_rfl) (by kernel_rfl) (by simp only [maxLen]; omega) (by omega) (xs ++ [x]) (by rfl) (xs ++ [x]).length (by simp) (fun A26 c26 F26 hi26 w S => St.pick S [1] _ rfl (by decide)) (fun A26 c26 F26 hi26 hm26 => ?_))
        refine Sx.GT.pure (.pointer (some ⟨b, 0, none⟩)) 8 (by rfl) (by kernel_rfl) (fun w => by kernel_rfl) ?_
        refine Sx.GT.pure (.pointer (some ⟨b, 0, none⟩)) 9 (by rfl) (by kernel_rfl) (fun w => by kernel_rfl) ?_
        refine Sx.GT.alone (Sx.Alone.sto 25 (.tmp 23) (.tmp 21) b 0 2 [.slice A xs.length c, .int .i64 m] [.slice A26 (xs ++ [x]).length c26] [.slice A26 (xs ++ [x]).length c26, .int .i64 m] (ow (rLst 51 wG) w0.heap.size hi26 ((xs ++ [x])) [.slice A26 (xs ++ [x]).length c26] F26 :: vr b21 [.slice A0 x.prog.length c0, .int .i64 x.a, .int .i64 x.pc, .slice A1 x.wr.length c1, .slice A2 x.lv.length c2, .int .i64 x.t.1, .int .i64 x.t.2.1, .bool x.t.2.2, .int .i64 x.pd, .int .i64 x.x.1, .int .i64 x.x.2.1, .bool x.x.2.2.1, .int .i64 x.x.2.2.2, .bool x.hl, .slice A3 x.seen.length c3] :: vr b [.slice A26 (xs ++ [x]).length c26, .int .i64 m] :: R) (by rfl) (by rfl) (by kernel_rfl) (by kernel_rfl) (by kernel_rfl) (by rfl) (by kernel_rfl) (by rfl) (by kernel_rfl) (by kernel_rfl) (by kernel_rfl) (fun w S => St.pick S [1] _ rfl (by decide)) ?_)
        exact Sx.GT.nil (fun a w' hA S => ⟨rfl, 0, A26, c26, F26, hi26, (Sx.Ag.none hA), Sx.St.pickT [ow (rLst 51 wG) w0.heap.size hi26 ((xs ++ [x])) [.slice A26 (xs ++ [x]).length c26] F26, vr b21 [.slice A0 x.prog.length c0, .int .i64 x.a, .int .i64 x.pc, .slice A1 x.wr.length c1, .slice A2 x.lv.length c2, .int .i64 x.t.1, .int .i64 x.t.2.1, .bool x.t.2.2, .int .i64 x.pd, .int .i64 x.x.1, .int .i64 x.x.2.1, .bool x.x.2.2.1, .int .i64 x.x.2.2.2, .bool x.hl, .slice A3 x.seen.length c3], vr b [.slice A26 (xs ++ [x]).length c26, .int .i64 m]] [_, _, _] S [0, 1, 2] rfl (by decide)⟩)
    rintro e a w' ⟨rfl, y27_0, y27_1, y27_2, y27_3, y27_4, hA, S⟩
    refine Sx.E.out ?_ hA S
    clear hA S a w'
    refine Sx.E.end_ ?_
    refine Sx.E.ret0 rfl (fun w S => ?_)
    rw [show addB xs m x = xs ++ [x] from if_pos (by omega)]
    exact ⟨rfl, _, _, _, _, _, Sx.St.pickT [ow (rLst 51 wG) w0.heap.size y27_4 ((xs ++ [x])) [.slice y27_1 (xs ++ [x]).length y27_2] y27_3, vr b21 [.slice A0 x.prog.length c0, .int .i64 x.a, .int .i64 x.pc, .slice A1 x.wr.length c1, .slice A2 x.lv.length c2, .int .i64 x.t.1, .int .i64 x.t.2.1, .bool x.t.2.2, .int .i64 x.pd, .int .i64 x.x.1, .int .i64 x.x.2.1, .bool x.x.2.2.1, .int .i64 x.x.2.2.2, .bool x.hl, .slice A3 x.seen.length c3], vr b [.slice y27_1 (xs ++ [x]).length y27_2, .int .i64 m]] [_, _] S [2, 0] rfl (by decide)⟩
set_option maxRecDepth 100000 in
set_option maxHeartbeats 4000000 in
theorem implx_newguests (xs : List (List (Int × Int))) (A : Option Addr) (c : Nat) (w : World) (hc : (rLsw (rLsw (rPair rInt rInt))).cap xs) (h : rdLst (rLsw (rPair rInt rInt)) w 0 w.heap.size xs [.slice A xs.length c]) : Calls Try.prog 40 #[.slice A xs.length c] w (Gives (rLsw wG) w ((xs.take 2).map newG)) := by
  obtain ⟨hl, hce⟩ := hc
  refine Sx.enter (args := [.slice A xs.length c]) Try.func40 rfl Try.ntmps40 rfl ?_
  refine Sx.C.seq ?_
  refine Sx.C.region ?_
  refine Sx.G.pure (.slice none 0 0) (by kernel_rfl) (fun w => by kernel_rfl) ?_
  refine Sx.G.nil ?_
  refine Sx.E.next ?_
  refine Sx.C.seq ?_
  refine Sx.C.region ?_
  refine Sx.G.plain 94 #[.slice none 0 0] (.agg #[.slice none 0 0, .int .i64 2]) (by kernel_rfl) (fun w => by kernel_rfl) (fun w S => by exact implx_bG none 0 0 _) ?_
  refine Sx.G.alloc 115 (.agg #[.slice none 0 0, .int .i64 0]) [.slice none 0 0, .int .i64 0] rfl (by kernel_rfl) (fun w => by kernel_rfl) (by kernel_rfl) (fun b1 => ?_)
  refine Sx.G.sto 115 (.tmp 3) (.tmp 6) b1 0 0 [.slice none 0 0, .int .i64 0] [.slice none 0 0, .int .i64 2] [.slice none 0 0, .int .i64 2] [vr b1 [.slice none 0 0, .int .i64 2]] rfl (by kernel_rfl) (by kernel_rfl) (by kernel_rfl) rfl (by kernel_rfl) rfl (by kernel_rfl) (by kernel_rfl) (by kernel_rfl) ?_
  refine Sx.G.nil ?_
  refine Sx.E.next ?_
  refine Sx.C.seq ?_
  refine Sx.C.seq ?_
  refine Sx.C.region ?_
  refine Sx.G.pure (.slice A xs.length c) (by kernel_rfl) (fun w => by kernel_rfl) ?_
  refine Sx.G.pure (.int .i64 ((xs.length : Nat) : Int)) (by kernel_rfl) (fun w => by kernel_rfl) ?_
  refine Sx.G.pure (.int .i64 0) (by kernel_rfl) (fun w => by kernel_rfl) ?_
  refine Sx.G.nil ?_
  refine Sx.E.next ?_
  refine Sx.C.block ?_
  refine Sx.C.loop (α := Nat × Option Addr × Nat × Nat × Nat × List Nat) (fun x => x.1 ≤ xs.length) (fun x => [(9, .int .i64 (x.1 : Int)), (2, .slice none 0 0), (3, .pointer (some ⟨b1, 0, none⟩)), (7, .slice A xs.length c), (8, .int .i64 ((xs.length : Nat) : Int))]) (fun x => [vr b1 [.slice x.2.1 (((xs.take x.1).map newG).take 2).length x.2.2.1, .int .i64 2], ow (rLst 51 wG) x.2.2.2.1 x.2.2.2.2.1 ((((xs.take x.1).map newG).take 2)) [.slice x.2.1 (((xs.take x.1).map newG).take 2).length x.2.2.1] x.2.2.2.2.2]) (fun x => xs.length - x.1) (0, none, 0, w.heap.size, w.heap.size, []) (Nat.zero_le _) (fun a hA => (Sx.Ag.and hA (Sx.Ag.and hA (Sx.Ag.and hA (Sx.Ag.and hA (Sx.Ag.and hA (Sx.Ag.none hA) _ _ (by kernel_rfl)) _ _ (by kernel_rfl)) _ _ (by kernel_rfl)) _ _ (by kernel_rfl)) _ _ (by kernel_rfl))) (fun w' S => by have S2 := Sx.St.nil0 S 51 wG; exact St.pick S2 [1, 0] _ rfl (by decide)) (fun x hx => ?_)
  obtain ⟨i, xA, xc, xl, xh, xF⟩ := x
  dsimp only at hx
  refine Sx.C.seq ?_
  refine Sx.C.region ?_
  refine Sx.G.pure (.bool (decide ((i : Int) < ((xs.length : Nat) : Int)))) (by kernel_rfl) (fun w => by kernel_rfl) ?_
  refine Sx.G.nil ?_
  refine Sx.E.next ?_
  refine Sx.C.seq ?_
  cases hc2 : (decide ((i : Int) < ((xs.length : Nat) : Int)))
  · have hb2 := hc2
    replace hc2 := of_decide_eq_false hc2
    refine Sx.C.no (by kernel_rfl) (by kernel_rfl) ?_
    refine Sx.C.exit ?_
    refine Sx.E.then_exit ?_
    refine Sx.E.then_exit ?_
    refine Sx.E.block_hit ?_
    refine Sx.E.next ?_
    refine Sx.C.seq ?_
    refine Sx.C.region ?_
    refine Sx.G.pure (.pointer (some ⟨b1, 0, none⟩)) (by kernel_rfl) (fun w => by kernel_rfl) ?_
    refine Sx.G.ld1 25 (.tmp 17) b1 0 0 [.slice xA (((xs.take i).map newG).take 2).length xc, .int .i64 2] (.slice xA (((xs.take i).map newG).take 2).length xc) rfl (by kernel_rfl) (by kernel_rfl) rfl (by kernel_rfl) (by kernel_rfl) ?_
    refine Sx.G.pure (.slice xA (((xs.take i).map newG).take 2).length xc) (by kernel_rfl) (fun w => by kernel_rfl) ?_
    refine Sx.G.nil ?_
    refine Sx.E.next ?_
    refine Sx.C.ret ?_
    refine Sx.E.ret1 (.slice xA (((xs.take i).map newG).take 2).length xc) rfl (by kernel_rfl) (fun w S => ?_)
    have htk : xs.take i = xs := List.take_of_length_le (by omega)
    rw [htk, ← List.map_take] at S
    rw [htk, ← List.map_take]
    obtain ⟨GW, S⟩ := S.weak 1 rfl
    exact ⟨[_], _, rfl, S.own 1 rfl, S.nodup 1 rfl, S.below⟩
  · have hb2 := hc2
    replace hc2 := of_decide_eq_true hc2
    refine Sx.C.yes (by kernel_rfl) (by kernel_rfl) ?_
    refine Sx.C.skip ?_
    refine Sx.E.next ?_
    refine Sx.C.seq ?_
    refine Sx.C.block ?_
    refine Sx.C.seq ?_
    refine Sx.C.region ?_
    obtain ⟨b3, f3, es3, eA3, hr3, hl3, hm3⟩ := Sx.old_elem (by decide) h i (by omega)
    subst eA3
    obtain ⟨x3, hx3⟩ : ∃ z_, z_ = (xs[i]'(by omega)) := ⟨_, rfl⟩
    rw [← hx3] at hr3
    have hle3 : x3.length ≤ 1048576 := (hce _ (hx3 ▸ List.getElem_mem _)).1
    replace hr3 : rdLst (rPair rInt rInt) w 0 w.heap.size x3 es3 := hr3
    obtain ⟨P3, rfl⟩ := lst_rd hr3
    obtain ⟨A3, c3, e3, -⟩ := lst_val hr3
    subst e3
    refine Sx.G.elem 30 44 (.tmp 7) (.tmp 9) 1 24 b3 f3 xs.length c i rfl (by kernel_rfl) (by kernel_rfl) (by kernel_rfl) (by kernel_rfl) (by omega) ?_
    refine Sx.G.ldr1 44 (.tmp 11) b3 ((f3 + i * 1) + 0) (.slice A3 x3.length c3) rfl (by kernel_rfl) (by kernel_rfl) (fun w S => hm3 w _ S 0 _ rfl) (by kernel_rfl) ?_
    refine Sx.G.pure (.slice A3 x3.length c3) (by kernel_rfl) (fun w => by kernel_rfl) ?_
    refine Sx.G.nil ?_
    refine Sx.E.next ?_
    refine Sx.C.region ?_
    refine Sx.G.pure (.slice A3 x3.length c3) (by kernel_rfl) (fun w => by kernel_rfl) ?_
    refine Sx.G.call 96 #[.slice A3 x3.length c3] (by kernel_rfl) (fun w => by kernel_rfl) (fun w4 S => (((Guests.impl_gnew_g x3 A3 c3 _ (hce _ (hx3 ▸ List.getElem_mem _)).1 (St.old (r := (rLsw (rPair rInt rInt))) S hr3)).mono weak_G)).mono fun e w4' hp => ?_)
    obtain ⟨cs, F, rfl, ho, hF, hb⟩ := hp
    obtain ⟨P4_0, P4_1, P4_2, P4_3, rfl, f4_0, f4_1, f4_2, f4_3⟩ := wG_rd (wG.reads ho)
    obtain ⟨A4_0, c4_0, e4_0, -⟩ := lst_val f4_0
    subst e4_0
    obtain ⟨A4_1, c4_1, e4_1, -⟩ := lst_val f4_1
    subst e4_1
    obtain ⟨A4_2, c4_2, e4_2, -⟩ := lst_val f4_2
    subst e4_2
    obtain ⟨A4_3, c4_3, e4_3, -⟩ := lst_val f4_3
    subst e4_3
    generalize F = F4 at ho hF
    refine ⟨_, _, rfl, (St.got S hb ho hF), ?_⟩
    clear S hb ho hF f4_0 f4_1 f4_2 f4_3
    refine Sx.G.call 95 #[.pointer (some ⟨b1, 0, none⟩), .agg #[.slice A4_0 (newG x3).prog.length c4_0, .int .i64 (newG x3).a, .int .i64 (newG x3).pc, .slice A4_1 (newG x3).wr.length c4_1, .slice A4_2 (newG x3).lv.length c4_2, .int .i64 (newG x3).t.1, .int .i64 (newG x3).t.2.1, .bool (newG x3).t.2.2, .int .i64 (newG x3).pd, .int .i64 (newG x3).x.1, .int .i64 (newG x3).x.2.1, .bool (newG x3).x.2.2.1, .int .i64 (newG x3).x.2.2.2, .bool (newG x3).hl, .slice A4_3 (newG x3).seen.length c4_3]] (by kernel_rfl) (fun w => by kernel_rfl) (fun w5 S => (implx_addG (((xs.take i).map newG).take 2) (newG x3) 2 _ _ _ _ _ _ _ _ _ _ _ _ _ _ _ _ (by rw [List.length_take]; omega) (St.pick S [1, 2, 0] (vr b1 [.slice xA (((xs.take i).map newG).take 2).length xc, .int .i64 2] :: ow (rLst 51 wG) xl xh ((((xs.take i).map newG).take 2)) [.slice xA (((xs.take i).map newG).take 2).length xc] xF :: ow wG w4.heap.size w4'.heap.size (newG x3) [.slice A4_0 (newG x3).prog.length c4_0, .int .i64 (newG x3).a, .int .i64 (newG x3).pc, .slice A4_1 (newG x3).wr.length c4_1, .slice A4_2 (newG x3).lv.length c4_2, .int .i64 (newG x3).t.1, .int .i64 (newG x3).t.2.1, .bool (newG x3).t.2.2, .int .i64 (newG x3).pd, .int .i64 (newG x3).x.1, .int .i64 (newG x3).x.2.1, .bool (newG x3).x.2.2.1, .int .i64 (newG x3).x.2.2.2, .bool (newG x3).hl, .slice A4_3 (newG x3).seen.length c4_3] F4 :: []) rfl (by decide))).mono fun e w5' hp => ?_)
    obtain ⟨rfl, A5, c5, l5, h5, F5, S'⟩ := hp
    rw [show addB (((xs.take i).map newG).take 2) 2 (newG x3) = (((xs.take (i + 1)).map newG).take 2) by rw [addB_take, Kit.take_step (show i < xs.length by omega), List.map_append, hx3]; rfl] at S'
    refine ⟨_, _, rfl, S', ?_⟩
    clear S S'
    refine Sx.G.nil ?_
    refine Sx.E.block_normal ?_
    refine Sx.E.next ?_
    refine Sx.C.region ?_
    refine Sx.G.pureq (.int .i64 (IntKind.i64.wrap ((i : Int) + 1))) (.int .i64 ((i + 1 : Nat) : Int)) (by kernel_rfl) (fun w => by kernel_rfl) (congrArg (Value.int .i64) (Sx.wrap_up i (by omega))) ?_
    refine Sx.G.pure (.int .i64 ((i + 1 : Nat) : Int)) (by kernel_rfl) (fun w => by kernel_rfl) ?_
    refine Sx.G.nil ?_
    exact Sx.E.again (i + 1, A5, c5, l5, h5, F5) (show i + 1 ≤ xs.length by omega) (by show xs.length - (i + 1) < xs.length - i; omega) (fun a hA => (Sx.Ag.and hA (Sx.Ag.and hA (Sx.Ag.and hA (Sx.Ag.and hA (Sx.Ag.and hA (Sx.Ag.none hA) _ _ (by kernel_rfl)) _ _ (by kernel_rfl)) _ _ (by kernel_rfl)) _ _ (by kernel_rfl)) _ _ (by kernel_rfl))) (fun w' S => St.pick S [0, 1] _ rfl (by decide))
set_option maxRecDepth 100000 in
set_option maxHeartbeats 4000000 in
theorem implx_memnew (p : Int) (w : World)  : Calls Try.prog 39 #[.int .i64 p] w (Gives (rLsw (rLsw rInt)) w (List.replicate (Grid.newN p) ([0, 0, 0, 0] : List Int))) := by
  obtain ⟨m, hm, hm24⟩ : ∃ m : Nat, BroughtW.brought p 0 24 = (m : Int) ∧ m ≤ 24 := ⟨Grid.newN p, Grid.newN_eq p, Grid.newN_le p⟩
  have hmm : Grid.newN p = m := by have := Grid.newN_eq p; omega
  refine Sx.enter (args := [.int .i64 p]) Try.func39 rfl Try.ntmps39 rfl ?_
  refine Sx.C.seq ?_
  refine Sx.C.region ?_
  refine Sx.G.pure (.slice none 0 0) (by kernel_rfl) (fun w => by kernel_rfl) ?_
  refine Sx.G.nil ?_
  refine Sx.E.next ?_
  refine Sx.C.seq ?_
  refine Sx.C.region ?_
  refine Sx.G.pure (.int .i64 p) (by kernel_rfl) (fun w => by kernel_rfl) ?_
  refine Sx.G.plain 93 #[.int .i64 p, .int .i64 0, .int .i64 24] (.int .i64 ((m : Nat) : Int)) (by kernel_rfl) (fun w => by kernel_rfl) (fun w S => by exact ((BroughtW.impl_any p 0 24 _).mono fun e w' h => And.intro (h.1.trans (by rw [hm])) (Guests.below_same h.2))) ?_
  refine Sx.G.mks (r := (rLsw rInt)) ([] : List Int) [.slice none 0 0] 24 26 (.tmp 6) (.tmp 6) 1 24 m rfl (by kernel_rfl) (by kernel_rfl) (by kernel_rfl) rfl rfl (fun w lo hi => Kit.own_nil _ _ _) (by kernel_rfl) (by kernel_rfl) (by simp only [maxLen]; omega) (by omega) (fun b1 hi1 F1 => ?_)
  refine Sx.G.pure (.slice (some ⟨b1, 0, none⟩) m m) (by kernel_rfl) (fun w => by kernel_rfl) ?_
  refine Sx.G.nil ?_
  refine Sx.E.next ?_
  refine Sx.C.seq ?_
  refine Sx.C.seq ?_
  refine Sx.C.region ?_
  refine Sx.G.pure (.slice (some ⟨b1, 0, none⟩) m m) (by kernel_rfl) (fun w => by kernel_rfl) ?_
  refine Sx.G.pure (.int .i64 ((m : Nat) : Int)) (by kernel_rfl) (fun w => by kernel_rfl) ?_
  refine Sx.G.pure (.int .i64 0) (by kernel_rfl) (fun w => by kernel_rfl) ?_
  refine Sx.G.nil ?_
  refine Sx.E.next ?_
  refine Sx.C.block ?_
  refine Sx.C.loop (α := Nat × Nat × List Nat) (fun x => x.1 ≤ m) (fun x => [(10, .int .i64 (x.1 : Int)), (2, .slice none 0 0), (3, .slice (some ⟨b1, 0, none⟩) m m), (9, .int .i64 ((m : Nat) : Int))]) (fun x => [ow (rLsw (rLsw rInt)) w.heap.size x.2.1 (List.replicate x.1 ([0, 0, 0, 0] : List Int) ++ List.replicate (m - x.1) ([] : List Int)) [.slice (some ⟨b1, 0, none⟩) m m] x.2.2]) (fun x => m - x.1) (0, hi1, F1) (Nat.zero_le _) (fun a hA => (Sx.Ag.and hA (Sx.Ag.and hA (Sx.Ag.and hA (Sx.Ag.and hA (Sx.Ag.none hA) _ _ (by kernel_rfl)) _ _ (by kernel_rfl)) _ _ (by kernel_rfl)) _ _ (by kernel_rfl))) (fun w' S => by have S2 := Sx.St.widen S 0 rfl (Nat.le_refl _) (S.hi 0 _ rfl); exact S2) (fun x hx => ?_)
  obtain ⟨i, hi, F⟩ := x
  dsimp only at hx
  obtain hi' := hx
  refine Sx.C.seq ?_
  refine Sx.C.region ?_
  refine Sx.G.pure (.bool (decide ((i : Int) < ((m : Nat) : Int)))) (by kernel_rfl) (fun w => by kernel_rfl) ?_
  refine Sx.G.nil ?_
  refine Sx.E.next ?_
  refine Sx.C.seq ?_
  cases hc2 : (decide ((i : Int) < ((m : Nat) : Int)))
  · have hb2 := hc2
    replace hc2 := of_decide_eq_false hc2
    refine Sx.C.no (by kernel_rfl) (by kernel_rfl) ?_
    refine Sx.C.exit ?_
    refine Sx.E.then_exit ?_
    refine Sx.E.then_exit ?_
    refine Sx.E.block_hit ?_
    refine Sx.E.next ?_
    refine Sx.C.seq ?_
    refine Sx.C.region ?_
    refine Sx.G.pure (.slice (some ⟨b1, 0, none⟩) m m) (by kernel_rfl) (fun w => by kernel_rfl) ?_
    refine Sx.G.pure (.slice (some ⟨b1, 0, none⟩) m m) (by kernel_rfl) (fun w => by kernel_rfl) ?_
    refine Sx.G.nil ?_
    refine Sx.E.next ?_
    refine Sx.C.ret ?_
    refine Sx.E.ret1 (.slice (some ⟨b1, 0, none⟩) m m) rfl (by kernel_rfl) (fun w S => ?_)
    obtain rfl : i = m := by omega
    rw [show i - i = 0 by omega, List.replicate_zero, List.append_nil] at S
    rw [hmm]
    have hll : (List.replicate i ([0, 0, 0, 0] : List Int)).length = i := List.length_replicate ..
    exact ⟨[_], F, rfl, S.own 0 rfl, S.nodup 0 rfl, S.below⟩
  · have hb2 := hc2
    replace hc2 := of_decide_eq_true hc2
    refine Sx.C.yes (by kernel_rfl) (by kernel_rfl) ?_
    refine Sx.C.skip ?_
    refine Sx.E.next ?_
    refine Sx.C.seq ?_
    have hlt : i < m := by omega
    refine Sx.C.open (r := (rLsw rInt)) (pre := List.replicate i ([0, 0, 0, 0] : List Int)) (x := ([] : List Int)) (post := List.replicate (m - (i + 1)) ([] : List Int)) (by rw [show m - i = (m - (i + 1)) + 1 by omega, List.replicate_succ]) (by decide) (fun b off es F1 Fi F2 eA eF hes hm2 hmc => ?_)
    obtain ⟨rfl, rfl⟩ : b1 = b ∧ 0 = off := by cases eA; exact ⟨rfl, rfl⟩
    subst eF
    refine Sx.C.know (p := ∃ A0 c0, es = [.slice A0 0 c0]) (fun w S => Kit.open_nil (St.at_ S 1 rfl).1) ?_
    rintro ⟨z0, d0, rfl⟩
    refine Sx.C.block ?_
    refine Sx.C.seq ?_
    refine Sx.C.region ?_
    refine Sx.G.pure (.int .i64 (i : Int)) (by kernel_rfl) (fun w => by kernel_rfl) ?_
    refine Sx.G.pure (.int .i64 (i : Int)) (by kernel_rfl) (fun w => by kernel_rfl) ?_
    refine Sx.G.nil ?_
    refine Sx.E.next ?_
    refine Sx.C.region ?_
    refine Sx.G.pure (.slice (some ⟨b1, 0, none⟩) m m) (by kernel_rfl) (fun w => by kernel_rfl) ?_
    refine Sx.G.pure (.int .i64 (i : Int)) (by kernel_rfl) (fun w => by kernel_rfl) ?_
    refine Sx.G.mks (r := rInt) (0 : Int) [.int .i64 0] 26 3 (.const (.int .i64 4)) (.const (.int .i64 4)) 1 8 4 rfl (by kernel_rfl) (by kernel_rfl) (by kernel_rfl) rfl rfl (fun w lo hi => Kit.own_mk_Int w lo hi 0) (by kernel_rfl) (by kernel_rfl) (by decide) (by decide) (fun b3 hi3 F3 => ?_)
    refine Sx.G.elem 24 26 (.tmp 13) (.tmp 14) 1 24 b1 0 m m i rfl (by kernel_rfl) (by kernel_rfl) (by kernel_rfl) (by kernel_rfl) (by omega) ?_
    refine Sx.G.hsto (k := i) (size := 1) 26 (.tmp 16) (.tmp 15) b1 ((0 + i * 1) + 0) 0 1 [.slice (some ⟨b3, 0, none⟩) 4 4] [.slice (some ⟨b3, 0, none⟩) 4 4] [ow (rLsw rInt) b3 hi3 ([0, 0, 0, 0] : List Int) [.slice (some ⟨b3, 0, none⟩) 4 4] F3, Sx.hole (rLsw rInt) b1 0 w.heap.size hi (List.replicate i ([0, 0, 0, 0] : List Int)) (List.replicate (m - (i + 1)) ([] : List Int)) [.slice (some ⟨b3, 0, none⟩) 4 4] F1 F2, ow (rLsw rInt) w.heap.size hi ([] : List Int) [.slice z0 0 d0] Fi] rfl (by kernel_rfl) (by kernel_rfl) (by kernel_rfl) rfl (by rw [List.length_replicate]) rfl rfl rfl rfl (by kernel_rfl) (by kernel_rfl) (by kernel_rfl) ?_
    refine Sx.G.nil ?_
    refine Sx.E.block_normal ?_
    refine Sx.E.next ?_
    refine Sx.C.region ?_
    refine Sx.G.pureq (.int .i64 (IntKind.i64.wrap ((i : Int) + 1))) (.int .i64 ((i + 1 : Nat) : Int)) (by kernel_rfl) (fun w => by kernel_rfl) (congrArg (Value.int .i64) (Sx.wrap_up i (by omega))) ?_
    refine Sx.G.pure (.int .i64 ((i + 1 : Nat) : Int)) (by kernel_rfl) (fun w => by kernel_rfl) ?_
    refine Sx.G.nil ?_
    exact Sx.E.again (i + 1, max hi hi3, _) (show i + 1 ≤ m by omega) (show m - (i + 1) < m - i by omega) (fun a hA => (Sx.Ag.and hA (Sx.Ag.and hA (Sx.Ag.and hA (Sx.Ag.and hA (Sx.Ag.none hA) _ _ (by kernel_rfl)) _ _ (by kernel_rfl)) _ _ (by kernel_rfl)) _ _ (by kernel_rfl))) (fun w' S => by
      replace S := St.pick S [1, 0] [_, _] rfl (by decide)
      have S3 := Sx.St.closeW S (by decide) m m (by simp; omega) hmc
      rw [show List.replicate i ([0, 0, 0, 0] : List Int) ++ ([0, 0, 0, 0] : List Int) :: List.replicate (m - (i + 1)) ([] : List Int) = List.replicate (i + 1) ([0, 0, 0, 0] : List Int) ++ List.replicate (m - (i + 1)) ([] : List Int) by rw [List.replicate_succ', List.append_assoc]; rfl] at S3
      exact S3
      )
set_option maxRecDepth 100000 in
set_option maxHeartbeats 4000000 in
theorem impl_bnew (x : List (List (Int × Int))) (A : Option Addr) (c : Nat) (w : World) (hn : (rLsw (rLsw (rPair rInt rInt))).wf x) (hc : (rLsw (rLsw (rPair rInt rInt))).cap x) (h : rdLst (rLsw (rPair rInt rInt)) w 0 w.heap.size x [.slice A x.length c]) : Calls Try.prog 12 #[.slice A x.length c] w (Gives wB w (newB x)) := by
  refine Sx.enter (args := [.slice A x.length c]) Try.func12 rfl Try.ntmps12 rfl ?_
  refine Sx.C.seq ?_
  refine Sx.C.region ?_
  refine Sx.G.alloc 28 (.agg #[.slice none 0 0, .slice none 0 0, .slice none 0 0, .int .i64 0]) [.slice none 0 0, .slice none 0 0, .slice none 0 0, .int .i64 0] rfl (by kernel_rfl) (fun w => by kernel_rfl) (by kernel_rfl) (fun b1 => ?_)
  refine Sx.G.nil ?_
  refine Sx.E.next ?_
  refine Sx.C.seq ?_
  refine Sx.C.region ?_
  refine Sx.G.call 39 #[.int .i64 8] (by kernel_rfl) (fun w => by kernel_rfl) (fun w2 S => (implx_memnew 8 _).mono fun e w2' hp => ?_)
  rw [show Grid.newN 8 = 8 by decide] at hp
  obtain ⟨cs, F, rfl, ho, hF, hb⟩ := hp
  obtain ⟨u2, rfl⟩ := lsw_own ho
  obtain ⟨A2, c2, e2, -⟩ := lst_val ((rLsw _).reads ho)
  subst e2
  generalize F = F2 at ho hF
  refine ⟨_, _, rfl, (St.got S hb ho hF), ?_⟩
  clear S hb ho hF
  refine Sx.G.pure (.slice A x.length c) (by kernel_rfl) (fun w => by kernel_rfl) ?_
  refine Sx.G.call 40 #[.slice A x.length c] (by kernel_rfl) (fun w => by kernel_rfl) (fun w3 S => (implx_newguests x A c _ hc (St.old (r := (rLsw (rLsw (rPair rInt rInt)))) S h)).mono fun e w3' hp => ?_)
  obtain ⟨cs, F, rfl, ho, hF, hb⟩ := hp
  obtain ⟨u3, rfl⟩ := lsw_own ho
  obtain ⟨A3, c3, e3, -⟩ := lst_val ((rLsw _).reads ho)
  subst e3
  generalize F = F3 at ho hF
  refine ⟨_, _, rfl, (St.got S hb ho hF), ?_⟩
  clear S hb ho hF
  refine Sx.G.pure (.agg #[.slice A2 (List.replicate 8 ([0, 0, 0, 0] : List Int)).length c2, .slice A3 ((x.take 2).map newG).length c3, .slice none 0 0, .int .i64 0]) (by kernel_rfl) (fun w => by kernel_rfl) ?_
  refine Sx.G.sto 28 (.tmp 2) (.tmp 6) b1 0 2 [.slice none 0 0, .slice none 0 0, .slice none 0 0, .int .i64 0] [.slice A2 (List.replicate 8 ([0, 0, 0, 0] : List Int)).length c2, .slice A3 ((x.take 2).map newG).length c3, .slice none 0 0, .int .i64 0] [.slice A2 (List.replicate 8 ([0, 0, 0, 0] : List Int)).length c2, .slice A3 ((x.take 2).map newG).length c3, .slice none 0 0, .int .i64 0] [ow (rLsw wG) w3.heap.size w3'.heap.size ((x.take 2).map newG) [.slice A3 ((x.take 2).map newG).length c3] F3, ow (rLsw (rLsw rInt)) w2.heap.size w2'.heap.size (List.replicate 8 ([0, 0, 0, 0] : List Int)) [.slice A2 (List.replicate 8 ([0, 0, 0, 0] : List Int)).length c2] F2, vr b1 [.slice A2 (List.replicate 8 ([0, 0, 0, 0] : List Int)).length c2, .slice A3 ((x.take 2).map newG).length c3, .slice none 0 0, .int .i64 0]] rfl (by kernel_rfl) (by kernel_rfl) (by kernel_rfl) rfl (by kernel_rfl) rfl (by kernel_rfl) (by kernel_rfl) (by kernel_rfl) ?_
  refine Sx.G.nil ?_
  refine Sx.E.next ?_
  refine Sx.C.ret ?_
  refine Sx.E.retc b1 2 [.slice A2 (List.replicate 8 ([0, 0, 0, 0] : List Int)).length c2, .slice A3 ((x.take 2).map newG).length c3, .slice none 0 0, .int .i64 0] rfl (by kernel_rfl) rfl (by kernel_rfl) (by kernel_rfl) (fun w S => ?_)
  replace S := St.nil S 3 rInt
  obtain ⟨ho, hF⟩ := rB_shut (g := newB x) S 2 rfl 1 rfl 0 rfl (by decide) (by decide) (by decide)
  exact weak_B _ _ ⟨_, _, rfl, ho, hF, S.below⟩
end Go.Proofs.Ytldgadmpclgfhaa.Kit
namespace Go.Proofs.Ytldgadmpclgfhaa.fnExactBareNew
set_option maxRecDepth 100000
open Go.ChangeShapes Go.WideShapes Go.ChangeAt Go.RowKit
open Go.Proofs.Ytldgadmpclgfhaa.Base Go.Proofs.Ytldgadmpclgfhaa.Mem Go.Proofs.Ytldgadmpclgfhaa.Data Go.Proofs.Ytldgadmpclgfhaa.Stt Go.Proofs.Ytldgadmpclgfhaa.Kit Go.Proofs.Ytldgadmpclgfhaa.Guests Go.Proofs.Ytldgadmpclgfhaa.Ctls Go.Proofs.Ytldgadmpclgfhaa.Exits
set_option linter.unusedVariables false
set_option linter.unusedSimpArgs false
set_option maxRecDepth 100000 in
set_option maxHeartbeats 8000000 in
theorem walk (w : World) (x0 : (List (List (Int × Int)))) (A0 : Option Addr) (c0 : Nat) (hw0 : (rLsw (rLsw (rPair rInt rInt))).wf x0) (h0 : rdLst (rLsw (rPair rInt rInt)) w 0 w.heap.size x0 [.slice A0 x0.length c0]) :
    Calls Try.prog 3 #[.slice A0 x0.length c0] w fun e w' => e = .returned (.bool true) ∧ Below w.heap.size w w' := by
  refine Sx.enter (args := [.slice A0 x0.length c0]) Try.func3 rfl Try.ntmps3 rfl ?_
  refine Sx.C.seq ?_
  refine Sx.C.region ?_
  refine Sx.G.pure (.bool false) (by kernel_rfl) (fun w => by kernel_rfl) ?_
  refine Sx.G.nil ?_
  refine Sx.E.next ?_
  refine Sx.C.seq ?_
  refine Sx.C.region ?_
  refine Sx.G.pure (.int .i64 1048576) (by kernel_rfl) (fun w => by kernel_rfl) ?_
  refine Sx.G.nil ?_
  refine Sx.E.next ?_
  refine Sx.C.seq ?_
  refine Sx.C.region ?_
  refine Sx.G.pure (.slice A0 x0.length c0) (by kernel_rfl) (fun w => by kernel_rfl) ?_
  refine Sx.G.pure (.int .i64 1048576) (by kernel_rfl) (fun w => by kernel_rfl) ?_
  refine Sx.G.call 9 #[.slice A0 x0.length c0, .int .i64 1048576] (by kernel_rfl) (fun w => by kernel_rfl) (fun w1 S => (Kit.ksz_InsSS x0 A0 c0 1048576 _ hw0 (by omega) (by omega) (St.old (r := (rLsw (rLsw (rPair rInt rInt)))) S h0)).mono fun e w1' hp => ?_)
  obtain ⟨l1, rfl, hs0, hb⟩ := hp
  unfold Kit.Sz at hs0
  refine ⟨_, _, rfl, (S.call hb), ?_⟩
  clear S hb
  refine Sx.G.pure (.int .i64 l1) (by kernel_rfl) (fun w => by kernel_rfl) ?_
  refine Sx.G.nil ?_
  refine Sx.E.next ?_
  refine Sx.C.seq ?_
  refine Sx.C.seq ?_
  refine Sx.C.region ?_
  refine Sx.G.pure (.int .i64 l1) (by kernel_rfl) (fun w => by kernel_rfl) ?_
  refine Sx.G.pure (.bool (decide (l1 < 0))) (by kernel_rfl) (fun w => by kernel_rfl) ?_
  refine Sx.G.nil ?_
  refine Sx.E.next ?_
  cases hc2 : (decide (l1 < 0))
  · have hb2 := hc2
    replace hc2 := of_decide_eq_false hc2
    have hc0 := Kit.capz_InsSS x0 (by omega)
    have hz0 := Kit.cntz_InsSS x0
    have hcc0 : cntAll (rLsw (rPair rInt rInt)) x0 = (rLsw (rLsw (rPair rInt rInt))).cnt x0 := rfl
    have hcapr0 : wB.cap (newB x0) := cap_newB hc0
    have hres0 : wB.size (newB x0) ≤ 4000000 := by have h1 := size_newB x0; have h2 : (rLsw (rLsw (rPair rInt rInt))).size x0 = x0.length + sizeAll (rLsw (rPair rInt rInt)) x0 := rfl; omega
    obtain ⟨y0, hy0⟩ : ∃ y, y = newB x0 := ⟨_, rfl⟩
    rw [← hy0] at hres0 hcapr0
    have hd0 := hcapr0
    have hzr0 := Kit.tcntz_Bare y0
    refine Sx.C.no (by kernel_rfl) (by kernel_rfl) ?_
    refine Sx.C.skip ?_
    refine Sx.E.next ?_
    refine Sx.C.seq ?_
    refine Sx.C.region ?_
    refine Sx.G.pure (.slice A0 x0.length c0) (by kernel_rfl) (fun w => by kernel_rfl) ?_
    refine Sx.G.call 11 #[.slice A0 x0.length c0] (by kernel_rfl) (fun w => by kernel_rfl) (fun w3 S => (Kit.kto_InsSS x0 A0 c0 _ hc0 (St.old (r := (rLsw (rLsw (rPair rInt rInt)))) S h0)).mono fun e w3' hp => ?_)
    obtain ⟨cs, F, rfl, ho, hF, hb⟩ := hp
    obtain ⟨u3, rfl⟩ := lsw_own ho
    obtain ⟨A3_0, c3_0, e3_0, -⟩ := lst_val ((rLsw _).reads ho)
    subst e3_0
    generalize F = F3 at ho hF
    refine ⟨_, _, rfl, (St.got S hb ho hF), ?_⟩
    clear S hb ho hF
    refine Sx.G.call 10 #[.slice A3_0 x0.length c3_0] (by kernel_rfl) (fun w => by kernel_rfl) (fun w4 S => ((((specx_bnew x0 _ _ _ hc0 (St.reads S 0 rfl)).mono weak_B).mono fun e w' h => hy0 ▸ h)).mono fun e w4' hp => ?_)
    obtain ⟨cs, F, rfl, ho, hF, hb⟩ := hp
    obtain ⟨P4_0, P4_1, P4_2, rfl, f4_0, f4_1, f4_2⟩ := wB_rd (wB.reads ho)
    obtain ⟨A4_0, c4_0, e4_0, -⟩ := lst_val f4_0
    subst e4_0
    obtain ⟨A4_1, c4_1, e4_1, -⟩ := lst_val f4_1
    subst e4_1
    obtain ⟨A4_2, c4_2, e4_2, -⟩ := lst_val f4_2
    subst e4_2
    generalize F = F4 at ho hF
    refine ⟨_, _, rfl, (St.got S hb ho hF), ?_⟩
    clear S hb ho hF f4_0 f4_1 f4_2
    refine Sx.G.alloc 28 (.agg #[.slice none 0 0, .slice none 0 0, .slice none 0 0, .int .i64 0]) [.slice none 0 0, .slice none 0 0, .slice none 0 0, .int .i64 0] rfl (by kernel_rfl) (fun w => by kernel_rfl) (by kernel_rfl) (fun b5 => ?_)
    refine Sx.G.sto 28 (.tmp 4) (.tmp 18) b5 0 0 [.slice none 0 0, .slice none 0 0, .slice none 0 0, .int .i64 0] [.slice A4_0 y0.mem.length c4_0, .slice A4_1 y0.gs.length c4_1, .slice A4_2 y0.outs.length c4_2, .int .i64 y0.pd] [.slice A4_0 y0.mem.length c4_0, .slice A4_1 y0.gs.length c4_1, .slice A4_2 y0.outs.length c4_2, .int .i64 y0.pd] [vr b5 [.slice A4_0 y0.mem.length c4_0, .slice A4_1 y0.gs.length c4_1, .slice A4_2 y0.outs.length c4_2, .int .i64 y0.pd], ow wB w4.heap.size w4'.heap.size y0 [.slice A4_0 y0.mem.length c4_0, .slice A4_1 y0.gs.length c4_1, .slice A4_2 y0.outs.length c4_2, .int .i64 y0.pd] F4, ow (rLsw (rLsw (rPair rInt rInt))) w3.heap.size w3'.heap.size x0 [.slice A3_0 x0.length c3_0] F3] rfl (by kernel_rfl) (by kernel_rfl) (by kernel_rfl) rfl (by kernel_rfl) rfl (by kernel_rfl) (by kernel_rfl) (by kernel_rfl) ?_
    refine Sx.G.nil ?_
    refine Sx.E.next ?_
    refine Sx.C.seq ?_
    refine Sx.C.region ?_
    refine Sx.G.pure (.slice A0 x0.length c0) (by kernel_rfl) (fun w => by kernel_rfl) ?_
    refine Sx.G.call 11 #[.slice A0 x0.length c0] (by kernel_rfl) (fun w => by kernel_rfl) (fun w6 S => (Kit.kto_InsSS x0 A0 c0 _ hc0 (St.old (r := (rLsw (rLsw (rPair rInt rInt)))) S h0)).mono fun e w6' hp => ?_)
    obtain ⟨cs, F, rfl, ho, hF, hb⟩ := hp
    obtain ⟨u6, rfl⟩ := lsw_own ho
    obtain ⟨A6_0, c6_0, e6_0, -⟩ := lst_val ((rLsw _).reads ho)
    subst e6_0
    generalize F = F6 at ho hF
    refine ⟨_, _, rfl, (St.got S hb ho hF), ?_⟩
    clear S hb ho hF
    refine Sx.G.pure (.slice A6_0 x0.length c6_0) (by kernel_rfl) (fun w => by kernel_rfl) ?_
    refine Sx.G.nil ?_
    refine Sx.E.next ?_
    refine Sx.C.seq ?_
    refine Sx.C.region ?_
    refine Sx.G.pure (.slice A6_0 x0.length c6_0) (by kernel_rfl) (fun w => by kernel_rfl) ?_
    refine Sx.G.call 12 #[.slice A6_0 x0.length c6_0] (by kernel_rfl) (fun w => by kernel_rfl) (fun w7 S => (((impl_bnew x0 _ _ _ hw0 hc0 (St.reads S 0 rfl)).mono fun e w' h => hy0 ▸ h)).mono fun e w7' hp => ?_)
    obtain ⟨cs, F, rfl, ho, hF, hb⟩ := hp
    obtain ⟨P7_0, P7_1, P7_2, rfl, f7_0, f7_1, f7_2⟩ := wB_rd (wB.reads ho)
    obtain ⟨A7_0, c7_0, e7_0, -⟩ := lst_val f7_0
    subst e7_0
    obtain ⟨A7_1, c7_1, e7_1, -⟩ := lst_val f7_1
    subst e7_1
    obtain ⟨A7_2, c7_2, e7_2, -⟩ := lst_val f7_2
    subst e7_2
    generalize F = F7 at ho hF
    refine ⟨_, _, rfl, (St.got S hb ho hF), ?_⟩
    clear S hb ho hF f7_0 f7_1 f7_2
    refine Sx.G.alloc 28 (.agg #[.slice none 0 0, .slice none 0 0, .slice none 0 0, .int .i64 0]) [.slice none 0 0, .slice none 0 0, .slice none 0 0, .int .i64 0] rfl (by kernel_rfl) (fun w => by kernel_rfl) (by kernel_rfl) (fun b8 => ?_)
    refine Sx.G.sto 28 (.tmp 6) (.tmp 22) b8 0 0 [.slice none 0 0, .slice none 0 0, .slice none 0 0, .int .i64 0] [.slice A7_0 y0.mem.length c7_0, .slice A7_1 y0.gs.length c7_1, .slice A7_2 y0.outs.length c7_2, .int .i64 y0.pd] [.slice A7_0 y0.mem.length c7_0, .slice A7_1 y0.gs.length c7_1, .slice A7_2 y0.outs.length c7_2, .int .i64 y0.pd] [vr b8 [.slice A7_0 y0.mem.length c7_0, .slice A7_1 y0.gs.length c7_1, .slice A7_2 y0.outs.length c7_2, .int .i64 y0.pd], ow wB w7.heap.size w7'.heap.size y0 [.slice A7_0 y0.mem.length c7_0, .slice A7_1 y0.gs.length c7_1, .slice A7_2 y0.outs.length c7_2, .int .i64 y0.pd] F7, ow (rLsw (rLsw (rPair rInt rInt))) w6.heap.size w6'.heap.size x0 [.slice A6_0 x0.length c6_0] F6, vr b5 [.slice A4_0 y0.mem.length c4_0, .slice A4_1 y0.gs.length c4_1, .slice A4_2 y0.outs.length c4_2, .int .i64 y0.pd], ow wB w4.heap.size w4'.heap.size y0 [.slice A4_0 y0.mem.length c4_0, .slice A4_1 y0.gs.length c4_1, .slice A4_2 y0.outs.length c4_2, .int .i64 y0.pd] F4, ow (rLsw (rLsw (rPair rInt rInt))) w3.heap.size w3'.heap.size x0 [.slice A3_0 x0.length c3_0] F3] rfl (by kernel_rfl) (by kernel_rfl) (by kernel_rfl) rfl (by kernel_rfl) rfl (by kernel_rfl) (by kernel_rfl) (by kernel_rfl) ?_
    refine Sx.G.nil ?_
    refine Sx.E.next ?_
    refine Sx.C.seq ?_
    refine Sx.C.seq ?_
    refine Sx.C.region ?_
    refine Sx.G.ld 28 (.tmp 6) b8 0 0 [.slice A7_0 y0.mem.length c7_0, .slice A7_1 y0.gs.length c7_1, .slice A7_2 y0.outs.length c7_2, .int .i64 y0.pd] [.slice A7_0 y0.mem.length c7_0, .slice A7_1 y0.gs.length c7_1, .slice A7_2 y0.outs.length c7_2, .int .i64 y0.pd] rfl (by kernel_rfl) (by kernel_rfl) rfl (by kernel_rfl) (by kernel_rfl) (by kernel_rfl) ?_
    refine Sx.G.ld 28 (.tmp 4) b5 0 3 [.slice A4_0 y0.mem.length c4_0, .slice A4_1 y0.gs.length c4_1, .slice A4_2 y0.outs.length c4_2, .int .i64 y0.pd] [.slice A4_0 y0.mem.length c4_0, .slice A4_1 y0.gs.length c4_1, .slice A4_2 y0.outs.length c4_2, .int .i64 y0.pd] rfl (by kernel_rfl) (by kernel_rfl) rfl (by kernel_rfl) (by kernel_rfl) (by kernel_rfl) ?_
    refine Sx.G.plain 13 #[.agg #[.slice A7_0 y0.mem.length c7_0, .slice A7_1 y0.gs.length c7_1, .slice A7_2 y0.outs.length c7_2, .int .i64 y0.pd], .agg #[.slice A4_0 y0.mem.length c4_0, .slice A4_1 y0.gs.length c4_1, .slice A4_2 y0.outs.length c4_2, .int .i64 y0.pd]] (.bool true) (by kernel_rfl) (fun w => by kernel_rfl) (fun w S => by exact Kit.keq_Bare y0 _ _ _ hd0 (St.reads S 1 rfl) (St.reads S 4 rfl)) ?_
    refine Sx.G.pure (.bool false) (by kernel_rfl) (fun w => by kernel_rfl) ?_
    refine Sx.G.nil ?_
    refine Sx.E.next ?_
    refine Sx.C.no (by kernel_rfl) (by kernel_rfl) ?_
    refine Sx.C.skip ?_
    refine Sx.E.next ?_
    refine Sx.C.seq ?_
    refine Sx.C.seq ?_
    refine Sx.C.region ?_
    refine Sx.G.pure (.slice A6_0 x0.length c6_0) (by kernel_rfl) (fun w => by kernel_rfl) ?_
    refine Sx.G.pure (.slice A0 x0.length c0) (by kernel_rfl) (fun w => by kernel_rfl) ?_
    refine Sx.G.call 11 #[.slice A0 x0.length c0] (by kernel_rfl) (fun w => by kernel_rfl) (fun w9 S => (Kit.kto_InsSS x0 A0 c0 _ hc0 (St.old (r := (rLsw (rLsw (rPair rInt rInt)))) S h0)).mono fun e w9' hp => ?_)
    obtain ⟨cs, F, rfl, ho, hF, hb⟩ := hp
    obtain ⟨u9, rfl⟩ := lsw_own ho
    obtain ⟨A9_0, c9_0, e9_0, -⟩ := lst_val ((rLsw _).reads ho)
    subst e9_0
    generalize F = F9 at ho hF
    refine ⟨_, _, rfl, (St.got S hb ho hF), ?_⟩
    clear S hb ho hF
    refine Sx.G.plain 14 #[.slice A6_0 x0.length c6_0, .slice A9_0 x0.length c9_0] (.bool true) (by kernel_rfl) (fun w => by kernel_rfl) (fun w S => by exact Kit.keq_InsSS x0 A6_0 c6_0 A9_0 c9_0 _ hc0 (St.reads S 3 rfl) (St.reads S 0 rfl)) ?_
    refine Sx.G.pure (.bool false) (by kernel_rfl) (fun w => by kernel_rfl) ?_
    refine Sx.G.nil ?_
    refine Sx.E.next ?_
    refine Sx.C.no (by kernel_rfl) (by kernel_rfl) ?_
    refine Sx.C.skip ?_
    refine Sx.E.next ?_
    refine Sx.C.seq ?_
    refine Sx.C.region ?_
    refine Sx.G.pure (.int .i64 1) (by kernel_rfl) (fun w => by kernel_rfl) ?_
    refine Sx.G.nil ?_
    refine Sx.E.next ?_
    refine Sx.C.seq ?_
    refine Sx.C.region ?_
    refine Sx.G.pure (.slice A6_0 x0.length c6_0) (by kernel_rfl) (fun w => by kernel_rfl) ?_
    refine Sx.G.pure (.int .i64 1) (by kernel_rfl) (fun w => by kernel_rfl) ?_
    obtain ⟨t10, ht10⟩ : ∃ q, q = 1 + (rLsw (rLsw (rPair rInt rInt))).cnt x0 := ⟨_, rfl⟩
    refine Sx.G.call 15 #[.slice A6_0 x0.length c6_0, .int .i64 1] (by kernel_rfl) (fun w => by kernel_rfl) (fun w10 S => (Kit.kmk_InsSS x0 A6_0 c6_0 1 F6 hc0 (by omega) S 3 rfl).mono fun e w10' hp => ?_)
    rw [show cntAll (rLsw (rPair rInt rInt)) x0 = (rLsw (rLsw (rPair rInt rInt))).cnt x0 from rfl, ← ht10] at hp
    obtain ⟨rfl, S'⟩ := hp
    refine ⟨_, _, rfl, S', ?_⟩
    clear S S'
    refine Sx.G.pure (.int .i64 ((t10 : Nat) : Int)) (by kernel_rfl) (fun w => by kernel_rfl) ?_
    refine Sx.G.nil ?_
    refine Sx.E.next ?_
    refine Sx.C.seq ?_
    refine Sx.C.seq ?_
    refine Sx.C.region ?_
    refine Sx.G.pure (.int .i64 ((t10 : Nat) : Int)) (by kernel_rfl) (fun w => by kernel_rfl) ?_
    refine Sx.G.pureq (.bool (decide (((t10 : Nat) : Int) < 0))) (.bool false) (by kernel_rfl) (fun w => by kernel_rfl) (congrArg Value.bool (decide_eq_false (by omega))) ?_
    refine Sx.G.pure (.bool false) (by kernel_rfl) (fun w => by kernel_rfl) ?_
    refine Sx.G.ld 28 (.tmp 6) b8 0 1 [.slice A7_0 y0.mem.length c7_0, .slice A7_1 y0.gs.length c7_1, .slice A7_2 y0.outs.length c7_2, .int .i64 y0.pd] [.slice A7_0 y0.mem.length c7_0, .slice A7_1 y0.gs.length c7_1, .slice A7_2 y0.outs.length c7_2, .int .i64 y0.pd] rfl (by kernel_rfl) (by kernel_rfl) rfl (by kernel_rfl) (by kernel_rfl) (by kernel_rfl) ?_
    refine Sx.G.ld 28 (.tmp 4) b5 0 4 [.slice A4_0 y0.mem.length c4_0, .slice A4_1 y0.gs.length c4_1, .slice A4_2 y0.outs.length c4_2, .int .i64 y0.pd] [.slice A4_0 y0.mem.length c4_0, .slice A4_1 y0.gs.length c4_1, .slice A4_2 y0.outs.length c4_2, .int .i64 y0.pd] rfl (by kernel_rfl) (by kernel_rfl) rfl (by kernel_rfl) (by kernel_rfl) (by kernel_rfl) ?_
    refine Sx.G.plain 13 #[.agg #[.slice A7_0 y0.mem.length c7_0, .slice A7_1 y0.gs.length c7_1, .slice A7_2 y0.outs.length c7_2, .int .i64 y0.pd], .agg #[.slice A4_0 y0.mem.length c4_0, .slice A4_1 y0.gs.length c4_1, .slice A4_2 y0.outs.length c4_2, .int .i64 y0.pd]] (.bool true) (by kernel_rfl) (fun w => by kernel_rfl) (fun w S => by exact Kit.keq_Bare y0 _ _ _ hd0 (St.reads S 2 rfl) (St.reads S 5 rfl)) ?_
    refine Sx.G.pure (.bool false) (by kernel_rfl) (fun w => by kernel_rfl) ?_
    refine Sx.G.pure (.bool false) (by kernel_rfl) (fun w => by kernel_rfl) ?_
    refine Sx.G.nil ?_
    refine Sx.E.next ?_
    refine Sx.C.no (by kernel_rfl) (by kernel_rfl) ?_
    refine Sx.C.skip ?_
    refine Sx.E.next ?_
    refine Sx.C.seq ?_
    refine Sx.C.region ?_
    refine Sx.G.pure (.int .i64 1) (by kernel_rfl) (fun w => by kernel_rfl) ?_
    refine Sx.G.nil ?_
    refine Sx.E.next ?_
    refine Sx.C.seq ?_
    refine Sx.C.region ?_
    refine Sx.G.ld 28 (.tmp 6) b8 0 1 [.slice A7_0 y0.mem.length c7_0, .slice A7_1 y0.gs.length c7_1, .slice A7_2 y0.outs.length c7_2, .int .i64 y0.pd] [.slice A7_0 y0.mem.length c7_0, .slice A7_1 y0.gs.length c7_1, .slice A7_2 y0.outs.length c7_2, .int .i64 y0.pd] rfl (by kernel_rfl) (by kernel_rfl) rfl (by kernel_rfl) (by kernel_rfl) (by kernel_rfl) ?_
    refine Sx.G.pure (.int .i64 1) (by kernel_rfl) (fun w => by kernel_rfl) ?_
    obtain ⟨t11, ht11⟩ : ∃ q, q = 1 + wB.tcnt y0 := ⟨_, rfl⟩
    refine Sx.G.call 16 #[.agg #[.slice A7_0 y0.mem.length c7_0, .slice A7_1 y0.gs.length c7_1, .slice A7_2 y0.outs.length c7_2, .int .i64 y0.pd], .int .i64 1] (by kernel_rfl) (fun w => by kernel_rfl) (fun w11 S => (Kit.kmk_Bare y0 _ 1 F7 hd0 (by omega) S 2 rfl).mono fun e w11' hp => ?_)
    rw [← ht11] at hp
    obtain ⟨rfl, S'⟩ := hp
    refine ⟨_, _, rfl, S', ?_⟩
    clear S S'
    refine Sx.G.pure (.int .i64 ((t11 : Nat) : Int)) (by kernel_rfl) (fun w => by kernel_rfl) ?_
    refine Sx.G.nil ?_
    refine Sx.E.next ?_
    refine Sx.C.seq ?_
    refine Sx.C.region ?_
    refine Sx.G.pure (.int .i64 1) (by kernel_rfl) (fun w => by kernel_rfl) ?_
    refine Sx.G.nil ?_
    refine Sx.E.next ?_
    refine Sx.C.seq ?_
    refine Sx.C.region ?_
    refine Sx.G.ld 28 (.tmp 6) b8 0 1 [.slice A7_0 y0.mem.length c7_0, .slice A7_1 y0.gs.length c7_1, .slice A7_2 y0.outs.length c7_2, .int .i64 y0.pd] [.slice A7_0 y0.mem.length c7_0, .slice A7_1 y0.gs.length c7_1, .slice A7_2 y0.outs.length c7_2, .int .i64 y0.pd] rfl (by kernel_rfl) (by kernel_rfl) rfl (by kernel_rfl) (by kernel_rfl) (by kernel_rfl) ?_
    refine Sx.G.pure (.int .i64 1) (by kernel_rfl) (fun w => by kernel_rfl) ?_
    refine Sx.G.call 17 #[.agg #[.slice A7_0 y0.mem.length c7_0, .slice A7_1 y0.gs.length c7_1, .slice A7_2 y0.outs.length c7_2, .int .i64 y0.pd], .int .i64 1] (by kernel_rfl) (fun w => by kernel_rfl) (fun w12 S => (Kit.khd_Bare y0 _ 1 _ hd0 (by omega) (St.reads S 2 rfl)).mono fun e w12' hp => ?_)
    rw [← ht11] at hp
    obtain ⟨rfl, hb⟩ := hp
    refine ⟨_, _, rfl, (S.call hb), ?_⟩
    clear S hb
    refine Sx.G.pure (.int .i64 ((t11 : Nat) : Int)) (by kernel_rfl) (fun w => by kernel_rfl) ?_
    refine Sx.G.nil ?_
    refine Sx.E.next ?_
    refine Sx.C.seq ?_
    refine Sx.C.seq ?_
    refine Sx.C.region ?_
    refine Sx.G.pure (.int .i64 ((t11 : Nat) : Int)) (by kernel_rfl) (fun w => by kernel_rfl) ?_
    refine Sx.G.pureq (.bool (decide (((t11 : Nat) : Int) < 0))) (.bool false) (by kernel_rfl) (fun w => by kernel_rfl) (congrArg Value.bool (decide_eq_false (by omega))) ?_
    refine Sx.G.nil ?_
    refine Sx.E.next ?_
    refine Sx.C.no (by kernel_rfl) (by kernel_rfl) ?_
    refine Sx.C.skip ?_
    refine Sx.E.next ?_
    refine Sx.C.seq ?_
    refine Sx.C.seq ?_
    refine Sx.C.region ?_
    refine Sx.G.pure (.int .i64 ((t11 : Nat) : Int)) (by kernel_rfl) (fun w => by kernel_rfl) ?_
    refine Sx.G.pure (.int .i64 ((t11 : Nat) : Int)) (by kernel_rfl) (fun w => by kernel_rfl) ?_
    refine Sx.G.pureq (.bool (((t11 : Nat) : Int) != ((t11 : Nat) : Int))) (.bool false) (by kernel_rfl) (fun w => by kernel_rfl) (congrArg Value.bool (bne_self_eq_false _)) ?_
    refine Sx.G.nil ?_
    refine Sx.E.next ?_
    refine Sx.C.no (by kernel_rfl) (by kernel_rfl) ?_
    refine Sx.C.skip ?_
    refine Sx.E.next ?_
    refine Sx.C.seq ?_
    refine Sx.C.region ?_
    refine Sx.G.pure (.slice A0 x0.length c0) (by kernel_rfl) (fun w => by kernel_rfl) ?_
    refine Sx.G.call 11 #[.slice A0 x0.length c0] (by kernel_rfl) (fun w => by kernel_rfl) (fun w13 S => (Kit.kto_InsSS x0 A0 c0 _ hc0 (St.old (r := (rLsw (rLsw (rPair rInt rInt)))) S h0)).mono fun e w13' hp => ?_)
    obtain ⟨cs, F, rfl, ho, hF, hb⟩ := hp
    obtain ⟨u13, rfl⟩ := lsw_own ho
    obtain ⟨A13_0, c13_0, e13_0, -⟩ := lst_val ((rLsw _).reads ho)
    subst e13_0
    generalize F = F13 at ho hF
    refine ⟨_, _, rfl, (St.got S hb ho hF), ?_⟩
    clear S hb ho hF
    refine Sx.G.call 12 #[.slice A13_0 x0.length c13_0] (by kernel_rfl) (fun w => by kernel_rfl) (fun w14 S => (((impl_bnew x0 _ _ _ hw0 hc0 (St.reads S 0 rfl)).mono fun e w' h => hy0 ▸ h)).mono fun e w14' hp => ?_)
    obtain ⟨cs, F, rfl, ho, hF, hb⟩ := hp
    obtain ⟨P14_0, P14_1, P14_2, rfl, f14_0, f14_1, f14_2⟩ := wB_rd (wB.reads ho)
    obtain ⟨A14_0, c14_0, e14_0, -⟩ := lst_val f14_0
    subst e14_0
    obtain ⟨A14_1, c14_1, e14_1, -⟩ := lst_val f14_1
    subst e14_1
    obtain ⟨A14_2, c14_2, e14_2, -⟩ := lst_val f14_2
    subst e14_2
    generalize F = F14 at ho hF
    refine ⟨_, _, rfl, (St.got S hb ho hF), ?_⟩
    clear S hb ho hF f14_0 f14_1 f14_2
    refine Sx.G.alloc 28 (.agg #[.slice none 0 0, .slice none 0 0, .slice none 0 0, .int .i64 0]) [.slice none 0 0, .slice none 0 0, .slice none 0 0, .int .i64 0] rfl (by kernel_rfl) (fun w => by kernel_rfl) (by kernel_rfl) (fun b15 => ?_)
    refine Sx.G.sto 28 (.tmp 10) (.tmp 56) b15 0 0 [.slice none 0 0, .slice none 0 0, .slice none 0 0, .int .i64 0] [.slice A14_0 y0.mem.length c14_0, .slice A14_1 y0.gs.length c14_1, .slice A14_2 y0.outs.length c14_2, .int .i64 y0.pd] [.slice A14_0 y0.mem.length c14_0, .slice A14_1 y0.gs.length c14_1, .slice A14_2 y0.outs.length c14_2, .int .i64 y0.pd] [vr b15 [.slice A14_0 y0.mem.length c14_0, .slice A14_1 y0.gs.length c14_1, .slice A14_2 y0.outs.length c14_2, .int .i64 y0.pd], ow wB w14.heap.size w14'.heap.size y0 [.slice A14_0 y0.mem.length c14_0, .slice A14_1 y0.gs.length c14_1, .slice A14_2 y0.outs.length c14_2, .int .i64 y0.pd] F14, ow (rLsw (rLsw (rPair rInt rInt))) w13.heap.size w13'.heap.size x0 [.slice A13_0 x0.length c13_0] F13, ow (rLsw (rLsw (rPair rInt rInt))) w9.heap.size w9'.heap.size x0 [.slice A9_0 x0.length c9_0] F9, vr b8 [.slice A7_0 y0.mem.length c7_0, .slice A7_1 y0.gs.length c7_1, .slice A7_2 y0.outs.length c7_2, .int .i64 y0.pd], ow wB w7.heap.size w7'.heap.size (wB.top 1 y0) [.slice A7_0 y0.mem.length c7_0, .slice A7_1 y0.gs.length c7_1, .slice A7_2 y0.outs.length c7_2, .int .i64 y0.pd] F7, ow (rLsw (rLsw (rPair rInt rInt))) w6.heap.size w6'.heap.size (mkAll (rLsw (rPair rInt rInt)) 1 x0) [.slice A6_0 x0.length c6_0] F6, vr b5 [.slice A4_0 y0.mem.length c4_0, .slice A4_1 y0.gs.length c4_1, .slice A4_2 y0.outs.length c4_2, .int .i64 y0.pd], ow wB w4.heap.size w4'.heap.size y0 [.slice A4_0 y0.mem.length c4_0, .slice A4_1 y0.gs.length c4_1, .slice A4_2 y0.outs.length c4_2, .int .i64 y0.pd] F4, ow (rLsw (rLsw (rPair rInt rInt))) w3.heap.size w3'.heap.size x0 [.slice A3_0 x0.length c3_0] F3] rfl (by kernel_rfl) (by kernel_rfl) (by kernel_rfl) rfl (by kernel_rfl) rfl (by kernel_rfl) (by kernel_rfl) (by kernel_rfl) ?_
    refine Sx.G.nil ?_
    refine Sx.E.next ?_
    refine Sx.C.seq ?_
    refine Sx.C.seq ?_
    refine Sx.C.region ?_
    refine Sx.G.ld 28 (.tmp 10) b15 0 0 [.slice A14_0 y0.mem.length c14_0, .slice A14_1 y0.gs.length c14_1, .slice A14_2 y0.outs.length c14_2, .int .i64 y0.pd] [.slice A14_0 y0.mem.length c14_0, .slice A14_1 y0.gs.length c14_1, .slice A14_2 y0.outs.length c14_2, .int .i64 y0.pd] rfl (by kernel_rfl) (by kernel_rfl) rfl (by kernel_rfl) (by kernel_rfl) (by kernel_rfl) ?_
    refine Sx.G.ld 28 (.tmp 4) b5 0 7 [.slice A4_0 y0.mem.length c4_0, .slice A4_1 y0.gs.length c4_1, .slice A4_2 y0.outs.length c4_2, .int .i64 y0.pd] [.slice A4_0 y0.mem.length c4_0, .slice A4_1 y0.gs.length c4_1, .slice A4_2 y0.outs.length c4_2, .int .i64 y0.pd] rfl (by kernel_rfl) (by kernel_rfl) rfl (by kernel_rfl) (by kernel_rfl) (by kernel_rfl) ?_
    refine Sx.G.plain 13 #[.agg #[.slice A14_0 y0.mem.length c14_0, .slice A14_1 y0.gs.length c14_1, .slice A14_2 y0.outs.length c14_2, .int .i64 y0.pd], .agg #[.slice A4_0 y0.mem.length c4_0, .slice A4_1 y0.gs.length c4_1, .slice A4_2 y0.outs.length c4_2, .int .i64 y0.pd]] (.bool true) (by kernel_rfl) (fun w => by kernel_rfl) (fun w S => by exact Kit.keq_Bare y0 _ _ _ hd0 (St.reads S 1 rfl) (St.reads S 8 rfl)) ?_
    refine Sx.G.pure (.bool false) (by kernel_rfl) (fun w => by kernel_rfl) ?_
    refine Sx.G.nil ?_
    refine Sx.E.next ?_
    refine Sx.C.no (by kernel_rfl) (by kernel_rfl) ?_
    refine Sx.C.skip ?_
    refine Sx.E.next ?_
    refine Sx.C.seq ?_
    refine Sx.C.region ?_
    refine Sx.G.pure (.int .i64 1) (by kernel_rfl) (fun w => by kernel_rfl) ?_
    refine Sx.G.nil ?_
    refine Sx.E.next ?_
    refine Sx.C.seq ?_
    refine Sx.C.region ?_
    refine Sx.G.ld 28 (.tmp 6) b8 0 4 [.slice A7_0 y0.mem.length c7_0, .slice A7_1 y0.gs.length c7_1, .slice A7_2 y0.outs.length c7_2, .int .i64 y0.pd] [.slice A7_0 y0.mem.length c7_0, .slice A7_1 y0.gs.length c7_1, .slice A7_2 y0.outs.length c7_2, .int .i64 y0.pd] rfl (by kernel_rfl) (by kernel_rfl) rfl (by kernel_rfl) (by kernel_rfl) (by kernel_rfl) ?_
    refine Sx.G.pure (.int .i64 1) (by kernel_rfl) (fun w => by kernel_rfl) ?_
    refine Sx.G.call 17 #[.agg #[.slice A7_0 y0.mem.length c7_0, .slice A7_1 y0.gs.length c7_1, .slice A7_2 y0.outs.length c7_2, .int .i64 y0.pd], .int .i64 1] (by kernel_rfl) (fun w => by kernel_rfl) (fun w16 S => (Kit.khd_Bare y0 _ 1 _ hd0 (by omega) (St.reads S 5 rfl)).mono fun e w16' hp => ?_)
    rw [← ht11] at hp
    obtain ⟨rfl, hb⟩ := hp
    refine ⟨_, _, rfl, (S.call hb), ?_⟩
    clear S hb
    refine Sx.G.pure (.int .i64 ((t11 : Nat) : Int)) (by kernel_rfl) (fun w => by kernel_rfl) ?_
    refine Sx.G.nil ?_
    refine Sx.E.next ?_
    refine Sx.C.seq ?_
    refine Sx.C.seq ?_
    refine Sx.C.region ?_
    refine Sx.G.pure (.int .i64 ((t11 : Nat) : Int)) (by kernel_rfl) (fun w => by kernel_rfl) ?_
    refine Sx.G.pureq (.bool (decide (((t11 : Nat) : Int) < 0))) (.bool false) (by kernel_rfl) (fun w => by kernel_rfl) (congrArg Value.bool (decide_eq_false (by omega))) ?_
    refine Sx.G.nil ?_
    refine Sx.E.next ?_
    refine Sx.C.no (by kernel_rfl) (by kernel_rfl) ?_
    refine Sx.C.skip ?_
    refine Sx.E.next ?_
    refine Sx.C.seq ?_
    refine Sx.C.seq ?_
    refine Sx.C.region ?_
    refine Sx.G.pure (.int .i64 ((t11 : Nat) : Int)) (by kernel_rfl) (fun w => by kernel_rfl) ?_
    refine Sx.G.pure (.int .i64 ((t11 : Nat) : Int)) (by kernel_rfl) (fun w => by kernel_rfl) ?_
    refine Sx.G.pureq (.bool (((t11 : Nat) : Int) != ((t11 : Nat) : Int))) (.bool false) (by kernel_rfl) (fun w => by kernel_rfl) (congrArg Value.bool (bne_self_eq_false _)) ?_
    refine Sx.G.nil ?_
    refine Sx.E.next ?_
    refine Sx.C.no (by kernel_rfl) (by kernel_rfl) ?_
    refine Sx.C.skip ?_
    refine Sx.E.next ?_
    refine Sx.C.seq ?_
    refine Sx.C.region ?_
    refine Sx.G.pure (.bool true) (by kernel_rfl) (fun w => by kernel_rfl) ?_
    refine Sx.G.nil ?_
    refine Sx.E.next ?_
    refine Sx.C.ret ?_
    refine Sx.E.ret1 (.bool true) rfl (by kernel_rfl) (fun w S => ?_)
    exact ⟨rfl, S.below⟩
  · have hb2 := hc2
    replace hc2 := of_decide_eq_true hc2
    refine Sx.C.yes (by kernel_rfl) (by kernel_rfl) ?_
    refine Sx.C.seq ?_
    refine Sx.C.region ?_
    refine Sx.G.pure (.bool true) (by kernel_rfl) (fun w => by kernel_rfl) ?_
    refine Sx.G.nil ?_
    refine Sx.E.next ?_
    refine Sx.C.ret ?_
    refine Sx.E.then_ret ?_
    refine Sx.E.ret1 (.bool true) rfl (by kernel_rfl) (fun w S => ?_)
    exact ⟨rfl, S.below⟩
set_option maxRecDepth 100000 in
theorem lifted (os : Os) (started : os.Started) (H : Type) (enc : TypeId × Value → H) :
    ReturnsInHanded {} Try.checked os 3 .any (Rows.fnExactBareNewSpec.pre6 enc Try.prog Try.f3 Rows.fnExactBareNewRow.domain false) (Rows.fnExactBareNewSpec.post enc Try.prog Try.f3 false true false false) := by
  refine returnsInHanded_of_change (C := Try.checked) Base.own started (by kernel_rfl) Try.func3
    (ChangeSpec.witness6 (enc := enc) (C := Try.checked) false ⟨#[], #[.slice none 0 0], []⟩ 8 (by kernel_rfl) (by kernel_rfl) (by kernel_rfl) (by kernel_rfl)) ?_
  intro W base args ds gs before hval0 hW hcnd _
  have hval : ∀ (j : Nat) t v, Try.f3.params[j]? = some t → args[j]? = some v → Value.okWide Try.prog W .any base t v := hval0
  have hW' := hW
  obtain ⟨p, q, hA0, hV, rfl, hfz, hnd⟩ := hW
  have hA : DataW.TrodAll enc Try.prog W 0 (fun _ => true) true Try.f3.params.toList args.toList ds p := hA0
  have hA1 := hA
  rw [Try.params3] at hA hval
  obtain ⟨v0, vs0, d0, ds0, p0, q0, hargs, rfl, rfl, h0, r0⟩ := trodAll_cons hA
  obtain ⟨rfl, rfl, rfl⟩ := trodAll_nil r0
  obtain rfl : args = #[v0] := by cases args; simp_all
  obtain ⟨rfl, rfl⟩ := trodVars_none hV
  obtain ⟨x0, A0, c0, rfl, hw0, h0'⟩ := Kit.open_InsSS (hval 0 22 v0 rfl rfl) h0
  clear hA0 hval0
  rw [List.append_nil] at hW'
  refine (walk W x0 A0 c0 hw0 h0').mono fun e W' ⟨he, hg⟩ => ?_
  subst he
  exact ⟨_, rfl, Mem.post_args Kit.laid (by kernel_rfl) rfl rfl rfl hW' hA1 hg (fun _ _ _ => (trodAll_cons_mk (shut_bool Try.underlying4 _) trodAll_mk0)) (ok_one (by kernel_rfl) rfl (okWide_bool_mk Try.underlying4 _))⟩
theorem over : Rows.fnExactBareNewRow.holds Try.pinned (OpenSpec.ofChange Rows.fnExactBareNewSpec) :=
  OpenClaim.holds_of_wide 3 Try.f3 rfl rfl rfl rfl rfl rfl rfl ⟨rfl, rfl, rfl, rfl, rfl⟩ rfl rfl rfl rfl rfl (by kernel_rfl) Try.func3 (by kernel_rfl)
    (of_decide_eq_true (by kernel_rfl)) (by unfold Func.isWrapper; first | (rw [if_pos (by decide +kernel)]; kernel_rfl) | (rw [if_neg (by decide +kernel)]; exact ⟨rfl, rfl⟩))
    (fun os started H enc _ => lifted os started H enc)
/-- The given statement. -/
theorem proved : Rows.FnExactBareNewSaid :=
  over
#print axioms proved
end Go.Proofs.Ytldgadmpclgfhaa.fnExactBareNew
