/-
  The texts that KPutOut wants, part 3: KitL KitB Guest BroughtImpl GuestX SxA BareR KitO KitA Addrs MemMake MemPut MemPutS. No condition.
-/
import Derived.Test.YtldgadmpclgfhaaKPutOutB2
import Derived.Deep.Cut
import Derived.Test.YtldgadmpclgfhaaRows
import Derived.WalkKit
import Derived.ProofKit
import Derived.OpenShut
import Derived.Laws.CopyOwn
import Derived.Maps.AppendAt
namespace Go.Proofs.Ytldgadmpclgfhaa.Kit
set_option maxRecDepth 100000
open Go.ChangeShapes Go.WideShapes Go.ChangeAt Go.RowKit Go.Deep
open Go.Proofs.Ytldgadmpclgfhaa.Base Go.Proofs.Ytldgadmpclgfhaa.Mem Go.Proofs.Ytldgadmpclgfhaa.Data Go.Proofs.Ytldgadmpclgfhaa.Stt Go.Proofs.Ytldgadmpclgfhaa.Guests Go.Proofs.Ytldgadmpclgfhaa.Ctls Go.Proofs.Ytldgadmpclgfhaa.Exits
set_option linter.unusedVariables false
set_option linter.unusedSimpArgs false
set_option maxRecDepth 100000 in
set_option maxHeartbeats 4000000 in
theorem keq_IntSS (xs : (List (List Int))) (A : Option Addr) (c : Nat) (B : Option Addr) (d : Nat) (w : World) (hc : (rLsw (rLsw rInt)).cap xs) (h : rdLst (rLsw rInt) w 0 w.heap.size xs [.slice A xs.length c]) (j : rdLst (rLsw rInt) w 0 w.heap.size xs [.slice B xs.length d]) : Calls Try.prog 41 #[.slice A xs.length c, .slice B xs.length d] w (fun e w' => e = .returned (.bool true) ∧ Below w.heap.size w w') := by
  obtain ⟨hl, hce⟩ := hc
  refine Sx.enter (args := [.slice A xs.length c, .slice B xs.length d]) Try.func41 rfl Try.ntmps41 rfl ?_
  refine Sx.C.seq ?_
  refine Sx.C.region ?_
  refine Sx.G.pure (.bool false) (by kernel_rfl) (fun w => by kernel_rfl) ?_
  refine Sx.G.nil ?_
  refine Sx.E.next ?_
  refine Sx.C.seq ?_
  refine Sx.C.seq ?_
  refine Sx.C.region ?_
  refine Sx.G.pure (.slice A xs.length c) (by kernel_rfl) (fun w => by kernel_rfl) ?_
  refine Sx.G.pure (.int .i64 ((xs.length : Nat) : Int)) (by kernel_rfl) (fun w => by kernel_rfl) ?_
  refine Sx.G.pure (.slice B xs.length d) (by kernel_rfl) (fun w => by kernel_rfl) ?_
  refine Sx.G.pure (.int .i64 ((xs.length : Nat) : Int)) (by kernel_rfl) (fun w => by kernel_rfl) ?_
  refine Sx.G.pureq (.bool (((xs.length : Nat) : Int) != ((xs.length : Nat) : Int))) (.bool false) (by kernel_rfl) (fun w => by kernel_rfl) (congrArg Value.bool (bne_self_eq_false _)) ?_
  refine Sx.G.nil ?_
  refine Sx.E.next ?_
  refine Sx.C.no (by kernel_rfl) (by kernel_rfl) ?_
  refine Sx.C.skip ?_
  refine Sx.E.next ?_
  refine Sx.C.seq ?_
  refine Sx.C.seq ?_
  refine Sx.C.region ?_
  refine Sx.G.pure (.int .i64 0) (by kernel_rfl) (fun w => by kernel_rfl) ?_
  refine Sx.G.nil ?_
  refine Sx.E.next ?_
  refine Sx.C.block ?_
  refine Sx.C.loop (α := Nat) (fun i => i ≤ xs.length) (fun i => [(5, .int .i64 (i : Int)), (0, .slice A xs.length c), (1, .slice B xs.length d), (4, .bool false)]) (fun i => []) (fun i => xs.length - i) 0 (Nat.zero_le _) (fun a hA => (Sx.Ag.and hA (Sx.Ag.and hA (Sx.Ag.and hA (Sx.Ag.and hA (Sx.Ag.none hA) _ _ (by kernel_rfl)) _ _ (by kernel_rfl)) _ _ (by kernel_rfl)) _ _ (by kernel_rfl))) (fun w S => S) (fun i hx => ?_)
  refine Sx.C.seq ?_
  refine Sx.C.seq ?_
  refine Sx.C.region ?_
  refine Sx.G.pure (.int .i64 (i : Int)) (by kernel_rfl) (fun w => by kernel_rfl) ?_
  refine Sx.G.pure (.slice A xs.length c) (by kernel_rfl) (fun w => by kernel_rfl) ?_
  refine Sx.G.pure (.int .i64 ((xs.length : Nat) : Int)) (by kernel_rfl) (fun w => by kernel_rfl) ?_
  refine Sx.G.pure (.bool (decide ((i : Int) < ((xs.length : Nat) : Int)))) (by kernel_rfl) (fun w => by kernel_rfl) ?_
  refine Sx.G.nil ?_
  refine Sx.E.next ?_
  cases hc1 : (decide ((i : Int) < ((xs.length : Nat) : Int)))
  · have hb1 := hc1
    replace hc1 := of_decide_eq_false hc1
    refine Sx.C.no (by kernel_rfl) (by kernel_rfl) ?_
    refine Sx.C.exit ?_
    refine Sx.E.then_exit ?_
    refine Sx.E.then_exit ?_
    refine Sx.E.block_hit ?_
    refine Sx.E.next ?_
    refine Sx.C.seq ?_
    refine Sx.C.region ?_
    refine Sx.G.pure (.bool true) (by kernel_rfl) (fun w => by kernel_rfl) ?_
    refine Sx.G.nil ?_
    refine Sx.E.next ?_
    refine Sx.C.ret ?_
    refine Sx.E.ret1 (.bool true) rfl (by kernel_rfl) (fun w S => ?_)
    exact ⟨rfl, S.below⟩
  · have hb1 := hc1
    replace hc1 := of_decide_eq_true hc1
    refine Sx.C.yes (by kernel_rfl) (by kernel_rfl) ?_
    refine Sx.C.skip ?_
    refine Sx.E.next ?_
    refine Sx.C.seq ?_
    refine Sx.C.block ?_
    refine Sx.C.seq ?_
    refine Sx.C.draw (.take 0 (.take 1 (.take 2 (.take 3 (.take 4 (.take 5 (.take 6 (.take 7 (.alone 8 (.take 9 .nil)))))))))) [] (fun w S => St.pick S [] _ rfl (by decide)) (by kernel_rfl) (by kernel_rfl) (by kernel_rfl) ?_
    refine Sx.GT.pure (.slice A xs.length c) 0 (by rfl) (by kernel_rfl) (fun w => by kernel_rfl) ?_
    refine Sx.GT.pure (.int .i64 (i : Int)) 1 (by rfl) (by kernel_rfl) (fun w => by kernel_rfl) ?_
    obtain ⟨b2, f2, es2, eA2, hr2, hl2, hm2⟩ := Sx.old_elem (by decide) h i (by omega)
    subst eA2
    obtain ⟨x2, hx2⟩ : ∃ z_, z_ = (xs[i]'(by omega)) := ⟨_, rfl⟩
    rw [← hx2] at hr2
    replace hr2 : rdLst rInt w 0 w.heap.size x2 es2 := hr2
    obtain ⟨P2, rfl⟩ := lst_rd hr2
    obtain ⟨A2, c2, e2, -⟩ := lst_val hr2
    subst e2
    refine Sx.GT.elem 24 26 (.tmp 17) (.tmp 18) 1 24 b2 f2 xs.length c i 2 (by rfl) (by rfl) (by kernel_rfl) (by kernel_rfl) (by kernel_rfl) (by kernel_rfl) (by omega) ?_
    refine Sx.GT.ldr1 26 (.tmp 19) b2 ((f2 + i * 1) + 0) (.slice A2 x2.length c2) 3 (by rfl) (by rfl) (by kernel_rfl) (by kernel_rfl) (fun w S => hm2 w _ S 0 _ rfl) (by kernel_rfl) ?_
    refine Sx.GT.pure (.slice B xs.length d) 4 (by rfl) (by kernel_rfl) (fun w => by kernel_rfl) ?_
    refine Sx.GT.pure (.int .i64 (i : Int)) 5 (by rfl) (by kernel_rfl) (fun w => by kernel_rfl) ?_
    obtain ⟨b3, f3, es3, eA3, hr3, hl3, hm3⟩ := Sx.old_elem (by decide) j i (by omega)
    subst eA3
    rw [← hx2] at hr3
    replace hr3 : rdLst rInt w 0 w.heap.size x2 es3 := hr3
    obtain ⟨P3, rfl⟩ := lst_rd hr3
    obtain ⟨A3, c3, e3, -⟩ := lst_val hr3
    subst e3
    refine Sx.GT.elem 24 26 (.tmp 21) (.tmp 22) 1 24 b3 f3 xs.length d i 6 (by rfl) (by rfl) (by kernel_rfl) (by kernel_rfl) (by kernel_rfl) (by kernel_rfl) (by omega) ?_
    refine Sx.GT.ldr1 26 (.tmp 23) b3 ((f3 + i * 1) + 0) (.slice A3 x2.length c3) 7 (by rfl) (by rfl) (by kernel_rfl) (by kernel_rfl) (fun w S => hm3 w _ S 0 _ rfl) (by kernel_rfl) ?_
    refine Sx.GT.alone (Sx.Alone.plain 43 #[.slice A2 x2.length c2, .slice A3 x2.length c3] (.bool true) (by rfl) (by kernel_rfl) (fun w => by kernel_rfl) (fun w S => by exact Kit.keq_IntS x2 A2 c2 A3 c3 _ (hce _ (hx2 ▸ List.getElem_mem _)) (St.old (r := (rLsw rInt)) S hr2) (St.old (r := (rLsw rInt)) S hr3)) (fun w S => St.pick S [] _ rfl (by decide)) ?_)
    refine Sx.GT.pure (.bool false) 9 (by rfl) (by kernel_rfl) (fun w => by kernel_rfl) ?_
    refine Sx.GT.nil ?_
    refine Sx.E.next ?_
    refine Sx.C.no (by kernel_rfl) (by kernel_rfl) ?_
    refine Sx.C.skip ?_
    refine Sx.E.block_normal ?_
    refine Sx.E.next ?_
    refine Sx.C.region ?_
    refine Sx.G.pure (.int .i64 (i : Int)) (by kernel_rfl) (fun w => by kernel_rfl) ?_
    refine Sx.G.pureq (.int .i64 (IntKind.i64.wrap ((i : Int) + 1))) (.int .i64 ((i + 1 : Nat) : Int)) (by kernel_rfl) (fun w => by kernel_rfl) (congrArg (Value.int .i64) (Sx.wrap_up i (by omega))) ?_
    refine Sx.G.pure (.int .i64 ((i + 1 : Nat) : Int)) (by kernel_rfl) (fun w => by kernel_rfl) ?_
    refine Sx.G.nil ?_
    exact Sx.E.again (i + 1) (by omega) (by omega) (fun a hA => (Sx.Ag.and hA (Sx.Ag.and hA (Sx.Ag.and hA (Sx.Ag.and hA (Sx.Ag.none hA) _ _ (by kernel_rfl)) _ _ (by kernel_rfl)) _ _ (by kernel_rfl)) _ _ (by kernel_rfl))) (fun w S => S)
set_option maxRecDepth 100000 in
set_option maxHeartbeats 4000000 in
theorem ksz_IntSS (xs : (List (List Int))) (A : Option Addr) (c : Nat) (left : Int) (w : World) (hw : (rLsw (rLsw rInt)).wf xs) (h0 : 0 ≤ left) (h1 : left ≤ 1048576) (h : rdLst (rLsw rInt) w 0 w.heap.size xs [.slice A xs.length c]) : Calls Try.prog 52 #[.slice A xs.length c, .int .i64 left] w (fun e w' => ∃ l, e = .returned (.int .i64 l) ∧ Kit.Sz left ((rLsw (rLsw rInt)).size xs) l ∧ Below w.heap.size w w') := by
  obtain ⟨hl, hwe⟩ := hw
  simp only [maxLen] at hl
  refine Sx.enter (args := [.slice A xs.length c, .int .i64 left]) Try.func52 rfl Try.ntmps52 rfl ?_
  refine Sx.C.seq ?_
  refine Sx.C.region ?_
  refine Sx.G.pure (.int .i64 0) (by kernel_rfl) (fun w => by kernel_rfl) ?_
  refine Sx.G.nil ?_
  refine Sx.E.next ?_
  refine Sx.C.seq ?_
  refine Sx.C.region ?_
  refine Sx.G.pure (.int .i64 left) (by kernel_rfl) (fun w => by kernel_rfl) ?_
  refine Sx.G.pure (.slice A xs.length c) (by kernel_rfl) (fun w => by kernel_rfl) ?_
  refine Sx.G.pure (.int .i64 ((xs.length : Nat) : Int)) (by kernel_rfl) (fun w => by kernel_rfl) ?_
  refine Sx.G.pureq (.int .i64 (IntKind.i64.wrap (left - ((xs.length : Nat) : Int)))) (.int .i64 (left - ((xs.length : Nat) : Int))) (by kernel_rfl) (fun w => by kernel_rfl) (congrArg (Value.int .i64) (by rw [IntKind.wrap_i64]; omega)) ?_
  refine Sx.G.pure (.int .i64 (left - ((xs.length : Nat) : Int))) (by kernel_rfl) (fun w => by kernel_rfl) ?_
  refine Sx.G.nil ?_
  refine Sx.E.next ?_
  refine Sx.C.seq ?_
  refine Sx.C.seq ?_
  refine Sx.C.region ?_
  refine Sx.G.pure (.int .i64 (left - ((xs.length : Nat) : Int))) (by kernel_rfl) (fun w => by kernel_rfl) ?_
  refine Sx.G.pure (.bool (decide ((left - ((xs.length : Nat) : Int)) < 0))) (by kernel_rfl) (fun w => by kernel_rfl) ?_
  refine Sx.G.nil ?_
  refine Sx.E.next ?_
  cases hc1 : (decide ((left - ((xs.length : Nat) : Int)) < 0))
  · have hb1 := hc1
    replace hc1 := of_decide_eq_false hc1
    refine Sx.C.no (by kernel_rfl) (by kernel_rfl) ?_
    refine Sx.C.skip ?_
    refine Sx.E.next ?_
    refine Sx.C.seq ?_
    refine Sx.C.seq ?_
    refine Sx.C.region ?_
    refine Sx.G.pure (.int .i64 0) (by kernel_rfl) (fun w => by kernel_rfl) ?_
    refine Sx.G.nil ?_
    refine Sx.E.next ?_
    refine Sx.C.block ?_
    refine Sx.C.loop (α := Nat × Int) (fun x => x.1 ≤ xs.length ∧ x.2 = left - ((xs.length : Nat) : Int) - ((sizeAll (rLsw rInt) (xs.take x.1) : Nat) : Int) ∧ 0 ≤ x.2) (fun x => [(5, .int .i64 (x.1 : Int)), (1, .int .i64 x.2), (0, .slice A xs.length c), (4, .int .i64 0)]) (fun x => []) (fun x => xs.length - x.1) (0, left - ((xs.length : Nat) : Int)) (by refine ⟨Nat.zero_le _, ?_, by omega⟩; simp [sizeAll]) (fun a hA => (Sx.Ag.and hA (Sx.Ag.and hA (Sx.Ag.and hA (Sx.Ag.and hA (Sx.Ag.none hA) _ _ (by kernel_rfl)) _ _ (by kernel_rfl)) _ _ (by kernel_rfl)) _ _ (by kernel_rfl))) (fun w S => S) (fun x hx => ?_)
    obtain ⟨i, m⟩ := x
    dsimp only at hx
    obtain ⟨hi, hm, h0m⟩ := hx
    refine Sx.C.seq ?_
    refine Sx.C.seq ?_
    refine Sx.C.region ?_
    refine Sx.G.pure (.int .i64 (i : Int)) (by kernel_rfl) (fun w => by kernel_rfl) ?_
    refine Sx.G.pure (.slice A xs.length c) (by kernel_rfl) (fun w => by kernel_rfl) ?_
    refine Sx.G.pure (.int .i64 ((xs.length : Nat) : Int)) (by kernel_rfl) (fun w => by kernel_rfl) ?_
    refine Sx.G.pure (.bool (decide ((i : Int) < ((xs.length : Nat) : Int)))) (by kernel_rfl) (fun w => by kernel_rfl) ?_
    refine Sx.G.nil ?_
    refine Sx.E.next ?_
    cases hc2 : (decide ((i : Int) < ((xs.length : Nat) : Int)))
    · have hb2 := hc2
      replace hc2 := of_decide_eq_false hc2
      refine Sx.C.no (by kernel_rfl) (by kernel_rfl) ?_
      refine Sx.C.exit ?_
      refine Sx.E.then_exit ?_
      refine Sx.E.then_exit ?_
      refine Sx.E.block_hit ?_
      refine Sx.E.next ?_
      refine Sx.C.seq ?_
      refine Sx.C.region ?_
      refine Sx.G.pure (.int .i64 m) (by kernel_rfl) (fun w => by kernel_rfl) ?_
      refine Sx.G.pure (.int .i64 m) (by kernel_rfl) (fun w => by kernel_rfl) ?_
      refine Sx.G.nil ?_
      refine Sx.E.next ?_
      refine Sx.C.ret ?_
      refine Sx.E.ret1 (.int .i64 m) rfl (by kernel_rfl) (fun w S => ?_)
      have hle := fun q => Kit.size_le (r := (rLsw rInt)) (xs := xs) q
      have h2' : xs.take i = xs := List.take_of_length_le (by omega)
      rw [h2'] at hm
      exact ⟨_, rfl, show Kit.Sz left (xs.length + sizeAll (rLsw rInt) xs) _ by unfold Kit.Sz; omega, S.below⟩
    · have hb2 := hc2
      replace hc2 := of_decide_eq_true hc2
      refine Sx.C.yes (by kernel_rfl) (by kernel_rfl) ?_
      refine Sx.C.skip ?_
      refine Sx.E.next ?_
      refine Sx.C.seq ?_
      refine Sx.C.block ?_
      refine Sx.C.seq ?_
      refine Sx.C.region ?_
      refine Sx.G.pure (.slice A xs.length c) (by kernel_rfl) (fun w => by kernel_rfl) ?_
      refine Sx.G.pure (.int .i64 (i : Int)) (by kernel_rfl) (fun w => by kernel_rfl) ?_
      obtain ⟨b3, f3, es3, eA3, hr3, hl3, hm3⟩ := Sx.old_elem (by decide) h i (by omega)
      subst eA3
      obtain ⟨x3, hx3⟩ : ∃ z_, z_ = (xs[i]'(by omega)) := ⟨_, rfl⟩
      rw [← hx3] at hr3
      replace hr3 : rdLst rInt w 0 w.heap.size x3 es3 := hr3
      obtain ⟨P3, rfl⟩ := lst_rd hr3
      obtain ⟨A3, c3, e3, -⟩ := lst_val hr3
      subst e3
      refine Sx.G.elem 24 26 (.tmp 18) (.tmp 19) 1 24 b3 f3 xs.length c i rfl (by kernel_rfl) (by kernel_rfl) (by kernel_rfl) (by kernel_rfl) (by omega) ?_
      refine Sx.G.ldr1 26 (.tmp 20) b3 ((f3 + i * 1) + 0) (.slice A3 x3.length c3) rfl (by kernel_rfl) (by kernel_rfl) (fun w S => hm3 w _ S 0 _ rfl) (by kernel_rfl) ?_
      refine Sx.G.pure (.int .i64 m) (by kernel_rfl) (fun w => by kernel_rfl) ?_
      refine Sx.G.call 54 #[.slice A3 x3.length c3, .int .i64 m] (by kernel_rfl) (fun w => by kernel_rfl) (fun w4 S => (Kit.ksz_IntS x3 A3 c3 m _ (hwe _ (hx3 ▸ List.getElem_mem _)) (by omega) (by omega) (St.old (r := (rLsw rInt)) S hr3)).mono fun e w4' hp => ?_)
      obtain ⟨l4, rfl, hz4, hb⟩ := hp
      replace hz4 : Kit.Sz m (x3.length + sizeAll rInt x3) l4 := hz4
      unfold Kit.Sz at hz4
      refine ⟨_, _, rfl, (S.call hb), ?_⟩
      clear S hb
      refine Sx.G.pure (.int .i64 l4) (by kernel_rfl) (fun w => by kernel_rfl) ?_
      refine Sx.G.nil ?_
      refine Sx.E.next ?_
      refine Sx.C.seq ?_
      refine Sx.C.region ?_
      refine Sx.G.pure (.int .i64 l4) (by kernel_rfl) (fun w => by kernel_rfl) ?_
      refine Sx.G.pure (.bool (decide (l4 < 0))) (by kernel_rfl) (fun w => by kernel_rfl) ?_
      refine Sx.G.nil ?_
      refine Sx.E.next ?_
      cases hc5 : (decide (l4 < 0))
      · have hb5 := hc5
        replace hc5 := of_decide_eq_false hc5
        refine Sx.C.no (by kernel_rfl) (by kernel_rfl) ?_
        refine Sx.C.skip ?_
        refine Sx.E.block_normal ?_
        refine Sx.E.next ?_
        refine Sx.C.region ?_
        refine Sx.G.pure (.int .i64 (i : Int)) (by kernel_rfl) (fun w => by kernel_rfl) ?_
        refine Sx.G.pureq (.int .i64 (IntKind.i64.wrap ((i : Int) + 1))) (.int .i64 ((i + 1 : Nat) : Int)) (by kernel_rfl) (fun w => by kernel_rfl) (congrArg (Value.int .i64) (Sx.wrap_up i (by omega))) ?_
        refine Sx.G.pure (.int .i64 ((i + 1 : Nat) : Int)) (by kernel_rfl) (fun w => by kernel_rfl) ?_
        refine Sx.G.nil ?_
        have hst := Kit.size_step (r := (rLsw rInt)) (show i < xs.length by omega)
        rw [← hx3] at hst
        rw [show (rLsw rInt).size x3 = x3.length + sizeAll rInt x3 from rfl] at hst
        exact Sx.E.again (i + 1, l4) (by refine ⟨by omega, ?_, by omega⟩; show _ = left - _ - ((sizeAll (rLsw rInt) (xs.take (i + 1)) : Nat) : Int); omega) (show xs.length - (i + 1) < xs.length - i by omega) (fun a hA => (Sx.Ag.and hA (Sx.Ag.and hA (Sx.Ag.and hA (Sx.Ag.and hA (Sx.Ag.none hA) _ _ (by kernel_rfl)) _ _ (by kernel_rfl)) _ _ (by kernel_rfl)) _ _ (by kernel_rfl))) (fun w S => S)
      · have hb5 := hc5
        replace hc5 := of_decide_eq_true hc5
        refine Sx.C.yes (by kernel_rfl) (by kernel_rfl) ?_
        refine Sx.C.seq ?_
        refine Sx.C.region ?_
        refine Sx.G.pure (.int .i64 (-1)) (by kernel_rfl) (fun w => by kernel_rfl) ?_
        refine Sx.G.nil ?_
        refine Sx.E.next ?_
        refine Sx.C.ret ?_
        refine Sx.E.block_ret ?_
        refine Sx.E.then_ret ?_
        refine Sx.E.then_ret ?_
        refine Sx.E.block_ret ?_
        refine Sx.E.then_ret ?_
        refine Sx.E.ret1 (.int .i64 (-1)) rfl (by kernel_rfl) (fun w S => ?_)
        have hle := fun q => Kit.size_le (r := (rLsw rInt)) (xs := xs) q
        have hst := Kit.size_step (r := (rLsw rInt)) (show i < xs.length by omega)
        rw [← hx3] at hst
        rw [show (rLsw rInt).size x3 = x3.length + sizeAll rInt x3 from rfl] at hst
        have h1' := hle (i + 1)
        exact ⟨_, rfl, show Kit.Sz left (xs.length + sizeAll (rLsw rInt) xs) _ by unfold Kit.Sz; omega, S.below⟩
  · have hb1 := hc1
    replace hc1 := of_decide_eq_true hc1
    refine Sx.C.yes (by kernel_rfl) (by kernel_rfl) ?_
    refine Sx.C.seq ?_
    refine Sx.C.region ?_
    refine Sx.G.pure (.int .i64 (-1)) (by kernel_rfl) (fun w => by kernel_rfl) ?_
    refine Sx.G.nil ?_
    refine Sx.E.next ?_
    refine Sx.C.ret ?_
    refine Sx.E.then_ret ?_
    refine Sx.E.ret1 (.int .i64 (-1)) rfl (by kernel_rfl) (fun w S => ?_)
    have hle := fun q => Kit.size_le (r := (rLsw rInt)) (xs := xs) q
    exact ⟨_, rfl, show Kit.Sz left (xs.length + sizeAll (rLsw rInt) xs) _ by unfold Kit.Sz; omega, S.below⟩
set_option maxRecDepth 100000 in
set_option maxHeartbeats 4000000 in
theorem khd_IntSS (xs : (List (List Int))) (A : Option Addr) (c k : Nat) (w : World) (hc : (rLsw (rLsw rInt)).cap xs) (hk : k + cntAll (rLsw rInt) xs ≤ 1000000000000) (h : rdLst (rLsw rInt) w 0 w.heap.size (mkAll (rLsw rInt) k xs) [.slice A xs.length c]) : Calls Try.prog 49 #[.slice A xs.length c, .int .i64 ((k : Nat) : Int)] w (fun e w' => e = .returned (.int .i64 ((k + cntAll (rLsw rInt) xs : Nat) : Int)) ∧ Below w.heap.size w w') := by
  obtain ⟨hl, hce⟩ := hc
  have hml := Kit.mk_len (rLsw rInt) k xs
  refine Sx.enter (args := [.slice A xs.length c, .int .i64 ((k : Nat) : Int)]) Try.func49 rfl Try.ntmps49 rfl ?_
  refine Sx.C.seq ?_
  refine Sx.C.region ?_
  refine Sx.G.pure (.int .i64 0) (by kernel_rfl) (fun w => by kernel_rfl) ?_
  refine Sx.G.nil ?_
  refine Sx.E.next ?_
  refine Sx.C.seq ?_
  refine Sx.C.seq ?_
  refine Sx.C.region ?_
  refine Sx.G.pure (.int .i64 0) (by kernel_rfl) (fun w => by kernel_rfl) ?_
  refine Sx.G.nil ?_
  refine Sx.E.next ?_
  refine Sx.C.block ?_
  refine Sx.C.loop (α := Nat × Nat) (fun x => x.1 ≤ xs.length ∧ x.2 = k + cntAll (rLsw rInt) (xs.take x.1)) (fun x => [(5, .int .i64 (x.1 : Int)), (1, .int .i64 ((x.2 : Nat) : Int)), (0, .slice A xs.length c), (4, .int .i64 0)]) (fun x => []) (fun x => xs.length - x.1) (0, k) (by refine ⟨Nat.zero_le _, ?_⟩; simp [cntAll]) (fun a hA => (Sx.Ag.and hA (Sx.Ag.and hA (Sx.Ag.and hA (Sx.Ag.and hA (Sx.Ag.none hA) _ _ (by kernel_rfl)) _ _ (by kernel_rfl)) _ _ (by kernel_rfl)) _ _ (by kernel_rfl))) (fun w S => S) (fun x hx => ?_)
  obtain ⟨i, q⟩ := x
  dsimp only at hx
  obtain ⟨hi, hq⟩ := hx
  have hqm := Kit.cnt_le (r := (rLsw rInt)) (xs := xs) i
  refine Sx.C.seq ?_
  refine Sx.C.seq ?_
  refine Sx.C.region ?_
  refine Sx.G.pure (.int .i64 (i : Int)) (by kernel_rfl) (fun w => by kernel_rfl) ?_
  refine Sx.G.pure (.slice A xs.length c) (by kernel_rfl) (fun w => by kernel_rfl) ?_
  refine Sx.G.pure (.int .i64 ((xs.length : Nat) : Int)) (by kernel_rfl) (fun w => by kernel_rfl) ?_
  refine Sx.G.pure (.bool (decide ((i : Int) < ((xs.length : Nat) : Int)))) (by kernel_rfl) (fun w => by kernel_rfl) ?_
  refine Sx.G.nil ?_
  refine Sx.E.next ?_
  cases hc1 : (decide ((i : Int) < ((xs.length : Nat) : Int)))
  · have hb1 := hc1
    replace hc1 := of_decide_eq_false hc1
    refine Sx.C.no (by kernel_rfl) (by kernel_rfl) ?_
    refine Sx.C.exit ?_
    refine Sx.E.then_exit ?_
    refine Sx.E.then_exit ?_
    refine Sx.E.block_hit ?_
    refine Sx.E.next ?_
    refine Sx.C.seq ?_
    refine Sx.C.region ?_
    refine Sx.G.pure (.int .i64 ((q : Nat) : Int)) (by kernel_rfl) (fun w => by kernel_rfl) ?_
    refine Sx.G.pure (.int .i64 ((q : Nat) : Int)) (by kernel_rfl) (fun w => by kernel_rfl) ?_
    refine Sx.G.nil ?_
    refine Sx.E.next ?_
    refine Sx.C.ret ?_
    refine Sx.E.ret1 (.int .i64 ((q : Nat) : Int)) rfl (by kernel_rfl) (fun w S => ?_)
    have h2' : xs.take i = xs := List.take_of_length_le (by omega)
    rw [h2'] at hq
    subst hq
    exact ⟨rfl, S.below⟩
  · have hb1 := hc1
    replace hc1 := of_decide_eq_true hc1
    refine Sx.C.yes (by kernel_rfl) (by kernel_rfl) ?_
    refine Sx.C.skip ?_
    refine Sx.E.next ?_
    refine Sx.C.seq ?_
    refine Sx.C.block ?_
    refine Sx.C.seq ?_
    refine Sx.C.region ?_
    refine Sx.G.pure (.slice A xs.length c) (by kernel_rfl) (fun w => by kernel_rfl) ?_
    refine Sx.G.pure (.int .i64 (i : Int)) (by kernel_rfl) (fun w => by kernel_rfl) ?_
    obtain ⟨b2, f2, es2, eA2, hr2, hl2, hm2⟩ := Sx.old_elem (by decide) h i (by omega)
    subst eA2
    obtain ⟨x2, hx2⟩ : ∃ x, x = (xs[i]'(by omega)) := ⟨_, rfl⟩
    rw [Kit.mk_get k (show i < xs.length by omega), ← hq, ← hx2] at hr2
    have hst0 := Kit.cnt_step (r := (rLsw rInt)) (show i < xs.length by omega)
    rw [← hx2] at hst0
    have hcnt0 : (rLsw rInt).cnt x2 = cntAll rInt x2 := rfl
    rw [hcnt0] at hst0
    have hqm0 := Kit.cnt_le (r := (rLsw rInt)) (xs := xs) (i + 1)
    replace hr2 : rdLst rInt w 0 w.heap.size (mkAll rInt q x2) es2 := hr2
    obtain ⟨P2, rfl⟩ := lst_rd hr2
    obtain ⟨A2, c2, e2, -⟩ := lst_val hr2
    rw [Kit.mk_len] at e2
    subst e2
    refine Sx.G.elem 24 26 (.tmp 12) (.tmp 13) 1 24 b2 f2 xs.length c i rfl (by kernel_rfl) (by kernel_rfl) (by kernel_rfl) (by kernel_rfl) (by omega) ?_
    refine Sx.G.ldr1 26 (.tmp 14) b2 ((f2 + i * 1) + 0) (.slice A2 x2.length c2) rfl (by kernel_rfl) (by kernel_rfl) (fun w S => hm2 w _ S 0 _ rfl) (by kernel_rfl) ?_
    refine Sx.G.pure (.int .i64 ((q : Nat) : Int)) (by kernel_rfl) (fun w => by kernel_rfl) ?_
    obtain ⟨q3, hq3⟩ : ∃ q', q' = q + cntAll rInt x2 := ⟨_, rfl⟩
    refine Sx.G.plain 51 #[.slice A2 x2.length c2, .int .i64 ((q : Nat) : Int)] (.int .i64 ((q3 : Nat) : Int)) (by kernel_rfl) (fun w => by kernel_rfl) (fun w S => by exact hq3 ▸ Kit.khd_IntS x2 A2 c2 q _ (hce _ (hx2 ▸ List.getElem_mem _)) (by omega) (St.old (r := (rLsw rInt)) S hr2)) ?_
    refine Sx.G.pure (.int .i64 ((q3 : Nat) : Int)) (by kernel_rfl) (fun w => by kernel_rfl) ?_
    refine Sx.G.nil ?_
    refine Sx.E.next ?_
    refine Sx.C.seq ?_
    refine Sx.C.region ?_
    refine Sx.G.pure (.int .i64 ((q3 : Nat) : Int)) (by kernel_rfl) (fun w => by kernel_rfl) ?_
    refine Sx.G.pureq (.bool (decide (((q3 : Nat) : Int) < 0))) (.bool false) (by kernel_rfl) (fun w => by kernel_rfl) (congrArg Value.bool (decide_eq_false (by omega))) ?_
    refine Sx.G.nil ?_
    refine Sx.E.next ?_
    refine Sx.C.no (by kernel_rfl) (by kernel_rfl) ?_
    refine Sx.C.skip ?_
    refine Sx.E.block_normal ?_
    refine Sx.E.next ?_
    refine Sx.C.region ?_
    refine Sx.G.pure (.int .i64 (i : Int)) (by kernel_rfl) (fun w => by kernel_rfl) ?_
    refine Sx.G.pureq (.int .i64 (IntKind.i64.wrap ((i : Int) + 1))) (.int .i64 ((i + 1 : Nat) : Int)) (by kernel_rfl) (fun w => by kernel_rfl) (congrArg (Value.int .i64) (Sx.wrap_up i (by omega))) ?_
    refine Sx.G.pure (.int .i64 ((i + 1 : Nat) : Int)) (by kernel_rfl) (fun w => by kernel_rfl) ?_
    refine Sx.G.nil ?_
    have hst := Kit.cnt_step (r := (rLsw rInt)) (show i < xs.length by omega)
    rw [← hx2] at hst
    have hcnt : (rLsw rInt).cnt x2 = cntAll rInt x2 := rfl
    exact Sx.E.again (i + 1, (q3 : Nat)) (by refine ⟨by omega, ?_⟩; show _ = k + cntAll (rLsw rInt) (xs.take (i + 1)); rw [hst]; rw [hcnt]; omega) (show xs.length - (i + 1) < xs.length - i by omega) (fun a hA => (Sx.Ag.and hA (Sx.Ag.and hA (Sx.Ag.and hA (Sx.Ag.and hA (Sx.Ag.none hA) _ _ (by kernel_rfl)) _ _ (by kernel_rfl)) _ _ (by kernel_rfl)) _ _ (by kernel_rfl))) (fun w S => S)
set_option maxRecDepth 100000 in
set_option maxHeartbeats 4000000 in
theorem kmk0_IntSS {w0 w : World} {lo hi : Nat} {R : List Res} (xs : (List (List Int))) (A : Option Addr) (c k : Nat) (F : List Nat) (hc : (rLsw (rLsw rInt)).cap xs) (hk : k + cntAll (rLsw rInt) xs ≤ 1000000000000) (S : St w0 w (ow (rLsw (rLsw rInt)) lo hi xs [.slice A xs.length c] F :: R)) : Calls Try.prog 46 #[.slice A xs.length c, .int .i64 ((k : Nat) : Int)] w fun e w' => e = .returned (.int .i64 ((k + cntAll (rLsw rInt) xs : Nat) : Int)) ∧ St w0 w' (ow (rLsw (rLsw rInt)) lo hi (mkAll (rLsw rInt) k xs) [.slice A xs.length c] F :: R) := by
  obtain ⟨hl, hce⟩ := hc
  refine Sx.enterS (args := [.slice A xs.length c, .int .i64 ((k : Nat) : Int)]) S Try.func46 rfl Try.ntmps46 rfl ?_
  refine Sx.C.seq ?_
  refine Sx.C.region ?_
  refine Sx.G.pure (.int .i64 0) (by kernel_rfl) (fun w => by kernel_rfl) ?_
  refine Sx.G.nil ?_
  refine Sx.E.next ?_
  refine Sx.C.seq ?_
  refine Sx.C.seq ?_
  refine Sx.C.region ?_
  refine Sx.G.pure (.int .i64 0) (by kernel_rfl) (fun w => by kernel_rfl) ?_
  refine Sx.G.nil ?_
  refine Sx.E.next ?_
  refine Sx.C.block ?_
  refine Sx.C.loop (α := Nat × Nat) (fun x => x.1 ≤ xs.length ∧ x.2 = k + cntAll (rLsw rInt) (xs.take x.1)) (fun x => [(5, .int .i64 (x.1 : Int)), (1, .int .i64 ((x.2 : Nat) : Int)), (0, .slice A xs.length c), (4, .int .i64 0)]) (fun x => (ow (rLsw (rLsw rInt)) lo hi (mkAll (rLsw rInt) k (xs.take x.1) ++ xs.drop x.1) [.slice A xs.length c] F :: R)) (fun x => xs.length - x.1) (0, k) (by refine ⟨Nat.zero_le _, ?_⟩; simp [cntAll]) (fun a hA => (Sx.Ag.and hA (Sx.Ag.and hA (Sx.Ag.and hA (Sx.Ag.and hA (Sx.Ag.none hA) _ _ (by kernel_rfl)) _ _ (by kernel_rfl)) _ _ (by kernel_rfl)) _ _ (by kernel_rfl))) (fun w S => S) (fun x hx => ?_)
  obtain ⟨i, q⟩ := x
  dsimp only at hx
  obtain ⟨hi', hq⟩ := hx
  have hqm := Kit.cnt_le (r := (rLsw rInt)) (xs := xs) i
  refine Sx.C.seq ?_
  refine Sx.C.seq ?_
  refine Sx.C.region ?_
  refine Sx.G.pure (.int .i64 (i : Int)) (by kernel_rfl) (fun w => by kernel_rfl) ?_
  refine Sx.G.pure (.slice A xs.length c) (by kernel_rfl) (fun w => by kernel_rfl) ?_
  refine Sx.G.pure (.int .i64 ((xs.length : Nat) : Int)) (by kernel_rfl) (fun w => by kernel_rfl) ?_
  refine Sx.G.pure (.bool (decide ((i : Int) < ((xs.length : Nat) : Int)))) (by kernel_rfl) (fun w => by kernel_rfl) ?_
  refine Sx.G.nil ?_
  refine Sx.E.next ?_
  cases hc1 : (decide ((i : Int) < ((xs.length : Nat) : Int)))
  · have hb1 := hc1
    replace hc1 := of_decide_eq_false hc1
    refine Sx.C.no (by kernel_rfl) (by kernel_rfl) ?_
    refine Sx.C.exit ?_
    refine Sx.E.then_exit ?_
    refine Sx.E.then_exit ?_
    refine Sx.E.block_hit ?_
    refine Sx.E.next ?_
    refine Sx.C.seq ?_
    refine Sx.C.region ?_
    refine Sx.G.pure (.int .i64 ((q : Nat) : Int)) (by kernel_rfl) (fun w => by kernel_rfl) ?_
    refine Sx.G.pure (.int .i64 ((q : Nat) : Int)) (by kernel_rfl) (fun w => by kernel_rfl) ?_
    refine Sx.G.nil ?_
    refine Sx.E.next ?_
    refine Sx.C.ret ?_
    refine Sx.E.ret1 (.int .i64 ((q : Nat) : Int)) rfl (by kernel_rfl) (fun w S => ?_)
    have h2' : xs.take i = xs := List.take_of_length_le (by omega)
    have h3' : xs.drop i = [] := List.drop_of_length_le (by omega)
    rw [h2'] at hq
    rw [h2', h3', List.append_nil] at S
    subst hq
    exact ⟨rfl, S⟩
  · have hb1 := hc1
    replace hc1 := of_decide_eq_true hc1
    refine Sx.C.yes (by kernel_rfl) (by kernel_rfl) ?_
    refine Sx.C.skip ?_
    refine Sx.E.next ?_
    refine Sx.C.seq ?_
    have hlt : i < xs.length := by omega
    obtain ⟨x1, hx1⟩ : ∃ x, x = xs[i] := ⟨_, rfl⟩
    have hm1 : x1 ∈ xs := hx1 ▸ List.getElem_mem _
    refine Sx.C.open (r := (rLsw rInt)) (pre := mkAll (rLsw rInt) k (xs.take i)) (x := x1) (post := xs.drop (i + 1)) (by rw [hx1, ← Kit.drop_step hlt]) (by decide) (fun b off es F1 Fi F2 eA eF hes hm hmc => ?_)
    subst eA eF
    have hst0 := Kit.cnt_step (r := (rLsw rInt)) (show i < xs.length by omega)
    rw [← hx1] at hst0
    have hcnt0 : (rLsw rInt).cnt x1 = cntAll rInt x1 := rfl
    rw [hcnt0] at hst0
    have hqm0 := Kit.cnt_le (r := (rLsw rInt)) (xs := xs) (i + 1)
    refine Sx.C.know (p := ∃ A c, es = [.slice A x1.length c]) (fun w S => by obtain ⟨A, c, ds, e, -⟩ := St.reads S 1 rfl; exact ⟨A, c, e⟩) ?_
    rintro ⟨pA, pc, rfl⟩
    refine Sx.C.block ?_
    refine Sx.C.region ?_
    refine Sx.G.pure (.slice (some ⟨b, off, none⟩) xs.length c) (by kernel_rfl) (fun w => by kernel_rfl) ?_
    refine Sx.G.pure (.int .i64 (i : Int)) (by kernel_rfl) (fun w => by kernel_rfl) ?_
    refine Sx.G.elem 24 26 (.tmp 12) (.tmp 13) 1 24 b off xs.length c i rfl (by kernel_rfl) (by kernel_rfl) (by kernel_rfl) (by kernel_rfl) (by omega) ?_
    refine Sx.G.hld1 (k := i) (size := 1) 26 (.tmp 14) b ((off + i * 1) + 0) 0 0 (.slice pA x1.length pc) rfl (by kernel_rfl) (by kernel_rfl) rfl (by rw [Kit.mk_len, List.length_take]; omega) rfl rfl rfl (by kernel_rfl) ?_
    refine Sx.G.pure (.int .i64 ((q : Nat) : Int)) (by kernel_rfl) (fun w => by kernel_rfl) ?_
    obtain ⟨q2, hq2⟩ : ∃ q', q' = q + cntAll rInt x1 := ⟨_, rfl⟩
    refine Sx.G.call 48 #[.slice pA x1.length pc, .int .i64 ((q : Nat) : Int)] (by kernel_rfl) (fun w => by kernel_rfl) (fun w2 S => (Kit.kmk_IntS x1 pA pc q _ (hce _ (hm1)) (by omega) S 1 rfl).mono fun e w2' hp => ?_)
    rw [← hq2] at hp
    obtain ⟨rfl, S'⟩ := hp
    refine ⟨_, _, rfl, S', ?_⟩
    clear S S'
    refine Sx.G.pure (.int .i64 ((q2 : Nat) : Int)) (by kernel_rfl) (fun w => by kernel_rfl) ?_
    refine Sx.G.nil ?_
    refine Sx.E.block_normal ?_
    refine Sx.E.next ?_
    refine Sx.C.region ?_
    refine Sx.G.pure (.int .i64 (i : Int)) (by kernel_rfl) (fun w => by kernel_rfl) ?_
    refine Sx.G.pureq (.int .i64 (IntKind.i64.wrap ((i : Int) + 1))) (.int .i64 ((i + 1 : Nat) : Int)) (by kernel_rfl) (fun w => by kernel_rfl) (congrArg (Value.int .i64) (Sx.wrap_up i (by omega))) ?_
    refine Sx.G.pure (.int .i64 ((i + 1 : Nat) : Int)) (by kernel_rfl) (fun w => by kernel_rfl) ?_
    refine Sx.G.nil ?_
    have hcnt : (rLsw rInt).cnt x1 = cntAll rInt x1 := rfl
    exact Sx.E.again (i + 1, (q2 : Nat)) (by refine ⟨by omega, ?_⟩; show _ = k + cntAll (rLsw rInt) (xs.take (i + 1)); rw [Kit.cnt_step hlt, ← hx1]; rw [hcnt]; omega) (show xs.length - (i + 1) < xs.length - i by omega) (fun a hA => (Sx.Ag.and hA (Sx.Ag.and hA (Sx.Ag.and hA (Sx.Ag.and hA (Sx.Ag.none hA) _ _ (by kernel_rfl)) _ _ (by kernel_rfl)) _ _ (by kernel_rfl)) _ _ (by kernel_rfl))) (fun w S => by
      subst hq2
      replace S : St w0 _ (_ :: ow (rLsw rInt) lo hi ((rLsw rInt).mark q x1) _ Fi :: R) := S
      have S3 := Sx.St.close S (by decide) xs.length c (by simp [Kit.mk_len, List.length_take, List.length_drop]; omega) hmc
      rw [hq, hx1, Kit.mk_step k hlt] at S3
      exact S3
      )
theorem kmk_IntSS {w0 w : World} {lo hi : Nat} {L : List Res} (xs : (List (List Int))) (A : Option Addr) (c k : Nat) (F : List Nat) (hc : (rLsw (rLsw rInt)).cap xs) (hk : k + cntAll (rLsw rInt) xs ≤ 1000000000000) (S : St w0 w L) (i : Nat) (hi' : L[i]? = some (ow (rLsw (rLsw rInt)) lo hi xs [.slice A xs.length c] F)) : Calls Try.prog 46 #[.slice A xs.length c, .int .i64 ((k : Nat) : Int)] w fun e w' => e = .returned (.int .i64 ((k + cntAll (rLsw rInt) xs : Nat) : Int)) ∧ St w0 w' (L.set i (ow (rLsw (rLsw rInt)) lo hi (mkAll (rLsw rInt) k xs) [.slice A xs.length c] F)) :=
  anywhere (fun R S => kmk0_IntSS xs A c k F hc hk S) S i hi'
set_option maxRecDepth 100000 in
set_option maxHeartbeats 4000000 in
theorem kto_IntSS (xs : (List (List Int))) (A : Option Addr) (c : Nat) (w : World) (hc : (rLsw (rLsw rInt)).cap xs) (h : rdLst (rLsw rInt) w 0 w.heap.size xs [.slice A xs.length c]) : Calls Try.prog 59 #[.slice A xs.length c] w (Gives (rLsw (rLsw rInt)) w xs) := by
  obtain ⟨hl, hce⟩ := hc
  refine Sx.enter (args := [.slice A xs.length c]) Try.func59 rfl Try.ntmps59 rfl ?_
  refine Sx.C.seq ?_
  refine Sx.C.region ?_
  refine Sx.G.pure (.slice none 0 0) (by kernel_rfl) (fun w => by kernel_rfl) ?_
  refine Sx.G.nil ?_
  refine Sx.E.next ?_
  refine Sx.C.seq ?_
  refine Sx.C.region ?_
  refine Sx.G.pure (.slice A xs.length c) (by kernel_rfl) (fun w => by kernel_rfl) ?_
  refine Sx.G.pure (.int .i64 ((xs.length : Nat) : Int)) (by kernel_rfl) (fun w => by kernel_rfl) ?_
  refine Sx.G.mks (r := (rLsw rInt)) ([] : (List Int)) [.slice none 0 0] 24 26 (.tmp 6) (.tmp 6) 1 24 xs.length rfl (by kernel_rfl) (by kernel_rfl) (by kernel_rfl) rfl rfl (fun w lo hi => Kit.own_nil _ _ _) (by kernel_rfl) (by kernel_rfl) (by simp only [maxLen]; omega) (by omega) (fun b1 hi1 F1 => ?_)
  refine Sx.G.pure (.slice (some ⟨b1, 0, none⟩) xs.length xs.length) (by kernel_rfl) (fun w => by kernel_rfl) ?_
  refine Sx.G.nil ?_
  refine Sx.E.next ?_
  refine Sx.C.seq ?_
  refine Sx.C.seq ?_
  refine Sx.C.region ?_
  refine Sx.G.pure (.int .i64 0) (by kernel_rfl) (fun w => by kernel_rfl) ?_
  refine Sx.G.nil ?_
  refine Sx.E.next ?_
  refine Sx.C.block ?_
  refine Sx.C.loop (α := Nat × Nat × List Nat) (fun x => x.1 ≤ xs.length) (fun x => [(4, .int .i64 (x.1 : Int)), (0, .slice A xs.length c), (2, .slice none 0 0), (3, .slice (some ⟨b1, 0, none⟩) xs.length xs.length)]) (fun x => [ow (rLsw (rLsw rInt)) w.heap.size x.2.1 (xs.take x.1 ++ List.replicate (xs.length - x.1) ([] : (List Int))) [.slice (some ⟨b1, 0, none⟩) xs.length xs.length] x.2.2]) (fun x => xs.length - x.1) (0, hi1, F1) (Nat.zero_le _) (fun a hA => (Sx.Ag.and hA (Sx.Ag.and hA (Sx.Ag.and hA (Sx.Ag.and hA (Sx.Ag.none hA) _ _ (by kernel_rfl)) _ _ (by kernel_rfl)) _ _ (by kernel_rfl)) _ _ (by kernel_rfl))) (fun w' S => by have S2 := Sx.St.widen S 0 rfl (Nat.le_refl _) (S.hi 0 _ rfl); exact S2) (fun x hx => ?_)
  obtain ⟨i, hi, F⟩ := x
  dsimp only at hx
  obtain hi' := hx
  refine Sx.C.seq ?_
  refine Sx.C.seq ?_
  refine Sx.C.region ?_
  refine Sx.G.pure (.int .i64 (i : Int)) (by kernel_rfl) (fun w => by kernel_rfl) ?_
  refine Sx.G.pure (.slice A xs.length c) (by kernel_rfl) (fun w => by kernel_rfl) ?_
  refine Sx.G.pure (.int .i64 ((xs.length : Nat) : Int)) (by kernel_rfl) (fun w => by kernel_rfl) ?_
  refine Sx.G.pure (.bool (decide ((i : Int) < ((xs.length : Nat) : Int)))) (by kernel_rfl) (fun w => by kernel_rfl) ?_
  refine Sx.G.nil ?_
  refine Sx.E.next ?_
  cases hc2 : (decide ((i : Int) < ((xs.length : Nat) : Int)))
  · have hb2 := hc2
    replace hc2 := of_decide_eq_false hc2
    refine Sx.C.no (by kernel_rfl) (by kernel_rfl) ?_
    refine Sx.C.exit ?_
    refine Sx.E.then_exit ?_
    refine Sx.E.then_exit ?_
    refine Sx.E.block_hit ?_
    refine Sx.E.next ?_
    refine Sx.C.seq ?_
    refine Sx.C.region ?_
    refine Sx.G.pure (.slice (some ⟨b1, 0, none⟩) xs.length xs.length) (by kernel_rfl) (fun w => by kernel_rfl) ?_
    refine Sx.G.pure (.slice (some ⟨b1, 0, none⟩) xs.length xs.length) (by kernel_rfl) (fun w => by kernel_rfl) ?_
    refine Sx.G.nil ?_
    refine Sx.E.next ?_
    refine Sx.C.ret ?_
    refine Sx.E.ret1 (.slice (some ⟨b1, 0, none⟩) xs.length xs.length) rfl (by kernel_rfl) (fun w S => ?_)
    have h2' : xs.take i = xs := List.take_of_length_le (by omega)
    rw [h2', show xs.length - i = 0 by omega, List.replicate_zero, List.append_nil] at S
    exact ⟨[_], F, rfl, S.own 0 rfl, S.nodup 0 rfl, S.below⟩
  · have hb2 := hc2
    replace hc2 := of_decide_eq_true hc2
    refine Sx.C.yes (by kernel_rfl) (by kernel_rfl) ?_
    refine Sx.C.skip ?_
    refine Sx.E.next ?_
    refine Sx.C.seq ?_
    have hlt : i < xs.length := by omega
    refine Sx.C.open (r := (rLsw rInt)) (pre := xs.take i) (x := ([] : (List Int))) (post := List.replicate (xs.length - (i + 1)) ([] : (List Int))) (by rw [show xs.length - i = (xs.length - (i + 1)) + 1 by omega, List.replicate_succ]) (by decide) (fun b off es F1 Fi F2 eA eF hes hm hmc => ?_)
    obtain ⟨rfl, rfl⟩ : b1 = b ∧ 0 = off := by cases eA; exact ⟨rfl, rfl⟩
    subst eF
    refine Sx.C.know (p := ∃ A0 c0, es = [.slice A0 0 c0]) (fun w S => Kit.open_nil (St.at_ S 1 rfl).1) ?_
    rintro ⟨z0, d0, rfl⟩
    refine Sx.C.block ?_
    refine Sx.C.region ?_
    refine Sx.G.pure (.slice (some ⟨b1, 0, none⟩) xs.length xs.length) (by kernel_rfl) (fun w => by kernel_rfl) ?_
    refine Sx.G.pure (.int .i64 (i : Int)) (by kernel_rfl) (fun w => by kernel_rfl) ?_
    refine Sx.G.pure (.slice A xs.length c) (by kernel_rfl) (fun w => by kernel_rfl) ?_
    refine Sx.G.pure (.int .i64 (i : Int)) (by kernel_rfl) (fun w => by kernel_rfl) ?_
    obtain ⟨b3, f3, es3, eA3, hr3, hl3, hm3⟩ := Sx.old_elem (by decide) h i (by omega)
    subst eA3
    obtain ⟨x3, hx3⟩ : ∃ z_, z_ = (xs[i]'(by omega)) := ⟨_, rfl⟩
    rw [← hx3] at hr3
    replace hr3 : rdLst rInt w 0 w.heap.size x3 es3 := hr3
    obtain ⟨P3, rfl⟩ := lst_rd hr3
    obtain ⟨A3, c3, e3, -⟩ := lst_val hr3
    subst e3
    refine Sx.G.elem 24 26 (.tmp 16) (.tmp 17) 1 24 b3 f3 xs.length c i rfl (by kernel_rfl) (by kernel_rfl) (by kernel_rfl) (by kernel_rfl) (by omega) ?_
    refine Sx.G.ldr1 26 (.tmp 18) b3 ((f3 + i * 1) + 0) (.slice A3 x3.length c3) rfl (by kernel_rfl) (by kernel_rfl) (fun w S => hm3 w _ S 0 _ rfl) (by kernel_rfl) ?_
    refine Sx.G.call 61 #[.slice A3 x3.length c3] (by kernel_rfl) (fun w => by kernel_rfl) (fun w4 S => (Kit.kto_IntS x3 A3 c3 _ (hce _ (hx3 ▸ List.getElem_mem _)) (St.old (r := (rLsw rInt)) S hr3)).mono fun e w4' hp => ?_)
    obtain ⟨cs, F, rfl, ho, hF, hb⟩ := hp
    obtain ⟨u4, rfl⟩ := lsw_own ho
    obtain ⟨A4, c4, e4, -⟩ := lst_val ((St.got S hb ho hF).reads 0 rfl)
    subst e4
    generalize F = F4 at ho hF
    refine ⟨_, _, rfl, (St.got S hb ho hF), ?_⟩
    clear S hb ho hF
    refine Sx.G.elem 24 26 (.tmp 14) (.tmp 15) 1 24 b1 0 xs.length xs.length i rfl (by kernel_rfl) (by kernel_rfl) (by kernel_rfl) (by kernel_rfl) (by omega) ?_
    refine Sx.G.hsto (k := i) (size := 1) 26 (.tmp 21) (.tmp 20) b1 ((0 + i * 1) + 0) 0 1 [.slice A4 x3.length c4] [.slice A4 x3.length c4] [ow (rLsw rInt) w4.heap.size w4'.heap.size x3 [.slice A4 x3.length c4] F4, Sx.hole (rLsw rInt) b1 0 w.heap.size hi (xs.take i) (List.replicate (xs.length - (i + 1)) ([] : (List Int))) [.slice A4 x3.length c4] F1 F2, ow (rLsw rInt) w.heap.size hi ([] : (List Int)) [.slice z0 0 d0] Fi] rfl (by kernel_rfl) (by kernel_rfl) (by kernel_rfl) rfl (by rw [List.length_take]; omega) rfl rfl rfl rfl (by kernel_rfl) (by kernel_rfl) (by kernel_rfl) ?_
    refine Sx.G.nil ?_
    refine Sx.E.block_normal ?_
    refine Sx.E.next ?_
    refine Sx.C.region ?_
    refine Sx.G.pure (.int .i64 (i : Int)) (by kernel_rfl) (fun w => by kernel_rfl) ?_
    refine Sx.G.pureq (.int .i64 (IntKind.i64.wrap ((i : Int) + 1))) (.int .i64 ((i + 1 : Nat) : Int)) (by kernel_rfl) (fun w => by kernel_rfl) (congrArg (Value.int .i64) (Sx.wrap_up i (by omega))) ?_
    refine Sx.G.pure (.int .i64 ((i + 1 : Nat) : Int)) (by kernel_rfl) (fun w => by kernel_rfl) ?_
    refine Sx.G.nil ?_
    exact Sx.E.again (i + 1, max hi w4'.heap.size, _) (show i + 1 ≤ xs.length by omega) (show xs.length - (i + 1) < xs.length - i by omega) (fun a hA => (Sx.Ag.and hA (Sx.Ag.and hA (Sx.Ag.and hA (Sx.Ag.and hA (Sx.Ag.none hA) _ _ (by kernel_rfl)) _ _ (by kernel_rfl)) _ _ (by kernel_rfl)) _ _ (by kernel_rfl))) (fun w' S => by
      replace S := St.pick S [1, 0] [_, _] rfl (by decide)
      have S3 := Sx.St.closeW S (by decide) xs.length xs.length (by simp [List.length_take]; omega) hmc
      rw [hx3] at S3
      rw [show xs.take i ++ xs[i] :: List.replicate (xs.length - (i + 1)) ([] : (List Int)) = xs.take (i + 1) ++ List.replicate (xs.length - (i + 1)) ([] : (List Int)) by rw [Kit.take_step hlt, List.append_assoc]; rfl] at S3
      exact S3
      )
set_option maxRecDepth 100000 in
set_option maxHeartbeats 4000000 in
theorem keq_GuestS (xs : (List gT)) (A : Option Addr) (c : Nat) (B : Option Addr) (d : Nat) (w : World) (hc : (rLsw wG).cap xs) (h : rdLst wG w 0 w.heap.size xs [.slice A xs.length c]) (j : rdLst wG w 0 w.heap.size xs [.slice B xs.length d]) : Calls Try.prog 42 #[.slice A xs.length c, .slice B xs.length d] w (fun e w' => e = .returned (.bool true) ∧ Below w.heap.size w w') := by
  obtain ⟨hl, hce⟩ := hc
  refine Sx.enter (args := [.slice A xs.length c, .slice B xs.length d]) Try.func42 rfl Try.ntmps42 rfl ?_
  refine Sx.C.seq ?_
  refine Sx.C.region ?_
  refine Sx.G.pure (.bool false) (by kernel_rfl) (fun w => by kernel_rfl) ?_
  refine Sx.G.nil ?_
  refine Sx.E.next ?_
  refine Sx.C.seq ?_
  refine Sx.C.seq ?_
  refine Sx.C.region ?_
  refine Sx.G.pure (.slice A xs.length c) (by kernel_rfl) (fun w => by kernel_rfl) ?_
  refine Sx.G.pure (.int .i64 ((xs.length : Nat) : Int)) (by kernel_rfl) (fun w => by kernel_rfl) ?_
  refine Sx.G.pure (.slice B xs.length d) (by kernel_rfl) (fun w => by kernel_rfl) ?_
  refine Sx.G.pure (.int .i64 ((xs.length : Nat) : Int)) (by kernel_rfl) (fun w => by kernel_rfl) ?_
  refine Sx.G.pureq (.bool (((xs.length : Nat) : Int) != ((xs.length : Nat) : Int))) (.bool false) (by kernel_rfl) (fun w => by kernel_rfl) (congrArg Value.bool (bne_self_eq_false _)) ?_
  refine Sx.G.nil ?_
  refine Sx.E.next ?_
  refine Sx.C.no (by kernel_rfl) (by kernel_rfl) ?_
  refine Sx.C.skip ?_
  refine Sx.E.next ?_
  refine Sx.C.seq ?_
  refine Sx.C.seq ?_
  refine Sx.C.region ?_
  refine Sx.G.pure (.int .i64 0) (by kernel_rfl) (fun w => by kernel_rfl) ?_
  refine Sx.G.nil ?_
  refine Sx.E.next ?_
  refine Sx.C.block ?_
  refine Sx.C.loop (α := Nat) (fun i => i ≤ xs.length) (fun i => [(5, .int .i64 (i : Int)), (0, .slice A xs.length c), (1, .slice B xs.length d), (4, .bool false)]) (fun i => []) (fun i => xs.length - i) 0 (Nat.zero_le _) (fun a hA => (Sx.Ag.and hA (Sx.Ag.and hA (Sx.Ag.and hA (Sx.Ag.and hA (Sx.Ag.none hA) _ _ (by kernel_rfl)) _ _ (by kernel_rfl)) _ _ (by kernel_rfl)) _ _ (by kernel_rfl))) (fun w S => S) (fun i hx => ?_)
  refine Sx.C.seq ?_
  refine Sx.C.seq ?_
  refine Sx.C.region ?_
  refine Sx.G.pure (.int .i64 (i : Int)) (by kernel_rfl) (fun w => by kernel_rfl) ?_
  refine Sx.G.pure (.slice A xs.length c) (by kernel_rfl) (fun w => by kernel_rfl) ?_
  refine Sx.G.pure (.int .i64 ((xs.length : Nat) : Int)) (by kernel_rfl) (fun w => by kernel_rfl) ?_
  refine Sx.G.pure (.bool (decide ((i : Int) < ((xs.length : Nat) : Int)))) (by kernel_rfl) (fun w => by kernel_rfl) ?_
  refine Sx.G.nil ?_
  refine Sx.E.next ?_
  cases hc1 : (decide ((i : Int) < ((xs.length : Nat) : Int)))
  · have hb1 := hc1
    replace hc1 := of_decide_eq_false hc1
    refine Sx.C.no (by kernel_rfl) (by kernel_rfl) ?_
    refine Sx.C.exit ?_
    refine Sx.E.then_exit ?_
    refine Sx.E.then_exit ?_
    refine Sx.E.block_hit ?_
    refine Sx.E.next ?_
    refine Sx.C.seq ?_
    refine Sx.C.region ?_
    refine Sx.G.pure (.bool true) (by kernel_rfl) (fun w => by kernel_rfl) ?_
    refine Sx.G.nil ?_
    refine Sx.E.next ?_
    refine Sx.C.ret ?_
    refine Sx.E.ret1 (.bool true) rfl (by kernel_rfl) (fun w S => ?_)
    exact ⟨rfl, S.below⟩
  · have hb1 := hc1
    replace hc1 := of_decide_eq_true hc1
    refine Sx.C.yes (by kernel_rfl) (by kernel_rfl) ?_
    refine Sx.C.skip ?_
    refine Sx.E.next ?_
    refine Sx.C.seq ?_
    refine Sx.C.block ?_
    refine Sx.C.seq ?_
    refine Sx.C.draw (.take 0 (.take 1 (.take 2 (.take 3 (.take 4 (.take 5 (.take 6 (.take 7 (.alone 8 (.take 9 .nil)))))))))) [] (fun w S => St.pick S [] _ rfl (by decide)) (by kernel_rfl) (by kernel_rfl) (by kernel_rfl) ?_
    refine Sx.GT.pure (.slice A xs.length c) 0 (by rfl) (by kernel_rfl) (fun w => by kernel_rfl) ?_
    refine Sx.GT.pure (.int .i64 (i : Int)) 1 (by rfl) (by kernel_rfl) (fun w => by kernel_rfl) ?_
    obtain ⟨b2, f2, es2, eA2, hr2, hl2, hm2⟩ := Sx.old_elem (by decide) h i (by omega)
    subst eA2
    obtain ⟨x2, hx2⟩ : ∃ z_, z_ = (xs[i]'(by omega)) := ⟨_, rfl⟩
    rw [← hx2] at hr2
    have hR2 := hr2
    obtain ⟨P2_0, P2_1, P2_2, P2_3, rfl, hf2_0, hf2_1, hf2_2, hf2_3⟩ := wG_rd hr2
    obtain ⟨A2_0, c2_0, e2_0, -⟩ := lst_val hf2_0
    subst e2_0
    obtain ⟨A2_1, c2_1, e2_1, -⟩ := lst_val hf2_1
    subst e2_1
    obtain ⟨A2_2, c2_2, e2_2, -⟩ := lst_val hf2_2
    subst e2_2
    obtain ⟨A2_3, c2_3, e2_3, -⟩ := lst_val hf2_3
    subst e2_3
    refine Sx.GT.elem 25 51 (.tmp 17) (.tmp 18) 15 184 b2 f2 xs.length c i 2 (by rfl) (by rfl) (by kernel_rfl) (by kernel_rfl) (by kernel_rfl) (by kernel_rfl) (by omega) ?_
    refine Sx.GT.ldr 51 (.tmp 19) b2 (f2 + i * 15) [.slice A2_0 x2.prog.length c2_0, .int .i64 x2.a, .int .i64 x2.pc, .slice A2_1 x2.wr.length c2_1, .slice A2_2 x2.lv.length c2_2, .int .i64 x2.t.1, .int .i64 x2.t.2.1, .bool x2.t.2.2, .int .i64 x2.pd, .int .i64 x2.x.1, .int .i64 x2.x.2.1, .bool x2.x.2.2.1, .int .i64 x2.x.2.2.2, .bool x2.hl, .slice A2_3 x2.seen.length c2_3] 3 (by rfl) (by rfl) (by kernel_rfl) (by kernel_rfl) (fun w S => hm2 w _ S) (by kernel_rfl) (by kernel_rfl) ?_
    refine Sx.GT.pure (.slice B xs.length d) 4 (by rfl) (by kernel_rfl) (fun w => by kernel_rfl) ?_
    refine Sx.GT.pure (.int .i64 (i : Int)) 5 (by rfl) (by kernel_rfl) (fun w => by kernel_rfl) ?_
    obtain ⟨b3, f3, es3, eA3, hr3, hl3, hm3⟩ := Sx.old_elem (by decide) j i (by omega)
    subst eA3
    rw [← hx2] at hr3
    have hR3 := hr3
    obtain ⟨P3_0, P3_1, P3_2, P3_3, rfl, hf3_0, hf3_1, hf3_2, hf3_3⟩ := wG_rd hr3
    obtain ⟨A3_0, c3_0, e3_0, -⟩ := lst_val hf3_0
    subst e3_0
    obtain ⟨A3_1, c3_1, e3_1, -⟩ := lst_val hf3_1
    subst e3_1
    obtain ⟨A3_2, c3_2, e3_2, -⟩ := lst_val hf3_2
    subst e3_2
    obtain ⟨A3_3, c3_3, e3_3, -⟩ := lst_val hf3_3
    subst e3_3
    refine Sx.GT.elem 25 51 (.tmp 21) (.tmp 22) 15 184 b3 f3 xs.length d i 6 (by rfl) (by rfl) (by kernel_rfl) (by kernel_rfl) (by kernel_rfl) (by kernel_rfl) (by omega) ?_
    refine Sx.GT.ldr 51 (.tmp 23) b3 (f3 + i * 15) [.slice A3_0 x2.prog.length c3_0, .int .i64 x2.a, .int .i64 x2.pc, .slice A3_1 x2.wr.length c3_1, .slice A3_2 x2.lv.length c3_2, .int .i64 x2.t.1, .int .i64 x2.t.2.1, .bool x2.t.2.2, .int .i64 x2.pd, .int .i64 x2.x.1, .int .i64 x2.x.2.1, .bool x2.x.2.2.1, .int .i64 x2.x.2.2.2, .bool x2.hl, .slice A3_3 x2.seen.length c3_3] 7 (by rfl) (by rfl) (by kernel_rfl) (by kernel_rfl) (fun w S => hm3 w _ S) (by kernel_rfl) (by kernel_rfl) ?_
    refine Sx.GT.alone (Sx.Alone.plain 24 #[.agg #[.slice A2_0 x2.prog.length c2_0, .int .i64 x2.a, .int .i64 x2.pc, .slice A2_1 x2.wr.length c2_1, .slice A2_2 x2.lv.length c2_2, .int .i64 x2.t.1, .int .i64 x2.t.2.1, .bool x2.t.2.2, .int .i64 x2.pd, .int .i64 x2.x.1, .int .i64 x2.x.2.1, .bool x2.x.2.2.1, .int .i64 x2.x.2.2.2, .bool x2.hl, .slice A2_3 x2.seen.length c2_3], .agg #[.slice A3_0 x2.prog.length c3_0, .int .i64 x2.a, .int .i64 x2.pc, .slice A3_1 x2.wr.length c3_1, .slice A3_2 x2.lv.length c3_2, .int .i64 x2.t.1, .int .i64 x2.t.2.1, .bool x2.t.2.2, .int .i64 x2.pd, .int .i64 x2.x.1, .int .i64 x2.x.2.1, .bool x2.x.2.2.1, .int .i64 x2.x.2.2.2, .bool x2.hl, .slice A3_3 x2.seen.length c3_3]] (.bool true) (by rfl) (by kernel_rfl) (fun w => by kernel_rfl) (fun w S => by exact Kit.keq_Guest x2 _ _ _ (hce _ (hx2 ▸ List.getElem_mem _)) (St.old S hR2) (St.old S hR3)) (fun w S => St.pick S [] _ rfl (by decide)) ?_)
    refine Sx.GT.pure (.bool false) 9 (by rfl) (by kernel_rfl) (fun w => by kernel_rfl) ?_
    refine Sx.GT.nil ?_
    refine Sx.E.next ?_
    refine Sx.C.no (by kernel_rfl) (by kernel_rfl) ?_
    refine Sx.C.skip ?_
    refine Sx.E.block_normal ?_
    refine Sx.E.next ?_
    refine Sx.C.region ?_
    refine Sx.G.pure (.int .i64 (i : Int)) (by kernel_rfl) (fun w => by kernel_rfl) ?_
    refine Sx.G.pureq (.int .i64 (IntKind.i64.wrap ((i : Int) + 1))) (.int .i64 ((i + 1 : Nat) : Int)) (by kernel_rfl) (fun w => by kernel_rfl) (congrArg (Value.int .i64) (Sx.wrap_up i (by omega))) ?_
    refine Sx.G.pure (.int .i64 ((i + 1 : Nat) : Int)) (by kernel_rfl) (fun w => by kernel_rfl) ?_
    refine Sx.G.nil ?_
    exact Sx.E.again (i + 1) (by omega) (by omega) (fun a hA => (Sx.Ag.and hA (Sx.Ag.and hA (Sx.Ag.and hA (Sx.Ag.and hA (Sx.Ag.none hA) _ _ (by kernel_rfl)) _ _ (by kernel_rfl)) _ _ (by kernel_rfl)) _ _ (by kernel_rfl))) (fun w S => S)
set_option maxRecDepth 100000 in
set_option maxHeartbeats 4000000 in
theorem ksz_GuestS (xs : (List gT)) (A : Option Addr) (c : Nat) (left : Int) (w : World) (hw : (rLsw wG).wf xs) (h0 : 0 ≤ left) (h1 : left ≤ 1048576) (h : rdLst wG w 0 w.heap.size xs [.slice A xs.length c]) : Calls Try.prog 53 #[.slice A xs.length c, .int .i64 left] w (fun e w' => ∃ l, e = .returned (.int .i64 l) ∧ Kit.Sz left ((rLsw wG).size xs) l ∧ Below w.heap.size w w') := by
  obtain ⟨hl, hwe⟩ := hw
  simp only [maxLen] at hl
  refine Sx.enter (args := [.slice A xs.length c, .int .i64 left]) Try.func53 rfl Try.ntmps53 rfl ?_
  refine Sx.C.seq ?_
  refine Sx.C.region ?_
  refine Sx.G.pure (.int .i64 0) (by kernel_rfl) (fun w => by kernel_rfl) ?_
  refine Sx.G.nil ?_
  refine Sx.E.next ?_
  refine Sx.C.seq ?_
  refine Sx.C.region ?_
  refine Sx.G.pure (.int .i64 left) (by kernel_rfl) (fun w => by kernel_rfl) ?_
  refine Sx.G.pure (.slice A xs.length c) (by kernel_rfl) (fun w => by kernel_rfl) ?_
  refine Sx.G.pure (.int .i64 ((xs.length : Nat) : Int)) (by kernel_rfl) (fun w => by kernel_rfl) ?_
  refine Sx.G.pureq (.int .i64 (IntKind.i64.wrap (left - ((xs.length : Nat) : Int)))) (.int .i64 (left - ((xs.length : Nat) : Int))) (by kernel_rfl) (fun w => by kernel_rfl) (congrArg (Value.int .i64) (by rw [IntKind.wrap_i64]; omega)) ?_
  refine Sx.G.pure (.int .i64 (left - ((xs.length : Nat) : Int))) (by kernel_rfl) (fun w => by kernel_rfl) ?_
  refine Sx.G.nil ?_
  refine Sx.E.next ?_
  refine Sx.C.seq ?_
  refine Sx.C.seq ?_
  refine Sx.C.region ?_
  refine Sx.G.pure (.int .i64 (left - ((xs.length : Nat) : Int))) (by kernel_rfl) (fun w => by kernel_rfl) ?_
  refine Sx.G.pure (.bool (decide ((left - ((xs.length : Nat) : Int)) < 0))) (by kernel_rfl) (fun w => by kernel_rfl) ?_
  refine Sx.G.nil ?_
  refine Sx.E.next ?_
  cases hc1 : (decide ((left - ((xs.length : Nat) : Int)) < 0))
  · have hb1 := hc1
    replace hc1 := of_decide_eq_false hc1
    refine Sx.C.no (by kernel_rfl) (by kernel_rfl) ?_
    refine Sx.C.skip ?_
    refine Sx.E.next ?_
    refine Sx.C.seq ?_
    refine Sx.C.seq ?_
    refine Sx.C.region ?_
    refine Sx.G.pure (.int .i64 0) (by kernel_rfl) (fun w => by kernel_rfl) ?_
    refine Sx.G.nil ?_
    refine Sx.E.next ?_
    refine Sx.C.block ?_
    refine Sx.C.loop (α := Nat × Int) (fun x => x.1 ≤ xs.length ∧ x.2 = left - ((xs.length : Nat) : Int) - ((sizeAll wG (xs.take x.1) : Nat) : Int) ∧ 0 ≤ x.2) (fun x => [(5, .int .i64 (x.1 : Int)), (1, .int .i64 x.2), (0, .slice A xs.length c), (4, .int .i64 0)]) (fun x => []) (fun x => xs.length - x.1) (0, left - ((xs.length : Nat) : Int)) (by refine ⟨Nat.zero_le _, ?_, by omega⟩; simp [sizeAll]) (fun a hA => (Sx.Ag.and hA (Sx.Ag.and hA (Sx.Ag.and hA (Sx.Ag.and hA (Sx.Ag.none hA) _ _ (by kernel_rfl)) _ _ (by kernel_rfl)) _ _ (by kernel_rfl)) _ _ (by kernel_rfl))) (fun w S => S) (fun x hx => ?_)
    obtain ⟨i, m⟩ := x
    dsimp only at hx
    obtain ⟨hi, hm, h0m⟩ := hx
    refine Sx.C.seq ?_
    refine Sx.C.seq ?_
    refine Sx.C.region ?_
    refine Sx.G.pure (.int .i64 (i : Int)) (by kernel_rfl) (fun w => by kernel_rfl) ?_
    refine Sx.G.pure (.slice A xs.length c) (by kernel_rfl) (fun w => by kernel_rfl) ?_
    refine Sx.G.pure (.int .i64 ((xs.length : Nat) : Int)) (by kernel_rfl) (fun w => by kernel_rfl) ?_
    refine Sx.G.pure (.bool (decide ((i : Int) < ((xs.length : Nat) : Int)))) (by kernel_rfl) (fun w => by kernel_rfl) ?_
    refine Sx.G.nil ?_
    refine Sx.E.next ?_
    cases hc2 : (decide ((i : Int) < ((xs.length : Nat) : Int)))
    · have hb2 := hc2
      replace hc2 := of_decide_eq_false hc2
      refine Sx.C.no (by kernel_rfl) (by kernel_rfl) ?_
      refine Sx.C.exit ?_
      refine Sx.E.then_exit ?_
      refine Sx.E.then_exit ?_
      refine Sx.E.block_hit ?_
      refine Sx.E.next ?_
      refine Sx.C.seq ?_
      refine Sx.C.region ?_
      refine Sx.G.pure (.int .i64 m) (by kernel_rfl) (fun w => by kernel_rfl) ?_
      refine Sx.G.pure (.int .i64 m) (by kernel_rfl) (fun w => by kernel_rfl) ?_
      refine Sx.G.nil ?_
      refine Sx.E.next ?_
      refine Sx.C.ret ?_
      refine Sx.E.ret1 (.int .i64 m) rfl (by kernel_rfl) (fun w S => ?_)
      have hle := fun q => Kit.size_le (r := wG) (xs := xs) q
      have h2' : xs.take i = xs := List.take_of_length_le (by omega)
      rw [h2'] at hm
      exact ⟨_, rfl, show Kit.Sz left (xs.length + sizeAll wG xs) _ by unfold Kit.Sz; omega, S.below⟩
    · have hb2 := hc2
      replace hc2 := of_decide_eq_true hc2
      refine Sx.C.yes (by kernel_rfl) (by kernel_rfl) ?_
      refine Sx.C.skip ?_
      refine Sx.E.next ?_
      refine Sx.C.seq ?_
      refine Sx.C.block ?_
      refine Sx.C.seq ?_
      refine Sx.C.region ?_
      refine Sx.G.pure (.slice A xs.length c) (by kernel_rfl) (fun w => by kernel_rfl) ?_
      refine Sx.G.pure (.int .i64 (i : Int)) (by kernel_rfl) (fun w => by kernel_rfl) ?_
      obtain ⟨b3, f3, es3, eA3, hr3, hl3, hm3⟩ := Sx.old_elem (by decide) h i (by omega)
      subst eA3
      obtain ⟨x3, hx3⟩ : ∃ z_, z_ = (xs[i]'(by omega)) := ⟨_, rfl⟩
      rw [← hx3] at hr3
      have hR3 := hr3
      obtain ⟨P3_0, P3_1, P3_2, P3_3, rfl, hf3_0, hf3_1, hf3_2, hf3_3⟩ := wG_rd hr3
      obtain ⟨A3_0, c3_0, e3_0, -⟩ := lst_val hf3_0
      subst e3_0
      obtain ⟨A3_1, c3_1, e3_1, -⟩ := lst_val hf3_1
      subst e3_1
      obtain ⟨A3_2, c3_2, e3_2, -⟩ := lst_val hf3_2
      subst e3_2
      obtain ⟨A3_3, c3_3, e3_3, -⟩ := lst_val hf3_3
      subst e3_3
      refine Sx.G.elem 37 62 (.tmp 18) (.tmp 19) 15 184 b3 f3 xs.length c i rfl (by kernel_rfl) (by kernel_rfl) (by kernel_rfl) (by kernel_rfl) (by omega) ?_
      refine Sx.G.ldr 62 (.tmp 20) b3 (f3 + i * 15) [.slice A3_0 x3.prog.length c3_0, .int .i64 x3.a, .int .i64 x3.pc, .slice A3_1 x3.wr.length c3_1, .slice A3_2 x3.lv.length c3_2, .int .i64 x3.t.1, .int .i64 x3.t.2.1, .bool x3.t.2.2, .int .i64 x3.pd, .int .i64 x3.x.1, .int .i64 x3.x.2.1, .bool x3.x.2.2.1, .int .i64 x3.x.2.2.2, .bool x3.hl, .slice A3_3 x3.seen.length c3_3] rfl (by kernel_rfl) (by kernel_rfl) (fun w S => hm3 w _ S) (by kernel_rfl) (by kernel_rfl) ?_
      refine Sx.G.pure (.int .i64 m) (by kernel_rfl) (fun w => by kernel_rfl) ?_
      refine Sx.G.call 27 #[.agg #[.slice A3_0 x3.prog.length c3_0, .int .i64 x3.a, .int .i64 x3.pc, .slice A3_1 x3.wr.length c3_1, .slice A3_2 x3.lv.length c3_2, .int .i64 x3.t.1, .int .i64 x3.t.2.1, .bool x3.t.2.2, .int .i64 x3.pd, .int .i64 x3.x.1, .int .i64 x3.x.2.1, .bool x3.x.2.2.1, .int .i64 x3.x.2.2.2, .bool x3.hl, .slice A3_3 x3.seen.length c3_3], .int .i64 m] (by kernel_rfl) (fun w => by kernel_rfl) (fun w4 S => (Kit.ksz_Guest x3 _ m _ (hwe _ (hx3 ▸ List.getElem_mem _)) (by omega) (by omega) (St.old S hR3)).mono fun e w4' hp => ?_)
      obtain ⟨l4, rfl, hz4, hb⟩ := hp
      skip
      unfold Kit.Sz at hz4
      refine ⟨_, _, rfl, (S.call hb), ?_⟩
      clear S hb
      refine Sx.G.pure (.int .i64 l4) (by kernel_rfl) (fun w => by kernel_rfl) ?_
      refine Sx.G.nil ?_
      refine Sx.E.next ?_
      refine Sx.C.seq ?_
      refine Sx.C.region ?_
      refine Sx.G.pure (.int .i64 l4) (by kernel_rfl) (fun w => by kernel_rfl) ?_
      refine Sx.G.pure (.bool (decide (l4 < 0))) (by kernel_rfl) (fun w => by kernel_rfl) ?_
      refine Sx.G.nil ?_
      refine Sx.E.next ?_
      cases hc5 : (decide (l4 < 0))
      · have hb5 := hc5
        replace hc5 := of_decide_eq_false hc5
        refine Sx.C.no (by kernel_rfl) (by kernel_rfl) ?_
        refine Sx.C.skip ?_
        refine Sx.E.block_normal ?_
        refine Sx.E.next ?_
        refine Sx.C.region ?_
        refine Sx.G.pure (.int .i64 (i : Int)) (by kernel_rfl) (fun w => by kernel_rfl) ?_
        refine Sx.G.pureq (.int .i64 (IntKind.i64.wrap ((i : Int) + 1))) (.int .i64 ((i + 1 : Nat) : Int)) (by kernel_rfl) (fun w => by kernel_rfl) (congrArg (Value.int .i64) (Sx.wrap_up i (by omega))) ?_
        refine Sx.G.pure (.int .i64 ((i + 1 : Nat) : Int)) (by kernel_rfl) (fun w => by kernel_rfl) ?_
        refine Sx.G.nil ?_
        have hst := Kit.size_step (r := wG) (show i < xs.length by omega)
        rw [← hx3] at hst
        exact Sx.E.again (i + 1, l4) (by refine ⟨by omega, ?_, by omega⟩; show _ = left - _ - ((sizeAll wG (xs.take (i + 1)) : Nat) : Int); omega) (show xs.length - (i + 1) < xs.length - i by omega) (fun a hA => (Sx.Ag.and hA (Sx.Ag.and hA (Sx.Ag.and hA (Sx.Ag.and hA (Sx.Ag.none hA) _ _ (by kernel_rfl)) _ _ (by kernel_rfl)) _ _ (by kernel_rfl)) _ _ (by kernel_rfl))) (fun w S => S)
      · have hb5 := hc5
        replace hc5 := of_decide_eq_true hc5
        refine Sx.C.yes (by kernel_rfl) (by kernel_rfl) ?_
        refine Sx.C.seq ?_
        refine Sx.C.region ?_
        refine Sx.G.pure (.int .i64 (-1)) (by kernel_rfl) (fun w => by kernel_rfl) ?_
        refine Sx.G.nil ?_
        refine Sx.E.next ?_
        refine Sx.C.ret ?_
        refine Sx.E.block_ret ?_
        refine Sx.E.then_ret ?_
        refine Sx.E.then_ret ?_
        refine Sx.E.block_ret ?_
        refine Sx.E.then_ret ?_
        refine Sx.E.ret1 (.int .i64 (-1)) rfl (by kernel_rfl) (fun w S => ?_)
        have hle := fun q => Kit.size_le (r := wG) (xs := xs) q
        have hst := Kit.size_step (r := wG) (show i < xs.length by omega)
        rw [← hx3] at hst
        have h1' := hle (i + 1)
        exact ⟨_, rfl, show Kit.Sz left (xs.length + sizeAll wG xs) _ by unfold Kit.Sz; omega, S.below⟩
  · have hb1 := hc1
    replace hc1 := of_decide_eq_true hc1
    refine Sx.C.yes (by kernel_rfl) (by kernel_rfl) ?_
    refine Sx.C.seq ?_
    refine Sx.C.region ?_
    refine Sx.G.pure (.int .i64 (-1)) (by kernel_rfl) (fun w => by kernel_rfl) ?_
    refine Sx.G.nil ?_
    refine Sx.E.next ?_
    refine Sx.C.ret ?_
    refine Sx.E.then_ret ?_
    refine Sx.E.ret1 (.int .i64 (-1)) rfl (by kernel_rfl) (fun w S => ?_)
    have hle := fun q => Kit.size_le (r := wG) (xs := xs) q
    exact ⟨_, rfl, show Kit.Sz left (xs.length + sizeAll wG xs) _ by unfold Kit.Sz; omega, S.below⟩
set_option maxRecDepth 100000 in
set_option maxHeartbeats 4000000 in
theorem khd_GuestS (xs : (List gT)) (A : Option Addr) (c k : Nat) (w : World) (hc : (rLsw wG).cap xs) (hk : k + cntAll wG xs ≤ 1000000000000) (h : rdLst wG w 0 w.heap.size (mkAll wG k xs) [.slice A xs.length c]) : Calls Try.prog 50 #[.slice A xs.length c, .int .i64 ((k : Nat) : Int)] w (fun e w' => e = .returned (.int .i64 ((k + cntAll wG xs : Nat) : Int)) ∧ Below w.heap.size w w') := by
  obtain ⟨hl, hce⟩ := hc
  have hml := Kit.mk_len wG k xs
  refine Sx.enter (args := [.slice A xs.length c, .int .i64 ((k : Nat) : Int)]) Try.func50 rfl Try.ntmps50 rfl ?_
  refine Sx.C.seq ?_
  refine Sx.C.region ?_
  refine Sx.G.pure (.int .i64 0) (by kernel_rfl) (fun w => by kernel_rfl) ?_
  refine Sx.G.nil ?_
  refine Sx.E.next ?_
  refine Sx.C.seq ?_
  refine Sx.C.seq ?_
  refine Sx.C.region ?_
  refine Sx.G.pure (.int .i64 0) (by kernel_rfl) (fun w => by kernel_rfl) ?_
  refine Sx.G.nil ?_
  refine Sx.E.next ?_
  refine Sx.C.block ?_
  refine Sx.C.loop (α := Nat × Nat) (fun x => x.1 ≤ xs.length ∧ x.2 = k + cntAll wG (xs.take x.1)) (fun x => [(5, .int .i64 (x.1 : Int)), (1, .int .i64 ((x.2 : Nat) : Int)), (0, .slice A xs.length c), (4, .int .i64 0)]) (fun x => []) (fun x => xs.length - x.1) (0, k) (by refine ⟨Nat.zero_le _, ?_⟩; simp [cntAll]) (fun a hA => (Sx.Ag.and hA (Sx.Ag.and hA (Sx.Ag.and hA (Sx.Ag.and hA (Sx.Ag.none hA) _ _ (by kernel_rfl)) _ _ (by kernel_rfl)) _ _ (by kernel_rfl)) _ _ (by kernel_rfl))) (fun w S => S) (fun x hx => ?_)
  obtain ⟨i, q⟩ := x
  dsimp only at hx
  obtain ⟨hi, hq⟩ := hx
  have hqm := Kit.cnt_le (r := wG) (xs := xs) i
  refine Sx.C.seq ?_
  refine Sx.C.seq ?_
  refine Sx.C.region ?_
  refine Sx.G.pure (.int .i64 (i : Int)) (by kernel_rfl) (fun w => by kernel_rfl) ?_
  refine Sx.G.pure (.slice A xs.length c) (by kernel_rfl) (fun w => by kernel_rfl) ?_
  refine Sx.G.pure (.int .i64 ((xs.length : Nat) : Int)) (by kernel_rfl) (fun w => by kernel_rfl) ?_
  refine Sx.G.pure (.bool (decide ((i : Int) < ((xs.length : Nat) : Int)))) (by kernel_rfl) (fun w => by kernel_rfl) ?_
  refine Sx.G.nil ?_
  refine Sx.E.next ?_
  cases hc1 : (decide ((i : Int) < ((xs.length : Nat) : Int)))
  · have hb1 := hc1
    replace hc1 := of_decide_eq_false hc1
    refine Sx.C.no (by kernel_rfl) (by kernel_rfl) ?_
    refine Sx.C.exit ?_
    refine Sx.E.then_exit ?_
    refine Sx.E.then_exit ?_
    refine Sx.E.block_hit ?_
    refine Sx.E.next ?_
    refine Sx.C.seq ?_
    refine Sx.C.region ?_
    refine Sx.G.pure (.int .i64 ((q : Nat) : Int)) (by kernel_rfl) (fun w => by kernel_rfl) ?_
    refine Sx.G.pure (.int .i64 ((q : Nat) : Int)) (by kernel_rfl) (fun w => by kernel_rfl) ?_
    refine Sx.G.nil ?_
    refine Sx.E.next ?_
    refine Sx.C.ret ?_
    refine Sx.E.ret1 (.int .i64 ((q : Nat) : Int)) rfl (by kernel_rfl) (fun w S => ?_)
    have h2' : xs.take i = xs := List.take_of_length_le (by omega)
    rw [h2'] at hq
    subst hq
    exact ⟨rfl, S.below⟩
  · have hb1 := hc1
    replace hc1 := of_decide_eq_true hc1
    refine Sx.C.yes (by kernel_rfl) (by kernel_rfl) ?_
    refine Sx.C.skip ?_
    refine Sx.E.next ?_
    refine Sx.C.seq ?_
    refine Sx.C.block ?_
    refine Sx.C.seq ?_
    refine Sx.C.region ?_
    refine Sx.G.pure (.slice A xs.length c) (by kernel_rfl) (fun w => by kernel_rfl) ?_
    refine Sx.G.pure (.int .i64 (i : Int)) (by kernel_rfl) (fun w => by kernel_rfl) ?_
    obtain ⟨b2, f2, es2, eA2, hr2, hl2, hm2⟩ := Sx.old_elem (by decide) h i (by omega)
    subst eA2
    obtain ⟨x2, hx2⟩ : ∃ x, x = (xs[i]'(by omega)) := ⟨_, rfl⟩
    rw [Kit.mk_get k (show i < xs.length by omega), ← hq, ← hx2] at hr2
    obtain ⟨hcap0, hcap1, hcap2, hcap3, hcap4, hcap5, hcap6, hcap7, hcap8, hcap9⟩ := hce _ (hx2 ▸ List.getElem_mem _)
    have hst0 := Kit.cnt_step (r := wG) (show i < xs.length by omega)
    rw [← hx2] at hst0
    have hcnt0 := Kit.cnt_Guest x2
    rw [hcnt0] at hst0
    have hqm0 := Kit.cnt_le (r := wG) (xs := xs) (i + 1)
    obtain ⟨q_1, hq_1⟩ : ∃ q', q' = q + cntAll (rPair rInt rInt) x2.prog := ⟨_, rfl⟩
    obtain ⟨q_2, hq_2⟩ : ∃ q', q' = (q_1 + 2) + cntAll (rPair rInt rInt) x2.wr := ⟨_, rfl⟩
    obtain ⟨q_3, hq_3⟩ : ∃ q', q' = q_2 + cntAll (rPair rInt rInt) x2.lv := ⟨_, rfl⟩
    obtain ⟨q_4, hq_4⟩ : ∃ q', q' = (q_3 + 9) + cntAll rInt x2.seen := ⟨_, rfl⟩
    obtain ⟨P2_0, P2_1, P2_2, P2_3, e2, hf2_0, hf2_1, hf2_2, hf2_3⟩ := wG_rd hr2
    replace hf2_0 : rdLst (rPair rInt rInt) w 0 w.heap.size (mkAll (rPair rInt rInt) q x2.prog) [P2_0] := by
      subst hq_4 hq_3 hq_2 hq_1
      have h := hf2_0
      simp only [wG, rVia, rPair, rInt, rBool, rLsw, Nat.add_zero, Nat.zero_add, rCtl, rExit] at h
      first | exact h | (simp only [Nat.add_assoc] at h ⊢; exact h)
    obtain ⟨A2_0, c2_0, a2_0, -⟩ := lst_val hf2_0
    rw [Kit.mk_len] at a2_0
    subst a2_0
    replace hf2_1 : rdLst (rPair rInt rInt) w 0 w.heap.size (mkAll (rPair rInt rInt) (q_1 + 2) x2.wr) [P2_1] := by
      subst hq_4 hq_3 hq_2 hq_1
      have h := hf2_1
      simp only [wG, rVia, rPair, rInt, rBool, rLsw, Nat.add_zero, Nat.zero_add, rCtl, rExit] at h
      first | exact h | (simp only [Nat.add_assoc] at h ⊢; exact h)
    obtain ⟨A2_1, c2_1, a2_1, -⟩ := lst_val hf2_1
    rw [Kit.mk_len] at a2_1
    subst a2_1
    replace hf2_2 : rdLst (rPair rInt rInt) w 0 w.heap.size (mkAll (rPair rInt rInt) q_2 x2.lv) [P2_2] := by
      subst hq_4 hq_3 hq_2 hq_1
      have h := hf2_2
      simp only [wG, rVia, rPair, rInt, rBool, rLsw, Nat.add_zero, Nat.zero_add, rCtl, rExit] at h
      first | exact h | (simp only [Nat.add_assoc] at h ⊢; exact h)
    obtain ⟨A2_2, c2_2, a2_2, -⟩ := lst_val hf2_2
    rw [Kit.mk_len] at a2_2
    subst a2_2
    replace hf2_3 : rdLst rInt w 0 w.heap.size (mkAll rInt (q_3 + 9) x2.seen) [P2_3] := by
      subst hq_4 hq_3 hq_2 hq_1
      have h := hf2_3
      simp only [wG, rVia, rPair, rInt, rBool, rLsw, Nat.add_zero, Nat.zero_add, rCtl, rExit] at h
      first | exact h | (simp only [Nat.add_assoc] at h ⊢; exact h)
    obtain ⟨A2_3, c2_3, a2_3, -⟩ := lst_val hf2_3
    rw [Kit.mk_len] at a2_3
    subst a2_3
    obtain rfl : es2 = [.slice A2_0 x2.prog.length c2_0, .int .i64 ((q_1 : Nat) : Int), .int .i64 ((q_1 + 1 : Nat) : Int), .slice A2_1 x2.wr.length c2_1, .slice A2_2 x2.lv.length c2_2, .int .i64 ((q_3 : Nat) : Int), .int .i64 ((q_3 + 1 : Nat) : Int), .bool ((q_3 + 2) % 3 == 0), .int .i64 ((q_3 + 3 : Nat) : Int), .int .i64 ((q_3 + 4 : Nat) : Int), .int .i64 ((q_3 + 5 : Nat) : Int), .bool ((q_3 + 6) % 3 == 0), .int .i64 ((q_3 + 7 : Nat) : Int), .bool ((q_3 + 8) % 3 == 0), .slice A2_3 x2.seen.length c2_3] := by
      subst hq_4 hq_3 hq_2 hq_1
      rw [e2]
      simp only [wG, rVia, rPair, rInt, rBool, rLsw, Nat.add_zero, Nat.zero_add, rCtl, rExit]
      try simp only [Nat.add_assoc, Nat.reduceAdd]
    refine Sx.G.elem 25 51 (.tmp 12) (.tmp 13) 15 184 b2 f2 xs.length c i rfl (by kernel_rfl) (by kernel_rfl) (by kernel_rfl) (by kernel_rfl) (by omega) ?_
    refine Sx.G.pure (.pointer (some ⟨b2, (f2 + i * 15), none⟩)) (by kernel_rfl) (fun w => by kernel_rfl) ?_
    refine Sx.G.ldr1 44 (.tmp 15) b2 ((f2 + i * 15) + 0) (.slice A2_0 x2.prog.length c2_0) rfl (by kernel_rfl) (by kernel_rfl) (fun w S => hm2 w _ S 0 _ rfl) (by kernel_rfl) ?_
    refine Sx.G.pure (.int .i64 ((q : Nat) : Int)) (by kernel_rfl) (fun w => by kernel_rfl) ?_
    refine Sx.G.plain 74 #[.slice A2_0 x2.prog.length c2_0, .int .i64 ((q : Nat) : Int)] (.int .i64 ((q_1 : Nat) : Int)) (by kernel_rfl) (fun w => by kernel_rfl) (fun w S => by exact hq_1 ▸ Kit.khd_InsS x2.prog A2_0 c2_0 q _ hcap0 (by omega) (St.old (r := (rLsw (rPair rInt rInt))) S hf2_0)) ?_
    refine Sx.G.pure (.int .i64 ((q_1 : Nat) : Int)) (by kernel_rfl) (fun w => by kernel_rfl) ?_
    refine Sx.G.nil ?_
    refine Sx.E.next ?_
    refine Sx.C.seq ?_
    refine Sx.C.seq ?_
    refine Sx.C.region ?_
    refine Sx.G.pure (.int .i64 ((q_1 : Nat) : Int)) (by kernel_rfl) (fun w => by kernel_rfl) ?_
    refine Sx.G.pureq (.bool (decide (((q_1 : Nat) : Int) < 0))) (.bool false) (by kernel_rfl) (fun w => by kernel_rfl) (congrArg Value.bool (decide_eq_false (by omega))) ?_
    refine Sx.G.nil ?_
    refine Sx.E.next ?_
    refine Sx.C.no (by kernel_rfl) (by kernel_rfl) ?_
    refine Sx.C.skip ?_
    refine Sx.E.next ?_
    refine Sx.C.seq ?_
    refine Sx.C.seq ?_
    refine Sx.C.region ?_
    refine Sx.G.pure (.slice (some ⟨b2, f2, none⟩) xs.length c) (by kernel_rfl) (fun w => by kernel_rfl) ?_
    refine Sx.G.pure (.int .i64 (i : Int)) (by kernel_rfl) (fun w => by kernel_rfl) ?_
    refine Sx.G.elem 25 51 (.tmp 21) (.tmp 22) 15 184 b2 f2 xs.length c i rfl (by kernel_rfl) (by kernel_rfl) (by kernel_rfl) (by kernel_rfl) (by omega) ?_
    refine Sx.G.pure (.pointer (some ⟨b2, (f2 + i * 15) + 1, none⟩)) (by kernel_rfl) (fun w => by kernel_rfl) ?_
    refine Sx.G.ldr1 3 (.tmp 24) b2 ((f2 + i * 15) + 1) (.int .i64 ((q_1 : Nat) : Int)) rfl (by kernel_rfl) (by kernel_rfl) (fun w S => hm2 w _ S 1 _ rfl) (by kernel_rfl) ?_
    refine Sx.G.pure (.int .i64 ((q_1 : Nat) : Int)) (by kernel_rfl) (fun w => by kernel_rfl) ?_
    refine Sx.G.pureq (.bool (((q_1 : Nat) : Int) != ((q_1 : Nat) : Int))) (.bool false) (by kernel_rfl) (fun w => by kernel_rfl) (congrArg Value.bool (bne_self_eq_false _)) ?_
    refine Sx.G.nil ?_
    refine Sx.E.next ?_
    refine Sx.C.no (by kernel_rfl) (by kernel_rfl) ?_
    refine Sx.C.skip ?_
    refine Sx.E.next ?_
    refine Sx.C.seq ?_
    refine Sx.C.region ?_
    refine Sx.G.pure (.int .i64 ((q_1 : Nat) : Int)) (by kernel_rfl) (fun w => by kernel_rfl) ?_
    refine Sx.G.pureq (.int .i64 (IntKind.i64.wrap (((q_1 : Nat) : Int) + 1))) (.int .i64 ((q_1 + 1 : Nat) : Int)) (by kernel_rfl) (fun w => by kernel_rfl) (congrArg (Value.int .i64) (Sx.wrap_up q_1 (by omega))) ?_
    refine Sx.G.pure (.int .i64 ((q_1 + 1 : Nat) : Int)) (by kernel_rfl) (fun w => by kernel_rfl) ?_
    refine Sx.G.nil ?_
    refine Sx.E.next ?_
    refine Sx.C.seq ?_
    refine Sx.C.seq ?_
    refine Sx.C.region ?_
    refine Sx.G.pure (.slice (some ⟨b2, f2, none⟩) xs.length c) (by kernel_rfl) (fun w => by kernel_rfl) ?_
    refine Sx.G.pure (.int .i64 (i : Int)) (by kernel_rfl) (fun w => by kernel_rfl) ?_
    refine Sx.G.elem 25 51 (.tmp 30) (.tmp 31) 15 184 b2 f2 xs.length c i rfl (by kernel_rfl) (by kernel_rfl) (by kernel_rfl) (by kernel_rfl) (by omega) ?_
    refine Sx.G.pure (.pointer (some ⟨b2, (f2 + i * 15) + 2, none⟩)) (by kernel_rfl) (fun w => by kernel_rfl) ?_
    refine Sx.G.ldr1 3 (.tmp 33) b2 ((f2 + i * 15) + 2) (.int .i64 ((q_1 + 1 : Nat) : Int)) rfl (by kernel_rfl) (by kernel_rfl) (fun w S => hm2 w _ S 2 _ rfl) (by kernel_rfl) ?_
    refine Sx.G.pure (.int .i64 ((q_1 + 1 : Nat) : Int)) (by kernel_rfl) (fun w => by kernel_rfl) ?_
    refine Sx.G.pureq (.bool (((q_1 + 1 : Nat) : Int) != ((q_1 + 1 : Nat) : Int))) (.bool false) (by kernel_rfl) (fun w => by kernel_rfl) (congrArg Value.bool (bne_self_eq_false _)) ?_
    refine Sx.G.nil ?_
    refine Sx.E.next ?_
    refine Sx.C.no (by kernel_rfl) (by kernel_rfl) ?_
    refine Sx.C.skip ?_
    refine Sx.E.next ?_
    refine Sx.C.seq ?_
    refine Sx.C.region ?_
    refine Sx.G.pure (.int .i64 ((q_1 + 1 : Nat) : Int)) (by kernel_rfl) (fun w => by kernel_rfl) ?_
    refine Sx.G.pureq (.int .i64 (IntKind.i64.wrap (((q_1 + 1 : Nat) : Int) + 1))) (.int .i64 ((q_1 + 2 : Nat) : Int)) (by kernel_rfl) (fun w => by kernel_rfl) (congrArg (Value.int .i64) (Sx.wrap_up (q_1 + 1) (by omega))) ?_
    refine Sx.G.pure (.int .i64 ((q_1 + 2 : Nat) : Int)) (by kernel_rfl) (fun w => by kernel_rfl) ?_
    refine Sx.G.nil ?_
    refine Sx.E.next ?_
    refine Sx.C.seq ?_
    refine Sx.C.region ?_
    refine Sx.G.pure (.slice (some ⟨b2, f2, none⟩) xs.length c) (by kernel_rfl) (fun w => by kernel_rfl) ?_
    refine Sx.G.pure (.int .i64 (i : Int)) (by kernel_rfl) (fun w => by kernel_rfl) ?_
    refine Sx.G.elem 25 51 (.tmp 39) (.tmp 40) 15 184 b2 f2 xs.length c i rfl (by kernel_rfl) (by kernel_rfl) (by kernel_rfl) (by kernel_rfl) (by omega) ?_
    refine Sx.G.pure (.pointer (some ⟨b2, (f2 + i * 15) + 3, none⟩)) (by kernel_rfl) (fun w => by kernel_rfl) ?_
    refine Sx.G.ldr1 45 (.tmp 42) b2 ((f2 + i * 15) + 3) (.slice A2_1 x2.wr.length c2_1) rfl (by kernel_rfl) (by kernel_rfl) (fun w S => hm2 w _ S 3 _ rfl) (by kernel_rfl) ?_
    refine Sx.G.pure (.int .i64 ((q_1 + 2 : Nat) : Int)) (by kernel_rfl) (fun w => by kernel_rfl) ?_
    refine Sx.G.plain 75 #[.slice A2_1 x2.wr.length c2_1, .int .i64 ((q_1 + 2 : Nat) : Int)] (.int .i64 ((q_2 : Nat) : Int)) (by kernel_rfl) (fun w => by kernel_rfl) (fun w S => by exact hq_2 ▸ Kit.khd_SlotS x2.wr A2_1 c2_1 (q_1 + 2) _ hcap3 (by omega) (St.old (r := (rLsw (rPair rInt rInt))) S hf2_1)) ?_
    refine Sx.G.pure (.int .i64 ((q_2 : Nat) : Int)) (by kernel_rfl) (fun w => by kernel_rfl) ?_
    refine Sx.G.nil ?_
    refine Sx.E.next ?_
    refine Sx.C.seq ?_
    refine Sx.C.seq ?_
    refine Sx.C.region ?_
    refine Sx.G.pure (.int .i64 ((q_2 : Nat) : Int)) (by kernel_rfl) (fun w => by kernel_rfl) ?_
    refine Sx.G.pureq (.bool (decide (((q_2 : Nat) : Int) < 0))) (.bool false) (by kernel_rfl) (fun w => by kernel_rfl) (congrArg Value.bool (decide_eq_false (by omega))) ?_
    refine Sx.G.nil ?_
    refine Sx.E.next ?_
    refine Sx.C.no (by kernel_rfl) (by kernel_rfl) ?_
    refine Sx.C.skip ?_
    refine Sx.E.next ?_
    refine Sx.C.seq ?_
    refine Sx.C.region ?_
    refine Sx.G.pure (.slice (some ⟨b2, f2, none⟩) xs.length c) (by kernel_rfl) (fun w => by kernel_rfl) ?_
    refine Sx.G.pure (.int .i64 (i : Int)) (by kernel_rfl) (fun w => by kernel_rfl) ?_
    refine Sx.G.elem 25 51 (.tmp 48) (.tmp 49) 15 184 b2 f2 xs.length c i rfl (by kernel_rfl) (by kernel_rfl) (by kernel_rfl) (by kernel_rfl) (by omega) ?_
    refine Sx.G.pure (.pointer (some ⟨b2, (f2 + i * 15) + 4, none⟩)) (by kernel_rfl) (fun w => by kernel_rfl) ?_
    refine Sx.G.ldr1 45 (.tmp 51) b2 ((f2 + i * 15) + 4) (.slice A2_2 x2.lv.length c2_2) rfl (by kernel_rfl) (by kernel_rfl) (fun w S => hm2 w _ S 4 _ rfl) (by kernel_rfl) ?_
    refine Sx.G.pure (.int .i64 ((q_2 : Nat) : Int)) (by kernel_rfl) (fun w => by kernel_rfl) ?_
    refine Sx.G.plain 75 #[.slice A2_2 x2.lv.length c2_2, .int .i64 ((q_2 : Nat) : Int)] (.int .i64 ((q_3 : Nat) : Int)) (by kernel_rfl) (fun w => by kernel_rfl) (fun w S => by exact hq_3 ▸ Kit.khd_SlotS x2.lv A2_2 c2_2 q_2 _ hcap4 (by omega) (St.old (r := (rLsw (rPair rInt rInt))) S hf2_2)) ?_
    refine Sx.G.pure (.int .i64 ((q_3 : Nat) : Int)) (by kernel_rfl) (fun w => by kernel_rfl) ?_
    refine Sx.G.nil ?_
    refine Sx.E.next ?_
    refine Sx.C.seq ?_
    refine Sx.C.seq ?_
    refine Sx.C.region ?_
    refine Sx.G.pure (.int .i64 ((q_3 : Nat) : Int)) (by kernel_rfl) (fun w => by kernel_rfl) ?_
    refine Sx.G.pureq (.bool (decide (((q_3 : Nat) : Int) < 0))) (.bool false) (by kernel_rfl) (fun w => by kernel_rfl) (congrArg Value.bool (decide_eq_false (by omega))) ?_
    refine Sx.G.nil ?_
    refine Sx.E.next ?_
    refine Sx.C.no (by kernel_rfl) (by kernel_rfl) ?_
    refine Sx.C.skip ?_
    refine Sx.E.next ?_
    refine Sx.C.seq ?_
    refine Sx.C.seq ?_
    refine Sx.C.region ?_
    refine Sx.G.pure (.slice (some ⟨b2, f2, none⟩) xs.length c) (by kernel_rfl) (fun w => by kernel_rfl) ?_
    refine Sx.G.pure (.int .i64 (i : Int)) (by kernel_rfl) (fun w => by kernel_rfl) ?_
    refine Sx.G.elem 25 51 (.tmp 57) (.tmp 58) 15 184 b2 f2 xs.length c i rfl (by kernel_rfl) (by kernel_rfl) (by kernel_rfl) (by kernel_rfl) (by omega) ?_
    refine Sx.G.pure (.pointer (some ⟨b2, (f2 + i * 15) + 5, none⟩)) (by kernel_rfl) (fun w => by kernel_rfl) ?_
    refine Sx.G.pure (.pointer (some ⟨b2, (f2 + i * 15) + 5, none⟩)) (by kernel_rfl) (fun w => by kernel_rfl) ?_
    refine Sx.G.ldr1 3 (.tmp 61) b2 ((f2 + i * 15) + 5) (.int .i64 ((q_3 : Nat) : Int)) rfl (by kernel_rfl) (by kernel_rfl) (fun w S => hm2 w _ S 5 _ rfl) (by kernel_rfl) ?_
    refine Sx.G.pure (.int .i64 ((q_3 : Nat) : Int)) (by kernel_rfl) (fun w => by kernel_rfl) ?_
    refine Sx.G.pureq (.bool (((q_3 : Nat) : Int) != ((q_3 : Nat) : Int))) (.bool false) (by kernel_rfl) (fun w => by kernel_rfl) (congrArg Value.bool (bne_self_eq_false _)) ?_
    refine Sx.G.nil ?_
    refine Sx.E.next ?_
    refine Sx.C.no (by kernel_rfl) (by kernel_rfl) ?_
    refine Sx.C.skip ?_
    refine Sx.E.next ?_
    refine Sx.C.seq ?_
    refine Sx.C.region ?_
    refine Sx.G.pure (.int .i64 ((q_3 : Nat) : Int)) (by kernel_rfl) (fun w => by kernel_rfl) ?_
    refine Sx.G.pureq (.int .i64 (IntKind.i64.wrap (((q_3 : Nat) : Int) + 1))) (.int .i64 ((q_3 + 1 : Nat) : Int)) (by kernel_rfl) (fun w => by kernel_rfl) (congrArg (Value.int .i64) (Sx.wrap_up q_3 (by omega))) ?_
    refine Sx.G.pure (.int .i64 ((q_3 + 1 : Nat) : Int)) (by kernel_rfl) (fun w => by kernel_rfl) ?_
    refine Sx.G.nil ?_
    refine Sx.E.next ?_
    refine Sx.C.seq ?_
    refine Sx.C.seq ?_
    refine Sx.C.region ?_
    refine Sx.G.pure (.slice (some ⟨b2, f2, none⟩) xs.length c) (by kernel_rfl) (fun w => by kernel_rfl) ?_
    refine Sx.G.pure (.int .i64 (i : Int)) (by kernel_rfl) (fun w => by kernel_rfl) ?_
    refine Sx.G.elem 25 51 (.tmp 67) (.tmp 68) 15 184 b2 f2 xs.length c i rfl (by kernel_rfl) (by kernel_rfl) (by kernel_rfl) (by kernel_rfl) (by omega) ?_
    refine Sx.G.pure (.pointer (some ⟨b2, (f2 + i * 15) + 5, none⟩)) (by kernel_rfl) (fun w => by kernel_rfl) ?_
    refine Sx.G.pure (.pointer (some ⟨b2, (f2 + i * 15) + 6, none⟩)) (by kernel_rfl) (fun w => by kernel_rfl) ?_
    refine Sx.G.ldr1 3 (.tmp 71) b2 ((f2 + i * 15) + 6) (.int .i64 ((q_3 + 1 : Nat) : Int)) rfl (by kernel_rfl) (by kernel_rfl) (fun w S => hm2 w _ S 6 _ rfl) (by kernel_rfl) ?_
    refine Sx.G.pure (.int .i64 ((q_3 + 1 : Nat) : Int)) (by kernel_rfl) (fun w => by kernel_rfl) ?_
    refine Sx.G.pureq (.bool (((q_3 + 1 : Nat) : Int) != ((q_3 + 1 : Nat) : Int))) (.bool false) (by kernel_rfl) (fun w => by kernel_rfl) (congrArg Value.bool (bne_self_eq_false _)) ?_
    refine Sx.G.nil ?_
    refine Sx.E.next ?_
    refine Sx.C.no (by kernel_rfl) (by kernel_rfl) ?_
    refine Sx.C.skip ?_
    refine Sx.E.next ?_
    refine Sx.C.seq ?_
    refine Sx.C.region ?_
    refine Sx.G.pure (.int .i64 ((q_3 + 1 : Nat) : Int)) (by kernel_rfl) (fun w => by kernel_rfl) ?_
    refine Sx.G.pureq (.int .i64 (IntKind.i64.wrap (((q_3 + 1 : Nat) : Int) + 1))) (.int .i64 ((q_3 + 2 : Nat) : Int)) (by kernel_rfl) (fun w => by kernel_rfl) (congrArg (Value.int .i64) (Sx.wrap_up (q_3 + 1) (by omega))) ?_
    refine Sx.G.pure (.int .i64 ((q_3 + 2 : Nat) : Int)) (by kernel_rfl) (fun w => by kernel_rfl) ?_
    refine Sx.G.nil ?_
    refine Sx.E.next ?_
    refine Sx.C.seq ?_
    refine Sx.C.seq ?_
    refine Sx.C.region ?_
    refine Sx.G.pure (.slice (some ⟨b2, f2, none⟩) xs.length c) (by kernel_rfl) (fun w => by kernel_rfl) ?_
    refine Sx.G.pure (.int .i64 (i : Int)) (by kernel_rfl) (fun w => by kernel_rfl) ?_
    refine Sx.G.elem 25 51 (.tmp 77) (.tmp 78) 15 184 b2 f2 xs.length c i rfl (by kernel_rfl) (by kernel_rfl) (by kernel_rfl) (by kernel_rfl) (by omega) ?_
    refine Sx.G.pure (.pointer (some ⟨b2, (f2 + i * 15) + 5, none⟩)) (by kernel_rfl) (fun w => by kernel_rfl) ?_
    refine Sx.G.pure (.pointer (some ⟨b2, (f2 + i * 15) + 7, none⟩)) (by kernel_rfl) (fun w => by kernel_rfl) ?_
    refine Sx.G.ldr1 4 (.tmp 81) b2 ((f2 + i * 15) + 7) (.bool ((q_3 + 2) % 3 == 0)) rfl (by kernel_rfl) (by kernel_rfl) (fun w S => hm2 w _ S 7 _ rfl) (by kernel_rfl) ?_
    refine Sx.G.pure (.int .i64 ((q_3 + 2 : Nat) : Int)) (by kernel_rfl) (fun w => by kernel_rfl) ?_
    refine Sx.G.pure (.int .i64 (((q_3 + 2 : Nat) : Int).tmod 3)) (by kernel_rfl) (fun w => by kernel_rfl) ?_
    refine Sx.G.pureq (.bool ((((q_3 + 2 : Nat) : Int).tmod 3) == 0)) (.bool ((q_3 + 2) % 3 == 0)) (by kernel_rfl) (fun w => by kernel_rfl) (congrArg Value.bool (Kit.tmod3 (q_3 + 2))) ?_
    refine Sx.G.pureq (.bool (((q_3 + 2) % 3 == 0) != ((q_3 + 2) % 3 == 0))) (.bool false) (by kernel_rfl) (fun w => by kernel_rfl) (congrArg Value.bool (bne_self_eq_false _)) ?_
    refine Sx.G.nil ?_
    refine Sx.E.next ?_
    refine Sx.C.no (by kernel_rfl) (by kernel_rfl) ?_
    refine Sx.C.skip ?_
    refine Sx.E.next ?_
    refine Sx.C.seq ?_
    refine Sx.C.region ?_
    refine Sx.G.pure (.int .i64 ((q_3 + 2 : Nat) : Int)) (by kernel_rfl) (fun w => by kernel_rfl) ?_
    refine Sx.G.pureq (.int .i64 (IntKind.i64.wrap (((q_3 + 2 : Nat) : Int) + 1))) (.int .i64 ((q_3 + 3 : Nat) : Int)) (by kernel_rfl) (fun w => by kernel_rfl) (congrArg (Value.int .i64) (Sx.wrap_up (q_3 + 2) (by omega))) ?_
    refine Sx.G.pure (.int .i64 ((q_3 + 3 : Nat) : Int)) (by kernel_rfl) (fun w => by kernel_rfl) ?_
    refine Sx.G.nil ?_
    refine Sx.E.next ?_
    refine Sx.C.seq ?_
    refine Sx.C.seq ?_
    refine Sx.C.region ?_
    refine Sx.G.pure (.slice (some ⟨b2, f2, none⟩) xs.length c) (by kernel_rfl) (fun w => by kernel_rfl) ?_
    refine Sx.G.pure (.int .i64 (i : Int)) (by kernel_rfl) (fun w => by kernel_rfl) ?_
    refine Sx.G.elem 25 51 (.tmp 89) (.tmp 90) 15 184 b2 f2 xs.length c i rfl (by kernel_rfl) (by kernel_rfl) (by kernel_rfl) (by kernel_rfl) (by omega) ?_
    refine Sx.G.pure (.pointer (some ⟨b2, (f2 + i * 15) + 8, none⟩)) (by kernel_rfl) (fun w => by kernel_rfl) ?_
    refine Sx.G.ldr1 3 (.tmp 92) b2 ((f2 + i * 15) + 8) (.int .i64 ((q_3 + 3 : Nat) : Int)) rfl (by kernel_rfl) (by kernel_rfl) (fun w S => hm2 w _ S 8 _ rfl) (by kernel_rfl) ?_
    refine Sx.G.pure (.int .i64 ((q_3 + 3 : Nat) : Int)) (by kernel_rfl) (fun w => by kernel_rfl) ?_
    refine Sx.G.pureq (.bool (((q_3 + 3 : Nat) : Int) != ((q_3 + 3 : Nat) : Int))) (.bool false) (by kernel_rfl) (fun w => by kernel_rfl) (congrArg Value.bool (bne_self_eq_false _)) ?_
    refine Sx.G.nil ?_
    refine Sx.E.next ?_
    refine Sx.C.no (by kernel_rfl) (by kernel_rfl) ?_
    refine Sx.C.skip ?_
    refine Sx.E.next ?_
    refine Sx.C.seq ?_
    refine Sx.C.region ?_
    refine Sx.G.pure (.int .i64 ((q_3 + 3 : Nat) : Int)) (by kernel_rfl) (fun w => by kernel_rfl) ?_
    refine Sx.G.pureq (.int .i64 (IntKind.i64.wrap (((q_3 + 3 : Nat) : Int) + 1))) (.int .i64 ((q_3 + 4 : Nat) : Int)) (by kernel_rfl) (fun w => by kernel_rfl) (congrArg (Value.int .i64) (Sx.wrap_up (q_3 + 3) (by omega))) ?_
    refine Sx.G.pure (.int .i64 ((q_3 + 4 : Nat) : Int)) (by kernel_rfl) (fun w => by kernel_rfl) ?_
    refine Sx.G.nil ?_
    refine Sx.E.next ?_
    refine Sx.C.seq ?_
    refine Sx.C.seq ?_
    refine Sx.C.region ?_
    refine Sx.G.pure (.slice (some ⟨b2, f2, none⟩) xs.length c) (by kernel_rfl) (fun w => by kernel_rfl) ?_
    refine Sx.G.pure (.int .i64 (i : Int)) (by kernel_rfl) (fun w => by kernel_rfl) ?_
    refine Sx.G.elem 25 51 (.tmp 98) (.tmp 99) 15 184 b2 f2 xs.length c i rfl (by kernel_rfl) (by kernel_rfl) (by kernel_rfl) (by kernel_rfl) (by omega) ?_
    refine Sx.G.pure (.pointer (some ⟨b2, (f2 + i * 15) + 9, none⟩)) (by kernel_rfl) (fun w => by kernel_rfl) ?_
    refine Sx.G.pure (.pointer (some ⟨b2, (f2 + i * 15) + 9, none⟩)) (by kernel_rfl) (fun w => by kernel_rfl) ?_
    refine Sx.G.ldr1 3 (.tmp 102) b2 ((f2 + i * 15) + 9) (.int .i64 ((q_3 + 4 : Nat) : Int)) rfl (by kernel_rfl) (by kernel_rfl) (fun w S => hm2 w _ S 9 _ rfl) (by kernel_rfl) ?_
    refine Sx.G.pure (.int .i64 ((q_3 + 4 : Nat) : Int)) (by kernel_rfl) (fun w => by kernel_rfl) ?_
    refine Sx.G.pureq (.bool (((q_3 + 4 : Nat) : Int) != ((q_3 + 4 : Nat) : Int))) (.bool false) (by kernel_rfl) (fun w => by kernel_rfl) (congrArg Value.bool (bne_self_eq_false _)) ?_
    refine Sx.G.nil ?_
    refine Sx.E.next ?_
    refine Sx.C.no (by kernel_rfl) (by kernel_rfl) ?_
    refine Sx.C.skip ?_
    refine Sx.E.next ?_
    refine Sx.C.seq ?_
    refine Sx.C.region ?_
    refine Sx.G.pure (.int .i64 ((q_3 + 4 : Nat) : Int)) (by kernel_rfl) (fun w => by kernel_rfl) ?_
    refine Sx.G.pureq (.int .i64 (IntKind.i64.wrap (((q_3 + 4 : Nat) : Int) + 1))) (.int .i64 ((q_3 + 5 : Nat) : Int)) (by kernel_rfl) (fun w => by kernel_rfl) (congrArg (Value.int .i64) (Sx.wrap_up (q_3 + 4) (by omega))) ?_
    refine Sx.G.pure (.int .i64 ((q_3 + 5 : Nat) : Int)) (by kernel_rfl) (fun w => by kernel_rfl) ?_
    refine Sx.G.nil ?_
    refine Sx.E.next ?_
    refine Sx.C.seq ?_
    refine Sx.C.seq ?_
    refine Sx.C.region ?_
    refine Sx.G.pure (.slice (some ⟨b2, f2, none⟩) xs.length c) (by kernel_rfl) (fun w => by kernel_rfl) ?_
    refine Sx.G.pure (.int .i64 (i : Int)) (by kernel_rfl) (fun w => by kernel_rfl) ?_
    refine Sx.G.elem 25 51 (.tmp 108) (.tmp 109) 15 184 b2 f2 xs.length c i rfl (by kernel_rfl) (by kernel_rfl) (by kernel_rfl) (by kernel_rfl) (by omega) ?_
    refine Sx.G.pure (.pointer (some ⟨b2, (f2 + i * 15) + 9, none⟩)) (by kernel_rfl) (fun w => by kernel_rfl) ?_
    refine Sx.G.pure (.pointer (some ⟨b2, (f2 + i * 15) + 10, none⟩)) (by kernel_rfl) (fun w => by kernel_rfl) ?_
    refine Sx.G.ldr1 3 (.tmp 112) b2 ((f2 + i * 15) + 10) (.int .i64 ((q_3 + 5 : Nat) : Int)) rfl (by kernel_rfl) (by kernel_rfl) (fun w S => hm2 w _ S 10 _ rfl) (by kernel_rfl) ?_
    refine Sx.G.pure (.int .i64 ((q_3 + 5 : Nat) : Int)) (by kernel_rfl) (fun w => by kernel_rfl) ?_
    refine Sx.G.pureq (.bool (((q_3 + 5 : Nat) : Int) != ((q_3 + 5 : Nat) : Int))) (.bool false) (by kernel_rfl) (fun w => by kernel_rfl) (congrArg Value.bool (bne_self_eq_false _)) ?_
    refine Sx.G.nil ?_
    refine Sx.E.next ?_
    refine Sx.C.no (by kernel_rfl) (by kernel_rfl) ?_
    refine Sx.C.skip ?_
    refine Sx.E.next ?_
    refine Sx.C.seq ?_
    refine Sx.C.region ?_
    refine Sx.G.pure (.int .i64 ((q_3 + 5 : Nat) : Int)) (by kernel_rfl) (fun w => by kernel_rfl) ?_
    refine Sx.G.pureq (.int .i64 (IntKind.i64.wrap (((q_3 + 5 : Nat) : Int) + 1))) (.int .i64 ((q_3 + 6 : Nat) : Int)) (by kernel_rfl) (fun w => by kernel_rfl) (congrArg (Value.int .i64) (Sx.wrap_up (q_3 + 5) (by omega))) ?_
    refine Sx.G.pure (.int .i64 ((q_3 + 6 : Nat) : Int)) (by kernel_rfl) (fun w => by kernel_rfl) ?_
    refine Sx.G.nil ?_
    refine Sx.E.next ?_
    refine Sx.C.seq ?_
    refine Sx.C.seq ?_
    refine Sx.C.region ?_
    refine Sx.G.pure (.slice (some ⟨b2, f2, none⟩) xs.length c) (by kernel_rfl) (fun w => by kernel_rfl) ?_
    refine Sx.G.pure (.int .i64 (i : Int)) (by kernel_rfl) (fun w => by kernel_rfl) ?_
    refine Sx.G.elem 25 51 (.tmp 118) (.tmp 119) 15 184 b2 f2 xs.length c i rfl (by kernel_rfl) (by kernel_rfl) (by kernel_rfl) (by kernel_rfl) (by omega) ?_
    refine Sx.G.pure (.pointer (some ⟨b2, (f2 + i * 15) + 9, none⟩)) (by kernel_rfl) (fun w => by kernel_rfl) ?_
    refine Sx.G.pure (.pointer (some ⟨b2, (f2 + i * 15) + 11, none⟩)) (by kernel_rfl) (fun w => by kernel_rfl) ?_
    refine Sx.G.ldr1 4 (.tmp 122) b2 ((f2 + i * 15) + 11) (.bool ((q_3 + 6) % 3 == 0)) rfl (by kernel_rfl) (by kernel_rfl) (fun w S => hm2 w _ S 11 _ rfl) (by kernel_rfl) ?_
    refine Sx.G.pure (.int .i64 ((q_3 + 6 : Nat) : Int)) (by kernel_rfl) (fun w => by kernel_rfl) ?_
    refine Sx.G.pure (.int .i64 (((q_3 + 6 : Nat) : Int).tmod 3)) (by kernel_rfl) (fun w => by kernel_rfl) ?_
    refine Sx.G.pureq (.bool ((((q_3 + 6 : Nat) : Int).tmod 3) == 0)) (.bool ((q_3 + 6) % 3 == 0)) (by kernel_rfl) (fun w => by kernel_rfl) (congrArg Value.bool (Kit.tmod3 (q_3 + 6))) ?_
    refine Sx.G.pureq (.bool (((q_3 + 6) % 3 == 0) != ((q_3 + 6) % 3 == 0))) (.bool false) (by kernel_rfl) (fun w => by kernel_rfl) (congrArg Value.bool (bne_self_eq_false _)) ?_
    refine Sx.G.nil ?_
    refine Sx.E.next ?_
    refine Sx.C.no (by kernel_rfl) (by kernel_rfl) ?_
    refine Sx.C.skip ?_
    refine Sx.E.next ?_
    refine Sx.C.seq ?_
    refine Sx.C.region ?_
    refine Sx.G.pure (.int .i64 ((q_3 + 6 : Nat) : Int)) (by kernel_rfl) (fun w => by kernel_rfl) ?_
    refine Sx.G.pureq (.int .i64 (IntKind.i64.wrap (((q_3 + 6 : Nat) : Int) + 1))) (.int .i64 ((q_3 + 7 : Nat) : Int)) (by kernel_rfl) (fun w => by kernel_rfl) (congrArg (Value.int .i64) (Sx.wrap_up (q_3 + 6) (by omega))) ?_
    refine Sx.G.pure (.int .i64 ((q_3 + 7 : Nat) : Int)) (by kernel_rfl) (fun w => by kernel_rfl) ?_
    refine Sx.G.nil ?_
    refine Sx.E.next ?_
    refine Sx.C.seq ?_
    refine Sx.C.seq ?_
    refine Sx.C.region ?_
    refine Sx.G.pure (.slice (some ⟨b2, f2, none⟩) xs.length c) (by kernel_rfl) (fun w => by kernel_rfl) ?_
    refine Sx.G.pure (.int .i64 (i : Int)) (by kernel_rfl) (fun w => by kernel_rfl) ?_
    refine Sx.G.elem 25 51 (.tmp 130) (.tmp 131) 15 184 b2 f2 xs.length c i rfl (by kernel_rfl) (by kernel_rfl) (by kernel_rfl) (by kernel_rfl) (by omega) ?_
    refine Sx.G.pure (.pointer (some ⟨b2, (f2 + i * 15) + 9, none⟩)) (by kernel_rfl) (fun w => by kernel_rfl) ?_
    refine Sx.G.pure (.pointer (some ⟨b2, (f2 + i * 15) + 12, none⟩)) (by kernel_rfl) (fun w => by kernel_rfl) ?_
    refine Sx.G.ldr1 3 (.tmp 134) b2 ((f2 + i * 15) + 12) (.int .i64 ((q_3 + 7 : Nat) : Int)) rfl (by kernel_rfl) (by kernel_rfl) (fun w S => hm2 w _ S 12 _ rfl) (by kernel_rfl) ?_
    refine Sx.G.pure (.int .i64 ((q_3 + 7 : Nat) : Int)) (by kernel_rfl) (fun w => by kernel_rfl) ?_
    refine Sx.G.pureq (.bool (((q_3 + 7 : Nat) : Int) != ((q_3 + 7 : Nat) : Int))) (.bool false) (by kernel_rfl) (fun w => by kernel_rfl) (congrArg Value.bool (bne_self_eq_false _)) ?_
    refine Sx.G.nil ?_
    refine Sx.E.next ?_
    refine Sx.C.no (by kernel_rfl) (by kernel_rfl) ?_
    refine Sx.C.skip ?_
    refine Sx.E.next ?_
    refine Sx.C.seq ?_
    refine Sx.C.region ?_
    refine Sx.G.pure (.int .i64 ((q_3 + 7 : Nat) : Int)) (by kernel_rfl) (fun w => by kernel_rfl) ?_
    refine Sx.G.pureq (.int .i64 (IntKind.i64.wrap (((q_3 + 7 : Nat) : Int) + 1))) (.int .i64 ((q_3 + 8 : Nat) : Int)) (by kernel_rfl) (fun w => by kernel_rfl) (congrArg (Value.int .i64) (Sx.wrap_up (q_3 + 7) (by omega))) ?_
    refine Sx.G.pure (.int .i64 ((q_3 + 8 : Nat) : Int)) (by kernel_rfl) (fun w => by kernel_rfl) ?_
    refine Sx.G.nil ?_
    refine Sx.E.next ?_
    refine Sx.C.seq ?_
    refine Sx.C.seq ?_
    refine Sx.C.region ?_
    refine Sx.G.pure (.slice (some ⟨b2, f2, none⟩) xs.length c) (by kernel_rfl) (fun w => by kernel_rfl) ?_
    refine Sx.G.pure (.int .i64 (i : Int)) (by kernel_rfl) (fun w => by kernel_rfl) ?_
    refine Sx.G.elem 25 51 (.tmp 140) (.tmp 141) 15 184 b2 f2 xs.length c i rfl (by kernel_rfl) (by kernel_rfl) (by kernel_rfl) (by kernel_rfl) (by omega) ?_
    refine Sx.G.pure (.pointer (some ⟨b2, (f2 + i * 15) + 13, none⟩)) (by kernel_rfl) (fun w => by kernel_rfl) ?_
    refine Sx.G.ldr1 4 (.tmp 143) b2 ((f2 + i * 15) + 13) (.bool ((q_3 + 8) % 3 == 0)) rfl (by kernel_rfl) (by kernel_rfl) (fun w S => hm2 w _ S 13 _ rfl) (by kernel_rfl) ?_
    refine Sx.G.pure (.int .i64 ((q_3 + 8 : Nat) : Int)) (by kernel_rfl) (fun w => by kernel_rfl) ?_
    refine Sx.G.pure (.int .i64 (((q_3 + 8 : Nat) : Int).tmod 3)) (by kernel_rfl) (fun w => by kernel_rfl) ?_
    refine Sx.G.pureq (.bool ((((q_3 + 8 : Nat) : Int).tmod 3) == 0)) (.bool ((q_3 + 8) % 3 == 0)) (by kernel_rfl) (fun w => by kernel_rfl) (congrArg Value.bool (Kit.tmod3 (q_3 + 8))) ?_
    refine Sx.G.pureq (.bool (((q_3 + 8) % 3 == 0) != ((q_3 + 8) % 3 == 0))) (.bool false) (by kernel_rfl) (fun w => by kernel_rfl) (congrArg Value.bool (bne_self_eq_false _)) ?_
    refine Sx.G.nil ?_
    refine Sx.E.next ?_
    refine Sx.C.no (by kernel_rfl) (by kernel_rfl) ?_
    refine Sx.C.skip ?_
    refine Sx.E.next ?_
    refine Sx.C.seq ?_
    refine Sx.C.region ?_
    refine Sx.G.pure (.int .i64 ((q_3 + 8 : Nat) : Int)) (by kernel_rfl) (fun w => by kernel_rfl) ?_
    refine Sx.G.pureq (.int .i64 (IntKind.i64.wrap (((q_3 + 8 : Nat) : Int) + 1))) (.int .i64 ((q_3 + 9 : Nat) : Int)) (by kernel_rfl) (fun w => by kernel_rfl) (congrArg (Value.int .i64) (Sx.wrap_up (q_3 + 8) (by omega))) ?_
    refine Sx.G.pure (.int .i64 ((q_3 + 9 : Nat) : Int)) (by kernel_rfl) (fun w => by kernel_rfl) ?_
    refine Sx.G.nil ?_
    refine Sx.E.next ?_
    refine Sx.C.seq ?_
    refine Sx.C.region ?_
    refine Sx.G.pure (.slice (some ⟨b2, f2, none⟩) xs.length c) (by kernel_rfl) (fun w => by kernel_rfl) ?_
    refine Sx.G.pure (.int .i64 (i : Int)) (by kernel_rfl) (fun w => by kernel_rfl) ?_
    refine Sx.G.elem 25 51 (.tmp 151) (.tmp 152) 15 184 b2 f2 xs.length c i rfl (by kernel_rfl) (by kernel_rfl) (by kernel_rfl) (by kernel_rfl) (by omega) ?_
    refine Sx.G.pure (.pointer (some ⟨b2, (f2 + i * 15) + 14, none⟩)) (by kernel_rfl) (fun w => by kernel_rfl) ?_
    refine Sx.G.ldr1 26 (.tmp 154) b2 ((f2 + i * 15) + 14) (.slice A2_3 x2.seen.length c2_3) rfl (by kernel_rfl) (by kernel_rfl) (fun w S => hm2 w _ S 14 _ rfl) (by kernel_rfl) ?_
    refine Sx.G.pure (.int .i64 ((q_3 + 9 : Nat) : Int)) (by kernel_rfl) (fun w => by kernel_rfl) ?_
    refine Sx.G.plain 51 #[.slice A2_3 x2.seen.length c2_3, .int .i64 ((q_3 + 9 : Nat) : Int)] (.int .i64 ((q_4 : Nat) : Int)) (by kernel_rfl) (fun w => by kernel_rfl) (fun w S => by exact hq_4 ▸ Kit.khd_IntS x2.seen A2_3 c2_3 (q_3 + 9) _ hcap9 (by omega) (St.old (r := (rLsw rInt)) S hf2_3)) ?_
    refine Sx.G.pure (.int .i64 ((q_4 : Nat) : Int)) (by kernel_rfl) (fun w => by kernel_rfl) ?_
    refine Sx.G.nil ?_
    refine Sx.E.next ?_
    refine Sx.C.seq ?_
    refine Sx.C.region ?_
    refine Sx.G.pure (.int .i64 ((q_4 : Nat) : Int)) (by kernel_rfl) (fun w => by kernel_rfl) ?_
    refine Sx.G.pureq (.bool (decide (((q_4 : Nat) : Int) < 0))) (.bool false) (by kernel_rfl) (fun w => by kernel_rfl) (congrArg Value.bool (decide_eq_false (by omega))) ?_
    refine Sx.G.nil ?_
    refine Sx.E.next ?_
    refine Sx.C.no (by kernel_rfl) (by kernel_rfl) ?_
    refine Sx.C.skip ?_
    refine Sx.E.block_normal ?_
    refine Sx.E.next ?_
    refine Sx.C.region ?_
    refine Sx.G.pure (.int .i64 (i : Int)) (by kernel_rfl) (fun w => by kernel_rfl) ?_
    refine Sx.G.pureq (.int .i64 (IntKind.i64.wrap ((i : Int) + 1))) (.int .i64 ((i + 1 : Nat) : Int)) (by kernel_rfl) (fun w => by kernel_rfl) (congrArg (Value.int .i64) (Sx.wrap_up i (by omega))) ?_
    refine Sx.G.pure (.int .i64 ((i + 1 : Nat) : Int)) (by kernel_rfl) (fun w => by kernel_rfl) ?_
    refine Sx.G.nil ?_
    have hst := Kit.cnt_step (r := wG) (show i < xs.length by omega)
    rw [← hx2] at hst
    have hcnt := Kit.cnt_Guest x2
    exact Sx.E.again (i + 1, (q_4 : Nat)) (by refine ⟨by omega, ?_⟩; show _ = k + cntAll wG (xs.take (i + 1)); rw [hst]; rw [hcnt]; omega) (show xs.length - (i + 1) < xs.length - i by omega) (fun a hA => (Sx.Ag.and hA (Sx.Ag.and hA (Sx.Ag.and hA (Sx.Ag.and hA (Sx.Ag.none hA) _ _ (by kernel_rfl)) _ _ (by kernel_rfl)) _ _ (by kernel_rfl)) _ _ (by kernel_rfl))) (fun w S => S)
set_option maxRecDepth 100000 in
set_option maxHeartbeats 4000000 in
theorem kmk0_GuestS {w0 w : World} {lo hi : Nat} {R : List Res} (xs : (List gT)) (A : Option Addr) (c k : Nat) (F : List Nat) (hc : (rLsw wG).cap xs) (hk : k + cntAll wG xs ≤ 1000000000000) (S : St w0 w (ow (rLsw wG) lo hi xs [.slice A xs.length c] F :: R)) : Calls Try.prog 47 #[.slice A xs.length c, .int .i64 ((k : Nat) : Int)] w fun e w' => e = .returned (.int .i64 ((k + cntAll wG xs : Nat) : Int)) ∧ St w0 w' (ow (rLsw wG) lo hi (mkAll wG k xs) [.slice A xs.length c] F :: R) := by
  obtain ⟨hl, hce⟩ := hc
  refine Sx.enterS (args := [.slice A xs.length c, .int .i64 ((k : Nat) : Int)]) S Try.func47 rfl Try.ntmps47 rfl ?_
  refine Sx.C.seq ?_
  refine Sx.C.region ?_
  refine Sx.G.pure (.int .i64 0) (by kernel_rfl) (fun w => by kernel_rfl) ?_
  refine Sx.G.nil ?_
  refine Sx.E.next ?_
  refine Sx.C.seq ?_
  refine Sx.C.seq ?_
  refine Sx.C.region ?_
  refine Sx.G.pure (.int .i64 0) (by kernel_rfl) (fun w => by kernel_rfl) ?_
  refine Sx.G.nil ?_
  refine Sx.E.next ?_
  refine Sx.C.block ?_
  refine Sx.C.loop (α := Nat × Nat) (fun x => x.1 ≤ xs.length ∧ x.2 = k + cntAll wG (xs.take x.1)) (fun x => [(5, .int .i64 (x.1 : Int)), (1, .int .i64 ((x.2 : Nat) : Int)), (0, .slice A xs.length c), (4, .int .i64 0)]) (fun x => (ow (rLsw wG) lo hi (mkAll wG k (xs.take x.1) ++ xs.drop x.1) [.slice A xs.length c] F :: R)) (fun x => xs.length - x.1) (0, k) (by refine ⟨Nat.zero_le _, ?_⟩; simp [cntAll]) (fun a hA => (Sx.Ag.and hA (Sx.Ag.and hA (Sx.Ag.and hA (Sx.Ag.and hA (Sx.Ag.none hA) _ _ (by kernel_rfl)) _ _ (by kernel_rfl)) _ _ (by kernel_rfl)) _ _ (by kernel_rfl))) (fun w S => S) (fun x hx => ?_)
  obtain ⟨i, q⟩ := x
  dsimp only at hx
  obtain ⟨hi', hq⟩ := hx
  have hqm := Kit.cnt_le (r := wG) (xs := xs) i
  refine Sx.C.seq ?_
  refine Sx.C.seq ?_
  refine Sx.C.region ?_
  refine Sx.G.pure (.int .i64 (i : Int)) (by kernel_rfl) (fun w => by kernel_rfl) ?_
  refine Sx.G.pure (.slice A xs.length c) (by kernel_rfl) (fun w => by kernel_rfl) ?_
  refine Sx.G.pure (.int .i64 ((xs.length : Nat) : Int)) (by kernel_rfl) (fun w => by kernel_rfl) ?_
  refine Sx.G.pure (.bool (decide ((i : Int) < ((xs.length : Nat) : Int)))) (by kernel_rfl) (fun w => by kernel_rfl) ?_
  refine Sx.G.nil ?_
  refine Sx.E.next ?_
  cases hc1 : (decide ((i : Int) < ((xs.length : Nat) : Int)))
  · have hb1 := hc1
    replace hc1 := of_decide_eq_false hc1
    refine Sx.C.no (by kernel_rfl) (by kernel_rfl) ?_
    refine Sx.C.exit ?_
    refine Sx.E.then_exit ?_
    refine Sx.E.then_exit ?_
    refine Sx.E.block_hit ?_
    refine Sx.E.next ?_
    refine Sx.C.seq ?_
    refine Sx.C.region ?_
    refine Sx.G.pure (.int .i64 ((q : Nat) : Int)) (by kernel_rfl) (fun w => by kernel_rfl) ?_
    refine Sx.G.pure (.int .i64 ((q : Nat) : Int)) (by kernel_rfl) (fun w => by kernel_rfl) ?_
    refine Sx.G.nil ?_
    refine Sx.E.next ?_
    refine Sx.C.ret ?_
    refine Sx.E.ret1 (.int .i64 ((q : Nat) : Int)) rfl (by kernel_rfl) (fun w S => ?_)
    have h2' : xs.take i = xs := List.take_of_length_le (by omega)
    have h3' : xs.drop i = [] := List.drop_of_length_le (by omega)
    rw [h2'] at hq
    rw [h2', h3', List.append_nil] at S
    subst hq
    exact ⟨rfl, S⟩
  · have hb1 := hc1
    replace hc1 := of_decide_eq_true hc1
    refine Sx.C.yes (by kernel_rfl) (by kernel_rfl) ?_
    refine Sx.C.skip ?_
    refine Sx.E.next ?_
    refine Sx.C.seq ?_
    have hlt : i < xs.length := by omega
    obtain ⟨x1, hx1⟩ : ∃ x, x = xs[i] := ⟨_, rfl⟩
    have hm1 : x1 ∈ xs := hx1 ▸ List.getElem_mem _
    refine Sx.C.open (r := wG) (pre := mkAll wG k (xs.take i)) (x := x1) (post := xs.drop (i + 1)) (by rw [hx1, ← Kit.drop_step hlt]) (by decide) (fun b off es F1 Fi F2 eA eF hes hm hmc => ?_)
    subst eA eF
    have hst0 := Kit.cnt_step (r := wG) (show i < xs.length by omega)
    rw [← hx1] at hst0
    have hcnt0 := Kit.cnt_Guest x1
    rw [hcnt0] at hst0
    have hqm0 := Kit.cnt_le (r := wG) (xs := xs) (i + 1)
    refine Kit.copen_Guest (fun p0 p1 p2 p3 pF0 pF1 pF2 pF3 e1 e2 => ?_)
    subst e1 e2
    refine Sx.C.know (p := ∃ A c, p0 = .slice A x1.prog.length c) (fun w S => by obtain ⟨A, c, e, -⟩ := lst_val (St.reads S 1 rfl); exact ⟨A, c, e⟩) ?_
    rintro ⟨pA0, pc0, rfl⟩
    refine Sx.C.know (p := ∃ A c, p1 = .slice A x1.wr.length c) (fun w S => by obtain ⟨A, c, e, -⟩ := lst_val (St.reads S 2 rfl); exact ⟨A, c, e⟩) ?_
    rintro ⟨pA1, pc1, rfl⟩
    refine Sx.C.know (p := ∃ A c, p2 = .slice A x1.lv.length c) (fun w S => by obtain ⟨A, c, e, -⟩ := lst_val (St.reads S 3 rfl); exact ⟨A, c, e⟩) ?_
    rintro ⟨pA2, pc2, rfl⟩
    refine Sx.C.know (p := ∃ A c, p3 = .slice A x1.seen.length c) (fun w S => by obtain ⟨A, c, e, -⟩ := lst_val (St.reads S 4 rfl); exact ⟨A, c, e⟩) ?_
    rintro ⟨pA3, pc3, rfl⟩
    obtain ⟨hcap0, hcap1, hcap2, hcap3, hcap4, hcap5, hcap6, hcap7, hcap8, hcap9⟩ := hce _ (hm1)
    refine Sx.C.block ?_
    refine Sx.C.seq ?_
    refine Sx.C.region ?_
    refine Sx.G.pure (.slice (some ⟨b, off, none⟩) xs.length c) (by kernel_rfl) (fun w => by kernel_rfl) ?_
    refine Sx.G.pure (.int .i64 (i : Int)) (by kernel_rfl) (fun w => by kernel_rfl) ?_
    refine Sx.G.elem 25 51 (.tmp 12) (.tmp 13) 15 184 b off xs.length c i rfl (by kernel_rfl) (by kernel_rfl) (by kernel_rfl) (by kernel_rfl) (by omega) ?_
    refine Sx.G.pure (.pointer (some ⟨b, (off + i * 15), none⟩)) (by kernel_rfl) (fun w => by kernel_rfl) ?_
    refine Sx.G.hld1 (k := i) (size := 15) 44 (.tmp 15) b ((off + i * 15) + 0) 0 0 (.slice pA0 x1.prog.length pc0) rfl (by kernel_rfl) (by kernel_rfl) rfl (by rw [Kit.mk_len, List.length_take]; omega) rfl rfl rfl (by kernel_rfl) ?_
    refine Sx.G.pure (.int .i64 ((q : Nat) : Int)) (by kernel_rfl) (fun w => by kernel_rfl) ?_
    obtain ⟨q2, hq2⟩ : ∃ q', q' = q + cntAll (rPair rInt rInt) x1.prog := ⟨_, rfl⟩
    refine Sx.G.call 45 #[.slice pA0 x1.prog.length pc0, .int .i64 ((q : Nat) : Int)] (by kernel_rfl) (fun w => by kernel_rfl) (fun w2 S => (Kit.kmk_InsS x1.prog pA0 pc0 q _ hcap0 (by omega) S 1 rfl).mono fun e w2' hp => ?_)
    rw [← hq2] at hp
    obtain ⟨rfl, S'⟩ := hp
    refine ⟨_, _, rfl, S', ?_⟩
    clear S S'
    refine Sx.G.pure (.int .i64 ((q2 : Nat) : Int)) (by kernel_rfl) (fun w => by kernel_rfl) ?_
    refine Sx.G.nil ?_
    refine Sx.E.next ?_
    refine Sx.C.seq ?_
    refine Sx.C.region ?_
    refine Sx.G.pure (.slice (some ⟨b, off, none⟩) xs.length c) (by kernel_rfl) (fun w => by kernel_rfl) ?_
    refine Sx.G.pure (.int .i64 (i : Int)) (by kernel_rfl) (fun w => by kernel_rfl) ?_
    refine Sx.G.pure (.int .i64 ((q2 : Nat) : Int)) (by kernel_rfl) (fun w => by kernel_rfl) ?_
    refine Sx.G.elem 25 51 (.tmp 19) (.tmp 20) 15 184 b off xs.length c i rfl (by kernel_rfl) (by kernel_rfl) (by kernel_rfl) (by kernel_rfl) (by omega) ?_
    refine Sx.G.pure (.pointer (some ⟨b, (off + i * 15) + 1, none⟩)) (by kernel_rfl) (fun w => by kernel_rfl) ?_
    refine Sx.G.hsto (k := i) (size := 15) 3 (.tmp 23) (.tmp 21) b ((off + i * 15) + 1) 1 0 [.int .i64 ((q2 : Nat) : Int)] [.slice pA0 x1.prog.length pc0, .int .i64 ((q2 : Nat) : Int), .int .i64 x1.pc, .slice pA1 x1.wr.length pc1, .slice pA2 x1.lv.length pc2, .int .i64 x1.t.1, .int .i64 x1.t.2.1, .bool x1.t.2.2, .int .i64 x1.pd, .int .i64 x1.x.1, .int .i64 x1.x.2.1, .bool x1.x.2.2.1, .int .i64 x1.x.2.2.2, .bool x1.hl, .slice pA3 x1.seen.length pc3] (Sx.hole wG b off lo hi (mkAll wG k (xs.take i)) (xs.drop (i + 1)) [.slice pA0 x1.prog.length pc0, .int .i64 ((q2 : Nat) : Int), .int .i64 x1.pc, .slice pA1 x1.wr.length pc1, .slice pA2 x1.lv.length pc2, .int .i64 x1.t.1, .int .i64 x1.t.2.1, .bool x1.t.2.2, .int .i64 x1.pd, .int .i64 x1.x.1, .int .i64 x1.x.2.1, .bool x1.x.2.2.1, .int .i64 x1.x.2.2.2, .bool x1.hl, .slice pA3 x1.seen.length pc3] F1 F2 :: ow (rLsw (rPair rInt rInt)) lo hi (mkAll (rPair rInt rInt) q x1.prog) [.slice pA0 x1.prog.length pc0] pF0 :: ow (rLsw (rPair rInt rInt)) lo hi x1.wr [.slice pA1 x1.wr.length pc1] pF1 :: ow (rLsw (rPair rInt rInt)) lo hi x1.lv [.slice pA2 x1.lv.length pc2] pF2 :: ow (rLsw rInt) lo hi x1.seen [.slice pA3 x1.seen.length pc3] pF3 :: R) rfl (by kernel_rfl) (by kernel_rfl) (by kernel_rfl) rfl (by rw [Kit.mk_len, List.length_take]; omega) rfl rfl rfl rfl (by kernel_rfl) (by kernel_rfl) (by kernel_rfl) ?_
    refine Sx.G.nil ?_
    refine Sx.E.next ?_
    refine Sx.C.seq ?_
    refine Sx.C.region ?_
    refine Sx.G.pure (.int .i64 ((q2 : Nat) : Int)) (by kernel_rfl) (fun w => by kernel_rfl) ?_
    refine Sx.G.pureq (.int .i64 (IntKind.i64.wrap (((q2 : Nat) : Int) + 1))) (.int .i64 ((q2 + 1 : Nat) : Int)) (by kernel_rfl) (fun w => by kernel_rfl) (congrArg (Value.int .i64) (Sx.wrap_up q2 (by omega))) ?_
    refine Sx.G.pure (.int .i64 ((q2 + 1 : Nat) : Int)) (by kernel_rfl) (fun w => by kernel_rfl) ?_
    refine Sx.G.nil ?_
    refine Sx.E.next ?_
    refine Sx.C.seq ?_
    refine Sx.C.region ?_
    refine Sx.G.pure (.slice (some ⟨b, off, none⟩) xs.length c) (by kernel_rfl) (fun w => by kernel_rfl) ?_
    refine Sx.G.pure (.int .i64 (i : Int)) (by kernel_rfl) (fun w => by kernel_rfl) ?_
    refine Sx.G.pure (.int .i64 ((q2 + 1 : Nat) : Int)) (by kernel_rfl) (fun w => by kernel_rfl) ?_
    refine Sx.G.elem 25 51 (.tmp 26) (.tmp 27) 15 184 b off xs.length c i rfl (by kernel_rfl) (by kernel_rfl) (by kernel_rfl) (by kernel_rfl) (by omega) ?_
    refine Sx.G.pure (.pointer (some ⟨b, (off + i * 15) + 2, none⟩)) (by kernel_rfl) (fun w => by kernel_rfl) ?_
    refine Sx.G.hsto (k := i) (size := 15) 3 (.tmp 30) (.tmp 28) b ((off + i * 15) + 2) 2 0 [.int .i64 ((q2 + 1 : Nat) : Int)] [.slice pA0 x1.prog.length pc0, .int .i64 ((q2 : Nat) : Int), .int .i64 ((q2 + 1 : Nat) : Int), .slice pA1 x1.wr.length pc1, .slice pA2 x1.lv.length pc2, .int .i64 x1.t.1, .int .i64 x1.t.2.1, .bool x1.t.2.2, .int .i64 x1.pd, .int .i64 x1.x.1, .int .i64 x1.x.2.1, .bool x1.x.2.2.1, .int .i64 x1.x.2.2.2, .bool x1.hl, .slice pA3 x1.seen.length pc3] (Sx.hole wG b off lo hi (mkAll wG k (xs.take i)) (xs.drop (i + 1)) [.slice pA0 x1.prog.length pc0, .int .i64 ((q2 : Nat) : Int), .int .i64 ((q2 + 1 : Nat) : Int), .slice pA1 x1.wr.length pc1, .slice pA2 x1.lv.length pc2, .int .i64 x1.t.1, .int .i64 x1.t.2.1, .bool x1.t.2.2, .int .i64 x1.pd, .int .i64 x1.x.1, .int .i64 x1.x.2.1, .bool x1.x.2.2.1, .int .i64 x1.x.2.2.2, .bool x1.hl, .slice pA3 x1.seen.length pc3] F1 F2 :: ow (rLsw (rPair rInt rInt)) lo hi (mkAll (rPair rInt rInt) q x1.prog) [.slice pA0 x1.prog.length pc0] pF0 :: ow (rLsw (rPair rInt rInt)) lo hi x1.wr [.slice pA1 x1.wr.length pc1] pF1 :: ow (rLsw (rPair rInt rInt)) lo hi x1.lv [.slice pA2 x1.lv.length pc2] pF2 :: ow (rLsw rInt) lo hi x1.seen [.slice pA3 x1.seen.length pc3] pF3 :: R) rfl (by kernel_rfl) (by kernel_rfl) (by kernel_rfl) rfl (by rw [Kit.mk_len, List.length_take]; omega) rfl rfl rfl rfl (by kernel_rfl) (by kernel_rfl) (by kernel_rfl) ?_
    refine Sx.G.nil ?_
    refine Sx.E.next ?_
    refine Sx.C.seq ?_
    refine Sx.C.region ?_
    refine Sx.G.pure (.int .i64 ((q2 + 1 : Nat) : Int)) (by kernel_rfl) (fun w => by kernel_rfl) ?_
    refine Sx.G.pureq (.int .i64 (IntKind.i64.wrap (((q2 + 1 : Nat) : Int) + 1))) (.int .i64 ((q2 + 2 : Nat) : Int)) (by kernel_rfl) (fun w => by kernel_rfl) (congrArg (Value.int .i64) (Sx.wrap_up (q2 + 1) (by omega))) ?_
    refine Sx.G.pure (.int .i64 ((q2 + 2 : Nat) : Int)) (by kernel_rfl) (fun w => by kernel_rfl) ?_
    refine Sx.G.nil ?_
    refine Sx.E.next ?_
    refine Sx.C.seq ?_
    refine Sx.C.region ?_
    refine Sx.G.pure (.slice (some ⟨b, off, none⟩) xs.length c) (by kernel_rfl) (fun w => by kernel_rfl) ?_
    refine Sx.G.pure (.int .i64 (i : Int)) (by kernel_rfl) (fun w => by kernel_rfl) ?_
    refine Sx.G.elem 25 51 (.tmp 33) (.tmp 34) 15 184 b off xs.length c i rfl (by kernel_rfl) (by kernel_rfl) (by kernel_rfl) (by kernel_rfl) (by omega) ?_
    refine Sx.G.pure (.pointer (some ⟨b, (off + i * 15) + 3, none⟩)) (by kernel_rfl) (fun w => by kernel_rfl) ?_
    refine Sx.G.hld1 (k := i) (size := 15) 45 (.tmp 36) b ((off + i * 15) + 3) 3 0 (.slice pA1 x1.wr.length pc1) rfl (by kernel_rfl) (by kernel_rfl) rfl (by rw [Kit.mk_len, List.length_take]; omega) rfl rfl rfl (by kernel_rfl) ?_
    refine Sx.G.pure (.int .i64 ((q2 + 2 : Nat) : Int)) (by kernel_rfl) (fun w => by kernel_rfl) ?_
    obtain ⟨q3, hq3⟩ : ∃ q', q' = (q2 + 2) + cntAll (rPair rInt rInt) x1.wr := ⟨_, rfl⟩
    refine Sx.G.call 73 #[.slice pA1 x1.wr.length pc1, .int .i64 ((q2 + 2 : Nat) : Int)] (by kernel_rfl) (fun w => by kernel_rfl) (fun w3 S => (Kit.kmk_SlotS x1.wr pA1 pc1 (q2 + 2) _ hcap3 (by omega) S 2 rfl).mono fun e w3' hp => ?_)
    rw [← hq3] at hp
    obtain ⟨rfl, S'⟩ := hp
    refine ⟨_, _, rfl, S', ?_⟩
    clear S S'
    refine Sx.G.pure (.int .i64 ((q3 : Nat) : Int)) (by kernel_rfl) (fun w => by kernel_rfl) ?_
    refine Sx.G.nil ?_
    refine Sx.E.next ?_
    refine Sx.C.seq ?_
    refine Sx.C.region ?_
    refine Sx.G.pure (.slice (some ⟨b, off, none⟩) xs.length c) (by kernel_rfl) (fun w => by kernel_rfl) ?_
    refine Sx.G.pure (.int .i64 (i : Int)) (by kernel_rfl) (fun w => by kernel_rfl) ?_
    refine Sx.G.elem 25 51 (.tmp 40) (.tmp 41) 15 184 b off xs.length c i rfl (by kernel_rfl) (by kernel_rfl) (by kernel_rfl) (by kernel_rfl) (by omega) ?_
    refine Sx.G.pure (.pointer (some ⟨b, (off + i * 15) + 4, none⟩)) (by kernel_rfl) (fun w => by kernel_rfl) ?_
    refine Sx.G.hld1 (k := i) (size := 15) 45 (.tmp 43) b ((off + i * 15) + 4) 4 0 (.slice pA2 x1.lv.length pc2) rfl (by kernel_rfl) (by kernel_rfl) rfl (by rw [Kit.mk_len, List.length_take]; omega) rfl rfl rfl (by kernel_rfl) ?_
    refine Sx.G.pure (.int .i64 ((q3 : Nat) : Int)) (by kernel_rfl) (fun w => by kernel_rfl) ?_
    obtain ⟨q4, hq4⟩ : ∃ q', q' = q3 + cntAll (rPair rInt rInt) x1.lv := ⟨_, rfl⟩
    refine Sx.G.call 73 #[.slice pA2 x1.lv.length pc2, .int .i64 ((q3 : Nat) : Int)] (by kernel_rfl) (fun w => by kernel_rfl) (fun w4 S => (Kit.kmk_SlotS x1.lv pA2 pc2 q3 _ hcap4 (by omega) S 3 rfl).mono fun e w4' hp => ?_)
    rw [← hq4] at hp
    obtain ⟨rfl, S'⟩ := hp
    refine ⟨_, _, rfl, S', ?_⟩
    clear S S'
    refine Sx.G.pure (.int .i64 ((q4 : Nat) : Int)) (by kernel_rfl) (fun w => by kernel_rfl) ?_
    refine Sx.G.nil ?_
    refine Sx.E.next ?_
    refine Sx.C.seq ?_
    refine Sx.C.region ?_
    refine Sx.G.pure (.slice (some ⟨b, off, none⟩) xs.length c) (by kernel_rfl) (fun w => by kernel_rfl) ?_
    refine Sx.G.pure (.int .i64 (i : Int)) (by kernel_rfl) (fun w => by kernel_rfl) ?_
    refine Sx.G.pure (.int .i64 ((q4 : Nat) : Int)) (by kernel_rfl) (fun w => by kernel_rfl) ?_
    refine Sx.G.elem 25 51 (.tmp 47) (.tmp 48) 15 184 b off xs.length c i rfl (by kernel_rfl) (by kernel_rfl) (by kernel_rfl) (by kernel_rfl) (by omega) ?_
    refine Sx.G.pure (.pointer (some ⟨b, (off + i * 15) + 5, none⟩)) (by kernel_rfl) (fun w => by kernel_rfl) ?_
    refine Sx.G.pure (.pointer (some ⟨b, (off + i * 15) + 5, none⟩)) (by kernel_rfl) (fun w => by kernel_rfl) ?_
    refine Sx.G.hsto (k := i) (size := 15) 3 (.tmp 52) (.tmp 49) b ((off + i * 15) + 5) 5 0 [.int .i64 ((q4 : Nat) : Int)] [.slice pA0 x1.prog.length pc0, .int .i64 ((q2 : Nat) : Int), .int .i64 ((q2 + 1 : Nat) : Int), .slice pA1 x1.wr.length pc1, .slice pA2 x1.lv.length pc2, .int .i64 ((q4 : Nat) : Int), .int .i64 x1.t.2.1, .bool x1.t.2.2, .int .i64 x1.pd, .int .i64 x1.x.1, .int .i64 x1.x.2.1, .bool x1.x.2.2.1, .int .i64 x1.x.2.2.2, .bool x1.hl, .slice pA3 x1.seen.length pc3] (Sx.hole wG b off lo hi (mkAll wG k (xs.take i)) (xs.drop (i + 1)) [.slice pA0 x1.prog.length pc0, .int .i64 ((q2 : Nat) : Int), .int .i64 ((q2 + 1 : Nat) : Int), .slice pA1 x1.wr.length pc1, .slice pA2 x1.lv.length pc2, .int .i64 ((q4 : Nat) : Int), .int .i64 x1.t.2.1, .bool x1.t.2.2, .int .i64 x1.pd, .int .i64 x1.x.1, .int .i64 x1.x.2.1, .bool x1.x.2.2.1, .int .i64 x1.x.2.2.2, .bool x1.hl, .slice pA3 x1.seen.length pc3] F1 F2 :: ow (rLsw (rPair rInt rInt)) lo hi (mkAll (rPair rInt rInt) q x1.prog) [.slice pA0 x1.prog.length pc0] pF0 :: ow (rLsw (rPair rInt rInt)) lo hi (mkAll (rPair rInt rInt) (q2 + 2) x1.wr) [.slice pA1 x1.wr.length pc1] pF1 :: ow (rLsw (rPair rInt rInt)) lo hi (mkAll (rPair rInt rInt) q3 x1.lv) [.slice pA2 x1.lv.length pc2] pF2 :: ow (rLsw rInt) lo hi x1.seen [.slice pA3 x1.seen.length pc3] pF3 :: R) rfl (by kernel_rfl) (by kernel_rfl) (by kernel_rfl) rfl (by rw [Kit.mk_len, List.length_take]; omega) rfl rfl rfl rfl (by kernel_rfl) (by kernel_rfl) (by kernel_rfl) ?_
    refine Sx.G.nil ?_
    refine Sx.E.next ?_
    refine Sx.C.seq ?_
    refine Sx.C.region ?_
    refine Sx.G.pure (.int .i64 ((q4 : Nat) : Int)) (by kernel_rfl) (fun w => by kernel_rfl) ?_
    refine Sx.G.pureq (.int .i64 (IntKind.i64.wrap (((q4 : Nat) : Int) + 1))) (.int .i64 ((q4 + 1 : Nat) : Int)) (by kernel_rfl) (fun w => by kernel_rfl) (congrArg (Value.int .i64) (Sx.wrap_up q4 (by omega))) ?_
    refine Sx.G.pure (.int .i64 ((q4 + 1 : Nat) : Int)) (by kernel_rfl) (fun w => by kernel_rfl) ?_
    refine Sx.G.nil ?_
    refine Sx.E.next ?_
    refine Sx.C.seq ?_
    refine Sx.C.region ?_
    refine Sx.G.pure (.slice (some ⟨b, off, none⟩) xs.length c) (by kernel_rfl) (fun w => by kernel_rfl) ?_
    refine Sx.G.pure (.int .i64 (i : Int)) (by kernel_rfl) (fun w => by kernel_rfl) ?_
    refine Sx.G.pure (.int .i64 ((q4 + 1 : Nat) : Int)) (by kernel_rfl) (fun w => by kernel_rfl) ?_
    refine Sx.G.elem 25 51 (.tmp 55) (.tmp 56) 15 184 b off xs.length c i rfl (by kernel_rfl) (by kernel_rfl) (by kernel_rfl) (by kernel_rfl) (by omega) ?_
    refine Sx.G.pure (.pointer (some ⟨b, (off + i * 15) + 5, none⟩)) (by kernel_rfl) (fun w => by kernel_rfl) ?_
    refine Sx.G.pure (.pointer (some ⟨b, (off + i * 15) + 6, none⟩)) (by kernel_rfl) (fun w => by kernel_rfl) ?_
    refine Sx.G.hsto (k := i) (size := 15) 3 (.tmp 60) (.tmp 57) b ((off + i * 15) + 6) 6 0 [.int .i64 ((q4 + 1 : Nat) : Int)] [.slice pA0 x1.prog.length pc0, .int .i64 ((q2 : Nat) : Int), .int .i64 ((q2 + 1 : Nat) : Int), .slice pA1 x1.wr.length pc1, .slice pA2 x1.lv.length pc2, .int .i64 ((q4 : Nat) : Int), .int .i64 ((q4 + 1 : Nat) : Int), .bool x1.t.2.2, .int .i64 x1.pd, .int .i64 x1.x.1, .int .i64 x1.x.2.1, .bool x1.x.2.2.1, .int .i64 x1.x.2.2.2, .bool x1.hl, .slice pA3 x1.seen.length pc3] (Sx.hole wG b off lo hi (mkAll wG k (xs.take i)) (xs.drop (i + 1)) [.slice pA0 x1.prog.length pc0, .int .i64 ((q2 : Nat) : Int), .int .i64 ((q2 + 1 : Nat) : Int), .slice pA1 x1.wr.length pc1, .slice pA2 x1.lv.length pc2, .int .i64 ((q4 : Nat) : Int), .int .i64 ((q4 + 1 : Nat) : Int), .bool x1.t.2.2, .int .i64 x1.pd, .int .i64 x1.x.1, .int .i64 x1.x.2.1, .bool x1.x.2.2.1, .int .i64 x1.x.2.2.2, .bool x1.hl, .slice pA3 x1.seen.length pc3] F1 F2 :: ow (rLsw (rPair rInt rInt)) lo hi (mkAll (rPair rInt rInt) q x1.prog) [.slice pA0 x1.prog.length pc0] pF0 :: ow (rLsw (rPair rInt rInt)) lo hi (mkAll (rPair rInt rInt) (q2 + 2) x1.wr) [.slice pA1 x1.wr.length pc1] pF1 :: ow (rLsw (rPair rInt rInt)) lo hi (mkAll (rPair rInt rInt) q3 x1.lv) [.slice pA2 x1.lv.length pc2] pF2 :: ow (rLsw rInt) lo hi x1.seen [.slice pA3 x1.seen.length pc3] pF3 :: R) rfl (by kernel_rfl) (by kernel_rfl) (by kernel_rfl) rfl (by rw [Kit.mk_len, List.length_take]; omega) rfl rfl rfl rfl (by kernel_rfl) (by kernel_rfl) (by kernel_rfl) ?_
    refine Sx.G.nil ?_
    refine Sx.E.next ?_
    refine Sx.C.seq ?_
    refine Sx.C.region ?_
    refine Sx.G.pure (.int .i64 ((q4 + 1 : Nat) : Int)) (by kernel_rfl) (fun w => by kernel_rfl) ?_
    refine Sx.G.pureq (.int .i64 (IntKind.i64.wrap (((q4 + 1 : Nat) : Int) + 1))) (.int .i64 ((q4 + 2 : Nat) : Int)) (by kernel_rfl) (fun w => by kernel_rfl) (congrArg (Value.int .i64) (Sx.wrap_up (q4 + 1) (by omega))) ?_
    refine Sx.G.pure (.int .i64 ((q4 + 2 : Nat) : Int)) (by kernel_rfl) (fun w => by kernel_rfl) ?_
    refine Sx.G.nil ?_
    refine Sx.E.next ?_
    refine Sx.C.seq ?_
    refine Sx.C.region ?_
    refine Sx.G.pure (.slice (some ⟨b, off, none⟩) xs.length c) (by kernel_rfl) (fun w => by kernel_rfl) ?_
    refine Sx.G.pure (.int .i64 (i : Int)) (by kernel_rfl) (fun w => by kernel_rfl) ?_
    refine Sx.G.pure (.int .i64 ((q4 + 2 : Nat) : Int)) (by kernel_rfl) (fun w => by kernel_rfl) ?_
    refine Sx.G.pure (.int .i64 (((q4 + 2 : Nat) : Int).tmod 3)) (by kernel_rfl) (fun w => by kernel_rfl) ?_
    refine Sx.G.pureq (.bool ((((q4 + 2 : Nat) : Int).tmod 3) == 0)) (.bool ((q4 + 2) % 3 == 0)) (by kernel_rfl) (fun w => by kernel_rfl) (congrArg Value.bool (Kit.tmod3 (q4 + 2))) ?_
    refine Sx.G.elem 25 51 (.tmp 63) (.tmp 64) 15 184 b off xs.length c i rfl (by kernel_rfl) (by kernel_rfl) (by kernel_rfl) (by kernel_rfl) (by omega) ?_
    refine Sx.G.pure (.pointer (some ⟨b, (off + i * 15) + 5, none⟩)) (by kernel_rfl) (fun w => by kernel_rfl) ?_
    refine Sx.G.pure (.pointer (some ⟨b, (off + i * 15) + 7, none⟩)) (by kernel_rfl) (fun w => by kernel_rfl) ?_
    refine Sx.G.hsto (k := i) (size := 15) 4 (.tmp 70) (.tmp 67) b ((off + i * 15) + 7) 7 0 [.bool ((q4 + 2) % 3 == 0)] [.slice pA0 x1.prog.length pc0, .int .i64 ((q2 : Nat) : Int), .int .i64 ((q2 + 1 : Nat) : Int), .slice pA1 x1.wr.length pc1, .slice pA2 x1.lv.length pc2, .int .i64 ((q4 : Nat) : Int), .int .i64 ((q4 + 1 : Nat) : Int), .bool ((q4 + 2) % 3 == 0), .int .i64 x1.pd, .int .i64 x1.x.1, .int .i64 x1.x.2.1, .bool x1.x.2.2.1, .int .i64 x1.x.2.2.2, .bool x1.hl, .slice pA3 x1.seen.length pc3] (Sx.hole wG b off lo hi (mkAll wG k (xs.take i)) (xs.drop (i + 1)) [.slice pA0 x1.prog.length pc0, .int .i64 ((q2 : Nat) : Int), .int .i64 ((q2 + 1 : Nat) : Int), .slice pA1 x1.wr.length pc1, .slice pA2 x1.lv.length pc2, .int .i64 ((q4 : Nat) : Int), .int .i64 ((q4 + 1 : Nat) : Int), .bool ((q4 + 2) % 3 == 0), .int .i64 x1.pd, .int .i64 x1.x.1, .int .i64 x1.x.2.1, .bool x1.x.2.2.1, .int .i64 x1.x.2.2.2, .bool x1.hl, .slice pA3 x1.seen.length pc3] F1 F2 :: ow (rLsw (rPair rInt rInt)) lo hi (mkAll (rPair rInt rInt) q x1.prog) [.slice pA0 x1.prog.length pc0] pF0 :: ow (rLsw (rPair rInt rInt)) lo hi (mkAll (rPair rInt rInt) (q2 + 2) x1.wr) [.slice pA1 x1.wr.length pc1] pF1 :: ow (rLsw (rPair rInt rInt)) lo hi (mkAll (rPair rInt rInt) q3 x1.lv) [.slice pA2 x1.lv.length pc2] pF2 :: ow (rLsw rInt) lo hi x1.seen [.slice pA3 x1.seen.length pc3] pF3 :: R) rfl (by kernel_rfl) (by kernel_rfl) (by kernel_rfl) rfl (by rw [Kit.mk_len, List.length_take]; omega) rfl rfl rfl rfl (by kernel_rfl) (by kernel_rfl) (by kernel_rfl) ?_
    refine Sx.G.nil ?_
    refine Sx.E.next ?_
    refine Sx.C.seq ?_
    refine Sx.C.region ?_
    refine Sx.G.pure (.int .i64 ((q4 + 2 : Nat) : Int)) (by kernel_rfl) (fun w => by kernel_rfl) ?_
    refine Sx.G.pureq (.int .i64 (IntKind.i64.wrap (((q4 + 2 : Nat) : Int) + 1))) (.int .i64 ((q4 + 3 : Nat) : Int)) (by kernel_rfl) (fun w => by kernel_rfl) (congrArg (Value.int .i64) (Sx.wrap_up (q4 + 2) (by omega))) ?_
    refine Sx.G.pure (.int .i64 ((q4 + 3 : Nat) : Int)) (by kernel_rfl) (fun w => by kernel_rfl) ?_
    refine Sx.G.nil ?_
    refine Sx.E.next ?_
    refine Sx.C.seq ?_
    refine Sx.C.region ?_
    refine Sx.G.pure (.slice (some ⟨b, off, none⟩) xs.length c) (by kernel_rfl) (fun w => by kernel_rfl) ?_
    refine Sx.G.pure (.int .i64 (i : Int)) (by kernel_rfl) (fun w => by kernel_rfl) ?_
    refine Sx.G.pure (.int .i64 ((q4 + 3 : Nat) : Int)) (by kernel_rfl) (fun w => by kernel_rfl) ?_
    refine Sx.G.elem 25 51 (.tmp 73) (.tmp 74) 15 184 b off xs.length c i rfl (by kernel_rfl) (by kernel_rfl) (by kernel_rfl) (by kernel_rfl) (by omega) ?_
    refine Sx.G.pure (.pointer (some ⟨b, (off + i * 15) + 8, none⟩)) (by kernel_rfl) (fun w => by kernel_rfl) ?_
    refine Sx.G.hsto (k := i) (size := 15) 3 (.tmp 77) (.tmp 75) b ((off + i * 15) + 8) 8 0 [.int .i64 ((q4 + 3 : Nat) : Int)] [.slice pA0 x1.prog.length pc0, .int .i64 ((q2 : Nat) : Int), .int .i64 ((q2 + 1 : Nat) : Int), .slice pA1 x1.wr.length pc1, .slice pA2 x1.lv.length pc2, .int .i64 ((q4 : Nat) : Int), .int .i64 ((q4 + 1 : Nat) : Int), .bool ((q4 + 2) % 3 == 0), .int .i64 ((q4 + 3 : Nat) : Int), .int .i64 x1.x.1, .int .i64 x1.x.2.1, .bool x1.x.2.2.1, .int .i64 x1.x.2.2.2, .bool x1.hl, .slice pA3 x1.seen.length pc3] (Sx.hole wG b off lo hi (mkAll wG k (xs.take i)) (xs.drop (i + 1)) [.slice pA0 x1.prog.length pc0, .int .i64 ((q2 : Nat) : Int), .int .i64 ((q2 + 1 : Nat) : Int), .slice pA1 x1.wr.length pc1, .slice pA2 x1.lv.length pc2, .int .i64 ((q4 : Nat) : Int), .int .i64 ((q4 + 1 : Nat) : Int), .bool ((q4 + 2) % 3 == 0), .int .i64 ((q4 + 3 : Nat) : Int), .int .i64 x1.x.1, .int .i64 x1.x.2.1, .bool x1.x.2.2.1, .int .i64 x1.x.2.2.2, .bool x1.hl, .slice pA3 x1.seen.length pc3] F1 F2 :: ow (rLsw (rPair rInt rInt)) lo hi (mkAll (rPair rInt rInt) q x1.prog) [.slice pA0 x1.prog.length pc0] pF0 :: ow (rLsw (rPair rInt rInt)) lo hi (mkAll (rPair rInt rInt) (q2 + 2) x1.wr) [.slice pA1 x1.wr.length pc1] pF1 :: ow (rLsw (rPair rInt rInt)) lo hi (mkAll (rPair rInt rInt) q3 x1.lv) [.slice pA2 x1.lv.length pc2] pF2 :: ow (rLsw rInt) lo hi x1.seen [.slice pA3 x1.seen.length pc3] pF3 :: R) rfl (by kernel_rfl) (by kernel_rfl) (by kernel_rfl) rfl (by rw [Kit.mk_len, List.length_take]; omega) rfl rfl rfl rfl (by kernel_rfl) (by kernel_rfl) (by kernel_rfl) ?_
    refine Sx.G.nil ?_
    refine Sx.E.next ?_
    refine Sx.C.seq ?_
    refine Sx.C.region ?_
    refine Sx.G.pure (.int .i64 ((q4 + 3 : Nat) : Int)) (by kernel_rfl) (fun w => by kernel_rfl) ?_
    refine Sx.G.pureq (.int .i64 (IntKind.i64.wrap (((q4 + 3 : Nat) : Int) + 1))) (.int .i64 ((q4 + 4 : Nat) : Int)) (by kernel_rfl) (fun w => by kernel_rfl) (congrArg (Value.int .i64) (Sx.wrap_up (q4 + 3) (by omega))) ?_
    refine Sx.G.pure (.int .i64 ((q4 + 4 : Nat) : Int)) (by kernel_rfl) (fun w => by kernel_rfl) ?_
    refine Sx.G.nil ?_
    refine Sx.E.next ?_
    refine Sx.C.seq ?_
    refine Sx.C.region ?_
    refine Sx.G.pure (.slice (some ⟨b, off, none⟩) xs.length c) (by kernel_rfl) (fun w => by kernel_rfl) ?_
    refine Sx.G.pure (.int .i64 (i : Int)) (by kernel_rfl) (fun w => by kernel_rfl) ?_
    refine Sx.G.pure (.int .i64 ((q4 + 4 : Nat) : Int)) (by kernel_rfl) (fun w => by kernel_rfl) ?_
    refine Sx.G.elem 25 51 (.tmp 80) (.tmp 81) 15 184 b off xs.length c i rfl (by kernel_rfl) (by kernel_rfl) (by kernel_rfl) (by kernel_rfl) (by omega) ?_
    refine Sx.G.pure (.pointer (some ⟨b, (off + i * 15) + 9, none⟩)) (by kernel_rfl) (fun w => by kernel_rfl) ?_
    refine Sx.G.pure (.pointer (some ⟨b, (off + i * 15) + 9, none⟩)) (by kernel_rfl) (fun w => by kernel_rfl) ?_
    refine Sx.G.hsto (k := i) (size := 15) 3 (.tmp 85) (.tmp 82) b ((off + i * 15) + 9) 9 0 [.int .i64 ((q4 + 4 : Nat) : Int)] [.slice pA0 x1.prog.length pc0, .int .i64 ((q2 : Nat) : Int), .int .i64 ((q2 + 1 : Nat) : Int), .slice pA1 x1.wr.length pc1, .slice pA2 x1.lv.length pc2, .int .i64 ((q4 : Nat) : Int), .int .i64 ((q4 + 1 : Nat) : Int), .bool ((q4 + 2) % 3 == 0), .int .i64 ((q4 + 3 : Nat) : Int), .int .i64 ((q4 + 4 : Nat) : Int), .int .i64 x1.x.2.1, .bool x1.x.2.2.1, .int .i64 x1.x.2.2.2, .bool x1.hl, .slice pA3 x1.seen.length pc3] (Sx.hole wG b off lo hi (mkAll wG k (xs.take i)) (xs.drop (i + 1)) [.slice pA0 x1.prog.length pc0, .int .i64 ((q2 : Nat) : Int), .int .i64 ((q2 + 1 : Nat) : Int), .slice pA1 x1.wr.length pc1, .slice pA2 x1.lv.length pc2, .int .i64 ((q4 : Nat) : Int), .int .i64 ((q4 + 1 : Nat) : Int), .bool ((q4 + 2) % 3 == 0), .int .i64 ((q4 + 3 : Nat) : Int), .int .i64 ((q4 + 4 : Nat) : Int), .int .i64 x1.x.2.1, .bool x1.x.2.2.1, .int .i64 x1.x.2.2.2, .bool x1.hl, .slice pA3 x1.seen.length pc3] F1 F2 :: ow (rLsw (rPair rInt rInt)) lo hi (mkAll (rPair rInt rInt) q x1.prog) [.slice pA0 x1.prog.length pc0] pF0 :: ow (rLsw (rPair rInt rInt)) lo hi (mkAll (rPair rInt rInt) (q2 + 2) x1.wr) [.slice pA1 x1.wr.length pc1] pF1 :: ow (rLsw (rPair rInt rInt)) lo hi (mkAll (rPair rInt rInt) q3 x1.lv) [.slice pA2 x1.lv.length pc2] pF2 :: ow (rLsw rInt) lo hi x1.seen [.slice pA3 x1.seen.length pc3] pF3 :: R) rfl (by kernel_rfl) (by kernel_rfl) (by kernel_rfl) rfl (by rw [Kit.mk_len, List.length_take]; omega) rfl rfl rfl rfl (by kernel_rfl) (by kernel_rfl) (by kernel_rfl) ?_
    refine Sx.G.nil ?_
    refine Sx.E.next ?_
    refine Sx.C.seq ?_
    refine Sx.C.region ?_
    refine Sx.G.pure (.int .i64 ((q4 + 4 : Nat) : Int)) (by kernel_rfl) (fun w => by kernel_rfl) ?_
    refine Sx.G.pureq (.int .i64 (IntKind.i64.wrap (((q4 + 4 : Nat) : Int) + 1))) (.int .i64 ((q4 + 5 : Nat) : Int)) (by kernel_rfl) (fun w => by kernel_rfl) (congrArg (Value.int .i64) (Sx.wrap_up (q4 + 4) (by omega))) ?_
    refine Sx.G.pure (.int .i64 ((q4 + 5 : Nat) : Int)) (by kernel_rfl) (fun w => by kernel_rfl) ?_
    refine Sx.G.nil ?_
    refine Sx.E.next ?_
    refine Sx.C.seq ?_
    refine Sx.C.region ?_
    refine Sx.G.pure (.slice (some ⟨b, off, none⟩) xs.length c) (by kernel_rfl) (fun w => by kernel_rfl) ?_
    refine Sx.G.pure (.int .i64 (i : Int)) (by kernel_rfl) (fun w => by kernel_rfl) ?_
    refine Sx.G.pure (.int .i64 ((q4 + 5 : Nat) : Int)) (by kernel_rfl) (fun w => by kernel_rfl) ?_
    refine Sx.G.elem 25 51 (.tmp 88) (.tmp 89) 15 184 b off xs.length c i rfl (by kernel_rfl) (by kernel_rfl) (by kernel_rfl) (by kernel_rfl) (by omega) ?_
    refine Sx.G.pure (.pointer (some ⟨b, (off + i * 15) + 9, none⟩)) (by kernel_rfl) (fun w => by kernel_rfl) ?_
    refine Sx.G.pure (.pointer (some ⟨b, (off + i * 15) + 10, none⟩)) (by kernel_rfl) (fun w => by kernel_rfl) ?_
    refine Sx.G.hsto (k := i) (size := 15) 3 (.tmp 93) (.tmp 90) b ((off + i * 15) + 10) 10 0 [.int .i64 ((q4 + 5 : Nat) : Int)] [.slice pA0 x1.prog.length pc0, .int .i64 ((q2 : Nat) : Int), .int .i64 ((q2 + 1 : Nat) : Int), .slice pA1 x1.wr.length pc1, .slice pA2 x1.lv.length pc2, .int .i64 ((q4 : Nat) : Int), .int .i64 ((q4 + 1 : Nat) : Int), .bool ((q4 + 2) % 3 == 0), .int .i64 ((q4 + 3 : Nat) : Int), .int .i64 ((q4 + 4 : Nat) : Int), .int .i64 ((q4 + 5 : Nat) : Int), .bool x1.x.2.2.1, .int .i64 x1.x.2.2.2, .bool x1.hl, .slice pA3 x1.seen.length pc3] (Sx.hole wG b off lo hi (mkAll wG k (xs.take i)) (xs.drop (i + 1)) [.slice pA0 x1.prog.length pc0, .int .i64 ((q2 : Nat) : Int), .int .i64 ((q2 + 1 : Nat) : Int), .slice pA1 x1.wr.length pc1, .slice pA2 x1.lv.length pc2, .int .i64 ((q4 : Nat) : Int), .int .i64 ((q4 + 1 : Nat) : Int), .bool ((q4 + 2) % 3 == 0), .int .i64 ((q4 + 3 : Nat) : Int), .int .i64 ((q4 + 4 : Nat) : Int), .int .i64 ((q4 + 5 : Nat) : Int), .bool x1.x.2.2.1, .int .i64 x1.x.2.2.2, .bool x1.hl, .slice pA3 x1.seen.length pc3] F1 F2 :: ow (rLsw (rPair rInt rInt)) lo hi (mkAll (rPair rInt rInt) q x1.prog) [.slice pA0 x1.prog.length pc0] pF0 :: ow (rLsw (rPair rInt rInt)) lo hi (mkAll (rPair rInt rInt) (q2 + 2) x1.wr) [.slice pA1 x1.wr.length pc1] pF1 :: ow (rLsw (rPair rInt rInt)) lo hi (mkAll (rPair rInt rInt) q3 x1.lv) [.slice pA2 x1.lv.length pc2] pF2 :: ow (rLsw rInt) lo hi x1.seen [.slice pA3 x1.seen.length pc3] pF3 :: R) rfl (by kernel_rfl) (by kernel_rfl) (by kernel_rfl) rfl (by rw [Kit.mk_len, List.length_take]; omega) rfl rfl rfl rfl (by kernel_rfl) (by kernel_rfl) (by kernel_rfl) ?_
    refine Sx.G.nil ?_
    refine Sx.E.next ?_
    refine Sx.C.seq ?_
    refine Sx.C.region ?_
    refine Sx.G.pure (.int .i64 ((q4 + 5 : Nat) : Int)) (by kernel_rfl) (fun w => by kernel_rfl) ?_
    refine Sx.G.pureq (.int .i64 (IntKind.i64.wrap (((q4 + 5 : Nat) : Int) + 1))) (.int .i64 ((q4 + 6 : Nat) : Int)) (by kernel_rfl) (fun w => by kernel_rfl) (congrArg (Value.int .i64) (Sx.wrap_up (q4 + 5) (by omega))) ?_
    refine Sx.G.pure (.int .i64 ((q4 + 6 : Nat) : Int)) (by kernel_rfl) (fun w => by kernel_rfl) ?_
    refine Sx.G.nil ?_
    refine Sx.E.next ?_
    refine Sx.C.seq ?_
    refine Sx.C.region ?_
    refine Sx.G.pure (.slice (some ⟨b, off, none⟩) xs.length c) (by kernel_rfl) (fun w => by kernel_rfl) ?_
    refine Sx.G.pure (.int .i64 (i : Int)) (by kernel_rfl) (fun w => by kernel_rfl) ?_
    refine Sx.G.pure (.int .i64 ((q4 + 6 : Nat) : Int)) (by kernel_rfl) (fun w => by kernel_rfl) ?_
    refine Sx.G.pure (.int .i64 (((q4 + 6 : Nat) : Int).tmod 3)) (by kernel_rfl) (fun w => by kernel_rfl) ?_
    refine Sx.G.pureq (.bool ((((q4 + 6 : Nat) : Int).tmod 3) == 0)) (.bool ((q4 + 6) % 3 == 0)) (by kernel_rfl) (fun w => by kernel_rfl) (congrArg Value.bool (Kit.tmod3 (q4 + 6))) ?_
    refine Sx.G.elem 25 51 (.tmp 96) (.tmp 97) 15 184 b off xs.length c i rfl (by kernel_rfl) (by kernel_rfl) (by kernel_rfl) (by kernel_rfl) (by omega) ?_
    refine Sx.G.pure (.pointer (some ⟨b, (off + i * 15) + 9, none⟩)) (by kernel_rfl) (fun w => by kernel_rfl) ?_
    refine Sx.G.pure (.pointer (some ⟨b, (off + i * 15) + 11, none⟩)) (by kernel_rfl) (fun w => by kernel_rfl) ?_
    refine Sx.G.hsto (k := i) (size := 15) 4 (.tmp 103) (.tmp 100) b ((off + i * 15) + 11) 11 0 [.bool ((q4 + 6) % 3 == 0)] [.slice pA0 x1.prog.length pc0, .int .i64 ((q2 : Nat) : Int), .int .i64 ((q2 + 1 : Nat) : Int), .slice pA1 x1.wr.length pc1, .slice pA2 x1.lv.length pc2, .int .i64 ((q4 : Nat) : Int), .int .i64 ((q4 + 1 : Nat) : Int), .bool ((q4 + 2) % 3 == 0), .int .i64 ((q4 + 3 : Nat) : Int), .int .i64 ((q4 + 4 : Nat) : Int), .int .i64 ((q4 + 5 : Nat) : Int), .bool ((q4 + 6) % 3 == 0), .int .i64 x1.x.2.2.2, .bool x1.hl, .slice pA3 x1.seen.length pc3] (Sx.hole wG b off lo hi (mkAll wG k (xs.take i)) (xs.drop (i + 1)) [.slice pA0 x1.prog.length pc0, .int .i64 ((q2 : Nat) : Int), .int .i64 ((q2 + 1 : Nat) : Int), .slice pA1 x1.wr.length pc1, .slice pA2 x1.lv.length pc2, .int .i64 ((q4 : Nat) : Int), .int .i64 ((q4 + 1 : Nat) : Int), .bool ((q4 + 2) % 3 == 0), .int .i64 ((q4 + 3 : Nat) : Int), .int .i64 ((q4 + 4 : Nat) : Int), .int .i64 ((q4 + 5 : Nat) : Int), .bool ((q4 + 6) % 3 == 0), .int .i64 x1.x.2.2.2, .bool x1.hl, .slice pA3 x1.seen.length pc3] F1 F2 :: ow (rLsw (rPair rInt rInt)) lo hi (mkAll (rPair rInt rInt) q x1.prog) [.slice pA0 x1.prog.length pc0] pF0 :: ow (rLsw (rPair rInt rInt)) lo hi (mkAll (rPair rInt rInt) (q2 + 2) x1.wr) [.slice pA1 x1.wr.length pc1] pF1 :: ow (rLsw (rPair rInt rInt)) lo hi (mkAll (rPair rInt rInt) q3 x1.lv) [.slice pA2 x1.lv.length pc2] pF2 :: ow (rLsw rInt) lo hi x1.seen [.slice pA3 x1.seen.length pc3] pF3 :: R) rfl (by kernel_rfl) (by kernel_rfl) (by kernel_rfl) rfl (by rw [Kit.mk_len, List.length_take]; omega) rfl rfl rfl rfl (by kernel_rfl) (by kernel_rfl) (by kernel_rfl) ?_
    refine Sx.G.nil ?_
    refine Sx.E.next ?_
    refine Sx.C.seq ?_
    refine Sx.C.region ?_
    refine Sx.G.pure (.int .i64 ((q4 + 6 : Nat) : Int)) (by kernel_rfl) (fun w => by kernel_rfl) ?_
    refine Sx.G.pureq (.int .i64 (IntKind.i64.wrap (((q4 + 6 : Nat) : Int) + 1))) (.int .i64 ((q4 + 7 : Nat) : Int)) (by kernel_rfl) (fun w => by kernel_rfl) (congrArg (Value.int .i64) (Sx.wrap_up (q4 + 6) (by omega))) ?_
    refine Sx.G.pure (.int .i64 ((q4 + 7 : Nat) : Int)) (by kernel_rfl) (fun w => by kernel_rfl) ?_
    refine Sx.G.nil ?_
    refine Sx.E.next ?_
    refine Sx.C.seq ?_
    refine Sx.C.region ?_
    refine Sx.G.pure (.slice (some ⟨b, off, none⟩) xs.length c) (by kernel_rfl) (fun w => by kernel_rfl) ?_
    refine Sx.G.pure (.int .i64 (i : Int)) (by kernel_rfl) (fun w => by kernel_rfl) ?_
    refine Sx.G.pure (.int .i64 ((q4 + 7 : Nat) : Int)) (by kernel_rfl) (fun w => by kernel_rfl) ?_
    refine Sx.G.elem 25 51 (.tmp 106) (.tmp 107) 15 184 b off xs.length c i rfl (by kernel_rfl) (by kernel_rfl) (by kernel_rfl) (by kernel_rfl) (by omega) ?_
    refine Sx.G.pure (.pointer (some ⟨b, (off + i * 15) + 9, none⟩)) (by kernel_rfl) (fun w => by kernel_rfl) ?_
    refine Sx.G.pure (.pointer (some ⟨b, (off + i * 15) + 12, none⟩)) (by kernel_rfl) (fun w => by kernel_rfl) ?_
    refine Sx.G.hsto (k := i) (size := 15) 3 (.tmp 111) (.tmp 108) b ((off + i * 15) + 12) 12 0 [.int .i64 ((q4 + 7 : Nat) : Int)] [.slice pA0 x1.prog.length pc0, .int .i64 ((q2 : Nat) : Int), .int .i64 ((q2 + 1 : Nat) : Int), .slice pA1 x1.wr.length pc1, .slice pA2 x1.lv.length pc2, .int .i64 ((q4 : Nat) : Int), .int .i64 ((q4 + 1 : Nat) : Int), .bool ((q4 + 2) % 3 == 0), .int .i64 ((q4 + 3 : Nat) : Int), .int .i64 ((q4 + 4 : Nat) : Int), .int .i64 ((q4 + 5 : Nat) : Int), .bool ((q4 + 6) % 3 == 0), .int .i64 ((q4 + 7 : Nat) : Int), .bool x1.hl, .slice pA3 x1.seen.length pc3] (Sx.hole wG b off lo hi (mkAll wG k (xs.take i)) (xs.drop (i + 1)) [.slice pA0 x1.prog.length pc0, .int .i64 ((q2 : Nat) : Int), .int .i64 ((q2 + 1 : Nat) : Int), .slice pA1 x1.wr.length pc1, .slice pA2 x1.lv.length pc2, .int .i64 ((q4 : Nat) : Int), .int .i64 ((q4 + 1 : Nat) : Int), .bool ((q4 + 2) % 3 == 0), .int .i64 ((q4 + 3 : Nat) : Int), .int .i64 ((q4 + 4 : Nat) : Int), .int .i64 ((q4 + 5 : Nat) : Int), .bool ((q4 + 6) % 3 == 0), .int .i64 ((q4 + 7 : Nat) : Int), .bool x1.hl, .slice pA3 x1.seen.length pc3] F1 F2 :: ow (rLsw (rPair rInt rInt)) lo hi (mkAll (rPair rInt rInt) q x1.prog) [.slice pA0 x1.prog.length pc0] pF0 :: ow (rLsw (rPair rInt rInt)) lo hi (mkAll (rPair rInt rInt) (q2 + 2) x1.wr) [.slice pA1 x1.wr.length pc1] pF1 :: ow (rLsw (rPair rInt rInt)) lo hi (mkAll (rPair rInt rInt) q3 x1.lv) [.slice pA2 x1.lv.length pc2] pF2 :: ow (rLsw rInt) lo hi x1.seen [.slice pA3 x1.seen.length pc3] pF3 :: R) rfl (by kernel_rfl) (by kernel_rfl) (by kernel_rfl) rfl (by rw [Kit.mk_len, List.length_take]; omega) rfl rfl rfl rfl (by kernel_rfl) (by kernel_rfl) (by kernel_rfl) ?_
    refine Sx.G.nil ?_
    refine Sx.E.next ?_
    refine Sx.C.seq ?_
    refine Sx.C.region ?_
    refine Sx.G.pure (.int .i64 ((q4 + 7 : Nat) : Int)) (by kernel_rfl) (fun w => by kernel_rfl) ?_
    refine Sx.G.pureq (.int .i64 (IntKind.i64.wrap (((q4 + 7 : Nat) : Int) + 1))) (.int .i64 ((q4 + 8 : Nat) : Int)) (by kernel_rfl) (fun w => by kernel_rfl) (congrArg (Value.int .i64) (Sx.wrap_up (q4 + 7) (by omega))) ?_
    refine Sx.G.pure (.int .i64 ((q4 + 8 : Nat) : Int)) (by kernel_rfl) (fun w => by kernel_rfl) ?_
    refine Sx.G.nil ?_
    refine Sx.E.next ?_
    refine Sx.C.seq ?_
    refine Sx.C.region ?_
    refine Sx.G.pure (.slice (some ⟨b, off, none⟩) xs.length c) (by kernel_rfl) (fun w => by kernel_rfl) ?_
    refine Sx.G.pure (.int .i64 (i : Int)) (by kernel_rfl) (fun w => by kernel_rfl) ?_
    refine Sx.G.pure (.int .i64 ((q4 + 8 : Nat) : Int)) (by kernel_rfl) (fun w => by kernel_rfl) ?_
    refine Sx.G.pure (.int .i64 (((q4 + 8 : Nat) : Int).tmod 3)) (by kernel_rfl) (fun w => by kernel_rfl) ?_
    refine Sx.G.pureq (.bool ((((q4 + 8 : Nat) : Int).tmod 3) == 0)) (.bool ((q4 + 8) % 3 == 0)) (by kernel_rfl) (fun w => by kernel_rfl) (congrArg Value.bool (Kit.tmod3 (q4 + 8))) ?_
    refine Sx.G.elem 25 51 (.tmp 114) (.tmp 115) 15 184 b off xs.length c i rfl (by kernel_rfl) (by kernel_rfl) (by kernel_rfl) (by kernel_rfl) (by omega) ?_
    refine Sx.G.pure (.pointer (some ⟨b, (off + i * 15) + 13, none⟩)) (by kernel_rfl) (fun w => by kernel_rfl) ?_
    refine Sx.G.hsto (k := i) (size := 15) 4 (.tmp 120) (.tmp 118) b ((off + i * 15) + 13) 13 0 [.bool ((q4 + 8) % 3 == 0)] [.slice pA0 x1.prog.length pc0, .int .i64 ((q2 : Nat) : Int), .int .i64 ((q2 + 1 : Nat) : Int), .slice pA1 x1.wr.length pc1, .slice pA2 x1.lv.length pc2, .int .i64 ((q4 : Nat) : Int), .int .i64 ((q4 + 1 : Nat) : Int), .bool ((q4 + 2) % 3 == 0), .int .i64 ((q4 + 3 : Nat) : Int), .int .i64 ((q4 + 4 : Nat) : Int), .int .i64 ((q4 + 5 : Nat) : Int), .bool ((q4 + 6) % 3 == 0), .int .i64 ((q4 + 7 : Nat) : Int), .bool ((q4 + 8) % 3 == 0), .slice pA3 x1.seen.length pc3] (Sx.hole wG b off lo hi (mkAll wG k (xs.take i)) (xs.drop (i + 1)) [.slice pA0 x1.prog.length pc0, .int .i64 ((q2 : Nat) : Int), .int .i64 ((q2 + 1 : Nat) : Int), .slice pA1 x1.wr.length pc1, .slice pA2 x1.lv.length pc2, .int .i64 ((q4 : Nat) : Int), .int .i64 ((q4 + 1 : Nat) : Int), .bool ((q4 + 2) % 3 == 0), .int .i64 ((q4 + 3 : Nat) : Int), .int .i64 ((q4 + 4 : Nat) : Int), .int .i64 ((q4 + 5 : Nat) : Int), .bool ((q4 + 6) % 3 == 0), .int .i64 ((q4 + 7 : Nat) : Int), .bool ((q4 + 8) % 3 == 0), .slice pA3 x1.seen.length pc3] F1 F2 :: ow (rLsw (rPair rInt rInt)) lo hi (mkAll (rPair rInt rInt) q x1.prog) [.slice pA0 x1.prog.length pc0] pF0 :: ow (rLsw (rPair rInt rInt)) lo hi (mkAll (rPair rInt rInt) (q2 + 2) x1.wr) [.slice pA1 x1.wr.length pc1] pF1 :: ow (rLsw (rPair rInt rInt)) lo hi (mkAll (rPair rInt rInt) q3 x1.lv) [.slice pA2 x1.lv.length pc2] pF2 :: ow (rLsw rInt) lo hi x1.seen [.slice pA3 x1.seen.length pc3] pF3 :: R) rfl (by kernel_rfl) (by kernel_rfl) (by kernel_rfl) rfl (by rw [Kit.mk_len, List.length_take]; omega) rfl rfl rfl rfl (by kernel_rfl) (by kernel_rfl) (by kernel_rfl) ?_
    refine Sx.G.nil ?_
    refine Sx.E.next ?_
    refine Sx.C.seq ?_
    refine Sx.C.region ?_
    refine Sx.G.pure (.int .i64 ((q4 + 8 : Nat) : Int)) (by kernel_rfl) (fun w => by kernel_rfl) ?_
    refine Sx.G.pureq (.int .i64 (IntKind.i64.wrap (((q4 + 8 : Nat) : Int) + 1))) (.int .i64 ((q4 + 9 : Nat) : Int)) (by kernel_rfl) (fun w => by kernel_rfl) (congrArg (Value.int .i64) (Sx.wrap_up (q4 + 8) (by omega))) ?_
    refine Sx.G.pure (.int .i64 ((q4 + 9 : Nat) : Int)) (by kernel_rfl) (fun w => by kernel_rfl) ?_
    refine Sx.G.nil ?_
    refine Sx.E.next ?_
    refine Sx.C.region ?_
    refine Sx.G.pure (.slice (some ⟨b, off, none⟩) xs.length c) (by kernel_rfl) (fun w => by kernel_rfl) ?_
    refine Sx.G.pure (.int .i64 (i : Int)) (by kernel_rfl) (fun w => by kernel_rfl) ?_
    refine Sx.G.elem 25 51 (.tmp 123) (.tmp 124) 15 184 b off xs.length c i rfl (by kernel_rfl) (by kernel_rfl) (by kernel_rfl) (by kernel_rfl) (by omega) ?_
    refine Sx.G.pure (.pointer (some ⟨b, (off + i * 15) + 14, none⟩)) (by kernel_rfl) (fun w => by kernel_rfl) ?_
    refine Sx.G.hld1 (k := i) (size := 15) 26 (.tmp 126) b ((off + i * 15) + 14) 14 0 (.slice pA3 x1.seen.length pc3) rfl (by kernel_rfl) (by kernel_rfl) rfl (by rw [Kit.mk_len, List.length_take]; omega) rfl rfl rfl (by kernel_rfl) ?_
    refine Sx.G.pure (.int .i64 ((q4 + 9 : Nat) : Int)) (by kernel_rfl) (fun w => by kernel_rfl) ?_
    obtain ⟨q5, hq5⟩ : ∃ q', q' = (q4 + 9) + cntAll rInt x1.seen := ⟨_, rfl⟩
    refine Sx.G.call 48 #[.slice pA3 x1.seen.length pc3, .int .i64 ((q4 + 9 : Nat) : Int)] (by kernel_rfl) (fun w => by kernel_rfl) (fun w5 S => (Kit.kmk_IntS x1.seen pA3 pc3 (q4 + 9) _ hcap9 (by omega) S 4 rfl).mono fun e w5' hp => ?_)
    rw [← hq5] at hp
    obtain ⟨rfl, S'⟩ := hp
    refine ⟨_, _, rfl, S', ?_⟩
    clear S S'
    refine Sx.G.pure (.int .i64 ((q5 : Nat) : Int)) (by kernel_rfl) (fun w => by kernel_rfl) ?_
    refine Sx.G.nil ?_
    refine Sx.E.block_normal ?_
    refine Sx.E.next ?_
    refine Sx.C.region ?_
    refine Sx.G.pure (.int .i64 (i : Int)) (by kernel_rfl) (fun w => by kernel_rfl) ?_
    refine Sx.G.pureq (.int .i64 (IntKind.i64.wrap ((i : Int) + 1))) (.int .i64 ((i + 1 : Nat) : Int)) (by kernel_rfl) (fun w => by kernel_rfl) (congrArg (Value.int .i64) (Sx.wrap_up i (by omega))) ?_
    refine Sx.G.pure (.int .i64 ((i + 1 : Nat) : Int)) (by kernel_rfl) (fun w => by kernel_rfl) ?_
    refine Sx.G.nil ?_
    have hcnt := Kit.cnt_Guest x1
    exact Sx.E.again (i + 1, (q5 : Nat)) (by refine ⟨by omega, ?_⟩; show _ = k + cntAll wG (xs.take (i + 1)); rw [Kit.cnt_step hlt, ← hx1]; rw [hcnt]; omega) (show xs.length - (i + 1) < xs.length - i by omega) (fun a hA => (Sx.Ag.and hA (Sx.Ag.and hA (Sx.Ag.and hA (Sx.Ag.and hA (Sx.Ag.none hA) _ _ (by kernel_rfl)) _ _ (by kernel_rfl)) _ _ (by kernel_rfl)) _ _ (by kernel_rfl))) (fun w S => by
      subst hq5
      subst hq4
      subst hq3
      subst hq2
      have e0 : mkAll (rPair rInt rInt) q x1.prog = (wG.mark q x1).prog := by
        simp only [wG, rVia, rPair, rInt, rBool, rLsw, Nat.add_zero, Nat.zero_add, rCtl, rExit]
        try simp only [Nat.add_assoc, Nat.reduceAdd]
      rw [e0] at S
      have e1 : mkAll (rPair rInt rInt) ((q + cntAll (rPair rInt rInt) x1.prog) + 2) x1.wr = (wG.mark q x1).wr := by
        simp only [wG, rVia, rPair, rInt, rBool, rLsw, Nat.add_zero, Nat.zero_add, rCtl, rExit]
        try simp only [Nat.add_assoc, Nat.reduceAdd]
      rw [e1] at S
      have e2 : mkAll (rPair rInt rInt) (((q + cntAll (rPair rInt rInt) x1.prog) + 2) + cntAll (rPair rInt rInt) x1.wr) x1.lv = (wG.mark q x1).lv := by
        simp only [wG, rVia, rPair, rInt, rBool, rLsw, Nat.add_zero, Nat.zero_add, rCtl, rExit]
        try simp only [Nat.add_assoc, Nat.reduceAdd]
      rw [e2] at S
      have e3 : mkAll rInt (((((q + cntAll (rPair rInt rInt) x1.prog) + 2) + cntAll (rPair rInt rInt) x1.wr) + cntAll (rPair rInt rInt) x1.lv) + 9) x1.seen = (wG.mark q x1).seen := by
        simp only [wG, rVia, rPair, rInt, rBool, rLsw, Nat.add_zero, Nat.zero_add, rCtl, rExit]
        try simp only [Nat.add_assoc, Nat.reduceAdd]
      rw [e3] at S
      replace S := Kit.cshut_Guest (g := wG.mark q x1) S
      have S3 := Sx.St.close S (by decide) xs.length c (by simp [Kit.mk_len, List.length_take, List.length_drop]; omega) hmc
      rw [hq, hx1, Kit.mk_step k hlt] at S3
      exact S3
      )
theorem kmk_GuestS {w0 w : World} {lo hi : Nat} {L : List Res} (xs : (List gT)) (A : Option Addr) (c k : Nat) (F : List Nat) (hc : (rLsw wG).cap xs) (hk : k + cntAll wG xs ≤ 1000000000000) (S : St w0 w L) (i : Nat) (hi' : L[i]? = some (ow (rLsw wG) lo hi xs [.slice A xs.length c] F)) : Calls Try.prog 47 #[.slice A xs.length c, .int .i64 ((k : Nat) : Int)] w fun e w' => e = .returned (.int .i64 ((k + cntAll wG xs : Nat) : Int)) ∧ St w0 w' (L.set i (ow (rLsw wG) lo hi (mkAll wG k xs) [.slice A xs.length c] F)) :=
  anywhere (fun R S => kmk0_GuestS xs A c k F hc hk S) S i hi'
set_option maxRecDepth 100000 in
set_option maxHeartbeats 4000000 in
theorem kto_GuestS (xs : (List gT)) (A : Option Addr) (c : Nat) (w : World) (hc : (rLsw wG).cap xs) (h : rdLst wG w 0 w.heap.size xs [.slice A xs.length c]) : Calls Try.prog 60 #[.slice A xs.length c] w (Gives (rLsw wG) w xs) := by
  obtain ⟨hl, hce⟩ := hc
  refine Sx.enter (args := [.slice A xs.length c]) Try.func60 rfl Try.ntmps60 rfl ?_
  refine Sx.C.seq ?_
  refine Sx.C.region ?_
  refine Sx.G.pure (.slice none 0 0) (by kernel_rfl) (fun w => by kernel_rfl) ?_
  refine Sx.G.nil ?_
  refine Sx.E.next ?_
  refine Sx.C.seq ?_
  refine Sx.C.region ?_
  refine Sx.G.pure (.slice A xs.length c) (by kernel_rfl) (fun w => by kernel_rfl) ?_
  refine Sx.G.pure (.int .i64 ((xs.length : Nat) : Int)) (by kernel_rfl) (fun w => by kernel_rfl) ?_
  refine Sx.G.mks (r := wG) ({ prog := [], a := 0, pc := 0, wr := [], lv := [], t := (0, 0, false), pd := 0, x := (0, 0, false, 0), hl := false, seen := [] } : gT) [.slice none 0 0, .int .i64 0, .int .i64 0, .slice none 0 0, .slice none 0 0, .int .i64 0, .int .i64 0, .bool false, .int .i64 0, .int .i64 0, .int .i64 0, .bool false, .int .i64 0, .bool false, .slice none 0 0] 25 51 (.tmp 6) (.tmp 6) 15 184 xs.length rfl (by kernel_rfl) (by kernel_rfl) (by kernel_rfl) rfl rfl (fun w lo hi => Kit.own_zero_Guest w lo hi) (by kernel_rfl) (by kernel_rfl) (by simp only [maxLen]; omega) (by omega) (fun b1 hi1 F1 => ?_)
  refine Sx.G.pure (.slice (some ⟨b1, 0, none⟩) xs.length xs.length) (by kernel_rfl) (fun w => by kernel_rfl) ?_
  refine Sx.G.nil ?_
  refine Sx.E.next ?_
  refine Sx.C.seq ?_
  refine Sx.C.seq ?_
  refine Sx.C.region ?_
  refine Sx.G.pure (.int .i64 0) (by kernel_rfl) (fun w => by kernel_rfl) ?_
  refine Sx.G.nil ?_
  refine Sx.E.next ?_
  refine Sx.C.block ?_
  refine Sx.C.loop (α := Nat × Nat × List Nat) (fun x => x.1 ≤ xs.length) (fun x => [(4, .int .i64 (x.1 : Int)), (0, .slice A xs.length c), (2, .slice none 0 0), (3, .slice (some ⟨b1, 0, none⟩) xs.length xs.length)]) (fun x => [ow (rLsw wG) w.heap.size x.2.1 (xs.take x.1 ++ List.replicate (xs.length - x.1) ({ prog := [], a := 0, pc := 0, wr := [], lv := [], t := (0, 0, false), pd := 0, x := (0, 0, false, 0), hl := false, seen := [] } : gT)) [.slice (some ⟨b1, 0, none⟩) xs.length xs.length] x.2.2]) (fun x => xs.length - x.1) (0, hi1, F1) (Nat.zero_le _) (fun a hA => (Sx.Ag.and hA (Sx.Ag.and hA (Sx.Ag.and hA (Sx.Ag.and hA (Sx.Ag.none hA) _ _ (by kernel_rfl)) _ _ (by kernel_rfl)) _ _ (by kernel_rfl)) _ _ (by kernel_rfl))) (fun w' S => by have S2 := Sx.St.widen S 0 rfl (Nat.le_refl _) (S.hi 0 _ rfl); exact S2) (fun x hx => ?_)
  obtain ⟨i, hi, F⟩ := x
  dsimp only at hx
  obtain hi' := hx
  refine Sx.C.seq ?_
  refine Sx.C.seq ?_
  refine Sx.C.region ?_
  refine Sx.G.pure (.int .i64 (i : Int)) (by kernel_rfl) (fun w => by kernel_rfl) ?_
  refine Sx.G.pure (.slice A xs.length c) (by kernel_rfl) (fun w => by kernel_rfl) ?_
  refine Sx.G.pure (.int .i64 ((xs.length : Nat) : Int)) (by kernel_rfl) (fun w => by kernel_rfl) ?_
  refine Sx.G.pure (.bool (decide ((i : Int) < ((xs.length : Nat) : Int)))) (by kernel_rfl) (fun w => by kernel_rfl) ?_
  refine Sx.G.nil ?_
  refine Sx.E.next ?_
  cases hc2 : (decide ((i : Int) < ((xs.length : Nat) : Int)))
  · have hb2 := hc2
    replace hc2 := of_decide_eq_false hc2
    refine Sx.C.no (by kernel_rfl) (by kernel_rfl) ?_
    refine Sx.C.exit ?_
    refine Sx.E.then_exit ?_
    refine Sx.E.then_exit ?_
    refine Sx.E.block_hit ?_
    refine Sx.E.next ?_
    refine Sx.C.seq ?_
    refine Sx.C.region ?_
    refine Sx.G.pure (.slice (some ⟨b1, 0, none⟩) xs.length xs.length) (by kernel_rfl) (fun w => by kernel_rfl) ?_
    refine Sx.G.pure (.slice (some ⟨b1, 0, none⟩) xs.length xs.length) (by kernel_rfl) (fun w => by kernel_rfl) ?_
    refine Sx.G.nil ?_
    refine Sx.E.next ?_
    refine Sx.C.ret ?_
    refine Sx.E.ret1 (.slice (some ⟨b1, 0, none⟩) xs.length xs.length) rfl (by kernel_rfl) (fun w S => ?_)
    have h2' : xs.take i = xs := List.take_of_length_le (by omega)
    rw [h2', show xs.length - i = 0 by omega, List.replicate_zero, List.append_nil] at S
    exact ⟨[_], F, rfl, S.own 0 rfl, S.nodup 0 rfl, S.below⟩
  · have hb2 := hc2
    replace hc2 := of_decide_eq_true hc2
    refine Sx.C.yes (by kernel_rfl) (by kernel_rfl) ?_
    refine Sx.C.skip ?_
    refine Sx.E.next ?_
    refine Sx.C.seq ?_
    have hlt : i < xs.length := by omega
    refine Sx.C.open (r := wG) (pre := xs.take i) (x := ({ prog := [], a := 0, pc := 0, wr := [], lv := [], t := (0, 0, false), pd := 0, x := (0, 0, false, 0), hl := false, seen := [] } : gT)) (post := List.replicate (xs.length - (i + 1)) ({ prog := [], a := 0, pc := 0, wr := [], lv := [], t := (0, 0, false), pd := 0, x := (0, 0, false, 0), hl := false, seen := [] } : gT)) (by rw [show xs.length - i = (xs.length - (i + 1)) + 1 by omega, List.replicate_succ]) (by decide) (fun b off es F1 Fi F2 eA eF hes hm hmc => ?_)
    obtain ⟨rfl, rfl⟩ : b1 = b ∧ 0 = off := by cases eA; exact ⟨rfl, rfl⟩
    subst eF
    refine Sx.C.know (p := ∃ A0 A1 A2 A3 c0 c1 c2 c3, es = [.slice A0 0 c0, .int .i64 ({ prog := [], a := 0, pc := 0, wr := [], lv := [], t := (0, 0, false), pd := 0, x := (0, 0, false, 0), hl := false, seen := [] } : gT).a, .int .i64 ({ prog := [], a := 0, pc := 0, wr := [], lv := [], t := (0, 0, false), pd := 0, x := (0, 0, false, 0), hl := false, seen := [] } : gT).pc, .slice A1 0 c1, .slice A2 0 c2, .int .i64 ({ prog := [], a := 0, pc := 0, wr := [], lv := [], t := (0, 0, false), pd := 0, x := (0, 0, false, 0), hl := false, seen := [] } : gT).t.1, .int .i64 ({ prog := [], a := 0, pc := 0, wr := [], lv := [], t := (0, 0, false), pd := 0, x := (0, 0, false, 0), hl := false, seen := [] } : gT).t.2.1, .bool ({ prog := [], a := 0, pc := 0, wr := [], lv := [], t := (0, 0, false), pd := 0, x := (0, 0, false, 0), hl := false, seen := [] } : gT).t.2.2, .int .i64 ({ prog := [], a := 0, pc := 0, wr := [], lv := [], t := (0, 0, false), pd := 0, x := (0, 0, false, 0), hl := false, seen := [] } : gT).pd, .int .i64 ({ prog := [], a := 0, pc := 0, wr := [], lv := [], t := (0, 0, false), pd := 0, x := (0, 0, false, 0), hl := false, seen := [] } : gT).x.1, .int .i64 ({ prog := [], a := 0, pc := 0, wr := [], lv := [], t := (0, 0, false), pd := 0, x := (0, 0, false, 0), hl := false, seen := [] } : gT).x.2.1, .bool ({ prog := [], a := 0, pc := 0, wr := [], lv := [], t := (0, 0, false), pd := 0, x := (0, 0, false, 0), hl := false, seen := [] } : gT).x.2.2.1, .int .i64 ({ prog := [], a := 0, pc := 0, wr := [], lv := [], t := (0, 0, false), pd := 0, x := (0, 0, false, 0), hl := false, seen := [] } : gT).x.2.2.2, .bool ({ prog := [], a := 0, pc := 0, wr := [], lv := [], t := (0, 0, false), pd := 0, x := (0, 0, false, 0), hl := false, seen := [] } : gT).hl, .slice A3 0 c3]) (fun w S => Kit.open_zero_Guest (St.at_ S 1 rfl).1) ?_
    rintro ⟨z0, z1, z2, z3, d0, d1, d2, d3, rfl⟩
    refine Sx.C.block ?_
    refine Sx.C.region ?_
    refine Sx.G.pure (.slice (some ⟨b1, 0, none⟩) xs.length xs.length) (by kernel_rfl) (fun w => by kernel_rfl) ?_
    refine Sx.G.pure (.int .i64 (i : Int)) (by kernel_rfl) (fun w => by kernel_rfl) ?_
    refine Sx.G.pure (.slice A xs.length c) (by kernel_rfl) (fun w => by kernel_rfl) ?_
    refine Sx.G.pure (.int .i64 (i : Int)) (by kernel_rfl) (fun w => by kernel_rfl) ?_
    obtain ⟨b3, f3, es3, eA3, hr3, hl3, hm3⟩ := Sx.old_elem (by decide) h i (by omega)
    subst eA3
    obtain ⟨x3, hx3⟩ : ∃ z_, z_ = (xs[i]'(by omega)) := ⟨_, rfl⟩
    rw [← hx3] at hr3
    have hR3 := hr3
    obtain ⟨P3_0, P3_1, P3_2, P3_3, rfl, hf3_0, hf3_1, hf3_2, hf3_3⟩ := wG_rd hr3
    obtain ⟨A3_0, c3_0, e3_0, -⟩ := lst_val hf3_0
    subst e3_0
    obtain ⟨A3_1, c3_1, e3_1, -⟩ := lst_val hf3_1
    subst e3_1
    obtain ⟨A3_2, c3_2, e3_2, -⟩ := lst_val hf3_2
    subst e3_2
    obtain ⟨A3_3, c3_3, e3_3, -⟩ := lst_val hf3_3
    subst e3_3
    refine Sx.G.elem 37 62 (.tmp 16) (.tmp 17) 15 184 b3 f3 xs.length c i rfl (by kernel_rfl) (by kernel_rfl) (by kernel_rfl) (by kernel_rfl) (by omega) ?_
    refine Sx.G.ldr 62 (.tmp 18) b3 (f3 + i * 15) [.slice A3_0 x3.prog.length c3_0, .int .i64 x3.a, .int .i64 x3.pc, .slice A3_1 x3.wr.length c3_1, .slice A3_2 x3.lv.length c3_2, .int .i64 x3.t.1, .int .i64 x3.t.2.1, .bool x3.t.2.2, .int .i64 x3.pd, .int .i64 x3.x.1, .int .i64 x3.x.2.1, .bool x3.x.2.2.1, .int .i64 x3.x.2.2.2, .bool x3.hl, .slice A3_3 x3.seen.length c3_3] rfl (by kernel_rfl) (by kernel_rfl) (fun w S => hm3 w _ S) (by kernel_rfl) (by kernel_rfl) ?_
    refine Sx.G.call 29 #[.agg #[.slice A3_0 x3.prog.length c3_0, .int .i64 x3.a, .int .i64 x3.pc, .slice A3_1 x3.wr.length c3_1, .slice A3_2 x3.lv.length c3_2, .int .i64 x3.t.1, .int .i64 x3.t.2.1, .bool x3.t.2.2, .int .i64 x3.pd, .int .i64 x3.x.1, .int .i64 x3.x.2.1, .bool x3.x.2.2.1, .int .i64 x3.x.2.2.2, .bool x3.hl, .slice A3_3 x3.seen.length c3_3]] (by kernel_rfl) (fun w => by kernel_rfl) (fun w4 S => (Kit.kto_Guest x3 _ _ (hce _ (hx3 ▸ List.getElem_mem _)) (St.old S hR3)).mono fun e w4' hp => ?_)
    obtain ⟨cs, F, rfl, ho, hF, hb⟩ := hp
    obtain ⟨P4_0, P4_1, P4_2, P4_3, G4_0, G4_1, G4_2, G4_3, rfl, -, S'⟩ := wG_open2 (St.got S hb ho hF)
    obtain ⟨A4_0, c4_0, e4_0, -⟩ := lst_val (S'.reads 0 rfl)
    subst e4_0
    obtain ⟨A4_1, c4_1, e4_1, -⟩ := lst_val (S'.reads 1 rfl)
    subst e4_1
    obtain ⟨A4_2, c4_2, e4_2, -⟩ := lst_val (S'.reads 2 rfl)
    subst e4_2
    obtain ⟨A4_3, c4_3, e4_3, -⟩ := lst_val (S'.reads 3 rfl)
    subst e4_3
    refine ⟨_, _, rfl, S', ?_⟩
    clear S S' ho hF hb
    refine Sx.G.elem 25 51 (.tmp 14) (.tmp 15) 15 184 b1 0 xs.length xs.length i rfl (by kernel_rfl) (by kernel_rfl) (by kernel_rfl) (by kernel_rfl) (by omega) ?_
    refine Sx.G.hsto (k := i) (size := 15) 51 (.tmp 21) (.tmp 20) b1 ((0 + i * 15) + 0) 0 4 [.slice A4_0 x3.prog.length c4_0, .int .i64 x3.a, .int .i64 x3.pc, .slice A4_1 x3.wr.length c4_1, .slice A4_2 x3.lv.length c4_2, .int .i64 x3.t.1, .int .i64 x3.t.2.1, .bool x3.t.2.2, .int .i64 x3.pd, .int .i64 x3.x.1, .int .i64 x3.x.2.1, .bool x3.x.2.2.1, .int .i64 x3.x.2.2.2, .bool x3.hl, .slice A4_3 x3.seen.length c4_3] [.slice A4_0 x3.prog.length c4_0, .int .i64 x3.a, .int .i64 x3.pc, .slice A4_1 x3.wr.length c4_1, .slice A4_2 x3.lv.length c4_2, .int .i64 x3.t.1, .int .i64 x3.t.2.1, .bool x3.t.2.2, .int .i64 x3.pd, .int .i64 x3.x.1, .int .i64 x3.x.2.1, .bool x3.x.2.2.1, .int .i64 x3.x.2.2.2, .bool x3.hl, .slice A4_3 x3.seen.length c4_3] [ow (rLsw (rPair rInt rInt)) w4.heap.size w4'.heap.size x3.prog [.slice A4_0 x3.prog.length c4_0] G4_0, ow (rLsw (rPair rInt rInt)) w4.heap.size w4'.heap.size x3.wr [.slice A4_1 x3.wr.length c4_1] G4_1, ow (rLsw (rPair rInt rInt)) w4.heap.size w4'.heap.size x3.lv [.slice A4_2 x3.lv.length c4_2] G4_2, ow (rLsw rInt) w4.heap.size w4'.heap.size x3.seen [.slice A4_3 x3.seen.length c4_3] G4_3, Sx.hole wG b1 0 w.heap.size hi (xs.take i) (List.replicate (xs.length - (i + 1)) ({ prog := [], a := 0, pc := 0, wr := [], lv := [], t := (0, 0, false), pd := 0, x := (0, 0, false, 0), hl := false, seen := [] } : gT)) [.slice A4_0 x3.prog.length c4_0, .int .i64 x3.a, .int .i64 x3.pc, .slice A4_1 x3.wr.length c4_1, .slice A4_2 x3.lv.length c4_2, .int .i64 x3.t.1, .int .i64 x3.t.2.1, .bool x3.t.2.2, .int .i64 x3.pd, .int .i64 x3.x.1, .int .i64 x3.x.2.1, .bool x3.x.2.2.1, .int .i64 x3.x.2.2.2, .bool x3.hl, .slice A4_3 x3.seen.length c4_3] F1 F2, ow wG w.heap.size hi ({ prog := [], a := 0, pc := 0, wr := [], lv := [], t := (0, 0, false), pd := 0, x := (0, 0, false, 0), hl := false, seen := [] } : gT) [.slice z0 0 d0, .int .i64 ({ prog := [], a := 0, pc := 0, wr := [], lv := [], t := (0, 0, false), pd := 0, x := (0, 0, false, 0), hl := false, seen := [] } : gT).a, .int .i64 ({ prog := [], a := 0, pc := 0, wr := [], lv := [], t := (0, 0, false), pd := 0, x := (0, 0, false, 0), hl := false, seen := [] } : gT).pc, .slice z1 0 d1, .slice z2 0 d2, .int .i64 ({ prog := [], a := 0, pc := 0, wr := [], lv := [], t := (0, 0, false), pd := 0, x := (0, 0, false, 0), hl := false, seen := [] } : gT).t.1, .int .i64 ({ prog := [], a := 0, pc := 0, wr := [], lv := [], t := (0, 0, false), pd := 0, x := (0, 0, false, 0), hl := false, seen := [] } : gT).t.2.1, .bool ({ prog := [], a := 0, pc := 0, wr := [], lv := [], t := (0, 0, false), pd := 0, x := (0, 0, false, 0), hl := false, seen := [] } : gT).t.2.2, .int .i64 ({ prog := [], a := 0, pc := 0, wr := [], lv := [], t := (0, 0, false), pd := 0, x := (0, 0, false, 0), hl := false, seen := [] } : gT).pd, .int .i64 ({ prog := [], a := 0, pc := 0, wr := [], lv := [], t := (0, 0, false), pd := 0, x := (0, 0, false, 0), hl := false, seen := [] } : gT).x.1, .int .i64 ({ prog := [], a := 0, pc := 0, wr := [], lv := [], t := (0, 0, false), pd := 0, x := (0, 0, false, 0), hl := false, seen := [] } : gT).x.2.1, .bool ({ prog := [], a := 0, pc := 0, wr := [], lv := [], t := (0, 0, false), pd := 0, x := (0, 0, false, 0), hl := false, seen := [] } : gT).x.2.2.1, .int .i64 ({ prog := [], a := 0, pc := 0, wr := [], lv := [], t := (0, 0, false), pd := 0, x := (0, 0, false, 0), hl := false, seen := [] } : gT).x.2.2.2, .bool ({ prog := [], a := 0, pc := 0, wr := [], lv := [], t := (0, 0, false), pd := 0, x := (0, 0, false, 0), hl := false, seen := [] } : gT).hl, .slice z3 0 d3] Fi] rfl (by kernel_rfl) (by kernel_rfl) (by kernel_rfl) rfl (by rw [List.length_take]; omega) rfl rfl rfl rfl (by kernel_rfl) (by kernel_rfl) (by kernel_rfl) ?_
    refine Sx.G.nil ?_
    refine Sx.E.block_normal ?_
    refine Sx.E.next ?_
    refine Sx.C.region ?_
    refine Sx.G.pure (.int .i64 (i : Int)) (by kernel_rfl) (fun w => by kernel_rfl) ?_
    refine Sx.G.pureq (.int .i64 (IntKind.i64.wrap ((i : Int) + 1))) (.int .i64 ((i + 1 : Nat) : Int)) (by kernel_rfl) (fun w => by kernel_rfl) (congrArg (Value.int .i64) (Sx.wrap_up i (by omega))) ?_
    refine Sx.G.pure (.int .i64 ((i + 1 : Nat) : Int)) (by kernel_rfl) (fun w => by kernel_rfl) ?_
    refine Sx.G.nil ?_
    exact Sx.E.again (i + 1, max hi w4'.heap.size, _) (show i + 1 ≤ xs.length by omega) (show xs.length - (i + 1) < xs.length - i by omega) (fun a hA => (Sx.Ag.and hA (Sx.Ag.and hA (Sx.Ag.and hA (Sx.Ag.and hA (Sx.Ag.none hA) _ _ (by kernel_rfl)) _ _ (by kernel_rfl)) _ _ (by kernel_rfl)) _ _ (by kernel_rfl))) (fun w' S => by
      replace S := wG_shut2 (g := x3) S
      replace S := St.pick S [1, 0] [_, _] rfl (by decide)
      have S3 := Sx.St.closeW S (by decide) xs.length xs.length (by simp [List.length_take]; omega) hmc
      rw [hx3] at S3
      rw [show xs.take i ++ xs[i] :: List.replicate (xs.length - (i + 1)) ({ prog := [], a := 0, pc := 0, wr := [], lv := [], t := (0, 0, false), pd := 0, x := (0, 0, false, 0), hl := false, seen := [] } : gT) = xs.take (i + 1) ++ List.replicate (xs.length - (i + 1)) ({ prog := [], a := 0, pc := 0, wr := [], lv := [], t := (0, 0, false), pd := 0, x := (0, 0, false, 0), hl := false, seen := [] } : gT) by rw [Kit.take_step hlt, List.append_assoc]; rfl] at S3
      exact S3
      )
end Go.Proofs.Ytldgadmpclgfhaa.Kit
namespace Go.Proofs.Ytldgadmpclgfhaa.Kit
set_option maxRecDepth 100000
open Go.ChangeShapes Go.WideShapes Go.ChangeAt Go.RowKit Go.Deep
open Go.Proofs.Ytldgadmpclgfhaa.Base Go.Proofs.Ytldgadmpclgfhaa.Mem Go.Proofs.Ytldgadmpclgfhaa.Data Go.Proofs.Ytldgadmpclgfhaa.Stt Go.Proofs.Ytldgadmpclgfhaa.Guests Go.Proofs.Ytldgadmpclgfhaa.Ctls Go.Proofs.Ytldgadmpclgfhaa.Exits
set_option linter.unusedVariables false
set_option linter.unusedSimpArgs false
/-- A reference machine. -/
structure bT where
  mem : List (List Int)
  gs : List gT
  outs : List Int
  pd : Int
/-- How a bT lies in memory. -/
def wB : Rp bT := rVia (rPair ((rLsw (rLsw rInt))) (rPair ((rLsw wG)) (rPair ((rLsw rInt)) (rInt)))) (fun g => (g.mem, g.gs, g.outs, g.pd)) (fun k => ⟨k.1, k.2.1, k.2.2.1, k.2.2.2⟩)
theorem wB_rd {w : World} {lo hi : Nat} {g : bT} {cs : List Value} (h : wB.rd w lo hi g cs) : ∃ P0 P1 P2, cs = [P0, P1, P2, .int .i64 g.pd] ∧ ((rLsw (rLsw rInt))).rd w lo hi g.mem [P0] ∧ ((rLsw wG)).rd w lo hi g.gs [P1] ∧ ((rLsw rInt)).rd w lo hi g.outs [P2] := by
  obtain ⟨c0, s0, rfl, h0, g0⟩ := h
  obtain ⟨P0, rfl⟩ := lst_rd h0
  obtain ⟨c1, s1, rfl, h1, g1⟩ := g0
  obtain ⟨P1, rfl⟩ := lst_rd h1
  obtain ⟨c2, s2, rfl, h2, g2⟩ := g1
  obtain ⟨P2, rfl⟩ := lst_rd h2
  obtain rfl := show _ = _ from g2
  exact ⟨P0, P1, P2, by simp, h0, h1, h2⟩
theorem wB_own {w : World} {lo hi : Nat} {g : bT} {cs : List Value} {F : List Nat} (h : wB.own w lo hi g cs F) : ∃ P0 P1 P2 F0 F1 F2, cs = [P0, P1, P2, .int .i64 g.pd] ∧ F = F0 ++ (F1 ++ F2) ∧ ((rLsw (rLsw rInt))).own w lo hi g.mem [P0] F0 ∧ ((rLsw wG)).own w lo hi g.gs [P1] F1 ∧ ((rLsw rInt)).own w lo hi g.outs [P2] F2 := by
  obtain ⟨c0, s0, G0, H0, rfl, rfl, h0, g0⟩ := h
  obtain ⟨P0, rfl⟩ := lsw_own h0
  obtain ⟨c1, s1, G1, H1, rfl, rfl, h1, g1⟩ := g0
  obtain ⟨P1, rfl⟩ := lsw_own h1
  obtain ⟨c2, s2, G2, H2, rfl, rfl, h2, g2⟩ := g1
  obtain ⟨P2, rfl⟩ := lsw_own h2
  obtain ⟨rfl, rfl⟩ := g2
  exact ⟨P0, P1, P2, G0, G1, G2, by simp, by simp, h0, h1, h2⟩
theorem wB_own_mk {w : World} {lo hi : Nat} {g : bT} {P0 P1 P2 : Value} {F0 F1 F2 : List Nat} (h0 : ((rLsw (rLsw rInt))).own w lo hi g.mem [P0] F0) (h1 : ((rLsw wG)).own w lo hi g.gs [P1] F1) (h2 : ((rLsw rInt)).own w lo hi g.outs [P2] F2) : wB.own w lo hi g [P0, P1, P2, .int .i64 g.pd] (F0 ++ (F1 ++ F2)) := by
  have h : wB.own w lo hi g [P0, P1, P2, .int .i64 g.pd] _ := ⟨[_], _, F0, _, rfl, rfl, h0, ⟨[_], _, F1, _, rfl, rfl, h1, ⟨[_], _, F2, _, rfl, rfl, h2, ⟨rfl, rfl⟩⟩⟩⟩
  simpa using h
theorem wB_shut {w0 w : World} {g : bT} {L : List Res} {P0 P1 P2 : Value} {F0 F1 F2 : List Nat} {l0 k0 l1 k1 l2 k2 : Nat} (S : St w0 w L) (i0 : Nat) (e0 : L[i0]? = some (ow (rLsw (rLsw rInt)) l0 k0 g.mem [P0] F0)) (i1 : Nat) (e1 : L[i1]? = some (ow (rLsw wG) l1 k1 g.gs [P1] F1)) (i2 : Nat) (e2 : L[i2]? = some (ow (rLsw rInt) l2 k2 g.outs [P2] F2)) (n01 : i0 ≠ i1) (n02 : i0 ≠ i2) (n12 : i1 ≠ i2) : wB.own w w0.heap.size w.heap.size g [P0, P1, P2, .int .i64 g.pd] (F0 ++ (F1 ++ F2)) ∧ (F0 ++ (F1 ++ F2)).Nodup := by
  refine ⟨wB_own_mk (S.own i0 e0) (S.own i1 e1) (S.own i2 e2), ?_⟩
  exact (nodup_app (S.nodup i0 e0) (nodup_app (S.nodup i1 e1) (S.nodup i2 e2) (fun k hk => (S.disj i1 i2 e1 e2 n12 k hk))) (fun k hk => (not_app (S.disj i0 i1 e0 e1 n01 k hk) (S.disj i0 i2 e0 e2 n02 k hk))))
theorem wB_open2 {w0 w : World} {lo hi : Nat} {g : bT} {cs : List Value} {F : List Nat} {T : List Res} (S : St w0 w (ow wB lo hi g cs F :: T)) : ∃ P0 P1 P2 F0 F1 F2, cs = [P0, P1, P2, .int .i64 g.pd] ∧ F = F0 ++ (F1 ++ F2) ∧ St w0 w (ow (rLsw (rLsw rInt)) lo hi g.mem [P0] F0 :: ow (rLsw wG) lo hi g.gs [P1] F1 :: ow (rLsw rInt) lo hi g.outs [P2] F2 :: T) := by
  obtain ⟨hown, hnd⟩ := S.at_ 0 rfl
  have hl := S.lo 0 _ rfl
  have hh := S.hi 0 _ rfl
  obtain ⟨P0, P1, P2, F0, F1, F2, rfl, rfl, q0, q1, q2⟩ := wB_own hown
  obtain ⟨m0, n0, d0⟩ := List.nodup_append.1 hnd
  obtain ⟨m1, n1, d1⟩ := List.nodup_append.1 n0
  have m2 := n1
  refine ⟨P0, P1, P2, F0, F1, F2, rfl, rfl, S.parts [ow (rLsw (rLsw rInt)) lo hi g.mem [P0] F0, ow (rLsw wG) lo hi g.gs [P1] F1, ow (rLsw rInt) lo hi g.outs [P2] F2] ?_ ?_⟩
  · intro s hs
    simp only [List.mem_cons, List.not_mem_nil, or_false] at hs
    rcases hs with rfl | rfl | rfl
    · exact ⟨⟨q0, m0⟩, fun k hk => ⟨by simp [hk.1], hk.2⟩, hl, hh⟩
    · exact ⟨⟨q1, m1⟩, fun k hk => ⟨by simp [hk.1], hk.2⟩, hl, hh⟩
    · exact ⟨⟨q2, m2⟩, fun k hk => ⟨by simp [hk.1], hk.2⟩, hl, hh⟩
  · simp only [List.pairwise_cons, List.mem_cons, List.not_mem_nil, or_false, forall_eq_or_imp, forall_eq, List.Pairwise.nil, and_true, false_implies, implies_true, ow]
    exact ⟨⟨(fun k hk hk' => d0 k hk.1 k (by simp [hk'.1]) rfl), (fun k hk hk' => d0 k hk.1 k (by simp [hk'.1]) rfl)⟩, (fun k hk hk' => d1 k hk.1 k (by simp [hk'.1]) rfl)⟩
theorem wB_shut2 {w0 w : World} {lo hi : Nat} {g : bT} {P0 P1 P2 : Value} {F0 F1 F2 : List Nat} {T : List Res} (S : St w0 w (ow (rLsw (rLsw rInt)) lo hi g.mem [P0] F0 :: ow (rLsw wG) lo hi g.gs [P1] F1 :: ow (rLsw rInt) lo hi g.outs [P2] F2 :: T)) : St w0 w (ow wB lo hi g [P0, P1, P2, .int .i64 g.pd] (F0 ++ (F1 ++ F2)) :: T) := by
  have hnd := (wB_shut (g := g) S 0 rfl 1 rfl 2 rfl (by decide) (by decide) (by decide)).2
  refine Sx.St.merge (rs := [ow (rLsw (rLsw rInt)) lo hi g.mem [P0] F0, ow (rLsw wG) lo hi g.gs [P1] F1, ow (rLsw rInt) lo hi g.outs [P2] F2]) S (ow wB lo hi g [P0, P1, P2, .int .i64 g.pd] (F0 ++ (F1 ++ F2))) ⟨wB_own_mk (S.at_ 0 rfl).1 (S.at_ 1 rfl).1 (S.at_ 2 rfl).1, hnd⟩ (fun k hk => ?_) (S.lo 0 _ rfl : w0.heap.size ≤ lo) (S.hi 0 _ rfl : hi ≤ w.heap.size)
  obtain ⟨hk, hb⟩ := hk
  simp only [List.mem_append] at hk
  rcases hk with h | h | h
  · exact ⟨_, List.mem_cons_self, h, hb⟩
  · exact ⟨_, List.mem_cons_of_mem _ (List.mem_cons_self), h, hb⟩
  · exact ⟨_, List.mem_cons_of_mem _ (List.mem_cons_of_mem _ (List.mem_cons_self)), h, hb⟩
theorem tcnt_Bare (g : bT) : wB.tcnt g = cntAll (rLsw rInt) g.mem + cntAll wG g.gs + cntAll rInt g.outs := by simp only [wB, rVia, rPair, rInt, rBool, rLsw]; omega
theorem size_Bare (g : bT) : wB.size g = (g.mem.length + sizeAll (rLsw rInt) g.mem) + (g.gs.length + sizeAll wG g.gs) + (g.outs.length + sizeAll rInt g.outs) := by simp only [wB, rVia, rPair, rInt, rBool, rLsw]; omega
set_option maxRecDepth 100000 in
set_option maxHeartbeats 4000000 in
theorem keq_Bare (x : bT) (cs ds : List Value) (w : World) (hc : wB.cap x) (h : wB.rd w 0 w.heap.size x cs) (j : wB.rd w 0 w.heap.size x ds) : Calls Try.prog 13 #[.agg cs.toArray, .agg ds.toArray] w (fun e w' => e = .returned (.bool true) ∧ Below w.heap.size w w') := by
  obtain ⟨hcap0, hcap1, hcap2, hcap3⟩ := hc
  have hR := h
  obtain ⟨hP0, hP1, hP2, rfl, hf0, hf1, hf2⟩ := wB_rd h
  obtain ⟨hA0, hK0, he0, -⟩ := lst_val hf0
  subst he0
  obtain ⟨hA1, hK1, he1, -⟩ := lst_val hf1
  subst he1
  obtain ⟨hA2, hK2, he2, -⟩ := lst_val hf2
  subst he2
  have jR := j
  obtain ⟨jP0, jP1, jP2, rfl, jf0, jf1, jf2⟩ := wB_rd j
  obtain ⟨jA0, jK0, je0, -⟩ := lst_val jf0
  subst je0
  obtain ⟨jA1, jK1, je1, -⟩ := lst_val jf1
  subst je1
  obtain ⟨jA2, jK2, je2, -⟩ := lst_val jf2
  subst je2
  refine Sx.enter (args := [.agg #[.slice hA0 x.mem.length hK0, .slice hA1 x.gs.length hK1, .slice hA2 x.outs.length hK2, .int .i64 x.pd], .agg #[.slice jA0 x.mem.length jK0, .slice jA1 x.gs.length jK1, .slice jA2 x.outs.length jK2, .int .i64 x.pd]]) Try.func13 rfl Try.ntmps13 rfl ?_
  refine Sx.C.seq ?_
  refine Sx.C.region ?_
  refine Sx.G.box 28 (.tmp 0) [.slice hA0 x.mem.length hK0, .slice hA1 x.gs.length hK1, .slice hA2 x.outs.length hK2, .int .i64 x.pd] rfl (by kernel_rfl) (by kernel_rfl) (fun b1 => ?_)
  refine Sx.G.box 28 (.tmp 1) [.slice jA0 x.mem.length jK0, .slice jA1 x.gs.length jK1, .slice jA2 x.outs.length jK2, .int .i64 x.pd] rfl (by kernel_rfl) (by kernel_rfl) (fun b2 => ?_)
  refine Sx.G.pure (.bool false) (by kernel_rfl) (fun w => by kernel_rfl) ?_
  refine Sx.G.nil ?_
  refine Sx.E.next ?_
  refine Sx.C.seq ?_
  refine Sx.C.seq ?_
  refine Sx.C.region ?_
  refine Sx.G.pure (.pointer (some ⟨b1, 0, none⟩)) (by kernel_rfl) (fun w => by kernel_rfl) ?_
  refine Sx.G.ld1 24 (.tmp 5) b1 0 1 [.slice hA0 x.mem.length hK0, .slice hA1 x.gs.length hK1, .slice hA2 x.outs.length hK2, .int .i64 x.pd] (.slice hA0 x.mem.length hK0) rfl (by kernel_rfl) (by kernel_rfl) rfl (by kernel_rfl) (by kernel_rfl) ?_
  refine Sx.G.pure (.pointer (some ⟨b2, 0, none⟩)) (by kernel_rfl) (fun w => by kernel_rfl) ?_
  refine Sx.G.ld1 24 (.tmp 7) b2 0 0 [.slice jA0 x.mem.length jK0, .slice jA1 x.gs.length jK1, .slice jA2 x.outs.length jK2, .int .i64 x.pd] (.slice jA0 x.mem.length jK0) rfl (by kernel_rfl) (by kernel_rfl) rfl (by kernel_rfl) (by kernel_rfl) ?_
  refine Sx.G.plain 41 #[.slice hA0 x.mem.length hK0, .slice jA0 x.mem.length jK0] (.bool true) (by kernel_rfl) (fun w => by kernel_rfl) (fun w S => by exact Kit.keq_IntSS x.mem hA0 hK0 jA0 jK0 _ hcap0 (St.old (r := (rLsw (rLsw rInt))) S hf0) (St.old (r := (rLsw (rLsw rInt))) S jf0)) ?_
  refine Sx.G.pure (.bool false) (by kernel_rfl) (fun w => by kernel_rfl) ?_
  refine Sx.G.nil ?_
  refine Sx.E.next ?_
  refine Sx.C.no (by kernel_rfl) (by kernel_rfl) ?_
  refine Sx.C.skip ?_
  refine Sx.E.next ?_
  refine Sx.C.seq ?_
  refine Sx.C.seq ?_
  refine Sx.C.region ?_
  refine Sx.G.pure (.pointer (some ⟨b1, 1, none⟩)) (by kernel_rfl) (fun w => by kernel_rfl) ?_
  refine Sx.G.ld1 25 (.tmp 11) b1 1 1 [.slice hA0 x.mem.length hK0, .slice hA1 x.gs.length hK1, .slice hA2 x.outs.length hK2, .int .i64 x.pd] (.slice hA1 x.gs.length hK1) rfl (by kernel_rfl) (by kernel_rfl) rfl (by kernel_rfl) (by kernel_rfl) ?_
  refine Sx.G.pure (.pointer (some ⟨b2, 1, none⟩)) (by kernel_rfl) (fun w => by kernel_rfl) ?_
  refine Sx.G.ld1 25 (.tmp 13) b2 1 0 [.slice jA0 x.mem.length jK0, .slice jA1 x.gs.length jK1, .slice jA2 x.outs.length jK2, .int .i64 x.pd] (.slice jA1 x.gs.length jK1) rfl (by kernel_rfl) (by kernel_rfl) rfl (by kernel_rfl) (by kernel_rfl) ?_
  refine Sx.G.plain 42 #[.slice hA1 x.gs.length hK1, .slice jA1 x.gs.length jK1] (.bool true) (by kernel_rfl) (fun w => by kernel_rfl) (fun w S => by exact Kit.keq_GuestS x.gs hA1 hK1 jA1 jK1 _ hcap1 (St.old (r := (rLsw wG)) S hf1) (St.old (r := (rLsw wG)) S jf1)) ?_
  refine Sx.G.pure (.bool false) (by kernel_rfl) (fun w => by kernel_rfl) ?_
  refine Sx.G.nil ?_
  refine Sx.E.next ?_
  refine Sx.C.no (by kernel_rfl) (by kernel_rfl) ?_
  refine Sx.C.skip ?_
  refine Sx.E.next ?_
  refine Sx.C.seq ?_
  refine Sx.C.seq ?_
  refine Sx.C.region ?_
  refine Sx.G.pure (.pointer (some ⟨b1, 2, none⟩)) (by kernel_rfl) (fun w => by kernel_rfl) ?_
  refine Sx.G.ld1 26 (.tmp 17) b1 2 1 [.slice hA0 x.mem.length hK0, .slice hA1 x.gs.length hK1, .slice hA2 x.outs.length hK2, .int .i64 x.pd] (.slice hA2 x.outs.length hK2) rfl (by kernel_rfl) (by kernel_rfl) rfl (by kernel_rfl) (by kernel_rfl) ?_
  refine Sx.G.pure (.pointer (some ⟨b2, 2, none⟩)) (by kernel_rfl) (fun w => by kernel_rfl) ?_
  refine Sx.G.ld1 26 (.tmp 19) b2 2 0 [.slice jA0 x.mem.length jK0, .slice jA1 x.gs.length jK1, .slice jA2 x.outs.length jK2, .int .i64 x.pd] (.slice jA2 x.outs.length jK2) rfl (by kernel_rfl) (by kernel_rfl) rfl (by kernel_rfl) (by kernel_rfl) ?_
  refine Sx.G.plain 43 #[.slice hA2 x.outs.length hK2, .slice jA2 x.outs.length jK2] (.bool true) (by kernel_rfl) (fun w => by kernel_rfl) (fun w S => by exact Kit.keq_IntS x.outs hA2 hK2 jA2 jK2 _ hcap2 (St.old (r := (rLsw rInt)) S hf2) (St.old (r := (rLsw rInt)) S jf2)) ?_
  refine Sx.G.pure (.bool false) (by kernel_rfl) (fun w => by kernel_rfl) ?_
  refine Sx.G.nil ?_
  refine Sx.E.next ?_
  refine Sx.C.no (by kernel_rfl) (by kernel_rfl) ?_
  refine Sx.C.skip ?_
  refine Sx.E.next ?_
  refine Sx.C.seq ?_
  refine Sx.C.seq ?_
  refine Sx.C.region ?_
  refine Sx.G.pure (.pointer (some ⟨b1, 3, none⟩)) (by kernel_rfl) (fun w => by kernel_rfl) ?_
  refine Sx.G.ld1 3 (.tmp 23) b1 3 1 [.slice hA0 x.mem.length hK0, .slice hA1 x.gs.length hK1, .slice hA2 x.outs.length hK2, .int .i64 x.pd] (.int .i64 x.pd) rfl (by kernel_rfl) (by kernel_rfl) rfl (by kernel_rfl) (by kernel_rfl) ?_
  refine Sx.G.pure (.pointer (some ⟨b2, 3, none⟩)) (by kernel_rfl) (fun w => by kernel_rfl) ?_
  refine Sx.G.ld1 3 (.tmp 25) b2 3 0 [.slice jA0 x.mem.length jK0, .slice jA1 x.gs.length jK1, .slice jA2 x.outs.length jK2, .int .i64 x.pd] (.int .i64 x.pd) rfl (by kernel_rfl) (by kernel_rfl) rfl (by kernel_rfl) (by kernel_rfl) ?_
  refine Sx.G.pureq (.bool (x.pd != x.pd)) (.bool false) (by kernel_rfl) (fun w => by kernel_rfl) (congrArg Value.bool (bne_self_eq_false _)) ?_
  refine Sx.G.nil ?_
  refine Sx.E.next ?_
  refine Sx.C.no (by kernel_rfl) (by kernel_rfl) ?_
  refine Sx.C.skip ?_
  refine Sx.E.next ?_
  refine Sx.C.seq ?_
  refine Sx.C.region ?_
  refine Sx.G.pure (.bool true) (by kernel_rfl) (fun w => by kernel_rfl) ?_
  refine Sx.G.nil ?_
  refine Sx.E.next ?_
  refine Sx.C.ret ?_
  refine Sx.E.ret1 (.bool true) rfl (by kernel_rfl) (fun w S => ?_)
  exact ⟨rfl, S.below⟩
set_option maxRecDepth 100000 in
set_option maxHeartbeats 4000000 in
theorem ksz_Bare (x : bT) (cs : List Value) (left : Int) (w : World) (hw : wB.wf x) (h0 : 0 ≤ left) (h1 : left ≤ 1048576) (h : wB.rd w 0 w.heap.size x cs) : Calls Try.prog 18 #[.agg cs.toArray, .int .i64 left] w (fun e w' => ∃ l, e = .returned (.int .i64 l) ∧ Kit.Sz left (wB.size x) l ∧ Below w.heap.size w w') := by
  obtain ⟨hwf0, hwf1, hwf2, hwf3⟩ := hw
  have hR := h
  obtain ⟨hP0, hP1, hP2, rfl, hf0, hf1, hf2⟩ := wB_rd h
  obtain ⟨hA0, hK0, he0, -⟩ := lst_val hf0
  subst he0
  obtain ⟨hA1, hK1, he1, -⟩ := lst_val hf1
  subst he1
  obtain ⟨hA2, hK2, he2, -⟩ := lst_val hf2
  subst he2
  refine Sx.enter (args := [.agg #[.slice hA0 x.mem.length hK0, .slice hA1 x.gs.length hK1, .slice hA2 x.outs.length hK2, .int .i64 x.pd], .int .i64 left]) Try.func18 rfl Try.ntmps18 rfl ?_
  refine Sx.C.seq ?_
  refine Sx.C.region ?_
  refine Sx.G.box 39 (.tmp 0) [.slice hA0 x.mem.length hK0, .slice hA1 x.gs.length hK1, .slice hA2 x.outs.length hK2, .int .i64 x.pd] rfl (by kernel_rfl) (by kernel_rfl) (fun b1 => ?_)
  refine Sx.G.pure (.int .i64 0) (by kernel_rfl) (fun w => by kernel_rfl) ?_
  refine Sx.G.nil ?_
  refine Sx.E.next ?_
  refine Sx.C.seq ?_
  refine Sx.C.region ?_
  refine Sx.G.pure (.pointer (some ⟨b1, 0, none⟩)) (by kernel_rfl) (fun w => by kernel_rfl) ?_
  refine Sx.G.ld1 24 (.tmp 5) b1 0 0 [.slice hA0 x.mem.length hK0, .slice hA1 x.gs.length hK1, .slice hA2 x.outs.length hK2, .int .i64 x.pd] (.slice hA0 x.mem.length hK0) rfl (by kernel_rfl) (by kernel_rfl) rfl (by kernel_rfl) (by kernel_rfl) ?_
  refine Sx.G.pure (.int .i64 left) (by kernel_rfl) (fun w => by kernel_rfl) ?_
  refine Sx.G.call 52 #[.slice hA0 x.mem.length hK0, .int .i64 left] (by kernel_rfl) (fun w => by kernel_rfl) (fun w2 S => (Kit.ksz_IntSS x.mem hA0 hK0 left _ hwf0 (by omega) (by omega) (St.old (r := (rLsw (rLsw rInt))) S hf0)).mono fun e w2' hp => ?_)
  obtain ⟨l2, rfl, hz2, hb⟩ := hp
  replace hz2 : Kit.Sz left (x.mem.length + sizeAll (rLsw rInt) x.mem) l2 := hz2
  unfold Kit.Sz at hz2
  refine ⟨_, _, rfl, (S.call hb), ?_⟩
  clear S hb
  refine Sx.G.pure (.int .i64 l2) (by kernel_rfl) (fun w => by kernel_rfl) ?_
  refine Sx.G.nil ?_
  refine Sx.E.next ?_
  refine Sx.C.seq ?_
  refine Sx.C.seq ?_
  refine Sx.C.region ?_
  refine Sx.G.pure (.int .i64 l2) (by kernel_rfl) (fun w => by kernel_rfl) ?_
  refine Sx.G.pure (.bool (decide (l2 < 0))) (by kernel_rfl) (fun w => by kernel_rfl) ?_
  refine Sx.G.nil ?_
  refine Sx.E.next ?_
  cases hc3 : (decide (l2 < 0))
  · have hb3 := hc3
    replace hc3 := of_decide_eq_false hc3
    refine Sx.C.no (by kernel_rfl) (by kernel_rfl) ?_
    refine Sx.C.skip ?_
    refine Sx.E.next ?_
    refine Sx.C.seq ?_
    refine Sx.C.region ?_
    refine Sx.G.pure (.pointer (some ⟨b1, 1, none⟩)) (by kernel_rfl) (fun w => by kernel_rfl) ?_
    refine Sx.G.ld1 37 (.tmp 11) b1 1 0 [.slice hA0 x.mem.length hK0, .slice hA1 x.gs.length hK1, .slice hA2 x.outs.length hK2, .int .i64 x.pd] (.slice hA1 x.gs.length hK1) rfl (by kernel_rfl) (by kernel_rfl) rfl (by kernel_rfl) (by kernel_rfl) ?_
    refine Sx.G.pure (.int .i64 l2) (by kernel_rfl) (fun w => by kernel_rfl) ?_
    refine Sx.G.call 53 #[.slice hA1 x.gs.length hK1, .int .i64 l2] (by kernel_rfl) (fun w => by kernel_rfl) (fun w4 S => (Kit.ksz_GuestS x.gs hA1 hK1 l2 _ hwf1 (by omega) (by omega) (St.old (r := (rLsw wG)) S hf1)).mono fun e w4' hp => ?_)
    obtain ⟨l4, rfl, hz4, hb⟩ := hp
    replace hz4 : Kit.Sz l2 (x.gs.length + sizeAll wG x.gs) l4 := hz4
    unfold Kit.Sz at hz4
    refine ⟨_, _, rfl, (S.call hb), ?_⟩
    clear S hb
    refine Sx.G.pure (.int .i64 l4) (by kernel_rfl) (fun w => by kernel_rfl) ?_
    refine Sx.G.nil ?_
    refine Sx.E.next ?_
    refine Sx.C.seq ?_
    refine Sx.C.seq ?_
    refine Sx.C.region ?_
    refine Sx.G.pure (.int .i64 l4) (by kernel_rfl) (fun w => by kernel_rfl) ?_
    refine Sx.G.pure (.bool (decide (l4 < 0))) (by kernel_rfl) (fun w => by kernel_rfl) ?_
    refine Sx.G.nil ?_
    refine Sx.E.next ?_
    cases hc5 : (decide (l4 < 0))
    · have hb5 := hc5
      replace hc5 := of_decide_eq_false hc5
      refine Sx.C.no (by kernel_rfl) (by kernel_rfl) ?_
      refine Sx.C.skip ?_
      refine Sx.E.next ?_
      refine Sx.C.seq ?_
      refine Sx.C.region ?_
      refine Sx.G.pure (.pointer (some ⟨b1, 2, none⟩)) (by kernel_rfl) (fun w => by kernel_rfl) ?_
      refine Sx.G.ld1 26 (.tmp 17) b1 2 0 [.slice hA0 x.mem.length hK0, .slice hA1 x.gs.length hK1, .slice hA2 x.outs.length hK2, .int .i64 x.pd] (.slice hA2 x.outs.length hK2) rfl (by kernel_rfl) (by kernel_rfl) rfl (by kernel_rfl) (by kernel_rfl) ?_
      refine Sx.G.pure (.int .i64 l4) (by kernel_rfl) (fun w => by kernel_rfl) ?_
      refine Sx.G.call 54 #[.slice hA2 x.outs.length hK2, .int .i64 l4] (by kernel_rfl) (fun w => by kernel_rfl) (fun w6 S => (Kit.ksz_IntS x.outs hA2 hK2 l4 _ hwf2 (by omega) (by omega) (St.old (r := (rLsw rInt)) S hf2)).mono fun e w6' hp => ?_)
      obtain ⟨l6, rfl, hz6, hb⟩ := hp
      replace hz6 : Kit.Sz l4 (x.outs.length + sizeAll rInt x.outs) l6 := hz6
      unfold Kit.Sz at hz6
      refine ⟨_, _, rfl, (S.call hb), ?_⟩
      clear S hb
      refine Sx.G.pure (.int .i64 l6) (by kernel_rfl) (fun w => by kernel_rfl) ?_
      refine Sx.G.nil ?_
      refine Sx.E.next ?_
      refine Sx.C.seq ?_
      refine Sx.C.seq ?_
      refine Sx.C.region ?_
      refine Sx.G.pure (.int .i64 l6) (by kernel_rfl) (fun w => by kernel_rfl) ?_
      refine Sx.G.pure (.bool (decide (l6 < 0))) (by kernel_rfl) (fun w => by kernel_rfl) ?_
      refine Sx.G.nil ?_
      refine Sx.E.next ?_
      cases hc7 : (decide (l6 < 0))
      · have hb7 := hc7
        replace hc7 := of_decide_eq_false hc7
        refine Sx.C.no (by kernel_rfl) (by kernel_rfl) ?_
        refine Sx.C.skip ?_
        refine Sx.E.next ?_
        refine Sx.C.seq ?_
        refine Sx.C.region ?_
        refine Sx.G.pure (.int .i64 l6) (by kernel_rfl) (fun w => by kernel_rfl) ?_
        refine Sx.G.pure (.int .i64 l6) (by kernel_rfl) (fun w => by kernel_rfl) ?_
        refine Sx.G.nil ?_
        refine Sx.E.next ?_
        refine Sx.C.ret ?_
        refine Sx.E.ret1 (.int .i64 l6) rfl (by kernel_rfl) (fun w S => ?_)
        exact ⟨_, rfl, by unfold Kit.Sz; rw [size_Bare]; omega, S.below⟩
      · have hb7 := hc7
        replace hc7 := of_decide_eq_true hc7
        refine Sx.C.yes (by kernel_rfl) (by kernel_rfl) ?_
        refine Sx.C.seq ?_
        refine Sx.C.region ?_
        refine Sx.G.pure (.int .i64 (-1)) (by kernel_rfl) (fun w => by kernel_rfl) ?_
        refine Sx.G.nil ?_
        refine Sx.E.next ?_
        refine Sx.C.ret ?_
        refine Sx.E.then_ret ?_
        refine Sx.E.ret1 (.int .i64 (-1)) rfl (by kernel_rfl) (fun w S => ?_)
        exact ⟨_, rfl, by unfold Kit.Sz; rw [size_Bare]; omega, S.below⟩
    · have hb5 := hc5
      replace hc5 := of_decide_eq_true hc5
      refine Sx.C.yes (by kernel_rfl) (by kernel_rfl) ?_
      refine Sx.C.seq ?_
      refine Sx.C.region ?_
      refine Sx.G.pure (.int .i64 (-1)) (by kernel_rfl) (fun w => by kernel_rfl) ?_
      refine Sx.G.nil ?_
      refine Sx.E.next ?_
      refine Sx.C.ret ?_
      refine Sx.E.then_ret ?_
      refine Sx.E.ret1 (.int .i64 (-1)) rfl (by kernel_rfl) (fun w S => ?_)
      exact ⟨_, rfl, by unfold Kit.Sz; rw [size_Bare]; omega, S.below⟩
  · have hb3 := hc3
    replace hc3 := of_decide_eq_true hc3
    refine Sx.C.yes (by kernel_rfl) (by kernel_rfl) ?_
    refine Sx.C.seq ?_
    refine Sx.C.region ?_
    refine Sx.G.pure (.int .i64 (-1)) (by kernel_rfl) (fun w => by kernel_rfl) ?_
    refine Sx.G.nil ?_
    refine Sx.E.next ?_
    refine Sx.C.ret ?_
    refine Sx.E.then_ret ?_
    refine Sx.E.ret1 (.int .i64 (-1)) rfl (by kernel_rfl) (fun w S => ?_)
    exact ⟨_, rfl, by unfold Kit.Sz; rw [size_Bare]; omega, S.below⟩
set_option maxRecDepth 100000 in
set_option maxHeartbeats 4000000 in
theorem kto_Bare (x : bT) (cs : List Value) (w : World) (hc : wB.cap x) (h : wB.rd w 0 w.heap.size x cs) : Calls Try.prog 20 #[.agg cs.toArray] w (Gives wB w x) := by
  obtain ⟨hcap0, hcap1, hcap2, hcap3⟩ := hc
  have hR := h
  obtain ⟨hP0, hP1, hP2, rfl, hf0, hf1, hf2⟩ := wB_rd h
  obtain ⟨hA0, hK0, he0, -⟩ := lst_val hf0
  subst he0
  obtain ⟨hA1, hK1, he1, -⟩ := lst_val hf1
  subst he1
  obtain ⟨hA2, hK2, he2, -⟩ := lst_val hf2
  subst he2
  refine Sx.enter (args := [.agg #[.slice hA0 x.mem.length hK0, .slice hA1 x.gs.length hK1, .slice hA2 x.outs.length hK2, .int .i64 x.pd]]) Try.func20 rfl Try.ntmps20 rfl ?_
  refine Sx.C.seq ?_
  refine Sx.C.region ?_
  refine Sx.G.box 39 (.tmp 0) [.slice hA0 x.mem.length hK0, .slice hA1 x.gs.length hK1, .slice hA2 x.outs.length hK2, .int .i64 x.pd] rfl (by kernel_rfl) (by kernel_rfl) (fun b1 => ?_)
  refine Sx.G.alloc 28 (.agg #[.slice none 0 0, .slice none 0 0, .slice none 0 0, .int .i64 0]) [.slice none 0 0, .slice none 0 0, .slice none 0 0, .int .i64 0] rfl (by kernel_rfl) (fun w => by kernel_rfl) (by kernel_rfl) (fun b2 => ?_)
  refine Sx.G.nil ?_
  refine Sx.E.next ?_
  refine Sx.C.seq ?_
  refine Sx.C.region ?_
  refine Sx.G.alloc 28 (.agg #[.slice none 0 0, .slice none 0 0, .slice none 0 0, .int .i64 0]) [.slice none 0 0, .slice none 0 0, .slice none 0 0, .int .i64 0] rfl (by kernel_rfl) (fun w => by kernel_rfl) (by kernel_rfl) (fun b3 => ?_)
  refine Sx.G.nil ?_
  refine Sx.E.next ?_
  refine Sx.C.seq ?_
  refine Sx.C.region ?_
  refine Sx.G.pure (.pointer (some ⟨b1, 0, none⟩)) (by kernel_rfl) (fun w => by kernel_rfl) ?_
  refine Sx.G.ld1 24 (.tmp 4) b1 0 2 [.slice hA0 x.mem.length hK0, .slice hA1 x.gs.length hK1, .slice hA2 x.outs.length hK2, .int .i64 x.pd] (.slice hA0 x.mem.length hK0) rfl (by kernel_rfl) (by kernel_rfl) rfl (by kernel_rfl) (by kernel_rfl) ?_
  refine Sx.G.call 59 #[.slice hA0 x.mem.length hK0] (by kernel_rfl) (fun w => by kernel_rfl) (fun w4 S => (Kit.kto_IntSS x.mem hA0 hK0 _ hcap0 (St.old (r := (rLsw (rLsw rInt))) S hf0)).mono fun e w4' hp => ?_)
  obtain ⟨cs, F, rfl, ho, hF, hb⟩ := hp
  obtain ⟨u4, rfl⟩ := lsw_own ho
  obtain ⟨A4, c4, e4, -⟩ := lst_val ((St.got S hb ho hF).reads 0 rfl)
  subst e4
  generalize F = F4 at ho hF
  refine ⟨_, _, rfl, (St.got S hb ho hF), ?_⟩
  clear S hb ho hF
  refine Sx.G.pure (.pointer (some ⟨b3, 0, none⟩)) (by kernel_rfl) (fun w => by kernel_rfl) ?_
  refine Sx.G.sto 24 (.tmp 7) (.tmp 6) b3 0 1 [.slice none 0 0, .slice none 0 0, .slice none 0 0, .int .i64 0] [.slice A4 x.mem.length c4] [.slice A4 x.mem.length c4, .slice none 0 0, .slice none 0 0, .int .i64 0] [ow (rLsw (rLsw rInt)) w4.heap.size w4'.heap.size x.mem [.slice A4 x.mem.length c4] F4, vr b3 [.slice A4 x.mem.length c4, .slice none 0 0, .slice none 0 0, .int .i64 0], vr b2 [.slice none 0 0, .slice none 0 0, .slice none 0 0, .int .i64 0], vr b1 [.slice hA0 x.mem.length hK0, .slice hA1 x.gs.length hK1, .slice hA2 x.outs.length hK2, .int .i64 x.pd]] rfl (by kernel_rfl) (by kernel_rfl) (by kernel_rfl) rfl (by kernel_rfl) rfl (by kernel_rfl) (by kernel_rfl) (by kernel_rfl) ?_
  refine Sx.G.nil ?_
  refine Sx.E.next ?_
  refine Sx.C.seq ?_
  refine Sx.C.region ?_
  refine Sx.G.pure (.pointer (some ⟨b1, 1, none⟩)) (by kernel_rfl) (fun w => by kernel_rfl) ?_
  refine Sx.G.ld1 37 (.tmp 8) b1 1 3 [.slice hA0 x.mem.length hK0, .slice hA1 x.gs.length hK1, .slice hA2 x.outs.length hK2, .int .i64 x.pd] (.slice hA1 x.gs.length hK1) rfl (by kernel_rfl) (by kernel_rfl) rfl (by kernel_rfl) (by kernel_rfl) ?_
  refine Sx.G.call 60 #[.slice hA1 x.gs.length hK1] (by kernel_rfl) (fun w => by kernel_rfl) (fun w5 S => (Kit.kto_GuestS x.gs hA1 hK1 _ hcap1 (St.old (r := (rLsw wG)) S hf1)).mono fun e w5' hp => ?_)
  obtain ⟨cs, F, rfl, ho, hF, hb⟩ := hp
  obtain ⟨u5, rfl⟩ := lsw_own ho
  obtain ⟨A5, c5, e5, -⟩ := lst_val ((St.got S hb ho hF).reads 0 rfl)
  subst e5
  generalize F = F5 at ho hF
  refine ⟨_, _, rfl, (St.got S hb ho hF), ?_⟩
  clear S hb ho hF
  refine Sx.G.pure (.pointer (some ⟨b3, 1, none⟩)) (by kernel_rfl) (fun w => by kernel_rfl) ?_
  refine Sx.G.sto 25 (.tmp 11) (.tmp 10) b3 1 2 [.slice A4 x.mem.length c4, .slice none 0 0, .slice none 0 0, .int .i64 0] [.slice A5 x.gs.length c5] [.slice A4 x.mem.length c4, .slice A5 x.gs.length c5, .slice none 0 0, .int .i64 0] [ow (rLsw wG) w5.heap.size w5'.heap.size x.gs [.slice A5 x.gs.length c5] F5, ow (rLsw (rLsw rInt)) w4.heap.size w4'.heap.size x.mem [.slice A4 x.mem.length c4] F4, vr b3 [.slice A4 x.mem.length c4, .slice A5 x.gs.length c5, .slice none 0 0, .int .i64 0], vr b2 [.slice none 0 0, .slice none 0 0, .slice none 0 0, .int .i64 0], vr b1 [.slice hA0 x.mem.length hK0, .slice hA1 x.gs.length hK1, .slice hA2 x.outs.length hK2, .int .i64 x.pd]] rfl (by kernel_rfl) (by kernel_rfl) (by kernel_rfl) rfl (by kernel_rfl) rfl (by kernel_rfl) (by kernel_rfl) (by kernel_rfl) ?_
  refine Sx.G.nil ?_
  refine Sx.E.next ?_
  refine Sx.C.seq ?_
  refine Sx.C.region ?_
  refine Sx.G.pure (.pointer (some ⟨b1, 2, none⟩)) (by kernel_rfl) (fun w => by kernel_rfl) ?_
  refine Sx.G.ld1 26 (.tmp 12) b1 2 4 [.slice hA0 x.mem.length hK0, .slice hA1 x.gs.length hK1, .slice hA2 x.outs.length hK2, .int .i64 x.pd] (.slice hA2 x.outs.length hK2) rfl (by kernel_rfl) (by kernel_rfl) rfl (by kernel_rfl) (by kernel_rfl) ?_
  refine Sx.G.call 61 #[.slice hA2 x.outs.length hK2] (by kernel_rfl) (fun w => by kernel_rfl) (fun w6 S => (Kit.kto_IntS x.outs hA2 hK2 _ hcap2 (St.old (r := (rLsw rInt)) S hf2)).mono fun e w6' hp => ?_)
  obtain ⟨cs, F, rfl, ho, hF, hb⟩ := hp
  obtain ⟨u6, rfl⟩ := lsw_own ho
  obtain ⟨A6, c6, e6, -⟩ := lst_val ((St.got S hb ho hF).reads 0 rfl)
  subst e6
  generalize F = F6 at ho hF
  refine ⟨_, _, rfl, (St.got S hb ho hF), ?_⟩
  clear S hb ho hF
  refine Sx.G.pure (.pointer (some ⟨b3, 2, none⟩)) (by kernel_rfl) (fun w => by kernel_rfl) ?_
  refine Sx.G.sto 26 (.tmp 15) (.tmp 14) b3 2 3 [.slice A4 x.mem.length c4, .slice A5 x.gs.length c5, .slice none 0 0, .int .i64 0] [.slice A6 x.outs.length c6] [.slice A4 x.mem.length c4, .slice A5 x.gs.length c5, .slice A6 x.outs.length c6, .int .i64 0] [ow (rLsw rInt) w6.heap.size w6'.heap.size x.outs [.slice A6 x.outs.length c6] F6, ow (rLsw wG) w5.heap.size w5'.heap.size x.gs [.slice A5 x.gs.length c5] F5, ow (rLsw (rLsw rInt)) w4.heap.size w4'.heap.size x.mem [.slice A4 x.mem.length c4] F4, vr b3 [.slice A4 x.mem.length c4, .slice A5 x.gs.length c5, .slice A6 x.outs.length c6, .int .i64 0], vr b2 [.slice none 0 0, .slice none 0 0, .slice none 0 0, .int .i64 0], vr b1 [.slice hA0 x.mem.length hK0, .slice hA1 x.gs.length hK1, .slice hA2 x.outs.length hK2, .int .i64 x.pd]] rfl (by kernel_rfl) (by kernel_rfl) (by kernel_rfl) rfl (by kernel_rfl) rfl (by kernel_rfl) (by kernel_rfl) (by kernel_rfl) ?_
  refine Sx.G.nil ?_
  refine Sx.E.next ?_
  refine Sx.C.seq ?_
  refine Sx.C.region ?_
  refine Sx.G.pure (.pointer (some ⟨b1, 3, none⟩)) (by kernel_rfl) (fun w => by kernel_rfl) ?_
  refine Sx.G.ld1 3 (.tmp 16) b1 3 5 [.slice hA0 x.mem.length hK0, .slice hA1 x.gs.length hK1, .slice hA2 x.outs.length hK2, .int .i64 x.pd] (.int .i64 x.pd) rfl (by kernel_rfl) (by kernel_rfl) rfl (by kernel_rfl) (by kernel_rfl) ?_
  refine Sx.G.pure (.pointer (some ⟨b3, 3, none⟩)) (by kernel_rfl) (fun w => by kernel_rfl) ?_
  refine Sx.G.sto 3 (.tmp 18) (.tmp 17) b3 3 3 [.slice A4 x.mem.length c4, .slice A5 x.gs.length c5, .slice A6 x.outs.length c6, .int .i64 0] [.int .i64 x.pd] [.slice A4 x.mem.length c4, .slice A5 x.gs.length c5, .slice A6 x.outs.length c6, .int .i64 x.pd] [ow (rLsw rInt) w6.heap.size w6'.heap.size x.outs [.slice A6 x.outs.length c6] F6, ow (rLsw wG) w5.heap.size w5'.heap.size x.gs [.slice A5 x.gs.length c5] F5, ow (rLsw (rLsw rInt)) w4.heap.size w4'.heap.size x.mem [.slice A4 x.mem.length c4] F4, vr b3 [.slice A4 x.mem.length c4, .slice A5 x.gs.length c5, .slice A6 x.outs.length c6, .int .i64 x.pd], vr b2 [.slice none 0 0, .slice none 0 0, .slice none 0 0, .int .i64 0], vr b1 [.slice hA0 x.mem.length hK0, .slice hA1 x.gs.length hK1, .slice hA2 x.outs.length hK2, .int .i64 x.pd]] rfl (by kernel_rfl) (by kernel_rfl) (by kernel_rfl) rfl (by kernel_rfl) rfl (by kernel_rfl) (by kernel_rfl) (by kernel_rfl) ?_
  refine Sx.G.nil ?_
  refine Sx.E.next ?_
  refine Sx.C.seq ?_
  refine Sx.C.region ?_
  refine Sx.G.ld 28 (.tmp 3) b3 0 3 [.slice A4 x.mem.length c4, .slice A5 x.gs.length c5, .slice A6 x.outs.length c6, .int .i64 x.pd] [.slice A4 x.mem.length c4, .slice A5 x.gs.length c5, .slice A6 x.outs.length c6, .int .i64 x.pd] rfl (by kernel_rfl) (by kernel_rfl) rfl (by kernel_rfl) (by kernel_rfl) (by kernel_rfl) ?_
  refine Sx.G.sto 28 (.tmp 2) (.tmp 19) b2 0 4 [.slice none 0 0, .slice none 0 0, .slice none 0 0, .int .i64 0] [.slice A4 x.mem.length c4, .slice A5 x.gs.length c5, .slice A6 x.outs.length c6, .int .i64 x.pd] [.slice A4 x.mem.length c4, .slice A5 x.gs.length c5, .slice A6 x.outs.length c6, .int .i64 x.pd] [ow (rLsw rInt) w6.heap.size w6'.heap.size x.outs [.slice A6 x.outs.length c6] F6, ow (rLsw wG) w5.heap.size w5'.heap.size x.gs [.slice A5 x.gs.length c5] F5, ow (rLsw (rLsw rInt)) w4.heap.size w4'.heap.size x.mem [.slice A4 x.mem.length c4] F4, vr b3 [.slice A4 x.mem.length c4, .slice A5 x.gs.length c5, .slice A6 x.outs.length c6, .int .i64 x.pd], vr b2 [.slice A4 x.mem.length c4, .slice A5 x.gs.length c5, .slice A6 x.outs.length c6, .int .i64 x.pd], vr b1 [.slice hA0 x.mem.length hK0, .slice hA1 x.gs.length hK1, .slice hA2 x.outs.length hK2, .int .i64 x.pd]] rfl (by kernel_rfl) (by kernel_rfl) (by kernel_rfl) rfl (by kernel_rfl) rfl (by kernel_rfl) (by kernel_rfl) (by kernel_rfl) ?_
  refine Sx.G.nil ?_
  refine Sx.E.next ?_
  refine Sx.C.ret ?_
  refine Sx.E.retc b2 4 [.slice A4 x.mem.length c4, .slice A5 x.gs.length c5, .slice A6 x.outs.length c6, .int .i64 x.pd] rfl (by kernel_rfl) rfl (by kernel_rfl) (by kernel_rfl) (fun w S => ?_)
  obtain ⟨ho, hF⟩ := wB_shut (g := x) S 2 rfl 1 rfl 0 rfl (by decide) (by decide) (by decide)
  exact ⟨_, _, rfl, ho, hF, S.below⟩
set_option maxRecDepth 100000 in
set_option maxHeartbeats 4000000 in
theorem kmk0_Bare {w0 w : World} {lo hi : Nat} {R : List Res} (x : bT) (cs : List Value) (k : Nat) (F : List Nat) (hc : wB.cap x) (hk : k + wB.tcnt x ≤ 1000000000000) (S : St w0 w (ow wB lo hi x cs F :: R)) : Calls Try.prog 16 #[.agg cs.toArray, .int .i64 ((k : Nat) : Int)] w fun e w' => e = .returned (.int .i64 ((k + wB.tcnt x : Nat) : Int)) ∧ St w0 w' (ow wB lo hi (wB.top k x) cs F :: R) := by
  rw [tcnt_Bare] at hk
  obtain ⟨hcap0, hcap1, hcap2, hcap3⟩ := hc
  obtain ⟨P0, P1, P2, F0, F1, F2, rfl, rfl, S1⟩ := wB_open2 S
  obtain ⟨A0, c0, e0, -⟩ := lst_val (S1.reads 0 rfl)
  subst e0
  obtain ⟨A1, c1, e1, -⟩ := lst_val (S1.reads 1 rfl)
  subst e1
  obtain ⟨A2, c2, e2, -⟩ := lst_val (S1.reads 2 rfl)
  subst e2
  refine Sx.enterS (args := [.agg #[.slice A0 x.mem.length c0, .slice A1 x.gs.length c1, .slice A2 x.outs.length c2, .int .i64 x.pd], .int .i64 ((k : Nat) : Int)]) S1 Try.func16 rfl Try.ntmps16 rfl ?_
  refine Sx.C.seq ?_
  refine Sx.C.region ?_
  refine Sx.G.box 28 (.tmp 0) [.slice A0 x.mem.length c0, .slice A1 x.gs.length c1, .slice A2 x.outs.length c2, .int .i64 x.pd] rfl (by kernel_rfl) (by kernel_rfl) (fun b1 => ?_)
  refine Sx.G.pure (.int .i64 0) (by kernel_rfl) (fun w => by kernel_rfl) ?_
  refine Sx.G.nil ?_
  refine Sx.E.next ?_
  refine Sx.C.seq ?_
  refine Sx.C.region ?_
  refine Sx.G.pure (.pointer (some ⟨b1, 0, none⟩)) (by kernel_rfl) (fun w => by kernel_rfl) ?_
  refine Sx.G.ld1 24 (.tmp 5) b1 0 0 [.slice A0 x.mem.length c0, .slice A1 x.gs.length c1, .slice A2 x.outs.length c2, .int .i64 x.pd] (.slice A0 x.mem.length c0) rfl (by kernel_rfl) (by kernel_rfl) rfl (by kernel_rfl) (by kernel_rfl) ?_
  refine Sx.G.pure (.int .i64 ((k : Nat) : Int)) (by kernel_rfl) (fun w => by kernel_rfl) ?_
  obtain ⟨q2, hq2⟩ : ∃ q', q' = k + cntAll (rLsw rInt) x.mem := ⟨_, rfl⟩
  refine Sx.G.call 46 #[.slice A0 x.mem.length c0, .int .i64 ((k : Nat) : Int)] (by kernel_rfl) (fun w => by kernel_rfl) (fun w2 S => (Kit.kmk_IntSS x.mem A0 c0 k _ hcap0 (by omega) S 1 rfl).mono fun e w2' hp => ?_)
  rw [← hq2] at hp
  obtain ⟨rfl, S'⟩ := hp
  refine ⟨_, _, rfl, S', ?_⟩
  clear S S'
  refine Sx.G.pure (.int .i64 ((q2 : Nat) : Int)) (by kernel_rfl) (fun w => by kernel_rfl) ?_
  refine Sx.G.nil ?_
  refine Sx.E.next ?_
  refine Sx.C.seq ?_
  refine Sx.C.region ?_
  refine Sx.G.pure (.pointer (some ⟨b1, 1, none⟩)) (by kernel_rfl) (fun w => by kernel_rfl) ?_
  refine Sx.G.ld1 25 (.tmp 9) b1 1 0 [.slice A0 x.mem.length c0, .slice A1 x.gs.length c1, .slice A2 x.outs.length c2, .int .i64 x.pd] (.slice A1 x.gs.length c1) rfl (by kernel_rfl) (by kernel_rfl) rfl (by kernel_rfl) (by kernel_rfl) ?_
  refine Sx.G.pure (.int .i64 ((q2 : Nat) : Int)) (by kernel_rfl) (fun w => by kernel_rfl) ?_
  obtain ⟨q3, hq3⟩ : ∃ q', q' = q2 + cntAll wG x.gs := ⟨_, rfl⟩
  refine Sx.G.call 47 #[.slice A1 x.gs.length c1, .int .i64 ((q2 : Nat) : Int)] (by kernel_rfl) (fun w => by kernel_rfl) (fun w3 S => (Kit.kmk_GuestS x.gs A1 c1 q2 _ hcap1 (by omega) S 2 rfl).mono fun e w3' hp => ?_)
  rw [← hq3] at hp
  obtain ⟨rfl, S'⟩ := hp
  refine ⟨_, _, rfl, S', ?_⟩
  clear S S'
  refine Sx.G.pure (.int .i64 ((q3 : Nat) : Int)) (by kernel_rfl) (fun w => by kernel_rfl) ?_
  refine Sx.G.nil ?_
  refine Sx.E.next ?_
  refine Sx.C.seq ?_
  refine Sx.C.region ?_
  refine Sx.G.pure (.pointer (some ⟨b1, 2, none⟩)) (by kernel_rfl) (fun w => by kernel_rfl) ?_
  refine Sx.G.ld1 26 (.tmp 13) b1 2 0 [.slice A0 x.mem.length c0, .slice A1 x.gs.length c1, .slice A2 x.outs.length c2, .int .i64 x.pd] (.slice A2 x.outs.length c2) rfl (by kernel_rfl) (by kernel_rfl) rfl (by kernel_rfl) (by kernel_rfl) ?_
  refine Sx.G.pure (.int .i64 ((q3 : Nat) : Int)) (by kernel_rfl) (fun w => by kernel_rfl) ?_
  obtain ⟨q4, hq4⟩ : ∃ q', q' = q3 + cntAll rInt x.outs := ⟨_, rfl⟩
  refine Sx.G.call 48 #[.slice A2 x.outs.length c2, .int .i64 ((q3 : Nat) : Int)] (by kernel_rfl) (fun w => by kernel_rfl) (fun w4 S => (Kit.kmk_IntS x.outs A2 c2 q3 _ hcap2 (by omega) S 3 rfl).mono fun e w4' hp => ?_)
  rw [← hq4] at hp
  obtain ⟨rfl, S'⟩ := hp
  refine ⟨_, _, rfl, S', ?_⟩
  clear S S'
  refine Sx.G.pure (.int .i64 ((q4 : Nat) : Int)) (by kernel_rfl) (fun w => by kernel_rfl) ?_
  refine Sx.G.nil ?_
  refine Sx.E.next ?_
  refine Sx.C.seq ?_
  refine Sx.C.region ?_
  refine Sx.G.pure (.int .i64 ((q4 : Nat) : Int)) (by kernel_rfl) (fun w => by kernel_rfl) ?_
  refine Sx.G.pure (.int .i64 ((q4 : Nat) : Int)) (by kernel_rfl) (fun w => by kernel_rfl) ?_
  refine Sx.G.nil ?_
  refine Sx.E.next ?_
  refine Sx.C.ret ?_
  refine Sx.E.ret1 (.int .i64 ((q4 : Nat) : Int)) rfl (by kernel_rfl) (fun w S => ?_)
  replace S := Sx.St.tail S
  subst hq4
  subst hq3
  subst hq2
  refine ⟨by rw [tcnt_Bare]; simp only [Nat.add_assoc], wB_shut2 (g := wB.top k x) ?_⟩
  simp only [wB, rVia, rPair, rInt, rBool, rLsw, Nat.add_zero, Nat.zero_add]
  first | exact S | (simp only [Nat.add_assoc] at S ⊢; exact S)
theorem kmk_Bare {w0 w : World} {lo hi : Nat} {L : List Res} (x : bT) (cs : List Value) (k : Nat) (F : List Nat) (hc : wB.cap x) (hk : k + wB.tcnt x ≤ 1000000000000) (S : St w0 w L) (i : Nat) (hi' : L[i]? = some (ow wB lo hi x cs F)) : Calls Try.prog 16 #[.agg cs.toArray, .int .i64 ((k : Nat) : Int)] w fun e w' => e = .returned (.int .i64 ((k + wB.tcnt x : Nat) : Int)) ∧ St w0 w' (L.set i (ow wB lo hi (wB.top k x) cs F)) :=
  anywhere (fun R S => kmk0_Bare x cs k F hc hk S) S i hi'
set_option maxRecDepth 100000 in
set_option maxHeartbeats 4000000 in
theorem khd_Bare (x : bT) (cs : List Value) (k : Nat) (w : World) (hc : wB.cap x) (hk : k + wB.tcnt x ≤ 1000000000000) (h : wB.rd w 0 w.heap.size (wB.top k x) cs) : Calls Try.prog 17 #[.agg cs.toArray, .int .i64 ((k : Nat) : Int)] w (fun e w' => e = .returned (.int .i64 ((k + wB.tcnt x : Nat) : Int)) ∧ Below w.heap.size w w') := by
  rw [tcnt_Bare] at hk
  obtain ⟨hcap0, hcap1, hcap2, hcap3⟩ := hc
  obtain ⟨k_1, hk_1⟩ : ∃ q', q' = k + cntAll (rLsw rInt) x.mem := ⟨_, rfl⟩
  obtain ⟨k_2, hk_2⟩ : ∃ q', q' = k_1 + cntAll wG x.gs := ⟨_, rfl⟩
  obtain ⟨k_3, hk_3⟩ : ∃ q', q' = k_2 + cntAll rInt x.outs := ⟨_, rfl⟩
  obtain ⟨P0_0, P0_1, P0_2, e0, hf0_0, hf0_1, hf0_2⟩ := wB_rd h
  replace hf0_0 : rdLst (rLsw rInt) w 0 w.heap.size (mkAll (rLsw rInt) k x.mem) [P0_0] := by
    subst hk_3 hk_2 hk_1
    have h := hf0_0
    simp only [wB, rVia, rPair, rInt, rBool, rLsw, Nat.add_zero, Nat.zero_add] at h
    first | exact h | (simp only [Nat.add_assoc] at h ⊢; exact h)
  obtain ⟨A0_0, c0_0, a0_0, -⟩ := lst_val hf0_0
  rw [Kit.mk_len] at a0_0
  subst a0_0
  replace hf0_1 : rdLst wG w 0 w.heap.size (mkAll wG k_1 x.gs) [P0_1] := by
    subst hk_3 hk_2 hk_1
    have h := hf0_1
    simp only [wB, rVia, rPair, rInt, rBool, rLsw, Nat.add_zero, Nat.zero_add] at h
    first | exact h | (simp only [Nat.add_assoc] at h ⊢; exact h)
  obtain ⟨A0_1, c0_1, a0_1, -⟩ := lst_val hf0_1
  rw [Kit.mk_len] at a0_1
  subst a0_1
  replace hf0_2 : rdLst rInt w 0 w.heap.size (mkAll rInt k_2 x.outs) [P0_2] := by
    subst hk_3 hk_2 hk_1
    have h := hf0_2
    simp only [wB, rVia, rPair, rInt, rBool, rLsw, Nat.add_zero, Nat.zero_add] at h
    first | exact h | (simp only [Nat.add_assoc] at h ⊢; exact h)
  obtain ⟨A0_2, c0_2, a0_2, -⟩ := lst_val hf0_2
  rw [Kit.mk_len] at a0_2
  subst a0_2
  obtain rfl : cs = [.slice A0_0 x.mem.length c0_0, .slice A0_1 x.gs.length c0_1, .slice A0_2 x.outs.length c0_2, .int .i64 x.pd] := by
    subst hk_3 hk_2 hk_1
    rw [e0]
    simp only [wB, rVia, rPair, rInt, rBool, rLsw, Nat.add_zero, Nat.zero_add]
    try simp only [Nat.add_assoc, Nat.reduceAdd]
  refine Sx.enter (args := [.agg #[.slice A0_0 x.mem.length c0_0, .slice A0_1 x.gs.length c0_1, .slice A0_2 x.outs.length c0_2, .int .i64 x.pd], .int .i64 ((k : Nat) : Int)]) Try.func17 rfl Try.ntmps17 rfl ?_
  refine Sx.C.seq ?_
  refine Sx.C.region ?_
  refine Sx.G.box 28 (.tmp 0) [.slice A0_0 x.mem.length c0_0, .slice A0_1 x.gs.length c0_1, .slice A0_2 x.outs.length c0_2, .int .i64 x.pd] rfl (by kernel_rfl) (by kernel_rfl) (fun b1 => ?_)
  refine Sx.G.pure (.int .i64 0) (by kernel_rfl) (fun w => by kernel_rfl) ?_
  refine Sx.G.nil ?_
  refine Sx.E.next ?_
  refine Sx.C.seq ?_
  refine Sx.C.region ?_
  refine Sx.G.pure (.pointer (some ⟨b1, 0, none⟩)) (by kernel_rfl) (fun w => by kernel_rfl) ?_
  refine Sx.G.ld1 24 (.tmp 5) b1 0 0 [.slice A0_0 x.mem.length c0_0, .slice A0_1 x.gs.length c0_1, .slice A0_2 x.outs.length c0_2, .int .i64 x.pd] (.slice A0_0 x.mem.length c0_0) rfl (by kernel_rfl) (by kernel_rfl) rfl (by kernel_rfl) (by kernel_rfl) ?_
  refine Sx.G.pure (.int .i64 ((k : Nat) : Int)) (by kernel_rfl) (fun w => by kernel_rfl) ?_
  refine Sx.G.plain 49 #[.slice A0_0 x.mem.length c0_0, .int .i64 ((k : Nat) : Int)] (.int .i64 ((k_1 : Nat) : Int)) (by kernel_rfl) (fun w => by kernel_rfl) (fun w S => by exact hk_1 ▸ Kit.khd_IntSS x.mem A0_0 c0_0 k _ hcap0 (by omega) (St.old (r := (rLsw (rLsw rInt))) S hf0_0)) ?_
  refine Sx.G.pure (.int .i64 ((k_1 : Nat) : Int)) (by kernel_rfl) (fun w => by kernel_rfl) ?_
  refine Sx.G.nil ?_
  refine Sx.E.next ?_
  refine Sx.C.seq ?_
  refine Sx.C.seq ?_
  refine Sx.C.region ?_
  refine Sx.G.pure (.int .i64 ((k_1 : Nat) : Int)) (by kernel_rfl) (fun w => by kernel_rfl) ?_
  refine Sx.G.pureq (.bool (decide (((k_1 : Nat) : Int) < 0))) (.bool false) (by kernel_rfl) (fun w => by kernel_rfl) (congrArg Value.bool (decide_eq_false (by omega))) ?_
  refine Sx.G.nil ?_
  refine Sx.E.next ?_
  refine Sx.C.no (by kernel_rfl) (by kernel_rfl) ?_
  refine Sx.C.skip ?_
  refine Sx.E.next ?_
  refine Sx.C.seq ?_
  refine Sx.C.region ?_
  refine Sx.G.pure (.pointer (some ⟨b1, 1, none⟩)) (by kernel_rfl) (fun w => by kernel_rfl) ?_
  refine Sx.G.ld1 25 (.tmp 11) b1 1 0 [.slice A0_0 x.mem.length c0_0, .slice A0_1 x.gs.length c0_1, .slice A0_2 x.outs.length c0_2, .int .i64 x.pd] (.slice A0_1 x.gs.length c0_1) rfl (by kernel_rfl) (by kernel_rfl) rfl (by kernel_rfl) (by kernel_rfl) ?_
  refine Sx.G.pure (.int .i64 ((k_1 : Nat) : Int)) (by kernel_rfl) (fun w => by kernel_rfl) ?_
  refine Sx.G.plain 50 #[.slice A0_1 x.gs.length c0_1, .int .i64 ((k_1 : Nat) : Int)] (.int .i64 ((k_2 : Nat) : Int)) (by kernel_rfl) (fun w => by kernel_rfl) (fun w S => by exact hk_2 ▸ Kit.khd_GuestS x.gs A0_1 c0_1 k_1 _ hcap1 (by omega) (St.old (r := (rLsw wG)) S hf0_1)) ?_
  refine Sx.G.pure (.int .i64 ((k_2 : Nat) : Int)) (by kernel_rfl) (fun w => by kernel_rfl) ?_
  refine Sx.G.nil ?_
  refine Sx.E.next ?_
  refine Sx.C.seq ?_
  refine Sx.C.seq ?_
  refine Sx.C.region ?_
  refine Sx.G.pure (.int .i64 ((k_2 : Nat) : Int)) (by kernel_rfl) (fun w => by kernel_rfl) ?_
  refine Sx.G.pureq (.bool (decide (((k_2 : Nat) : Int) < 0))) (.bool false) (by kernel_rfl) (fun w => by kernel_rfl) (congrArg Value.bool (decide_eq_false (by omega))) ?_
  refine Sx.G.nil ?_
  refine Sx.E.next ?_
  refine Sx.C.no (by kernel_rfl) (by kernel_rfl) ?_
  refine Sx.C.skip ?_
  refine Sx.E.next ?_
  refine Sx.C.seq ?_
  refine Sx.C.region ?_
  refine Sx.G.pure (.pointer (some ⟨b1, 2, none⟩)) (by kernel_rfl) (fun w => by kernel_rfl) ?_
  refine Sx.G.ld1 26 (.tmp 17) b1 2 0 [.slice A0_0 x.mem.length c0_0, .slice A0_1 x.gs.length c0_1, .slice A0_2 x.outs.length c0_2, .int .i64 x.pd] (.slice A0_2 x.outs.length c0_2) rfl (by kernel_rfl) (by kernel_rfl) rfl (by kernel_rfl) (by kernel_rfl) ?_
  refine Sx.G.pure (.int .i64 ((k_2 : Nat) : Int)) (by kernel_rfl) (fun w => by kernel_rfl) ?_
  refine Sx.G.plain 51 #[.slice A0_2 x.outs.length c0_2, .int .i64 ((k_2 : Nat) : Int)] (.int .i64 ((k_3 : Nat) : Int)) (by kernel_rfl) (fun w => by kernel_rfl) (fun w S => by exact hk_3 ▸ Kit.khd_IntS x.outs A0_2 c0_2 k_2 _ hcap2 (by omega) (St.old (r := (rLsw rInt)) S hf0_2)) ?_
  refine Sx.G.pure (.int .i64 ((k_3 : Nat) : Int)) (by kernel_rfl) (fun w => by kernel_rfl) ?_
  refine Sx.G.nil ?_
  refine Sx.E.next ?_
  refine Sx.C.seq ?_
  refine Sx.C.seq ?_
  refine Sx.C.region ?_
  refine Sx.G.pure (.int .i64 ((k_3 : Nat) : Int)) (by kernel_rfl) (fun w => by kernel_rfl) ?_
  refine Sx.G.pureq (.bool (decide (((k_3 : Nat) : Int) < 0))) (.bool false) (by kernel_rfl) (fun w => by kernel_rfl) (congrArg Value.bool (decide_eq_false (by omega))) ?_
  refine Sx.G.nil ?_
  refine Sx.E.next ?_
  refine Sx.C.no (by kernel_rfl) (by kernel_rfl) ?_
  refine Sx.C.skip ?_
  refine Sx.E.next ?_
  refine Sx.C.seq ?_
  refine Sx.C.region ?_
  refine Sx.G.pure (.int .i64 ((k_3 : Nat) : Int)) (by kernel_rfl) (fun w => by kernel_rfl) ?_
  refine Sx.G.pure (.int .i64 ((k_3 : Nat) : Int)) (by kernel_rfl) (fun w => by kernel_rfl) ?_
  refine Sx.G.nil ?_
  refine Sx.E.next ?_
  refine Sx.C.ret ?_
  refine Sx.E.ret1 (.int .i64 ((k_3 : Nat) : Int)) rfl (by kernel_rfl) (fun w S => ?_)
  subst hk_3
  subst hk_2
  subst hk_1
  exact ⟨by rw [tcnt_Bare]; simp only [Nat.add_assoc], S.below⟩
end Go.Proofs.Ytldgadmpclgfhaa.Kit
namespace Go.Proofs.Ytldgadmpclgfhaa.Guests
set_option maxRecDepth 100000
open Go.ChangeShapes Go.WideShapes Go.ChangeAt Go.RowKit
open Go.Proofs.Ytldgadmpclgfhaa.Base Go.Proofs.Ytldgadmpclgfhaa.Mem Go.Proofs.Ytldgadmpclgfhaa.Slots Go.Proofs.Ytldgadmpclgfhaa.Data Go.Proofs.Ytldgadmpclgfhaa.Ints Go.Proofs.Ytldgadmpclgfhaa.Inss Go.Proofs.Ytldgadmpclgfhaa.Ctls Go.Proofs.Ytldgadmpclgfhaa.Exits Go.Proofs.Ytldgadmpclgfhaa.Part Go.Proofs.Ytldgadmpclgfhaa.Guests
open Go.Proofs.Ytldgadmpclgfhaa.Irqs
set_option linter.unusedVariables false
set_option linter.unusedSimpArgs false
theorem gR.with {w : World} {lo hi : Nat} {g h : gT} {P0 P1 P2 P3 : Value} (r : gR w lo hi g P0 P1 P2 P3) (e0 : h.prog = g.prog) (e1 : h.wr = g.wr) (e2 : h.lv = g.lv) (e3 : h.seen = g.seen) : gR w lo hi h P0 P1 P2 P3 :=
  ⟨by rw [e0]; exact r.r0, by rw [e1]; exact r.r1, by rw [e2]; exact r.r2, by rw [e3]; exact r.r3⟩
theorem gO.with {w : World} {lo hi : Nat} {g h : gT} {P0 P1 P2 P3 : Value} (r : gO w lo hi g P0 P1 P2 P3) (e0 : h.prog = g.prog) (e1 : h.wr = g.wr) (e2 : h.lv = g.lv) (e3 : h.seen = g.seen) : gO w lo hi h P0 P1 P2 P3 :=
  ⟨by rw [e0]; exact r.r0, by rw [e1]; exact r.r1, by rw [e2]; exact r.r2, by rw [e3]; exact r.r3, r.d01, r.d02, r.d03, r.d12, r.d13, r.d23⟩
theorem gO.far {w : World} {lo hi : Nat} {g : gT} {P0 P1 P2 P3 : Value} (r : gO w lo hi g P0 P1 P2 P3) {z : Nat} (hz : z < lo ∨ hi ≤ z) (i : Nat) (u : Value) : gO (w.setCell ⟨z, i, none⟩ u) lo hi g P0 P1 P2 P3 :=
  r.kept fun k h1 h2 => Below.heap_setCell w ⟨z, i, none⟩ u k (by show k ≠ z; omega)
end Go.Proofs.Ytldgadmpclgfhaa.Guests
namespace Go.Proofs.Ytldgadmpclgfhaa.BroughtW
set_option maxRecDepth 100000
open Go.ChangeShapes Go.WideShapes Go.ChangeAt Go.RowKit
/-- What both functions compute. -/
def brought (n l m : Int) : Int := if m < l ∨ n < l then l else if m < n then m else n
end Go.Proofs.Ytldgadmpclgfhaa.BroughtW
namespace Go.Proofs.Ytldgadmpclgfhaa.Guests
set_option maxRecDepth 100000
open Go.ChangeShapes Go.WideShapes Go.ChangeAt Go.RowKit
open Go.Proofs.Ytldgadmpclgfhaa.Base Go.Proofs.Ytldgadmpclgfhaa.Mem Go.Proofs.Ytldgadmpclgfhaa.Data Go.Proofs.Ytldgadmpclgfhaa.Slots Go.Proofs.Ytldgadmpclgfhaa.Ints Go.Proofs.Ytldgadmpclgfhaa.Ctls Go.Proofs.Ytldgadmpclgfhaa.Exits Go.Proofs.Ytldgadmpclgfhaa.Stt Go.Proofs.Ytldgadmpclgfhaa.Irqs
set_option linter.unusedVariables false
set_option linter.unusedSimpArgs false
set_option maxRecDepth 100000 in
set_option maxHeartbeats 4000000 in
theorem specx_copy (g : gT) (cs : List Value) (w : World) (hc : rG.cap g) (h : rG.rd w 0 w.heap.size g cs) : Calls Try.prog 67 #[.agg cs.toArray] w (Gives rG w g) := by
  obtain ⟨q0, q1, q2, q3⟩ := rG_len hc
  have hr := h
  obtain ⟨P0, P1, P2, P3, rfl, h0, h1, h2, h3⟩ := rG_rd h
  obtain ⟨PA0, Pc0, e0, hP0⟩ := lst_val h0
  subst e0
  obtain ⟨PA1, Pc1, e1, hP1⟩ := lst_val h1
  subst e1
  obtain ⟨PA2, Pc2, e2, hP2⟩ := lst_val h2
  subst e2
  obtain ⟨PA3, Pc3, e3, hP3⟩ := lst_val h3
  subst e3
  refine Sx.enter (args := [.agg #[.slice PA0 g.prog.length Pc0, .int .i64 g.a, .int .i64 g.pc, .slice PA1 g.wr.length Pc1, .slice PA2 g.lv.length Pc2, .int .i64 g.t.1, .int .i64 g.t.2.1, .bool g.t.2.2, .int .i64 g.pd, .int .i64 g.x.1, .int .i64 g.x.2.1, .bool g.x.2.2.1, .int .i64 g.x.2.2.2, .bool g.hl, .slice PA3 g.seen.length Pc3]]) Try.func67 rfl Try.ntmps67 rfl ?_
  refine Sx.C.seq ?_
  refine Sx.C.region ?_
  refine Sx.G.box 51 (.tmp 0) [.slice PA0 g.prog.length Pc0, .int .i64 g.a, .int .i64 g.pc, .slice PA1 g.wr.length Pc1, .slice PA2 g.lv.length Pc2, .int .i64 g.t.1, .int .i64 g.t.2.1, .bool g.t.2.2, .int .i64 g.pd, .int .i64 g.x.1, .int .i64 g.x.2.1, .bool g.x.2.2.1, .int .i64 g.x.2.2.2, .bool g.hl, .slice PA3 g.seen.length Pc3] rfl (by kernel_rfl) (by kernel_rfl) (fun b1 => ?_)
  refine Sx.G.alloc 51 (.agg #[.slice none 0 0, .int .i64 0, .int .i64 0, .slice none 0 0, .slice none 0 0, .int .i64 0, .int .i64 0, .bool false, .int .i64 0, .int .i64 0, .int .i64 0, .bool false, .int .i64 0, .bool false, .slice none 0 0]) [.slice none 0 0, .int .i64 0, .int .i64 0, .slice none 0 0, .slice none 0 0, .int .i64 0, .int .i64 0, .bool false, .int .i64 0, .int .i64 0, .int .i64 0, .bool false, .int .i64 0, .bool false, .slice none 0 0] rfl (by kernel_rfl) (fun w => by kernel_rfl) (by kernel_rfl) (fun b2 => ?_)
  refine Sx.G.nil ?_
  refine Sx.E.next ?_
  refine Sx.C.seq ?_
  refine Sx.C.region ?_
  refine Sx.G.fresh 111 (rPair rInt rInt) (by kernel_rfl) (fun w => by kernel_rfl) (fun b3 hi3 => ?_)
  refine Sx.G.pure (.pointer (some ⟨b1, 0, none⟩)) (by kernel_rfl) (fun w => by kernel_rfl) ?_
  refine Sx.G.ld1 44 (.tmp 4) b1 0 2 [.slice PA0 g.prog.length Pc0, .int .i64 g.a, .int .i64 g.pc, .slice PA1 g.wr.length Pc1, .slice PA2 g.lv.length Pc2, .int .i64 g.t.1, .int .i64 g.t.2.1, .bool g.t.2.2, .int .i64 g.pd, .int .i64 g.x.1, .int .i64 g.x.2.1, .bool g.x.2.2.1, .int .i64 g.x.2.2.2, .bool g.hl, .slice PA3 g.seen.length Pc3] (.slice PA0 g.prog.length Pc0) rfl (by kernel_rfl) (by kernel_rfl) rfl (by kernel_rfl) (by kernel_rfl) ?_
  refine Sx.G.apps 0 rfl g.prog (fun w S => St.old S h0) (List.nil_append _) g.prog.length (by simp) flat_P2 (.tmp 3) (.tmp 5) 44 2 16 rfl rfl (by kernel_rfl) (by kernel_rfl) rfl (by kernel_rfl) (by kernel_rfl) (by simp only [maxLen, List.length_nil, List.length_cons]; omega) (by simp only [List.length_nil, List.length_cons]; omega) (fun A4 c4 F4 hi4 hm4 => ?_)
  refine Sx.G.pure (.pointer (some ⟨b1, 0, none⟩)) (by kernel_rfl) (fun w => by kernel_rfl) ?_
  refine Sx.G.sto 44 (.tmp 7) (.tmp 6) b1 0 2 [.slice PA0 g.prog.length Pc0, .int .i64 g.a, .int .i64 g.pc, .slice PA1 g.wr.length Pc1, .slice PA2 g.lv.length Pc2, .int .i64 g.t.1, .int .i64 g.t.2.1, .bool g.t.2.2, .int .i64 g.pd, .int .i64 g.x.1, .int .i64 g.x.2.1, .bool g.x.2.2.1, .int .i64 g.x.2.2.2, .bool g.hl, .slice PA3 g.seen.length Pc3] [.slice A4 g.prog.length c4] [.slice A4 g.prog.length c4, .int .i64 g.a, .int .i64 g.pc, .slice PA1 g.wr.length Pc1, .slice PA2 g.lv.length Pc2, .int .i64 g.t.1, .int .i64 g.t.2.1, .bool g.t.2.2, .int .i64 g.pd, .int .i64 g.x.1, .int .i64 g.x.2.1, .bool g.x.2.2.1, .int .i64 g.x.2.2.2, .bool g.hl, .slice PA3 g.seen.length Pc3] [ow (rLst 111 (rPair rInt rInt)) w.heap.size hi4 g.prog [.slice A4 g.prog.length c4] F4, vr b2 [.slice none 0 0, .int .i64 0, .int .i64 0, .slice none 0 0, .slice none 0 0, .int .i64 0, .int .i64 0, .bool false, .int .i64 0, .int .i64 0, .int .i64 0, .bool false, .int .i64 0, .bool false, .slice none 0 0], vr b1 [.slice A4 g.prog.length c4, .int .i64 g.a, .int .i64 g.pc, .slice PA1 g.wr.length Pc1, .slice PA2 g.lv.length Pc2, .int .i64 g.t.1, .int .i64 g.t.2.1, .bool g.t.2.2, .int .i64 g.pd, .int .i64 g.x.1, .int .i64 g.x.2.1, .bool g.x.2.2.1, .int .i64 g.x.2.2.2, .bool g.hl, .slice PA3 g.seen.length Pc3]] rfl (by kernel_rfl) (by kernel_rfl) (by kernel_rfl) rfl (by kernel_rfl) rfl (by kernel_rfl) (by kernel_rfl) (by kernel_rfl) ?_
  refine Sx.G.nil ?_
  refine Sx.E.next ?_
  refine Sx.C.seq ?_
  refine Sx.C.region ?_
  refine Sx.G.fresh 129 (rPair rInt rInt) (by kernel_rfl) (fun w => by kernel_rfl) (fun b5 hi5 => ?_)
  refine Sx.G.pure (.pointer (some ⟨b1, 3, none⟩)) (by kernel_rfl) (fun w => by kernel_rfl) ?_
  refine Sx.G.ld1 45 (.tmp 9) b1 3 3 [.slice A4 g.prog.length c4, .int .i64 g.a, .int .i64 g.pc, .slice PA1 g.wr.length Pc1, .slice PA2 g.lv.length Pc2, .int .i64 g.t.1, .int .i64 g.t.2.1, .bool g.t.2.2, .int .i64 g.pd, .int .i64 g.x.1, .int .i64 g.x.2.1, .bool g.x.2.2.1, .int .i64 g.x.2.2.2, .bool g.hl, .slice PA3 g.seen.length Pc3] (.slice PA1 g.wr.length Pc1) rfl (by kernel_rfl) (by kernel_rfl) rfl (by kernel_rfl) (by kernel_rfl) ?_
  refine Sx.G.apps 0 rfl g.wr (fun w S => St.old S h1) (List.nil_append _) g.wr.length (by simp) flat_P2 (.tmp 8) (.tmp 10) 45 2 16 rfl rfl (by kernel_rfl) (by kernel_rfl) rfl (by kernel_rfl) (by kernel_rfl) (by simp only [maxLen, List.length_nil, List.length_cons]; omega) (by simp only [List.length_nil, List.length_cons]; omega) (fun A6 c6 F6 hi6 hm6 => ?_)
  refine Sx.G.pure (.pointer (some ⟨b1, 3, none⟩)) (by kernel_rfl) (fun w => by kernel_rfl) ?_
  refine Sx.G.sto 45 (.tmp 12) (.tmp 11) b1 3 3 [.slice A4 g.prog.length c4, .int .i64 g.a, .int .i64 g.pc, .slice PA1 g.wr.length Pc1, .slice PA2 g.lv.length Pc2, .int .i64 g.t.1, .int .i64 g.t.2.1, .bool g.t.2.2, .int .i64 g.pd, .int .i64 g.x.1, .int .i64 g.x.2.1, .bool g.x.2.2.1, .int .i64 g.x.2.2.2, .bool g.hl, .slice PA3 g.seen.length Pc3] [.slice A6 g.wr.length c6] [.slice A4 g.prog.length c4, .int .i64 g.a, .int .i64 g.pc, .slice A6 g.wr.length c6, .slice PA2 g.lv.length Pc2, .int .i64 g.t.1, .int .i64 g.t.2.1, .bool g.t.2.2, .int .i64 g.pd, .int .i64 g.x.1, .int .i64 g.x.2.1, .bool g.x.2.2.1, .int .i64 g.x.2.2.2, .bool g.hl, .slice PA3 g.seen.length Pc3] [ow (rLst 129 (rPair rInt rInt)) w.heap.size hi6 g.wr [.slice A6 g.wr.length c6] F6, ow (rLst 111 (rPair rInt rInt)) w.heap.size hi4 g.prog [.slice A4 g.prog.length c4] F4, vr b2 [.slice none 0 0, .int .i64 0, .int .i64 0, .slice none 0 0, .slice none 0 0, .int .i64 0, .int .i64 0, .bool false, .int .i64 0, .int .i64 0, .int .i64 0, .bool false, .int .i64 0, .bool false, .slice none 0 0], vr b1 [.slice A4 g.prog.length c4, .int .i64 g.a, .int .i64 g.pc, .slice A6 g.wr.length c6, .slice PA2 g.lv.length Pc2, .int .i64 g.t.1, .int .i64 g.t.2.1, .bool g.t.2.2, .int .i64 g.pd, .int .i64 g.x.1, .int .i64 g.x.2.1, .bool g.x.2.2.1, .int .i64 g.x.2.2.2, .bool g.hl, .slice PA3 g.seen.length Pc3]] rfl (by kernel_rfl) (by kernel_rfl) (by kernel_rfl) rfl (by kernel_rfl) rfl (by kernel_rfl) (by kernel_rfl) (by kernel_rfl) ?_
  refine Sx.G.nil ?_
  refine Sx.E.next ?_
  refine Sx.C.seq ?_
  refine Sx.C.region ?_
  refine Sx.G.fresh 129 (rPair rInt rInt) (by kernel_rfl) (fun w => by kernel_rfl) (fun b7 hi7 => ?_)
  refine Sx.G.pure (.pointer (some ⟨b1, 4, none⟩)) (by kernel_rfl) (fun w => by kernel_rfl) ?_
  refine Sx.G.ld1 45 (.tmp 14) b1 4 4 [.slice A4 g.prog.length c4, .int .i64 g.a, .int .i64 g.pc, .slice A6 g.wr.length c6, .slice PA2 g.lv.length Pc2, .int .i64 g.t.1, .int .i64 g.t.2.1, .bool g.t.2.2, .int .i64 g.pd, .int .i64 g.x.1, .int .i64 g.x.2.1, .bool g.x.2.2.1, .int .i64 g.x.2.2.2, .bool g.hl, .slice PA3 g.seen.length Pc3] (.slice PA2 g.lv.length Pc2) rfl (by kernel_rfl) (by kernel_rfl) rfl (by kernel_rfl) (by kernel_rfl) ?_
  refine Sx.G.apps 0 rfl g.lv (fun w S => St.old S h2) (List.nil_append _) g.lv.length (by simp) flat_P2 (.tmp 13) (.tmp 15) 45 2 16 rfl rfl (by kernel_rfl) (by kernel_rfl) rfl (by kernel_rfl) (by kernel_rfl) (by simp only [maxLen, List.length_nil, List.length_cons]; omega) (by simp only [List.length_nil, List.length_cons]; omega) (fun A8 c8 F8 hi8 hm8 => ?_)
  refine Sx.G.pure (.pointer (some ⟨b1, 4, none⟩)) (by kernel_rfl) (fun w => by kernel_rfl) ?_
  refine Sx.G.sto 45 (.tmp 17) (.tmp 16) b1 4 4 [.slice A4 g.prog.length c4, .int .i64 g.a, .int .i64 g.pc, .slice A6 g.wr.length c6, .slice PA2 g.lv.length Pc2, .int .i64 g.t.1, .int .i64 g.t.2.1, .bool g.t.2.2, .int .i64 g.pd, .int .i64 g.x.1, .int .i64 g.x.2.1, .bool g.x.2.2.1, .int .i64 g.x.2.2.2, .bool g.hl, .slice PA3 g.seen.length Pc3] [.slice A8 g.lv.length c8] [.slice A4 g.prog.length c4, .int .i64 g.a, .int .i64 g.pc, .slice A6 g.wr.length c6, .slice A8 g.lv.length c8, .int .i64 g.t.1, .int .i64 g.t.2.1, .bool g.t.2.2, .int .i64 g.pd, .int .i64 g.x.1, .int .i64 g.x.2.1, .bool g.x.2.2.1, .int .i64 g.x.2.2.2, .bool g.hl, .slice PA3 g.seen.length Pc3] [ow (rLst 129 (rPair rInt rInt)) w.heap.size hi8 g.lv [.slice A8 g.lv.length c8] F8, ow (rLst 129 (rPair rInt rInt)) w.heap.size hi6 g.wr [.slice A6 g.wr.length c6] F6, ow (rLst 111 (rPair rInt rInt)) w.heap.size hi4 g.prog [.slice A4 g.prog.length c4] F4, vr b2 [.slice none 0 0, .int .i64 0, .int .i64 0, .slice none 0 0, .slice none 0 0, .int .i64 0, .int .i64 0, .bool false, .int .i64 0, .int .i64 0, .int .i64 0, .bool false, .int .i64 0, .bool false, .slice none 0 0], vr b1 [.slice A4 g.prog.length c4, .int .i64 g.a, .int .i64 g.pc, .slice A6 g.wr.length c6, .slice A8 g.lv.length c8, .int .i64 g.t.1, .int .i64 g.t.2.1, .bool g.t.2.2, .int .i64 g.pd, .int .i64 g.x.1, .int .i64 g.x.2.1, .bool g.x.2.2.1, .int .i64 g.x.2.2.2, .bool g.hl, .slice PA3 g.seen.length Pc3]] rfl (by kernel_rfl) (by kernel_rfl) (by kernel_rfl) rfl (by kernel_rfl) rfl (by kernel_rfl) (by kernel_rfl) (by kernel_rfl) ?_
  refine Sx.G.nil ?_
  refine Sx.E.next ?_
  refine Sx.C.seq ?_
  refine Sx.C.region ?_
  refine Sx.G.fresh 3 rInt (by kernel_rfl) (fun w => by kernel_rfl) (fun b9 hi9 => ?_)
  refine Sx.G.pure (.pointer (some ⟨b1, 14, none⟩)) (by kernel_rfl) (fun w => by kernel_rfl) ?_
  refine Sx.G.ld1 26 (.tmp 19) b1 14 5 [.slice A4 g.prog.length c4, .int .i64 g.a, .int .i64 g.pc, .slice A6 g.wr.length c6, .slice A8 g.lv.length c8, .int .i64 g.t.1, .int .i64 g.t.2.1, .bool g.t.2.2, .int .i64 g.pd, .int .i64 g.x.1, .int .i64 g.x.2.1, .bool g.x.2.2.1, .int .i64 g.x.2.2.2, .bool g.hl, .slice PA3 g.seen.length Pc3] (.slice PA3 g.seen.length Pc3) rfl (by kernel_rfl) (by kernel_rfl) rfl (by kernel_rfl) (by kernel_rfl) ?_
  refine Sx.G.apps 0 rfl g.seen (fun w S => St.old S h3) (List.nil_append _) g.seen.length (by simp) flat_int (.tmp 18) (.tmp 20) 26 1 8 rfl rfl (by kernel_rfl) (by kernel_rfl) rfl (by kernel_rfl) (by kernel_rfl) (by simp only [maxLen, List.length_nil, List.length_cons]; omega) (by simp only [List.length_nil, List.length_cons]; omega) (fun A10 c10 F10 hi10 hm10 => ?_)
  refine Sx.G.pure (.pointer (some ⟨b1, 14, none⟩)) (by kernel_rfl) (fun w => by kernel_rfl) ?_
  refine Sx.G.sto 26 (.tmp 22) (.tmp 21) b1 14 5 [.slice A4 g.prog.length c4, .int .i64 g.a, .int .i64 g.pc, .slice A6 g.wr.length c6, .slice A8 g.lv.length c8, .int .i64 g.t.1, .int .i64 g.t.2.1, .bool g.t.2.2, .int .i64 g.pd, .int .i64 g.x.1, .int .i64 g.x.2.1, .bool g.x.2.2.1, .int .i64 g.x.2.2.2, .bool g.hl, .slice PA3 g.seen.length Pc3] [.slice A10 g.seen.length c10] [.slice A4 g.prog.length c4, .int .i64 g.a, .int .i64 g.pc, .slice A6 g.wr.length c6, .slice A8 g.lv.length c8, .int .i64 g.t.1, .int .i64 g.t.2.1, .bool g.t.2.2, .int .i64 g.pd, .int .i64 g.x.1, .int .i64 g.x.2.1, .bool g.x.2.2.1, .int .i64 g.x.2.2.2, .bool g.hl, .slice A10 g.seen.length c10] [ow (rLst 3 rInt) w.heap.size hi10 g.seen [.slice A10 g.seen.length c10] F10, ow (rLst 129 (rPair rInt rInt)) w.heap.size hi8 g.lv [.slice A8 g.lv.length c8] F8, ow (rLst 129 (rPair rInt rInt)) w.heap.size hi6 g.wr [.slice A6 g.wr.length c6] F6, ow (rLst 111 (rPair rInt rInt)) w.heap.size hi4 g.prog [.slice A4 g.prog.length c4] F4, vr b2 [.slice none 0 0, .int .i64 0, .int .i64 0, .slice none 0 0, .slice none 0 0, .int .i64 0, .int .i64 0, .bool false, .int .i64 0, .int .i64 0, .int .i64 0, .bool false, .int .i64 0, .bool false, .slice none 0 0], vr b1 [.slice A4 g.prog.length c4, .int .i64 g.a, .int .i64 g.pc, .slice A6 g.wr.length c6, .slice A8 g.lv.length c8, .int .i64 g.t.1, .int .i64 g.t.2.1, .bool g.t.2.2, .int .i64 g.pd, .int .i64 g.x.1, .int .i64 g.x.2.1, .bool g.x.2.2.1, .int .i64 g.x.2.2.2, .bool g.hl, .slice A10 g.seen.length c10]] rfl (by kernel_rfl) (by kernel_rfl) (by kernel_rfl) rfl (by kernel_rfl) rfl (by kernel_rfl) (by kernel_rfl) (by kernel_rfl) ?_
  refine Sx.G.nil ?_
  refine Sx.E.next ?_
  refine Sx.C.seq ?_
  refine Sx.C.region ?_
  refine Sx.G.ld 51 (.tmp 1) b1 0 5 [.slice A4 g.prog.length c4, .int .i64 g.a, .int .i64 g.pc, .slice A6 g.wr.length c6, .slice A8 g.lv.length c8, .int .i64 g.t.1, .int .i64 g.t.2.1, .bool g.t.2.2, .int .i64 g.pd, .int .i64 g.x.1, .int .i64 g.x.2.1, .bool g.x.2.2.1, .int .i64 g.x.2.2.2, .bool g.hl, .slice A10 g.seen.length c10] [.slice A4 g.prog.length c4, .int .i64 g.a, .int .i64 g.pc, .slice A6 g.wr.length c6, .slice A8 g.lv.length c8, .int .i64 g.t.1, .int .i64 g.t.2.1, .bool g.t.2.2, .int .i64 g.pd, .int .i64 g.x.1, .int .i64 g.x.2.1, .bool g.x.2.2.1, .int .i64 g.x.2.2.2, .bool g.hl, .slice A10 g.seen.length c10] rfl (by kernel_rfl) (by kernel_rfl) rfl (by kernel_rfl) (by kernel_rfl) (by kernel_rfl) ?_
  refine Sx.G.sto 51 (.tmp 2) (.tmp 23) b2 0 4 [.slice none 0 0, .int .i64 0, .int .i64 0, .slice none 0 0, .slice none 0 0, .int .i64 0, .int .i64 0, .bool false, .int .i64 0, .int .i64 0, .int .i64 0, .bool false, .int .i64 0, .bool false, .slice none 0 0] [.slice A4 g.prog.length c4, .int .i64 g.a, .int .i64 g.pc, .slice A6 g.wr.length c6, .slice A8 g.lv.length c8, .int .i64 g.t.1, .int .i64 g.t.2.1, .bool g.t.2.2, .int .i64 g.pd, .int .i64 g.x.1, .int .i64 g.x.2.1, .bool g.x.2.2.1, .int .i64 g.x.2.2.2, .bool g.hl, .slice A10 g.seen.length c10] [.slice A4 g.prog.length c4, .int .i64 g.a, .int .i64 g.pc, .slice A6 g.wr.length c6, .slice A8 g.lv.length c8, .int .i64 g.t.1, .int .i64 g.t.2.1, .bool g.t.2.2, .int .i64 g.pd, .int .i64 g.x.1, .int .i64 g.x.2.1, .bool g.x.2.2.1, .int .i64 g.x.2.2.2, .bool g.hl, .slice A10 g.seen.length c10] [ow (rLst 3 rInt) w.heap.size hi10 g.seen [.slice A10 g.seen.length c10] F10, ow (rLst 129 (rPair rInt rInt)) w.heap.size hi8 g.lv [.slice A8 g.lv.length c8] F8, ow (rLst 129 (rPair rInt rInt)) w.heap.size hi6 g.wr [.slice A6 g.wr.length c6] F6, ow (rLst 111 (rPair rInt rInt)) w.heap.size hi4 g.prog [.slice A4 g.prog.length c4] F4, vr b2 [.slice A4 g.prog.length c4, .int .i64 g.a, .int .i64 g.pc, .slice A6 g.wr.length c6, .slice A8 g.lv.length c8, .int .i64 g.t.1, .int .i64 g.t.2.1, .bool g.t.2.2, .int .i64 g.pd, .int .i64 g.x.1, .int .i64 g.x.2.1, .bool g.x.2.2.1, .int .i64 g.x.2.2.2, .bool g.hl, .slice A10 g.seen.length c10], vr b1 [.slice A4 g.prog.length c4, .int .i64 g.a, .int .i64 g.pc, .slice A6 g.wr.length c6, .slice A8 g.lv.length c8, .int .i64 g.t.1, .int .i64 g.t.2.1, .bool g.t.2.2, .int .i64 g.pd, .int .i64 g.x.1, .int .i64 g.x.2.1, .bool g.x.2.2.1, .int .i64 g.x.2.2.2, .bool g.hl, .slice A10 g.seen.length c10]] rfl (by kernel_rfl) (by kernel_rfl) (by kernel_rfl) rfl (by kernel_rfl) rfl (by kernel_rfl) (by kernel_rfl) (by kernel_rfl) ?_
  refine Sx.G.nil ?_
  refine Sx.E.next ?_
  refine Sx.C.ret ?_
  refine Sx.E.retc b2 4 [.slice A4 g.prog.length c4, .int .i64 g.a, .int .i64 g.pc, .slice A6 g.wr.length c6, .slice A8 g.lv.length c8, .int .i64 g.t.1, .int .i64 g.t.2.1, .bool g.t.2.2, .int .i64 g.pd, .int .i64 g.x.1, .int .i64 g.x.2.1, .bool g.x.2.2.1, .int .i64 g.x.2.2.2, .bool g.hl, .slice A10 g.seen.length c10] rfl (by kernel_rfl) rfl (by kernel_rfl) (by kernel_rfl) (fun w S => ?_)
  obtain ⟨GW2, S⟩ := S.weak 2 rfl
  obtain ⟨GW1, S⟩ := S.weak 1 rfl
  obtain ⟨ho, hF⟩ := rG_shut (g := g) S 3 rfl 2 rfl 1 rfl 0 rfl (by decide) (by decide) (by decide) (by decide) (by decide) (by decide)
  exact ⟨_, _, rfl, ho, hF, S.below⟩
end Go.Proofs.Ytldgadmpclgfhaa.Guests
namespace Go.Proofs.Ytldgadmpclgfhaa.Sx
set_option maxRecDepth 100000
open Go.ChangeShapes Go.WideShapes Go.ChangeAt Go.RowKit Go.Deep
open Go.Proofs.Ytldgadmpclgfhaa.Base Go.Proofs.Ytldgadmpclgfhaa.Mem Go.Proofs.Ytldgadmpclgfhaa.Data Go.Proofs.Ytldgadmpclgfhaa.Stt
set_option linter.unusedVariables false
set_option linter.unusedSimpArgs false
section
variable {α : Type} {r : Rp α} {P : Program} {n : Nat} {ops : Array Oper} {Q : Exit → Act → World → Prop} {Z : World → Prop} {w0 : World} {T : Tl} {L L' : List Res} {rest : List Oper} {l : List Oper} {o : Oper} {t : Ord.Ot} {w : World}
theorem G.claims (h : ∀ w, St w0 w L → St w0 w L') (k : G P n ops Q w0 T L' rest) : G P n ops Q w0 T L rest := fun a w hA S => k a w hA (h w S)
theorem GT.claims (h : ∀ w, St w0 w L → St w0 w L') (k : GT P n ops Q Z w0 T L' t) : GT P n ops Q Z w0 T L t := fun a w hA S => k a w hA (h w S)
theorem Alone.claims {i : Nat} (h : ∀ w, St w0 w L → St w0 w L') (k : Alone P n ops Q Z w0 T L' i t) : Alone P n ops Q Z w0 T L i t := fun a w hA S => k a w hA (h w S)
theorem C.claims {c : Code} (h : ∀ w, St w0 w L → St w0 w L') (k : C P n Q w0 T L' c) : C P n Q w0 T L c := fun a w hA S => k a w hA (h w S)
theorem G.turn {ι : Type} {p : ι → Prop} (L' : ι → List Res) (h : ∀ w, St w0 w L → ∃ x, p x ∧ St w0 w (L' x)) (k : ∀ x, p x → G P n ops Q w0 T (L' x) rest) : G P n ops Q w0 T L rest := fun a w hA S => by
  obtain ⟨x, hp, S'⟩ := h w S
  exact k x hp a w hA S'
theorem GT.turn {ι : Type} {p : ι → Prop} (L' : ι → List Res) (h : ∀ w, St w0 w L → ∃ x, p x ∧ St w0 w (L' x)) (k : ∀ x, p x → GT P n ops Q Z w0 T (L' x) t) : GT P n ops Q Z w0 T L t := fun a w hA S => by
  obtain ⟨x, hp, S'⟩ := h w S
  exact k x hp a w hA S'
theorem G.know {p : Prop} (h : ∀ w, St w0 w L → p) (k : p → G P n ops Q w0 T L rest) : G P n ops Q w0 T L rest := fun a w hA S => k (h w S) a w hA S
theorem GT.know {p : Prop} (h : ∀ w, St w0 w L → p) (k : p → GT P n ops Q Z w0 T L t) : GT P n ops Q Z w0 T L t := fun a w hA S => k (h w S) a w hA S
theorem Alone.fresh {β : Type} {i : Nat} (e : TypeId) (q : Rp β) (ho : l[i]? = some o) (hc : chk n T l.toArray o = true) (hr : ∀ w : World, (execOp (ev T) o).run P w = .ok (.value (.slice (some ⟨w.heap.size, 0, none⟩) 0 0)) (w.alloc (.cells #[] e))) (hZ : ∀ w, St w0 w L → Z w)
    (k : ∀ b hi, GT P n l.toArray Q Z w0 (up o.dst (.slice (some ⟨b, 0, none⟩) 0 0) T) (ow (rLst e q) b hi [] [.slice (some ⟨b, 0, none⟩) 0 0] [b] :: L) t) : Alone P n l.toArray Q Z w0 T L i t :=
  Alone.turns ho hc fun w S => ⟨_, _, _, hr w, S.fresh e q, fun w S => hZ w (St.tail S), k _ _⟩
theorem appr_run {e : TypeId} {ρ : Operand → Value} {lo hi lo2 hi2 : Nat} {xs : List α} {v : Value} {F F2 : List Nat} {y : α} {cs : List Value} {bn : Nat} {M : List Res}
    (S : St w0 w (ow (rLst e r) lo hi xs [v] F :: ow r lo2 hi2 y cs F2 :: vr bn cs :: M)) (s x : Operand) (ty : TypeId) (ho : o.op = .call { callee := .builtin .append, args := #[s, x], argTypes := #[ty, ty] })
    (i : TypeInfo) (z : Value) (size bytes : Nat) (ht : P.underlying ty = some (.slice e)) (hi' : P.info? e = some i) (hz : i.zero = some z) (hsize : i.size = size) (hby : i.bytes = bytes) (hzs : z.cells.size = size) (hsz : 0 < size) (hr : r.sz = size)
    (hs : ρ s = v) (c : Nat) (hx : ρ x = .slice (some ⟨bn, 0, none⟩) 1 c) (h1 : cs.all (·.oneCell') = true) (h63 : xs.length + 1 ≤ maxLen) (hbytes : (xs.length + 1) * bytes ≤ 140737488355328) :
    ∃ A c F' w', xs.length + 1 ≤ c ∧ (execOp ρ o).run P w = .ok (.value (.slice A (xs.length + 1) c)) w' ∧ St w0 w' (ow (rLst e r) w0.heap.size w'.heap.size (xs ++ [y]) [.slice A (xs.length + 1) c] F' :: M) := by
  obtain ⟨⟨v', ds0, F1, e1, hF, hall, hrow, hhi⟩, hnd⟩ := S.at_ 0 rfl
  cases e1
  have hlo' : w0.heap.size ≤ lo := S.lo 0 _ rfl
  have hhi' : hi ≤ w.heap.size := S.hi 0 _ rfl
  have hlo2 : w0.heap.size ≤ lo2 := S.lo 1 _ rfl
  have hhi2 : hi2 ≤ w.heap.size := S.hi 1 _ rfl
  obtain ⟨hy, hG⟩ := S.at_ 1 rfl
  have hV := S.at_ 2 rfl
  have hlen : cs.length = 1 * r.sz := by rw [Nat.one_mul]; exact r.len (r.reads hy)
  have hFG := S.disj 0 1 rfl rfl (by decide)
  subst hr
  obtain ⟨v', w', hrun, hown, hgr, hat⟩ := run_app (P := P) w w0.heap.size ty o.type e i z r.sz bytes ht hi' hz hsize hby hzs hsz v xs.length ds0 (ownsRow_low hrow hlo') (some ⟨bn, 0, none⟩) 1 c cs hlen (fun q u hu => ⟨_, rfl, by rw [Addr.add_lit, Nat.zero_add]; exact hV.cell q hu⟩) (fun u hu => List.all_eq_true.1 h1 u hu) h63 hbytes S.below.size
  have hx1 : (execOp ρ o).run P w = .ok (.value v') w' := by
    unfold execOp
    simp only [ho, resolve, invoke, builtin, Sem.run_bind, Sem.run_pure, Result.andThen_ok, List.map_toArray, List.map_cons, List.map_nil, hs, hx, hrun]
  have hcl := app_claim (b0 := w0.heap.size) hnd hlo' hhi' hF hall hrow (ownAll_one hy) hG hFG hlo2 hhi2 hown hgr hat
  obtain ⟨A', c', rfl, hc'⟩ := row_form hown
  have hfoot : ∀ q, v.ownBlock = some q → (ow (rLst e r) lo hi xs [v] F).foot q := fun q hq => ⟨by rw [hF]; simp [hq], (hrow.lt q hq).1, hhi q hq⟩
  let big : Res := ⟨fun _ => True, fun q => (ow (rLst e r) lo hi xs [v] F).foot q ∨ (ow r lo2 hi2 y cs F2).foot q, w0.heap.size, w.heap.size, fun q hq => by
    rcases hq with hq | hq
    · exact S.footlt (i := 0) rfl hq
    · exact S.footlt (i := 1) rfl hq, fun _ _ => trivial⟩
  have S1 : St w0 w (big :: vr bn cs :: M) := St.merge (rs := [_, _]) S big trivial (fun q hq => hq.elim (fun h => ⟨_, List.mem_cons_self, h⟩) (fun h => ⟨_, List.mem_cons_of_mem _ List.mem_cons_self, h⟩)) (Nat.le_refl _) (Nat.le_refl _)
  have S2 := S1.turn 0 rfl (ow (rLst e r) w0.heap.size w'.heap.size (xs ++ [y]) [.slice A' (xs.length + 1) c'] ((Value.slice A' (xs.length + 1) c').ownBlock.toList ++ (F1 ++ F2))) (Only.of_grown hgr fun q hq => .inl (hfoot q hq)) hcl (fun q hq => by
    obtain ⟨hq, _, hq2⟩ := hq
    rcases List.mem_append.1 hq with hq | hq
    · have hq' : (Value.slice A' (xs.length + 1) c').ownBlock = some q := by simpa using hq
      rcases hat with h5 | h5
      · exact .inl (.inl (hfoot q (h5.symm.trans hq')))
      · have h6 := h5.symm.trans hq'
        cases h6; right; exact Nat.le_refl _
    · rcases List.mem_append.1 hq with hq | hq
      · have := ownAll_inF hall q hq
        exact .inl (.inl ⟨by rw [hF]; simp [hq], this⟩)
      · have := r.inF hy q hq
        exact .inl (.inr ⟨hq, this⟩)) (Nat.le_refl _) (Nat.le_refl _)
  exact ⟨A', c', _, w', hc', hx1, St.tail (St.front S2 1 rfl)⟩
theorem G.appr {e : TypeId} {lo hi lo2 hi2 : Nat} {xs : List α} {v : Value} {F F2 : List Nat} {y : α} {cs : List Value} {bn : Nat} {M : List Res} (s x : Operand) (ty : TypeId) (size bytes c : Nat) (hop : o.op = .call { callee := .builtin .append, args := #[s, x], argTypes := #[ty, ty] })
    (hc : chk n T ops o = true) (he : elemB P ty e size bytes = true) (hr : r.sz = size) (hs : ev T s = v) (hx : ev T x = .slice (some ⟨bn, 0, none⟩) 1 c) (h1 : cs.all (·.oneCell') = true) (h63 : xs.length + 1 ≤ maxLen) (hbytes : (xs.length + 1) * bytes ≤ 140737488355328)
    (zs : List α) (hzz : xs ++ [y] = zs) (m : Nat) (hm : xs.length + 1 = m)
    (k : ∀ A c F' hi', m ≤ c → G P n ops Q w0 (up o.dst (.slice A m c) T) (ow (rLst e r) w0.heap.size hi' zs [.slice A m c] F' :: M) rest) :
    G P n ops Q w0 T (ow (rLst e r) lo hi xs [v] F :: ow r lo2 hi2 y cs F2 :: vr bn cs :: M) (o :: rest) :=
  G.turns hc fun w S => by
    subst hzz hm
    obtain ⟨ht, hsz, i, z, hi', hz, hsize, hby, hzs⟩ := elemB_spec he
    obtain ⟨A, c', F', w', h2, h3, h4⟩ := appr_run (P := P) (o := o) (ρ := ev T) S s x ty hop i z size bytes ht hi' hz hsize hby hzs hsz hr hs c hx h1 h63 hbytes
    exact ⟨_, w', _, h3, h4, k A c' F' _ h2⟩
theorem Alone.appr {j : Nat} {e : TypeId} {lo hi lo2 hi2 : Nat} {xs : List α} {v : Value} {F F2 : List Nat} {y : α} {cs : List Value} {bn : Nat} {M : List Res} (s x : Operand) (ty : TypeId) (size bytes c : Nat) (hj : l[j]? = some o) (hop : o.op = .call { callee := .builtin .append, args := #[s, x], argTypes := #[ty, ty] })
    (hc : chk n T l.toArray o = true) (he : elemB P ty e size bytes = true) (hr : r.sz = size) (hs : ev T s = v) (hx : ev T x = .slice (some ⟨bn, 0, none⟩) 1 c) (h1 : cs.all (·.oneCell') = true) (h63 : xs.length + 1 ≤ maxLen) (hbytes : (xs.length + 1) * bytes ≤ 140737488355328)
    (zs : List α) (hzz : xs ++ [y] = zs) (m : Nat) (hm : xs.length + 1 = m) (hZ : ∀ A c F' hi' w, St w0 w (ow (rLst e r) w0.heap.size hi' zs [.slice A m c] F' :: M) → Z w)
    (k : ∀ A c F' hi', m ≤ c → GT P n l.toArray Q Z w0 (up o.dst (.slice A m c) T) (ow (rLst e r) w0.heap.size hi' zs [.slice A m c] F' :: M) t) :
    Alone P n l.toArray Q Z w0 T (ow (rLst e r) lo hi xs [v] F :: ow r lo2 hi2 y cs F2 :: vr bn cs :: M) j t :=
  Alone.turns hj hc fun w S => by
    subst hzz hm
    obtain ⟨ht, hsz, i, z, hi', hz, hsize, hby, hzs⟩ := elemB_spec he
    obtain ⟨A, c', F', w', h2, h3, h4⟩ := appr_run (P := P) (o := o) (ρ := ev T) S s x ty hop i z size bytes ht hi' hz hsize hby hzs hsz hr hs c hx h1 h63 hbytes
    exact ⟨_, w', _, h3, h4, fun w S => hZ A c' F' _ w S, k A c' F' _ h2⟩
theorem Alone.hsto {j' : Nat} {off lo hi k size : Nat} {pre post : List α} {es : List Value} {F1 F2 : List Nat} (ty : TypeId) (x y : Operand) (b p j i : Nat) (us es' : List Value) (L' : List Res) (ho : l[j']? = some o) (hop : o.op = .store ty x y) (hc : chk n T l.toArray o = true) (hx : ev T x = .pointer (some ⟨b, p, none⟩)) (hy : (ev T y).cells = us.toArray) (hL : L[i]? = some (hole r b off lo hi pre post es F1 F2)) (hk : pre.length = k) (hz : r.sz = size) (hp : p = off + k * size + j)
    (hes : (us.foldl (fun (p : List Value × Nat) u => (p.1.set p.2 u, p.2 + 1)) (es, j)).1 = es') (hL' : L.set i (hole r b off lo hi pre post es' F1 F2) = L') (hl : Nat.ble (j + us.length) es.length = true) (hi' : (P.info? ty).map (·.size) = some us.length) (h1 : us.all (·.oneCell') = true)
    (hZ : ∀ w, St w0 w L' → Z w) (kk : GT P n l.toArray Q Z w0 (up o.dst undef T) L' t) : Alone P n l.toArray Q Z w0 T L j' t :=
  Alone.acts ho hc fun w S => by
    have hl' : j + us.length ≤ es.length := Nat.le_of_ble_eq_true hl
    have ht : w.there b p us.toArray.size := fun q hq => by
      have hq' : j + q < es.length := by simp at hq; omega
      have := hole_cell (S.at_ i hL) hk hz (j + q) (List.getElem?_eq_getElem hq')
      rw [← Nat.add_assoc, ← hp] at this
      exact ⟨by rw [this.1]; rfl, this.2⟩
    refine ⟨w.setCells b p us, L', ?_, ?_, hZ, kk⟩
    · unfold execOp
      have hcells : (storeVar ty ⟨b, p, none⟩ (ev T y)).run P w = (storeVar ty ⟨b, p, none⟩ (.agg us.toArray)).run P w := by
        unfold storeVar
        rw [hy]
        rfl
      have hs := run_storeVar_mid (P := P) w b p ty us.toArray ht (by simpa using hi') (by simpa using h1)
      simp only [hop, Sem.run_bind, Instr.storeAt, Instr.sureAddr, hx, Sem.run_pure, Result.andThen_ok, hcells, hs]
    · subst hL' hp
      exact St.holeSets S i hL hk hz j us es' hes hl'
end
end Go.Proofs.Ytldgadmpclgfhaa.Sx
namespace Go.Proofs.Ytldgadmpclgfhaa.Kit
set_option maxRecDepth 100000
open Go.ChangeShapes Go.WideShapes Go.ChangeAt Go.RowKit Go.Deep
open Go.Proofs.Ytldgadmpclgfhaa.Base Go.Proofs.Ytldgadmpclgfhaa.Mem Go.Proofs.Ytldgadmpclgfhaa.Data Go.Proofs.Ytldgadmpclgfhaa.Stt Go.Proofs.Ytldgadmpclgfhaa.Guests Go.Proofs.Ytldgadmpclgfhaa.Ctls Go.Proofs.Ytldgadmpclgfhaa.Exits
set_option linter.unusedVariables false
set_option linter.unusedSimpArgs false
/-- How a bT lies in memory. -/
def rB : Rp bT := rVia (rPair ((rLsw (rLsw rInt))) (rPair ((rLsw wG)) (rPair ((rLst 3 rInt)) (rInt)))) (fun g => (g.mem, g.gs, g.outs, g.pd)) (fun k => ⟨k.1, k.2.1, k.2.2.1, k.2.2.2⟩)
theorem rB_own {w : World} {lo hi : Nat} {g : bT} {cs : List Value} {F : List Nat} (h : rB.own w lo hi g cs F) : ∃ P0 P1 P2 F0 F1 F2, cs = [P0, P1, P2, .int .i64 g.pd] ∧ F = F0 ++ (F1 ++ F2) ∧ ((rLsw (rLsw rInt))).own w lo hi g.mem [P0] F0 ∧ ((rLsw wG)).own w lo hi g.gs [P1] F1 ∧ ((rLst 3 rInt)).own w lo hi g.outs [P2] F2 := by
  obtain ⟨c0, s0, G0, H0, rfl, rfl, h0, g0⟩ := h
  obtain ⟨P0, rfl⟩ := lsw_own h0
  obtain ⟨c1, s1, G1, H1, rfl, rfl, h1, g1⟩ := g0
  obtain ⟨P1, rfl⟩ := lsw_own h1
  obtain ⟨c2, s2, G2, H2, rfl, rfl, h2, g2⟩ := g1
  obtain ⟨P2, rfl⟩ := lst_own h2
  obtain ⟨rfl, rfl⟩ := g2
  exact ⟨P0, P1, P2, G0, G1, G2, by simp, by simp, h0, h1, h2⟩
theorem rB_own_mk {w : World} {lo hi : Nat} {g : bT} {P0 P1 P2 : Value} {F0 F1 F2 : List Nat} (h0 : ((rLsw (rLsw rInt))).own w lo hi g.mem [P0] F0) (h1 : ((rLsw wG)).own w lo hi g.gs [P1] F1) (h2 : ((rLst 3 rInt)).own w lo hi g.outs [P2] F2) : rB.own w lo hi g [P0, P1, P2, .int .i64 g.pd] (F0 ++ (F1 ++ F2)) := by
  have h : rB.own w lo hi g [P0, P1, P2, .int .i64 g.pd] _ := ⟨[_], _, F0, _, rfl, rfl, h0, ⟨[_], _, F1, _, rfl, rfl, h1, ⟨[_], _, F2, _, rfl, rfl, h2, ⟨rfl, rfl⟩⟩⟩⟩
  simpa using h
theorem rB_open {w0 w : World} {lo hi : Nat} {g : bT} {cs : List Value} {F : List Nat} {T : List Res} (S : St w0 w (ow rB lo hi g cs F :: T)) : ∃ P0 P1 P2 F0 F1 F2, cs = [P0, P1, P2, .int .i64 g.pd] ∧ St w0 w (ow (rLsw (rLsw rInt)) lo hi g.mem [P0] F0 :: ow (rLsw wG) lo hi g.gs [P1] F1 :: ow (rLst 3 rInt) lo hi g.outs [P2] F2 :: T) := by
  obtain ⟨hown, hnd⟩ := S.at_ 0 rfl
  have hl := S.lo 0 _ rfl
  have hh := S.hi 0 _ rfl
  obtain ⟨P0, P1, P2, F0, F1, F2, rfl, rfl, q0, q1, q2⟩ := rB_own hown
  obtain ⟨m0, n0, d0⟩ := List.nodup_append.1 hnd
  obtain ⟨m1, n1, d1⟩ := List.nodup_append.1 n0
  have m2 := n1
  refine ⟨P0, P1, P2, F0, F1, F2, rfl, S.parts [ow (rLsw (rLsw rInt)) lo hi g.mem [P0] F0, ow (rLsw wG) lo hi g.gs [P1] F1, ow (rLst 3 rInt) lo hi g.outs [P2] F2] ?_ ?_⟩
  · intro s hs
    simp only [List.mem_cons, List.not_mem_nil, or_false] at hs
    rcases hs with rfl | rfl | rfl
    · exact ⟨⟨q0, m0⟩, fun k hk => ⟨by simp [hk.1], hk.2⟩, hl, hh⟩
    · exact ⟨⟨q1, m1⟩, fun k hk => ⟨by simp [hk.1], hk.2⟩, hl, hh⟩
    · exact ⟨⟨q2, m2⟩, fun k hk => ⟨by simp [hk.1], hk.2⟩, hl, hh⟩
  · simp only [List.pairwise_cons, List.mem_cons, List.not_mem_nil, or_false, forall_eq_or_imp, forall_eq, List.Pairwise.nil, and_true, false_implies, implies_true, ow]
    exact ⟨⟨(fun k hk hk' => d0 k hk.1 k (by simp [hk'.1]) rfl), (fun k hk hk' => d0 k hk.1 k (by simp [hk'.1]) rfl)⟩, (fun k hk hk' => d1 k hk.1 k (by simp [hk'.1]) rfl)⟩
theorem rB_shut {w0 w : World} {g : bT} {L : List Res} {P0 P1 P2 : Value} {F0 F1 F2 : List Nat} {l0 k0 l1 k1 l2 k2 : Nat} (S : St w0 w L) (i0 : Nat) (e0 : L[i0]? = some (ow (rLsw (rLsw rInt)) l0 k0 g.mem [P0] F0)) (i1 : Nat) (e1 : L[i1]? = some (ow (rLsw wG) l1 k1 g.gs [P1] F1)) (i2 : Nat) (e2 : L[i2]? = some (ow (rLst 3 rInt) l2 k2 g.outs [P2] F2)) (n01 : i0 ≠ i1) (n02 : i0 ≠ i2) (n12 : i1 ≠ i2) : rB.own w w0.heap.size w.heap.size g [P0, P1, P2, .int .i64 g.pd] (F0 ++ (F1 ++ F2)) ∧ (F0 ++ (F1 ++ F2)).Nodup := by
  refine ⟨rB_own_mk (S.own i0 e0) (S.own i1 e1) (S.own i2 e2), ?_⟩
  exact (nodup_app (S.nodup i0 e0) (nodup_app (S.nodup i1 e1) (S.nodup i2 e2) (fun k hk => (S.disj i1 i2 e1 e2 n12 k hk))) (fun k hk => (not_app (S.disj i0 i1 e0 e1 n01 k hk) (S.disj i0 i2 e0 e2 n02 k hk))))
theorem weak_G {w : World} {x : gT} (e : Ending) (w' : World) (h : Gives rG w x e w') : Gives wG w x e w' := by
  obtain ⟨cs, F, rfl, ho, hF, hb⟩ := h
  obtain ⟨P0, P1, P2, P3, F0, F1, F2, F3, rfl, S⟩ := rG_open (St.got (St.start w) hb ho hF)
  obtain ⟨G0, S⟩ := S.weak 0 rfl
  obtain ⟨G3, S⟩ := S.weak 3 rfl
  obtain ⟨ho, hF⟩ := wG_shut (g := x) S 0 rfl 1 rfl 2 rfl 3 rfl (by decide) (by decide) (by decide) (by decide) (by decide) (by decide)
  exact ⟨_, _, rfl, ho, hF, S.below⟩
theorem weak_B {w : World} {x : bT} (e : Ending) (w' : World) (h : Gives rB w x e w') : Gives wB w x e w' := by
  obtain ⟨cs, F, rfl, ho, hF, hb⟩ := h
  obtain ⟨P0, P1, P2, F0, F1, F2, rfl, S⟩ := rB_open (St.got (St.start w) hb ho hF)
  obtain ⟨G2, S⟩ := S.weak 2 rfl
  obtain ⟨ho, hF⟩ := wB_shut (g := x) S 0 rfl 1 rfl 2 rfl (by decide) (by decide) (by decide)
  exact ⟨_, _, rfl, ho, hF, S.below⟩
theorem cap_G {g : gT} (h : wG.cap g) : rG.cap g := h
theorem rd_G {w : World} {lo hi : Nat} {g : gT} {cs : List Value} (h : wG.rd w lo hi g cs) : rG.rd w lo hi g cs := h
end Go.Proofs.Ytldgadmpclgfhaa.Kit
namespace Go.Proofs.Ytldgadmpclgfhaa.Kit
set_option maxRecDepth 100000
open Go.ChangeShapes Go.WideShapes Go.ChangeAt Go.RowKit Go.Deep
open Go.Proofs.Ytldgadmpclgfhaa.Base Go.Proofs.Ytldgadmpclgfhaa.Mem Go.Proofs.Ytldgadmpclgfhaa.Data Go.Proofs.Ytldgadmpclgfhaa.Stt
set_option linter.unusedVariables false
set_option linter.unusedSimpArgs false
section
variable {P : Program} {t e : TypeId}
theorem opens_lsw {α : Type} {r : Rp α} (hs : 0 < r.sz) (ht : P.underlying t = some (.slice e)) (hc : P.cellsOf e = r.sz) (he : Opens P r e) : Opens P (rLsw r) t := fun H enc w fuel cs x h => by
  rcases open_slice ht h with ⟨rfl, _⟩ | ⟨a, len, cap, m, n, D, Pl, rfl, hb, hl, hm, hmm, _, hx⟩
  · exact ⟨[], ⟨none, 0, [], rfl, Nat.le_refl _, rfl, Lies.nil⟩, ⟨Nat.zero_le _, fun x hx => by cases hx⟩⟩
  · have hmc : m = cap := by simpa using hmm
    subst hmc
    have each : ∀ i, i < len → ∃ y : List Value × α, y.1.length = r.sz ∧ (∀ j, j < r.sz → w.cell? ((a.add (i * r.sz)).add j) = y.1[j]?) ∧ r.rd w 0 w.heap.size y.2 y.1 ∧ r.wf y.2 := fun i hi => by
      obtain ⟨cs', h1, h2⟩ := hx i (by omega)
      obtain ⟨v, hv, hw⟩ := he H enc w n cs' _ h2
      rw [hc] at h1
      obtain ⟨_, hlen, hcell⟩ := World.cells?_some h1
      exact ⟨(cs', v), hlen, hcell, hv, hw⟩
    by_cases h0 : len = 0
    · subst h0
      exact ⟨[], ⟨some a, m, [], rfl, Nat.zero_le _, rfl, Lies.nil⟩, ⟨Nat.zero_le _, fun x hx => by cases hx⟩⟩
    have hin : Inhabited (List Value × α) := ⟨(each 0 (by omega)).choose⟩
    obtain ⟨f, hf⟩ := choose_lt each
    refine ⟨(List.range len).map fun i => (f i).2, ⟨some a, m, (List.range len).flatMap fun i => (f i).1, by simp, by simp; omega, rdAll_map _ fun i hi => (hf i (List.mem_range.1 hi)).2.2.1, ?_⟩, ⟨by simp; omega, fun x hx => ?_⟩⟩
    · intro j u hu
      have hL := flatMap_len (g := fun i => (f i).1) (s := r.sz) len fun i hi => (hf i hi).1
      have hj : j < len * r.sz := by
        have := (List.getElem?_eq_some_iff.1 hu).1
        omega
      rw [flatMap_get hs len (fun i hi => (hf i hi).1) j hj] at hu
      have hd : j / r.sz < len := Nat.div_lt_of_lt_mul (by rwa [Nat.mul_comm] at hj)
      have hc1 := (hf (j / r.sz) hd).2.1 (j % r.sz) (Nat.mod_lt _ hs)
      have hc1 := hc1.trans hu
      rw [add_add, show j / r.sz * r.sz + j % r.sz = j by rw [Nat.mul_comm]; exact Nat.div_add_mod j r.sz] at hc1
      have hc0 := (hf 0 (by omega)).2.1 0 hs
      rw [List.getElem?_eq_getElem (by rw [(hf 0 (by omega)).1]; exact hs)] at hc0
      obtain ⟨ab, ao, spot⟩ := a
      have hsp : spot = none := by simpa [Addr.add] using World.cell?_spot hc0
      subst hsp
      rw [Addr.add_lit] at hc1
      exact ⟨ab, ao, rfl, Nat.zero_le _, World.block_lt_of_cell? w _ hc1, hc1⟩
    · obtain ⟨i, hi, rfl⟩ := List.mem_map.1 hx
      exact (hf i (List.mem_range.1 hi)).2.2.2
end
section
variable {P : Program} {t e : TypeId}
variable {α : Type} {r : Rp α} {H : Type} {enc : TypeId × Value → H} {W : World} {base : Nat} {v : Value} {d : DataW H} {p : List MemPlace}
theorem open_struct {fs : Array Field} (ht : P.underlying t = some (.struct fs)) (hO : Opens P r t) (hval : Value.okWide P W .any base t v) (h : DataW.Trod enc P W 0 (fun _ => true) true t v d p) : ∃ x cs, v = .agg (cs : List Value).toArray ∧ r.wf x ∧ r.rd W 0 W.heap.size x cs := by
  obtain ⟨fuel, hf⟩ := h
  obtain ⟨x, hx, wx⟩ := hO H enc W fuel _ _ hf
  have hv : ∃ cs, v = .agg cs := by
    unfold Value.okWide at hval
    rw [ht] at hval
    obtain ⟨cs, e, _⟩ := hval
    exact ⟨cs, e⟩
  obtain ⟨cs, rfl⟩ := hv
  exact ⟨x, cs.toList, by simp, wx, by simpa [Value.cells] using hx⟩
end
end Go.Proofs.Ytldgadmpclgfhaa.Kit
namespace Go.Proofs.Ytldgadmpclgfhaa.Kit
set_option maxRecDepth 100000
open Go.ChangeShapes Go.WideShapes Go.ChangeAt Go.RowKit Go.Deep
open Go.Proofs.Ytldgadmpclgfhaa.Base Go.Proofs.Ytldgadmpclgfhaa.Mem Go.Proofs.Ytldgadmpclgfhaa.Data Go.Proofs.Ytldgadmpclgfhaa.Stt Go.Proofs.Ytldgadmpclgfhaa.Guests Go.Proofs.Ytldgadmpclgfhaa.Ctls Go.Proofs.Ytldgadmpclgfhaa.Exits
set_option linter.unusedVariables false
set_option linter.unusedSimpArgs false
theorem laid : laidOutB Try.prog = true := by kernel_rfl
theorem capz_Int (x : Int) (h : rInt.size x ≤ 1048576) : rInt.cap x := trivial
theorem cntz_Int (x : Int) : rInt.cnt x ≤ 16 * rInt.size x + 1 := by show 1 ≤ _; omega
theorem capz_Slot (x : (Int × Int)) (h : (rPair rInt rInt).size x ≤ 1048576) : (rPair rInt rInt).cap x := ⟨trivial, trivial⟩
theorem cntz_Slot (x : (Int × Int)) : (rPair rInt rInt).cnt x ≤ 16 * (rPair rInt rInt).size x + 2 := Nat.le_trans (Nat.le_of_eq (show (rPair rInt rInt).cnt x = 2 from rfl)) (Nat.le_add_left _ _)
theorem kopens_Slot : Opens Try.prog (rPair rInt rInt) 132 := opens_struct Try.underlying132 (by kernel_rfl) (fields_cons (opens_int Try.underlying3) rfl (by kernel_rfl) (fields_one (opens_int Try.underlying3) rfl (by kernel_rfl)))
theorem capz_Ins (x : (Int × Int)) (h : (rPair rInt rInt).size x ≤ 1048576) : (rPair rInt rInt).cap x := ⟨trivial, trivial⟩
theorem cntz_Ins (x : (Int × Int)) : (rPair rInt rInt).cnt x ≤ 16 * (rPair rInt rInt).size x + 2 := Nat.le_trans (Nat.le_of_eq (show (rPair rInt rInt).cnt x = 2 from rfl)) (Nat.le_add_left _ _)
theorem kopens_Ins : Opens Try.prog (rPair rInt rInt) 113 := opens_struct Try.underlying113 (by kernel_rfl) (fields_cons (opens_int Try.underlying3) rfl (by kernel_rfl) (fields_one (opens_int Try.underlying3) rfl (by kernel_rfl)))
theorem kopens_Ctl : Opens Try.prog rCtl 59 := opens_struct Try.underlying59 (by kernel_rfl) (fields_cons (opens_int Try.underlying3) rfl (by kernel_rfl) (fields_cons (opens_int Try.underlying3) rfl (by kernel_rfl) (fields_one (opens_bool Try.underlying4) rfl (by kernel_rfl))))
theorem kopens_Exit : Opens Try.prog rExit 60 := opens_struct Try.underlying60 (by kernel_rfl) (fields_cons (opens_int Try.underlying3) rfl (by kernel_rfl) (fields_cons (opens_int Try.underlying3) rfl (by kernel_rfl) (fields_cons (opens_bool Try.underlying4) rfl (by kernel_rfl) (fields_one (opens_int Try.underlying3) rfl (by kernel_rfl)))))
theorem capz_IntS (x : (List Int)) (h : (rLsw rInt).size x ≤ 1048576) : (rLsw rInt).cap x := capz (r := rInt) capz_Int h
theorem cntz_IntS (x : (List Int)) : (rLsw rInt).cnt x ≤ 16 * (rLsw rInt).size x + 0 := cntz (r := rInt) cntz_Int (by decide) x
theorem kopens_IntS : Opens Try.prog (rLsw rInt) 26 := opens_lsw (by decide) Try.underlying26 (by kernel_rfl) (opens_int Try.underlying3)
theorem capz_SlotS (x : (List (Int × Int))) (h : (rLsw (rPair rInt rInt)).size x ≤ 1048576) : (rLsw (rPair rInt rInt)).cap x := capz (r := (rPair rInt rInt)) capz_Slot h
theorem cntz_SlotS (x : (List (Int × Int))) : (rLsw (rPair rInt rInt)).cnt x ≤ 16 * (rLsw (rPair rInt rInt)).size x + 0 := cntz (r := (rPair rInt rInt)) cntz_Slot (by decide) x
theorem kopens_SlotS : Opens Try.prog (rLsw (rPair rInt rInt)) 58 := opens_lsw (by decide) Try.underlying58 (by kernel_rfl) kopens_Slot
theorem capz_InsS (x : (List (Int × Int))) (h : (rLsw (rPair rInt rInt)).size x ≤ 1048576) : (rLsw (rPair rInt rInt)).cap x := capz (r := (rPair rInt rInt)) capz_Ins h
theorem cntz_InsS (x : (List (Int × Int))) : (rLsw (rPair rInt rInt)).cnt x ≤ 16 * (rLsw (rPair rInt rInt)).size x + 0 := cntz (r := (rPair rInt rInt)) cntz_Ins (by decide) x
theorem kopens_InsS : Opens Try.prog (rLsw (rPair rInt rInt)) 57 := opens_lsw (by decide) Try.underlying57 (by kernel_rfl) kopens_Ins
theorem capz_Guest (x : gT) (h : wG.size x ≤ 1048576) : wG.cap x := by
  rw [size_Guest] at h
  exact ⟨capz_InsS x.prog (show x.prog.length + sizeAll (rPair rInt rInt) x.prog ≤ 1048576 by omega), trivial, trivial, capz_SlotS x.wr (show x.wr.length + sizeAll (rPair rInt rInt) x.wr ≤ 1048576 by omega), capz_SlotS x.lv (show x.lv.length + sizeAll (rPair rInt rInt) x.lv ≤ 1048576 by omega), ⟨trivial, trivial, trivial⟩, trivial, ⟨trivial, trivial, trivial, trivial⟩, trivial, capz_IntS x.seen (show x.seen.length + sizeAll rInt x.seen ≤ 1048576 by omega)⟩
theorem cntz_Guest (x : gT) : wG.cnt x ≤ 16 * wG.size x + 11 := by
  have h0 : cntAll (rPair rInt rInt) x.prog ≤ 16 * (x.prog.length + sizeAll (rPair rInt rInt) x.prog) := cntz_InsS x.prog
  have h1 : cntAll (rPair rInt rInt) x.wr ≤ 16 * (x.wr.length + sizeAll (rPair rInt rInt) x.wr) := cntz_SlotS x.wr
  have h2 : cntAll (rPair rInt rInt) x.lv ≤ 16 * (x.lv.length + sizeAll (rPair rInt rInt) x.lv) := cntz_SlotS x.lv
  have h3 : cntAll rInt x.seen ≤ 16 * (x.seen.length + sizeAll rInt x.seen) := cntz_IntS x.seen
  rw [cnt_Guest, size_Guest]; omega
theorem kopens_Guest : Opens Try.prog wG 62 := opens_via (fun _ => rfl) (opens_struct Try.underlying62 (by kernel_rfl) (fields_cons kopens_InsS rfl (by kernel_rfl) (fields_cons (opens_int Try.underlying3) rfl (by kernel_rfl) (fields_cons (opens_int Try.underlying3) rfl (by kernel_rfl) (fields_cons kopens_SlotS rfl (by kernel_rfl) (fields_cons kopens_SlotS rfl (by kernel_rfl) (fields_cons kopens_Ctl rfl (by kernel_rfl) (fields_cons (opens_int Try.underlying3) rfl (by kernel_rfl) (fields_cons kopens_Exit rfl (by kernel_rfl) (fields_cons (opens_bool Try.underlying4) rfl (by kernel_rfl) (fields_one kopens_IntS rfl (by kernel_rfl))))))))))))
theorem capz_IntSS (x : (List (List Int))) (h : (rLsw (rLsw rInt)).size x ≤ 1048576) : (rLsw (rLsw rInt)).cap x := capz (r := (rLsw rInt)) capz_IntS h
theorem cntz_IntSS (x : (List (List Int))) : (rLsw (rLsw rInt)).cnt x ≤ 16 * (rLsw (rLsw rInt)).size x + 0 := cntz (r := (rLsw rInt)) cntz_IntS (by decide) x
theorem kopens_IntSS : Opens Try.prog (rLsw (rLsw rInt)) 24 := opens_lsw (by decide) Try.underlying24 (by kernel_rfl) kopens_IntS
theorem capz_GuestS (x : (List gT)) (h : (rLsw wG).size x ≤ 1048576) : (rLsw wG).cap x := capz (r := wG) capz_Guest h
theorem cntz_GuestS (x : (List gT)) : (rLsw wG).cnt x ≤ 16 * (rLsw wG).size x + 0 := cntz (r := wG) cntz_Guest (by decide) x
theorem kopens_GuestS : Opens Try.prog (rLsw wG) 37 := opens_lsw (by decide) Try.underlying37 (by kernel_rfl) kopens_Guest
theorem capz_Bare (x : bT) (h : wB.size x ≤ 1048576) : wB.cap x := by
  rw [size_Bare] at h
  exact ⟨capz_IntSS x.mem (show x.mem.length + sizeAll (rLsw rInt) x.mem ≤ 1048576 by omega), capz_GuestS x.gs (show x.gs.length + sizeAll wG x.gs ≤ 1048576 by omega), capz_IntS x.outs (show x.outs.length + sizeAll rInt x.outs ≤ 1048576 by omega), trivial⟩
theorem tcntz_Bare (x : bT) : wB.tcnt x ≤ 16 * wB.size x := by
  have h0 : cntAll (rLsw rInt) x.mem ≤ 16 * (x.mem.length + sizeAll (rLsw rInt) x.mem) := cntz_IntSS x.mem
  have h1 : cntAll wG x.gs ≤ 16 * (x.gs.length + sizeAll wG x.gs) := cntz_GuestS x.gs
  have h2 : cntAll rInt x.outs ≤ 16 * (x.outs.length + sizeAll rInt x.outs) := cntz_IntS x.outs
  rw [tcnt_Bare, size_Bare]; omega
theorem kopens_Bare : Opens Try.prog wB 39 := opens_via (fun _ => rfl) (opens_struct Try.underlying39 (by kernel_rfl) (fields_cons kopens_IntSS rfl (by kernel_rfl) (fields_cons kopens_GuestS rfl (by kernel_rfl) (fields_cons kopens_IntS rfl (by kernel_rfl) (fields_one (opens_int Try.underlying3) rfl (by kernel_rfl))))))
theorem open_Bare {H : Type} {enc : TypeId × Value → H} {W : World} {base : Nat} {v : Value} {d : DataW H} {p : List MemPlace} (hval : Value.okWide Try.prog W .any base 39 v) (h : DataW.Trod enc Try.prog W 0 (fun _ => true) true 39 v d p) : ∃ (x : bT) (cs : List Value), v = .agg cs.toArray ∧ wB.wf x ∧ wB.rd W 0 W.heap.size x cs := open_struct Try.underlying39 kopens_Bare hval h
end Go.Proofs.Ytldgadmpclgfhaa.Kit
namespace Go.Proofs.Ytldgadmpclgfhaa.Addrs
set_option maxRecDepth 100000
open Go.ChangeShapes Go.WideShapes Go.ChangeAt Go.RowKit
open Go.Proofs.Ytldgadmpclgfhaa.Base
set_option linter.unusedVariables false
theorem range {x : Int} (h : (Lit.int .i64 x).wf = true) : -9223372036854775808 ≤ x ∧ x ≤ 9223372036854775807 := by
  have hm : IntKind.i64.min = -9223372036854775808 := by decide
  rw [← hm]; simpa [Lit.wf] using h
end Go.Proofs.Ytldgadmpclgfhaa.Addrs
namespace Go.Proofs.Ytldgadmpclgfhaa.Grid
set_option maxRecDepth 100000
open Go.ChangeShapes Go.WideShapes Go.ChangeAt Go.RowKit
open Go.Proofs.Ytldgadmpclgfhaa.Base Go.Proofs.Ytldgadmpclgfhaa.Mem Go.Proofs.Ytldgadmpclgfhaa.Ints
set_option linter.unusedVariables false
section
variable {P : Program}
end
/-- A source's cells as an append asks for them. -/
theorem Lies.src {w : World} {lo hi : Nat} {A : Option Addr} {cs : List Value} (h : Lies w lo hi A cs) : ∀ j u, cs[j]? = some u → ∃ ad, A = some ad ∧ w.cell? (ad.add j) = some u := fun j u hu => by
  obtain ⟨b, off, e, _, _, z⟩ := h j u hu
  refine ⟨_, e, ?_⟩
  rw [Addr.add_lit]
  exact z
theorem ncells_one (l : List Int) : ∀ u ∈ ncells l, u.oneCell' = true := by
  intro u hu
  obtain ⟨b, _, rfl⟩ := List.mem_map.1 hu
  rfl
theorem ncells_set (l : List Int) (j : Nat) (v : Int) : (ncells l).set j (.int .i64 v) = ncells (l.set j v) := by
  simp [ncells, List.map_set]
theorem splice_all {α : Type} (L cs : List α) (h : cs.length = L.length) : splice L 0 cs = cs := by
  simp [splice, h]
theorem row_of_block {w : World} {base g n : Nat} {e : TypeId} {cs : List Value} (hg : w.heap[g]? = some (.cells cs.toArray e (0, 0))) (hb : base ≤ g) (hn : cs.length = n) (hm : n ≤ maxLen) : w.ownsRow base e 1 (.slice (some ⟨g, 0, none⟩) n n) n cs :=
  ⟨by omega, .inr ⟨g, n, cs.toArray, rfl, hb, hg, Nat.le_refl _, hm, by simp [hn], by rw [Nat.mul_one]; exact List.take_of_length_le (by simp [hn])⟩⟩
theorem block_of_row {w : World} {base g n : Nat} {e : TypeId} {cs : List Value} (h : w.ownsRow base e 1 (.slice (some ⟨g, 0, none⟩) n n) n cs) : ∃ cur : List Value, w.heap[g]? = some (.cells cur.toArray e (0, 0)) ∧ cur.length = n := by
  rcases h.2 with ⟨h', _⟩ | ⟨g', cap, cur, h', hb, hg, hnc, _, hcs, htake⟩
  · cases h'
  · injection h' with h1 h2 h3
    injection h1 with h1
    injection h1 with h1
    subst h1 h3
    exact ⟨cur.toList, by simpa using hg, by simpa using hcs⟩
end Go.Proofs.Ytldgadmpclgfhaa.Grid
namespace Go.Proofs.Ytldgadmpclgfhaa.Grid
set_option maxRecDepth 100000
open Go.ChangeShapes Go.WideShapes Go.ChangeAt Go.RowKit
open Go.Proofs.Ytldgadmpclgfhaa.Base Go.Proofs.Ytldgadmpclgfhaa.Mem Go.Proofs.Ytldgadmpclgfhaa.Ints
set_option linter.unusedVariables false
/-- A cell of a memory of one's own is written. -/
theorem OG.cell {w : World} {lo hi : Nat} {A : Option Addr} {M : List (List Int)} {hs : List Hd} (h : OG w lo hi A M hs) (hh : hi ≤ w.heap.size) (k j : Nat) (hk : k < M.length) (hj : j < M[k].length) :
    ∃ b off b' off' c, A = some ⟨b, off, none⟩ ∧ b < hi ∧ w.cell? ⟨b, off + k, none⟩ = some (.slice (some ⟨b', off', none⟩) M[k].length c) ∧ (∃ u, w.cell? ⟨b', off' + j, none⟩ = some u) ∧ w.frozen? ⟨b', off' + j, none⟩ = false ∧
      ∀ v : Int, OG (w.setCell ⟨b', off' + j, none⟩ (.int .i64 v)) lo hi A (M.set k (M[k].set j v)) hs ∧ Turned lo hi w (w.setCell ⟨b', off' + j, none⟩ (.int .i64 v)) := by
  obtain ⟨b, off, B, c, lo', hi', e, hb, hc, ho, hn⟩ := h.write hh k hk
  obtain ⟨b', off', rfl, x, y, c2⟩ := int_at ho.1 j hj
  refine ⟨b, off, b', off', c, e, hb, hc, ⟨_, c2⟩, ho.2 _ _ rfl (by rw [ncells_len]; omega) _, fun v => ?_⟩
  have h1 := ho.set j (.int .i64 v)
  rw [ncells_set] at h1
  exact hn _ _ (by simp) h1 ((Turned.refl lo' hi' w).setCell x y _)
end Go.Proofs.Ytldgadmpclgfhaa.Grid
namespace Go.Proofs.Ytldgadmpclgfhaa.Grid
set_option maxRecDepth 100000
open Go.ChangeShapes Go.WideShapes Go.ChangeAt Go.RowKit
open Go.Proofs.Ytldgadmpclgfhaa.Base Go.Proofs.Ytldgadmpclgfhaa.Mem Go.Proofs.Ytldgadmpclgfhaa.Ints
set_option linter.unusedVariables false
def SameP {α : Type} [DecidableEq α] (w : World) (l m : List α) (e : Ending) (w' : World) : Prop := e = .returned (.bool (decide (l = m))) ∧ ∃ q, w' = w.drewN q
section
variable {α : Type} [DecidableEq α] {w : World} {l m : List α}
theorem SameP.yes {P : Program} {f : FuncId} {args : Array Value} {w0 : World} (h : Calls P f args w0 (SameP w l m)) (e : l = m) : Calls P f args w0 fun e w' => e = .returned (.bool true) ∧ ∃ q, w' = w.drewN q :=
  h.mono fun e1 w' ⟨h1, h2⟩ => ⟨by rw [h1, decide_eq_true e], h2⟩
theorem SameP.no {P : Program} {f : FuncId} {args : Array Value} {w0 : World} (h : Calls P f args w0 (SameP w l m)) (e : l ≠ m) : Calls P f args w0 fun e w' => e = .returned (.bool false) ∧ ∃ q, w' = w.drewN q :=
  h.mono fun e1 w' ⟨h1, h2⟩ => ⟨by rw [h1, decide_eq_false e], h2⟩
/-- The world has drawn, and nothing else. -/
def Drawn (w w' : World) : Prop := ∃ q, w' = w.drewN q
theorem Drawn.cell {w' : World} (h : Drawn w w') (p : Addr) : w'.cell? p = w.cell? p := by
  obtain ⟨q, rfl⟩ := h
  rfl
theorem Drawn.lies {w' : World} (h : Drawn w w') {lo hi : Nat} {A : Option Addr} {cs : List Value} (k : Lies w lo hi A cs) : Lies w' lo hi A cs := by
  obtain ⟨q, rfl⟩ := h
  exact k
theorem Drawn.more {w' : World} (h : Drawn w w') (r : Nat) : Drawn w (w'.drewN (1 + r)) := by
  obtain ⟨q, rfl⟩ := h
  exact ⟨q + (1 + r), World.drewN_drewN ..⟩
end
end Go.Proofs.Ytldgadmpclgfhaa.Grid
