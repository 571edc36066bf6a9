/-
  At every argument the law FnExactGuestAt returns true: the project's GuestAt answers as the given model's GuestAt, changes no argument, and what it returns is its own. No condition.
-/
import Derived.Test.YtldgadmpclgfhaaKGuestAtB2
import Derived.Deep.Cut
import Derived.Test.YtldgadmpclgfhaaRows
import Derived.WalkKit
import Derived.ProofKit
import Derived.OpenShut
import Derived.Laws.CopyOwn
import Derived.Maps.AppendAt
namespace Go.Proofs.Ytldgadmpclgfhaa.Kit
set_option maxRecDepth 100000
open Go.ChangeShapes Go.WideShapes Go.ChangeAt Go.RowKit Go.Deep
open Go.Proofs.Ytldgadmpclgfhaa.Base Go.Proofs.Ytldgadmpclgfhaa.Mem Go.Proofs.Ytldgadmpclgfhaa.Data Go.Proofs.Ytldgadmpclgfhaa.Stt Go.Proofs.Ytldgadmpclgfhaa.Guests Go.Proofs.Ytldgadmpclgfhaa.Ctls Go.Proofs.Ytldgadmpclgfhaa.Exits
set_option linter.unusedVariables false
set_option linter.unusedSimpArgs false
/-- A reference machine. -/
structure bT where
  mem : List (List Int)
  gs : List gT
  outs : List Int
  pd : Int
/-- How a bT lies in memory. -/
def wB : Rp bT := rVia (rPair ((rLsw (rLsw rInt))) (rPair ((rLsw wG)) (rPair ((rLsw rInt)) (rInt)))) (fun g => (g.mem, g.gs, g.outs, g.pd)) (fun k => ⟨k.1, k.2.1, k.2.2.1, k.2.2.2⟩)
theorem wB_rd {w : World} {lo hi : Nat} {g : bT} {cs : List Value} (h : wB.rd w lo hi g cs) : ∃ P0 P1 P2, cs = [P0, P1, P2, .int .i64 g.pd] ∧ ((rLsw (rLsw rInt))).rd w lo hi g.mem [P0] ∧ ((rLsw wG)).rd w lo hi g.gs [P1] ∧ ((rLsw rInt)).rd w lo hi g.outs [P2] := by
  obtain ⟨c0, s0, rfl, h0, g0⟩ := h
  obtain ⟨P0, rfl⟩ := lst_rd h0
  obtain ⟨c1, s1, rfl, h1, g1⟩ := g0
  obtain ⟨P1, rfl⟩ := lst_rd h1
  obtain ⟨c2, s2, rfl, h2, g2⟩ := g1
  obtain ⟨P2, rfl⟩ := lst_rd h2
  obtain rfl := show _ = _ from g2
  exact ⟨P0, P1, P2, by simp, h0, h1, h2⟩
theorem wB_own {w : World} {lo hi : Nat} {g : bT} {cs : List Value} {F : List Nat} (h : wB.own w lo hi g cs F) : ∃ P0 P1 P2 F0 F1 F2, cs = [P0, P1, P2, .int .i64 g.pd] ∧ F = F0 ++ (F1 ++ F2) ∧ ((rLsw (rLsw rInt))).own w lo hi g.mem [P0] F0 ∧ ((rLsw wG)).own w lo hi g.gs [P1] F1 ∧ ((rLsw rInt)).own w lo hi g.outs [P2] F2 := by
  obtain ⟨c0, s0, G0, H0, rfl, rfl, h0, g0⟩ := h
  obtain ⟨P0, rfl⟩ := lsw_own h0
  obtain ⟨c1, s1, G1, H1, rfl, rfl, h1, g1⟩ := g0
  obtain ⟨P1, rfl⟩ := lsw_own h1
  obtain ⟨c2, s2, G2, H2, rfl, rfl, h2, g2⟩ := g1
  obtain ⟨P2, rfl⟩ := lsw_own h2
  obtain ⟨rfl, rfl⟩ := g2
  exact ⟨P0, P1, P2, G0, G1, G2, by simp, by simp, h0, h1, h2⟩
theorem wB_own_mk {w : World} {lo hi : Nat} {g : bT} {P0 P1 P2 : Value} {F0 F1 F2 : List Nat} (h0 : ((rLsw (rLsw rInt))).own w lo hi g.mem [P0] F0) (h1 : ((rLsw wG)).own w lo hi g.gs [P1] F1) (h2 : ((rLsw rInt)).own w lo hi g.outs [P2] F2) : wB.own w lo hi g [P0, P1, P2, .int .i64 g.pd] (F0 ++ (F1 ++ F2)) := by
  have h : wB.own w lo hi g [P0, P1, P2, .int .i64 g.pd] _ := ⟨[_], _, F0, _, rfl, rfl, h0, ⟨[_], _, F1, _, rfl, rfl, h1, ⟨[_], _, F2, _, rfl, rfl, h2, ⟨rfl, rfl⟩⟩⟩⟩
  simpa using h
theorem wB_shut {w0 w : World} {g : bT} {L : List Res} {P0 P1 P2 : Value} {F0 F1 F2 : List Nat} {l0 k0 l1 k1 l2 k2 : Nat} (S : St w0 w L) (i0 : Nat) (e0 : L[i0]? = some (ow (rLsw (rLsw rInt)) l0 k0 g.mem [P0] F0)) (i1 : Nat) (e1 : L[i1]? = some (ow (rLsw wG) l1 k1 g.gs [P1] F1)) (i2 : Nat) (e2 : L[i2]? = some (ow (rLsw rInt) l2 k2 g.outs [P2] F2)) (n01 : i0 ≠ i1) (n02 : i0 ≠ i2) (n12 : i1 ≠ i2) : wB.own w w0.heap.size w.heap.size g [P0, P1, P2, .int .i64 g.pd] (F0 ++ (F1 ++ F2)) ∧ (F0 ++ (F1 ++ F2)).Nodup := by
  refine ⟨wB_own_mk (S.own i0 e0) (S.own i1 e1) (S.own i2 e2), ?_⟩
  exact (nodup_app (S.nodup i0 e0) (nodup_app (S.nodup i1 e1) (S.nodup i2 e2) (fun k hk => (S.disj i1 i2 e1 e2 n12 k hk))) (fun k hk => (not_app (S.disj i0 i1 e0 e1 n01 k hk) (S.disj i0 i2 e0 e2 n02 k hk))))
theorem wB_open2 {w0 w : World} {lo hi : Nat} {g : bT} {cs : List Value} {F : List Nat} {T : List Res} (S : St w0 w (ow wB lo hi g cs F :: T)) : ∃ P0 P1 P2 F0 F1 F2, cs = [P0, P1, P2, .int .i64 g.pd] ∧ F = F0 ++ (F1 ++ F2) ∧ St w0 w (ow (rLsw (rLsw rInt)) lo hi g.mem [P0] F0 :: ow (rLsw wG) lo hi g.gs [P1] F1 :: ow (rLsw rInt) lo hi g.outs [P2] F2 :: T) := by
  obtain ⟨hown, hnd⟩ := S.at_ 0 rfl
  have hl := S.lo 0 _ rfl
  have hh := S.hi 0 _ rfl
  obtain ⟨P0, P1, P2, F0, F1, F2, rfl, rfl, q0, q1, q2⟩ := wB_own hown
  obtain ⟨m0, n0, d0⟩ := List.nodup_append.1 hnd
  obtain ⟨m1, n1, d1⟩ := List.nodup_append.1 n0
  have m2 := n1
  refine ⟨P0, P1, P2, F0, F1, F2, rfl, rfl, S.parts [ow (rLsw (rLsw rInt)) lo hi g.mem [P0] F0, ow (rLsw wG) lo hi g.gs [P1] F1, ow (rLsw rInt) lo hi g.outs [P2] F2] ?_ ?_⟩
  · intro s hs
    simp only [List.mem_cons, List.not_mem_nil, or_false] at hs
    rcases hs with rfl | rfl | rfl
    · exact ⟨⟨q0, m0⟩, fun k hk => ⟨by simp [hk.1], hk.2⟩, hl, hh⟩
    · exact ⟨⟨q1, m1⟩, fun k hk => ⟨by simp [hk.1], hk.2⟩, hl, hh⟩
    · exact ⟨⟨q2, m2⟩, fun k hk => ⟨by simp [hk.1], hk.2⟩, hl, hh⟩
  · simp only [List.pairwise_cons, List.mem_cons, List.not_mem_nil, or_false, forall_eq_or_imp, forall_eq, List.Pairwise.nil, and_true, false_implies, implies_true, ow]
    exact ⟨⟨(fun k hk hk' => d0 k hk.1 k (by simp [hk'.1]) rfl), (fun k hk hk' => d0 k hk.1 k (by simp [hk'.1]) rfl)⟩, (fun k hk hk' => d1 k hk.1 k (by simp [hk'.1]) rfl)⟩
theorem wB_shut2 {w0 w : World} {lo hi : Nat} {g : bT} {P0 P1 P2 : Value} {F0 F1 F2 : List Nat} {T : List Res} (S : St w0 w (ow (rLsw (rLsw rInt)) lo hi g.mem [P0] F0 :: ow (rLsw wG) lo hi g.gs [P1] F1 :: ow (rLsw rInt) lo hi g.outs [P2] F2 :: T)) : St w0 w (ow wB lo hi g [P0, P1, P2, .int .i64 g.pd] (F0 ++ (F1 ++ F2)) :: T) := by
  have hnd := (wB_shut (g := g) S 0 rfl 1 rfl 2 rfl (by decide) (by decide) (by decide)).2
  refine Sx.St.merge (rs := [ow (rLsw (rLsw rInt)) lo hi g.mem [P0] F0, ow (rLsw wG) lo hi g.gs [P1] F1, ow (rLsw rInt) lo hi g.outs [P2] F2]) S (ow wB lo hi g [P0, P1, P2, .int .i64 g.pd] (F0 ++ (F1 ++ F2))) ⟨wB_own_mk (S.at_ 0 rfl).1 (S.at_ 1 rfl).1 (S.at_ 2 rfl).1, hnd⟩ (fun k hk => ?_) (S.lo 0 _ rfl : w0.heap.size ≤ lo) (S.hi 0 _ rfl : hi ≤ w.heap.size)
  obtain ⟨hk, hb⟩ := hk
  simp only [List.mem_append] at hk
  rcases hk with h | h | h
  · exact ⟨_, List.mem_cons_self, h, hb⟩
  · exact ⟨_, List.mem_cons_of_mem _ (List.mem_cons_self), h, hb⟩
  · exact ⟨_, List.mem_cons_of_mem _ (List.mem_cons_of_mem _ (List.mem_cons_self)), h, hb⟩
theorem tcnt_Bare (g : bT) : wB.tcnt g = cntAll (rLsw rInt) g.mem + cntAll wG g.gs + cntAll rInt g.outs := by simp only [wB, rVia, rPair, rInt, rBool, rLsw]; omega
theorem size_Bare (g : bT) : wB.size g = (g.mem.length + sizeAll (rLsw rInt) g.mem) + (g.gs.length + sizeAll wG g.gs) + (g.outs.length + sizeAll rInt g.outs) := by simp only [wB, rVia, rPair, rInt, rBool, rLsw]; omega
set_option maxRecDepth 100000 in
set_option maxHeartbeats 4000000 in
theorem keq_Bare (x : bT) (cs ds : List Value) (w : World) (hc : wB.cap x) (h : wB.rd w 0 w.heap.size x cs) (j : wB.rd w 0 w.heap.size x ds) : Calls Try.prog 13 #[.agg cs.toArray, .agg ds.toArray] w (fun e w' => e = .returned (.bool true) ∧ Below w.heap.size w w') := by
  obtain ⟨hcap0, hcap1, hcap2, hcap3⟩ := hc
  have hR := h
  obtain ⟨hP0, hP1, hP2, rfl, hf0, hf1, hf2⟩ := wB_rd h
  obtain ⟨hA0, hK0, he0, -⟩ := lst_val hf0
  subst he0
  obtain ⟨hA1, hK1, he1, -⟩ := lst_val hf1
  subst he1
  obtain ⟨hA2, hK2, he2, -⟩ := lst_val hf2
  subst he2
  have jR := j
  obtain ⟨jP0, jP1, jP2, rfl, jf0, jf1, jf2⟩ := wB_rd j
  obtain ⟨jA0, jK0, je0, -⟩ := lst_val jf0
  subst je0
  obtain ⟨jA1, jK1, je1, -⟩ := lst_val jf1
  subst je1
  obtain ⟨jA2, jK2, je2, -⟩ := lst_val jf2
  subst je2
  refine Sx.enter (args := [.agg #[.slice hA0 x.mem.length hK0, .slice hA1 x.gs.length hK1, .slice hA2 x.outs.length hK2, .int .i64 x.pd], .agg #[.slice jA0 x.mem.length jK0, .slice jA1 x.gs.length jK1, .slice jA2 x.outs.length jK2, .int .i64 x.pd]]) Try.func13 rfl Try.ntmps13 rfl ?_
  refine Sx.C.seq ?_
  refine Sx.C.region ?_
  refine Sx.G.box 28 (.tmp 0) [.slice hA0 x.mem.length hK0, .slice hA1 x.gs.length hK1, .slice hA2 x.outs.length hK2, .int .i64 x.pd] rfl (by kernel_rfl) (by kernel_rfl) (fun b1 => ?_)
  refine Sx.G.box 28 (.tmp 1) [.slice jA0 x.mem.length jK0, .slice jA1 x.gs.length jK1, .slice jA2 x.outs.length jK2, .int .i64 x.pd] rfl (by kernel_rfl) (by kernel_rfl) (fun b2 => ?_)
  refine Sx.G.pure (.bool false) (by kernel_rfl) (fun w => by kernel_rfl) ?_
  refine Sx.G.nil ?_
  refine Sx.E.next ?_
  refine Sx.C.seq ?_
  refine Sx.C.seq ?_
  refine Sx.C.region ?_
  refine Sx.G.pure (.pointer (some ⟨b1, 0, none⟩)) (by kernel_rfl) (fun w => by kernel_rfl) ?_
  refine Sx.G.ld1 24 (.tmp 5) b1 0 1 [.slice hA0 x.mem.length hK0, .slice hA1 x.gs.length hK1, .slice hA2 x.outs.length hK2, .int .i64 x.pd] (.slice hA0 x.mem.length hK0) rfl (by kernel_rfl) (by kernel_rfl) rfl (by kernel_rfl) (by kernel_rfl) ?_
  refine Sx.G.pure (.pointer (some ⟨b2, 0, none⟩)) (by kernel_rfl) (fun w => by kernel_rfl) ?_
  refine Sx.G.ld1 24 (.tmp 7) b2 0 0 [.slice jA0 x.mem.length jK0, .slice jA1 x.gs.length jK1, .slice jA2 x.outs.length jK2, .int .i64 x.pd] (.slice jA0 x.mem.length jK0) rfl (by kernel_rfl) (by kernel_rfl) rfl (by kernel_rfl) (by kernel_rfl) ?_
  refine Sx.G.plain 41 #[.slice hA0 x.mem.length hK0, .slice jA0 x.mem.length jK0] (.bool true) (by kernel_rfl) (fun w => by kernel_rfl) (fun w S => by exact Kit.keq_IntSS x.mem hA0 hK0 jA0 jK0 _ hcap0 (St.old (r := (rLsw (rLsw rInt))) S hf0) (St.old (r := (rLsw (rLsw rInt))) S jf0)) ?_
  refine Sx.G.pure (.bool false) (by kernel_rfl) (fun w => by kernel_rfl) ?_
  refine Sx.G.nil ?_
  refine Sx.E.next ?_
  refine Sx.C.no (by kernel_rfl) (by kernel_rfl) ?_
  refine Sx.C.skip ?_
  refine Sx.E.next ?_
  refine Sx.C.seq ?_
  refine Sx.C.seq ?_
  refine Sx.C.region ?_
  refine Sx.G.pure (.pointer (some ⟨b1, 1, none⟩)) (by kernel_rfl) (fun w => by kernel_rfl) ?_
  refine Sx.G.ld1 25 (.tmp 11) b1 1 1 [.slice hA0 x.mem.length hK0, .slice hA1 x.gs.length hK1, .slice hA2 x.outs.length hK2, .int .i64 x.pd] (.slice hA1 x.gs.length hK1) rfl (by kernel_rfl) (by kernel_rfl) rfl (by kernel_rfl) (by kernel_rfl) ?_
  refine Sx.G.pure (.pointer (some ⟨b2, 1, none⟩)) (by kernel_rfl) (fun w => by kernel_rfl) ?_
  refine Sx.G.ld1 25 (.tmp 13) b2 1 0 [.slice jA0 x.mem.length jK0, .slice jA1 x.gs.length jK1, .slice jA2 x.outs.length jK2, .int .i64 x.pd] (.slice jA1 x.gs.length jK1) rfl (by kernel_rfl) (by kernel_rfl) rfl (by kernel_rfl) (by kernel_rfl) ?_
  refine Sx.G.plain 42 #[.slice hA1 x.gs.length hK1, .slice jA1 x.gs.length jK1] (.bool true) (by kernel_rfl) (fun w => by kernel_rfl) (fun w S => by exact Kit.keq_GuestS x.gs hA1 hK1 jA1 jK1 _ hcap1 (St.old (r := (rLsw wG)) S hf1) (St.old (r := (rLsw wG)) S jf1)) ?_
  refine Sx.G.pure (.bool false) (by kernel_rfl) (fun w => by kernel_rfl) ?_
  refine Sx.G.nil ?_
  refine Sx.E.next ?_
  refine Sx.C.no (by kernel_rfl) (by kernel_rfl) ?_
  refine Sx.C.skip ?_
  refine Sx.E.next ?_
  refine Sx.C.seq ?_
  refine Sx.C.seq ?_
  refine Sx.C.region ?_
  refine Sx.G.pure (.pointer (some ⟨b1, 2, none⟩)) (by kernel_rfl) (fun w => by kernel_rfl) ?_
  refine Sx.G.ld1 26 (.tmp 17) b1 2 1 [.slice hA0 x.mem.length hK0, .slice hA1 x.gs.length hK1, .slice hA2 x.outs.length hK2, .int .i64 x.pd] (.slice hA2 x.outs.length hK2) rfl (by kernel_rfl) (by kernel_rfl) rfl (by kernel_rfl) (by kernel_rfl) ?_
  refine Sx.G.pure (.pointer (some ⟨b2, 2, none⟩)) (by kernel_rfl) (fun w => by kernel_rfl) ?_
  refine Sx.G.ld1 26 (.tmp 19) b2 2 0 [.slice jA0 x.mem.length jK0, .slice jA1 x.gs.length jK1, .slice jA2 x.outs.length jK2, .int .i64 x.pd] (.slice jA2 x.outs.length jK2) rfl (by kernel_rfl) (by kernel_rfl) rfl (by kernel_rfl) (by kernel_rfl) ?_
  refine Sx.G.plain 43 #[.slice hA2 x.outs.length hK2, .slice jA2 x.outs.length jK2] (.bool true) (by kernel_rfl) (fun w => by kernel_rfl) (fun w S => by exact Kit.keq_IntS x.outs hA2 hK2 jA2 jK2 _ hcap2 (St.old (r := (rLsw rInt)) S hf2) (St.old (r := (rLsw rInt)) S jf2)) ?_
  refine Sx.G.pure (.bool false) (by kernel_rfl) (fun w => by kernel_rfl) ?_
  refine Sx.G.nil ?_
  refine Sx.E.next ?_
  refine Sx.C.no (by kernel_rfl) (by kernel_rfl) ?_
  refine Sx.C.skip ?_
  refine Sx.E.next ?_
  refine Sx.C.seq ?_
  refine Sx.C.seq ?_
  refine Sx.C.region ?_
  refine Sx.G.pure (.pointer (some ⟨b1, 3, none⟩)) (by kernel_rfl) (fun w => by kernel_rfl) ?_
  refine Sx.G.ld1 3 (.tmp 23) b1 3 1 [.slice hA0 x.mem.length hK0, .slice hA1 x.gs.length hK1, .slice hA2 x.outs.length hK2, .int .i64 x.pd] (.int .i64 x.pd) rfl (by kernel_rfl) (by kernel_rfl) rfl (by kernel_rfl) (by kernel_rfl) ?_
  refine Sx.G.pure (.pointer (some ⟨b2, 3, none⟩)) (by kernel_rfl) (fun w => by kernel_rfl) ?_
  refine Sx.G.ld1 3 (.tmp 25) b2 3 0 [.slice jA0 x.mem.length jK0, .slice jA1 x.gs.length jK1, .slice jA2 x.outs.length jK2, .int .i64 x.pd] (.int .i64 x.pd) rfl (by kernel_rfl) (by kernel_rfl) rfl (by kernel_rfl) (by kernel_rfl) ?_
  refine Sx.G.pureq (.bool (x.pd != x.pd)) (.bool false) (by kernel_rfl) (fun w => by kernel_rfl) (congrArg Value.bool (bne_self_eq_false _)) ?_
  refine Sx.G.nil ?_
  refine Sx.E.next ?_
  refine Sx.C.no (by kernel_rfl) (by kernel_rfl) ?_
  refine Sx.C.skip ?_
  refine Sx.E.next ?_
  refine Sx.C.seq ?_
  refine Sx.C.region ?_
  refine Sx.G.pure (.bool true) (by kernel_rfl) (fun w => by kernel_rfl) ?_
  refine Sx.G.nil ?_
  refine Sx.E.next ?_
  refine Sx.C.ret ?_
  refine Sx.E.ret1 (.bool true) rfl (by kernel_rfl) (fun w S => ?_)
  exact ⟨rfl, S.below⟩
set_option maxRecDepth 100000 in
set_option maxHeartbeats 4000000 in
theorem ksz_Bare (x : bT) (cs : List Value) (left : Int) (w : World) (hw : wB.wf x) (h0 : 0 ≤ left) (h1 : left ≤ 1048576) (h : wB.rd w 0 w.heap.size x cs) : Calls Try.prog 18 #[.agg cs.toArray, .int .i64 left] w (fun e w' => ∃ l, e = .returned (.int .i64 l) ∧ Kit.Sz left (wB.size x) l ∧ Below w.heap.size w w') := by
  obtain ⟨hwf0, hwf1, hwf2, hwf3⟩ := hw
  have hR := h
  obtain ⟨hP0, hP1, hP2, rfl, hf0, hf1, hf2⟩ := wB_rd h
  obtain ⟨hA0, hK0, he0, -⟩ := lst_val hf0
  subst he0
  obtain ⟨hA1, hK1, he1, -⟩ := lst_val hf1
  subst he1
  obtain ⟨hA2, hK2, he2, -⟩ := lst_val hf2
  subst he2
  refine Sx.enter (args := [.agg #[.slice hA0 x.mem.length hK0, .slice hA1 x.gs.length hK1, .slice hA2 x.outs.length hK2, .int .i64 x.pd], .int .i64 left]) Try.func18 rfl Try.ntmps18 rfl ?_
  refine Sx.C.seq ?_
  refine Sx.C.region ?_
  refine Sx.G.box 39 (.tmp 0) [.slice hA0 x.mem.length hK0, .slice hA1 x.gs.length hK1, .slice hA2 x.outs.length hK2, .int .i64 x.pd] rfl (by kernel_rfl) (by kernel_rfl) (fun b1 => ?_)
  refine Sx.G.pure (.int .i64 0) (by kernel_rfl) (fun w => by kernel_rfl) ?_
  refine Sx.G.nil ?_
  refine Sx.E.next ?_
  refine Sx.C.seq ?_
  refine Sx.C.region ?_
  refine Sx.G.pure (.pointer (some ⟨b1, 0, none⟩)) (by kernel_rfl) (fun w => by kernel_rfl) ?_
  refine Sx.G.ld1 24 (.tmp 5) b1 0 0 [.slice hA0 x.mem.length hK0, .slice hA1 x.gs.length hK1, .slice hA2 x.outs.length hK2, .int .i64 x.pd] (.slice hA0 x.mem.length hK0) rfl (by kernel_rfl) (by kernel_rfl) rfl (by kernel_rfl) (by kernel_rfl) ?_
  refine Sx.G.pure (.int .i64 left) (by kernel_rfl) (fun w => by kernel_rfl) ?_
  refine Sx.G.call 52 #[.slice hA0 x.mem.length hK0, .int .i64 left] (by kernel_rfl) (fun w => by kernel_rfl) (fun w2 S => (Kit.ksz_IntSS x.mem hA0 hK0 left _ hwf0 (by omega) (by omega) (St.old (r := (rLsw (rLsw rInt))) S hf0)).mono fun e w2' hp => ?_)
  obtain ⟨l2, rfl, hz2, hb⟩ := hp
  replace hz2 : Kit.Sz left (x.mem.length + sizeAll (rLsw rInt) x.mem) l2 := hz2
  unfold Kit.Sz at hz2
  refine ⟨_, _, rfl, (S.call hb), ?_⟩
  clear S hb
  refine Sx.G.pure (.int .i64 l2) (by kernel_rfl) (fun w => by kernel_rfl) ?_
  refine Sx.G.nil ?_
  refine Sx.E.next ?_
  refine Sx.C.seq ?_
  refine Sx.C.seq ?_
  refine Sx.C.region ?_
  refine Sx.G.pure (.int .i64 l2) (by kernel_rfl) (fun w => by kernel_rfl) ?_
  refine Sx.G.pure (.bool (decide (l2 < 0))) (by kernel_rfl) (fun w => by kernel_rfl) ?_
  refine Sx.G.nil ?_
  refine Sx.E.next ?_
  cases hc3 : (decide (l2 < 0))
  · have hb3 := hc3
    replace hc3 := of_decide_eq_false hc3
    refine Sx.C.no (by kernel_rfl) (by kernel_rfl) ?_
    refine Sx.C.skip ?_
    refine Sx.E.next ?_
    refine Sx.C.seq ?_
    refine Sx.C.region ?_
    refine Sx.G.pure (.pointer (some ⟨b1, 1, none⟩)) (by kernel_rfl) (fun w => by kernel_rfl) ?_
    refine Sx.G.ld1 37 (.tmp 11) b1 1 0 [.slice hA0 x.mem.length hK0, .slice hA1 x.gs.length hK1, .slice hA2 x.outs.length hK2, .int .i64 x.pd] (.slice hA1 x.gs.length hK1) rfl (by kernel_rfl) (by kernel_rfl) rfl (by kernel_rfl) (by kernel_rfl) ?_
    refine Sx.G.pure (.int .i64 l2) (by kernel_rfl) (fun w => by kernel_rfl) ?_
    refine Sx.G.call 53 #[.slice hA1 x.gs.length hK1, .int .i64 l2] (by kernel_rfl) (fun w => by kernel_rfl) (fun w4 S => (Kit.ksz_GuestS x.gs hA1 hK1 l2 _ hwf1 (by omega) (by omega) (St.old (r := (rLsw wG)) S hf1)).mono fun e w4' hp => ?_)
    obtain ⟨l4, rfl, hz4, hb⟩ := hp
    replace hz4 : Kit.Sz l2 (x.gs.length + sizeAll wG x.gs) l4 := hz4
    unfold Kit.Sz at hz4
    refine ⟨_, _, rfl, (S.call hb), ?_⟩
    clear S hb
    refine Sx.G.pure (.int .i64 l4) (by kernel_rfl) (fun w => by kernel_rfl) ?_
    refine Sx.G.nil ?_
    refine Sx.E.next ?_
    refine Sx.C.seq ?_
    refine Sx.C.seq ?_
    refine Sx.C.region ?_
    refine Sx.G.pure (.int .i64 l4) (by kernel_rfl) (fun w => by kernel_rfl) ?_
    refine Sx.G.pure (.bool (decide (l4 < 0))) (by kernel_rfl) (fun w => by kernel_rfl) ?_
    refine Sx.G.nil ?_
    refine Sx.E.next ?_
    cases hc5 : (decide (l4 < 0))
    · have hb5 := hc5
      replace hc5 := of_decide_eq_false hc5
      refine Sx.C.no (by kernel_rfl) (by kernel_rfl) ?_
      refine Sx.C.skip ?_
      refine Sx.E.next ?_
      refine Sx.C.seq ?_
      refine Sx.C.region ?_
      refine Sx.G.pure (.pointer (some ⟨b1, 2, none⟩)) (by kernel_rfl) (fun w => by kernel_rfl) ?_
      refine Sx.G.ld1 26 (.tmp 17) b1 2 0 [.slice hA0 x.mem.length hK0, .slice hA1 x.gs.length hK1, .slice hA2 x.outs.length hK2, .int .i64 x.pd] (.slice hA2 x.outs.length hK2) rfl (by kernel_rfl) (by kernel_rfl) rfl (by kernel_rfl) (by kernel_rfl) ?_
      refine Sx.G.pure (.int .i64 l4) (by kernel_rfl) (fun w => by kernel_rfl) ?_
      refine Sx.G.call 54 #[.slice hA2 x.outs.length hK2, .int .i64 l4] (by kernel_rfl) (fun w => by kernel_rfl) (fun w6 S => (Kit.ksz_IntS x.outs hA2 hK2 l4 _ hwf2 (by omega) (by omega) (St.old (r := (rLsw rInt)) S hf2)).mono fun e w6' hp => ?_)
      obtain ⟨l6, rfl, hz6, hb⟩ := hp
      replace hz6 : Kit.Sz l4 (x.outs.length + sizeAll rInt x.outs) l6 := hz6
      unfold Kit.Sz at hz6
      refine ⟨_, _, rfl, (S.call hb), ?_⟩
      clear S hb
      refine Sx.G.pure (.int .i64 l6) (by kernel_rfl) (fun w => by kernel_rfl) ?_
      refine Sx.G.nil ?_
      refine Sx.E.next ?_
      refine Sx.C.seq ?_
      refine Sx.C.seq ?_
      refine Sx.C.region ?_
      refine Sx.G.pure (.int .i64 l6) (by kernel_rfl) (fun w => by kernel_rfl) ?_
      refine Sx.G.pure (.bool (decide (l6 < 0))) (by kernel_rfl) (fun w => by kernel_rfl) ?_
      refine Sx.G.nil ?_
      refine Sx.E.next ?_
      cases hc7 : (decide (l6 < 0))
      · have hb7 := hc7
        replace hc7 := of_decide_eq_false hc7
        refine Sx.C.no (by kernel_rfl) (by kernel_rfl) ?_
        refine Sx.C.skip ?_
        refine Sx.E.next ?_
        refine Sx.C.seq ?_
        refine Sx.C.region ?_
        refine Sx.G.pure (.int .i64 l6) (by kernel_rfl) (fun w => by kernel_rfl) ?_
        refine Sx.G.pure (.int .i64 l6) (by kernel_rfl) (fun w => by kernel_rfl) ?_
        refine Sx.G.nil ?_
        refine Sx.E.next ?_
        refine Sx.C.ret ?_
        refine Sx.E.ret1 (.int .i64 l6) rfl (by kernel_rfl) (fun w S => ?_)
        exact ⟨_, rfl, by unfold Kit.Sz; rw [size_Bare]; omega, S.below⟩
      · have hb7 := hc7
        replace hc7 := of_decide_eq_true hc7
        refine Sx.C.yes (by kernel_rfl) (by kernel_rfl) ?_
        refine Sx.C.seq ?_
        refine Sx.C.region ?_
        refine Sx.G.pure (.int .i64 (-1)) (by kernel_rfl) (fun w => by kernel_rfl) ?_
        refine Sx.G.nil ?_
        refine Sx.E.next ?_
        refine Sx.C.ret ?_
        refine Sx.E.then_ret ?_
        refine Sx.E.ret1 (.int .i64 (-1)) rfl (by kernel_rfl) (fun w S => ?_)
        exact ⟨_, rfl, by unfold Kit.Sz; rw [size_Bare]; omega, S.below⟩
    · have hb5 := hc5
      replace hc5 := of_decide_eq_true hc5
      refine Sx.C.yes (by kernel_rfl) (by kernel_rfl) ?_
      refine Sx.C.seq ?_
      refine Sx.C.region ?_
      refine Sx.G.pure (.int .i64 (-1)) (by kernel_rfl) (fun w => by kernel_rfl) ?_
      refine Sx.G.nil ?_
      refine Sx.E.next ?_
      refine Sx.C.ret ?_
      refine Sx.E.then_ret ?_
      refine Sx.E.ret1 (.int .i64 (-1)) rfl (by kernel_rfl) (fun w S => ?_)
      exact ⟨_, rfl, by unfold Kit.Sz; rw [size_Bare]; omega, S.below⟩
  · have hb3 := hc3
    replace hc3 := of_decide_eq_true hc3
    refine Sx.C.yes (by kernel_rfl) (by kernel_rfl) ?_
    refine Sx.C.seq ?_
    refine Sx.C.region ?_
    refine Sx.G.pure (.int .i64 (-1)) (by kernel_rfl) (fun w => by kernel_rfl) ?_
    refine Sx.G.nil ?_
    refine Sx.E.next ?_
    refine Sx.C.ret ?_
    refine Sx.E.then_ret ?_
    refine Sx.E.ret1 (.int .i64 (-1)) rfl (by kernel_rfl) (fun w S => ?_)
    exact ⟨_, rfl, by unfold Kit.Sz; rw [size_Bare]; omega, S.below⟩
set_option maxRecDepth 100000 in
set_option maxHeartbeats 4000000 in
theorem kto_Bare (x : bT) (cs : List Value) (w : World) (hc : wB.cap x) (h : wB.rd w 0 w.heap.size x cs) : Calls Try.prog 20 #[.agg cs.toArray] w (Gives wB w x) := by
  obtain ⟨hcap0, hcap1, hcap2, hcap3⟩ := hc
  have hR := h
  obtain ⟨hP0, hP1, hP2, rfl, hf0, hf1, hf2⟩ := wB_rd h
  obtain ⟨hA0, hK0, he0, -⟩ := lst_val hf0
  subst he0
  obtain ⟨hA1, hK1, he1, -⟩ := lst_val hf1
  subst he1
  obtain ⟨hA2, hK2, he2, -⟩ := lst_val hf2
  subst he2
  refine Sx.enter (args := [.agg #[.slice hA0 x.mem.length hK0, .slice hA1 x.gs.length hK1, .slice hA2 x.outs.length hK2, .int .i64 x.pd]]) Try.func20 rfl Try.ntmps20 rfl ?_
  refine Sx.C.seq ?_
  refine Sx.C.region ?_
  refine Sx.G.box 39 (.tmp 0) [.slice hA0 x.mem.length hK0, .slice hA1 x.gs.length hK1, .slice hA2 x.outs.length hK2, .int .i64 x.pd] rfl (by kernel_rfl) (by kernel_rfl) (fun b1 => ?_)
  refine Sx.G.alloc 28 (.agg #[.slice none 0 0, .slice none 0 0, .slice none 0 0, .int .i64 0]) [.slice none 0 0, .slice none 0 0, .slice none 0 0, .int .i64 0] rfl (by kernel_rfl) (fun w => by kernel_rfl) (by kernel_rfl) (fun b2 => ?_)
  refine Sx.G.nil ?_
  refine Sx.E.next ?_
  refine Sx.C.seq ?_
  refine Sx.C.region ?_
  refine Sx.G.alloc 28 (.agg #[.slice none 0 0, .slice none 0 0, .slice none 0 0, .int .i64 0]) [.slice none 0 0, .slice none 0 0, .slice none 0 0, .int .i64 0] rfl (by kernel_rfl) (fun w => by kernel_rfl) (by kernel_rfl) (fun b3 => ?_)
  refine Sx.G.nil ?_
  refine Sx.E.next ?_
  refine Sx.C.seq ?_
  refine Sx.C.region ?_
  refine Sx.G.pure (.pointer (some ⟨b1, 0, none⟩)) (by kernel_rfl) (fun w => by kernel_rfl) ?_
  refine Sx.G.ld1 24 (.tmp 4) b1 0 2 [.slice hA0 x.mem.length hK0, .slice hA1 x.gs.length hK1, .slice hA2 x.outs.length hK2, .int .i64 x.pd] (.slice hA0 x.mem.length hK0) rfl (by kernel_rfl) (by kernel_rfl) rfl (by kernel_rfl) (by kernel_rfl) ?_
  refine Sx.G.call 59 #[.slice hA0 x.mem.length hK0] (by kernel_rfl) (fun w => by kernel_rfl) (fun w4 S => (Kit.kto_IntSS x.mem hA0 hK0 _ hcap0 (St.old (r := (rLsw (rLsw rInt))) S hf0)).mono fun e w4' hp => ?_)
  obtain ⟨cs, F, rfl, ho, hF, hb⟩ := hp
  obtain ⟨u4, rfl⟩ := lsw_own ho
  obtain ⟨A4, c4, e4, -⟩ := lst_val ((St.got S hb ho hF).reads 0 rfl)
  subst e4
  generalize F = F4 at ho hF
  refine ⟨_, _, rfl, (St.got S hb ho hF), ?_⟩
  clear S hb ho hF
  refine Sx.G.pure (.pointer (some ⟨b3, 0, none⟩)) (by kernel_rfl) (fun w => by kernel_rfl) ?_
  refine Sx.G.sto 24 (.tmp 7) (.tmp 6) b3 0 1 [.slice none 0 0, .slice none 0 0, .slice none 0 0, .int .i64 0] [.slice A4 x.mem.length c4] [.slice A4 x.mem.length c4, .slice none 0 0, .slice none 0 0, .int .i64 0] [ow (rLsw (rLsw rInt)) w4.heap.size w4'.heap.size x.mem [.slice A4 x.mem.length c4] F4, vr b3 [.slice A4 x.mem.length c4, .slice none 0 0, .slice none 0 0, .int .i64 0], vr b2 [.slice none 0 0, .slice none 0 0, .slice none 0 0, .int .i64 0], vr b1 [.slice hA0 x.mem.length hK0, .slice hA1 x.gs.length hK1, .slice hA2 x.outs.length hK2, .int .i64 x.pd]] rfl (by kernel_rfl) (by kernel_rfl) (by kernel_rfl) rfl (by kernel_rfl) rfl (by kernel_rfl) (by kernel_rfl) (by kernel_rfl) ?_
  refine Sx.G.nil ?_
  refine Sx.E.next ?_
  refine Sx.C.seq ?_
  refine Sx.C.region ?_
  refine Sx.G.pure (.pointer (some ⟨b1, 1, none⟩)) (by kernel_rfl) (fun w => by kernel_rfl) ?_
  refine Sx.G.ld1 37 (.tmp 8) b1 1 3 [.slice hA0 x.mem.length hK0, .slice hA1 x.gs.length hK1, .slice hA2 x.outs.length hK2, .int .i64 x.pd] (.slice hA1 x.gs.length hK1) rfl (by kernel_rfl) (by kernel_rfl) rfl (by kernel_rfl) (by kernel_rfl) ?_
  refine Sx.G.call 60 #[.slice hA1 x.gs.length hK1] (by kernel_rfl) (fun w => by kernel_rfl) (fun w5 S => (Kit.kto_GuestS x.gs hA1 hK1 _ hcap1 (St.old (r := (rLsw wG)) S hf1)).mono fun e w5' hp => ?_)
  obtain ⟨cs, F, rfl, ho, hF, hb⟩ := hp
  obtain ⟨u5, rfl⟩ := lsw_own ho
  obtain ⟨A5, c5, e5, -⟩ := lst_val ((St.got S hb ho hF).reads 0 rfl)
  subst e5
  generalize F = F5 at ho hF
  refine ⟨_, _, rfl, (St.got S hb ho hF), ?_⟩
  clear S hb ho hF
  refine Sx.G.pure (.pointer (some ⟨b3, 1, none⟩)) (by kernel_rfl) (fun w => by kernel_rfl) ?_
  refine Sx.G.sto 25 (.tmp 11) (.tmp 10) b3 1 2 [.slice A4 x.mem.length c4, .slice none 0 0, .slice none 0 0, .int .i64 0] [.slice A5 x.gs.length c5] [.slice A4 x.mem.length c4, .slice A5 x.gs.length c5, .slice none 0 0, .int .i64 0] [ow (rLsw wG) w5.heap.size w5'.heap.size x.gs [.slice A5 x.gs.length c5] F5, ow (rLsw (rLsw rInt)) w4.heap.size w4'.heap.size x.mem [.slice A4 x.mem.length c4] F4, vr b3 [.slice A4 x.mem.length c4, .slice A5 x.gs.length c5, .slice none 0 0, .int .i64 0], vr b2 [.slice none 0 0, .slice none 0 0, .slice none 0 0, .int .i64 0], vr b1 [.slice hA0 x.mem.length hK0, .slice hA1 x.gs.length hK1, .slice hA2 x.outs.length hK2, .int .i64 x.pd]] rfl (by kernel_rfl) (by kernel_rfl) (by kernel_rfl) rfl (by kernel_rfl) rfl (by kernel_rfl) (by kernel_rfl) (by kernel_rfl) ?_
  refine Sx.G.nil ?_
  refine Sx.E.next ?_
  refine Sx.C.seq ?_
  refine Sx.C.region ?_
  refine Sx.G.pure (.pointer (some ⟨b1, 2, none⟩)) (by kernel_rfl) (fun w => by kernel_rfl) ?_
  refine Sx.G.ld1 26 (.tmp 12) b1 2 4 [.slice hA0 x.mem.length hK0, .slice hA1 x.gs.length hK1, .slice hA2 x.outs.length hK2, .int .i64 x.pd] (.slice hA2 x.outs.length hK2) rfl (by kernel_rfl) (by kernel_rfl) rfl (by kernel_rfl) (by kernel_rfl) ?_
  refine Sx.G.call 61 #[.slice hA2 x.outs.length hK2] (by kernel_rfl) (fun w => by kernel_rfl) (fun w6 S => (Kit.kto_IntS x.outs hA2 hK2 _ hcap2 (St.old (r := (rLsw rInt)) S hf2)).mono fun e w6' hp => ?_)
  obtain ⟨cs, F, rfl, ho, hF, hb⟩ := hp
  obtain ⟨u6, rfl⟩ := lsw_own ho
  obtain ⟨A6, c6, e6, -⟩ := lst_val ((St.got S hb ho hF).reads 0 rfl)
  subst e6
  generalize F = F6 at ho hF
  refine ⟨_, _, rfl, (St.got S hb ho hF), ?_⟩
  clear S hb ho hF
  refine Sx.G.pure (.pointer (some ⟨b3, 2, none⟩)) (by kernel_rfl) (fun w => by kernel_rfl) ?_
  refine Sx.G.sto 26 (.tmp 15) (.tmp 14) b3 2 3 [.slice A4 x.mem.length c4, .slice A5 x.gs.length c5, .slice none 0 0, .int .i64 0] [.slice A6 x.outs.length c6] [.slice A4 x.mem.length c4, .slice A5 x.gs.length c5, .slice A6 x.outs.length c6, .int .i64 0] [ow (rLsw rInt) w6.heap.size w6'.heap.size x.outs [.slice A6 x.outs.length c6] F6, ow (rLsw wG) w5.heap.size w5'.heap.size x.gs [.slice A5 x.gs.length c5] F5, ow (rLsw (rLsw rInt)) w4.heap.size w4'.heap.size x.mem [.slice A4 x.mem.length c4] F4, vr b3 [.slice A4 x.mem.length c4, .slice A5 x.gs.length c5, .slice A6 x.outs.length c6, .int .i64 0], vr b2 [.slice none 0 0, .slice none 0 0, .slice none 0 0, .int .i64 0], vr b1 [.slice hA0 x.mem.length hK0, .slice hA1 x.gs.length hK1, .slice hA2 x.outs.length hK2, .int .i64 x.pd]] rfl (by kernel_rfl) (by kernel_rfl) (by kernel_rfl) rfl (by kernel_rfl) rfl (by kernel_rfl) (by kernel_rfl) (by kernel_rfl) ?_
  refine Sx.G.nil ?_
  refine Sx.E.next ?_
  refine Sx.C.seq ?_
  refine Sx.C.region ?_
  refine Sx.G.pure (.pointer (some ⟨b1, 3, none⟩)) (by kernel_rfl) (fun w => by kernel_rfl) ?_
  refine Sx.G.ld1 3 (.tmp 16) b1 3 5 [.slice hA0 x.mem.length hK0, .slice hA1 x.gs.length hK1, .slice hA2 x.outs.length hK2, .int .i64 x.pd] (.int .i64 x.pd) rfl (by kernel_rfl) (by kernel_rfl) rfl (by kernel_rfl) (by kernel_rfl) ?_
  refine Sx.G.pure (.pointer (some ⟨b3, 3, none⟩)) (by kernel_rfl) (fun w => by kernel_rfl) ?_
  refine Sx.G.sto 3 (.tmp 18) (.tmp 17) b3 3 3 [.slice A4 x.mem.length c4, .slice A5 x.gs.length c5, .slice A6 x.outs.length c6, .int .i64 0] [.int .i64 x.pd] [.slice A4 x.mem.length c4, .slice A5 x.gs.length c5, .slice A6 x.outs.length c6, .int .i64 x.pd] [ow (rLsw rInt) w6.heap.size w6'.heap.size x.outs [.slice A6 x.outs.length c6] F6, ow (rLsw wG) w5.heap.size w5'.heap.size x.gs [.slice A5 x.gs.length c5] F5, ow (rLsw (rLsw rInt)) w4.heap.size w4'.heap.size x.mem [.slice A4 x.mem.length c4] F4, vr b3 [.slice A4 x.mem.length c4, .slice A5 x.gs.length c5, .slice A6 x.outs.length c6, .int .i64 x.pd], vr b2 [.slice none 0 0, .slice none 0 0, .slice none 0 0, .int .i64 0], vr b1 [.slice hA0 x.mem.length hK0, .slice hA1 x.gs.length hK1, .slice hA2 x.outs.length hK2, .int .i64 x.pd]] rfl (by kernel_rfl) (by kernel_rfl) (by kernel_rfl) rfl (by kernel_rfl) rfl (by kernel_rfl) (by kernel_rfl) (by kernel_rfl) ?_
  refine Sx.G.nil ?_
  refine Sx.E.next ?_
  refine Sx.C.seq ?_
  refine Sx.C.region ?_
  refine Sx.G.ld 28 (.tmp 3) b3 0 3 [.slice A4 x.mem.length c4, .slice A5 x.gs.length c5, .slice A6 x.outs.length c6, .int .i64 x.pd] [.slice A4 x.mem.length c4, .slice A5 x.gs.length c5, .slice A6 x.outs.length c6, .int .i64 x.pd] rfl (by kernel_rfl) (by kernel_rfl) rfl (by kernel_rfl) (by kernel_rfl) (by kernel_rfl) ?_
  refine Sx.G.sto 28 (.tmp 2) (.tmp 19) b2 0 4 [.slice none 0 0, .slice none 0 0, .slice none 0 0, .int .i64 0] [.slice A4 x.mem.length c4, .slice A5 x.gs.length c5, .slice A6 x.outs.length c6, .int .i64 x.pd] [.slice A4 x.mem.length c4, .slice A5 x.gs.length c5, .slice A6 x.outs.length c6, .int .i64 x.pd] [ow (rLsw rInt) w6.heap.size w6'.heap.size x.outs [.slice A6 x.outs.length c6] F6, ow (rLsw wG) w5.heap.size w5'.heap.size x.gs [.slice A5 x.gs.length c5] F5, ow (rLsw (rLsw rInt)) w4.heap.size w4'.heap.size x.mem [.slice A4 x.mem.length c4] F4, vr b3 [.slice A4 x.mem.length c4, .slice A5 x.gs.length c5, .slice A6 x.outs.length c6, .int .i64 x.pd], vr b2 [.slice A4 x.mem.length c4, .slice A5 x.gs.length c5, .slice A6 x.outs.length c6, .int .i64 x.pd], vr b1 [.slice hA0 x.mem.length hK0, .slice hA1 x.gs.length hK1, .slice hA2 x.outs.length hK2, .int .i64 x.pd]] rfl (by kernel_rfl) (by kernel_rfl) (by kernel_rfl) rfl (by kernel_rfl) rfl (by kernel_rfl) (by kernel_rfl) (by kernel_rfl) ?_
  refine Sx.G.nil ?_
  refine Sx.E.next ?_
  refine Sx.C.ret ?_
  refine Sx.E.retc b2 4 [.slice A4 x.mem.length c4, .slice A5 x.gs.length c5, .slice A6 x.outs.length c6, .int .i64 x.pd] rfl (by kernel_rfl) rfl (by kernel_rfl) (by kernel_rfl) (fun w S => ?_)
  obtain ⟨ho, hF⟩ := wB_shut (g := x) S 2 rfl 1 rfl 0 rfl (by decide) (by decide) (by decide)
  exact ⟨_, _, rfl, ho, hF, S.below⟩
set_option maxRecDepth 100000 in
set_option maxHeartbeats 4000000 in
theorem kmk0_Bare {w0 w : World} {lo hi : Nat} {R : List Res} (x : bT) (cs : List Value) (k : Nat) (F : List Nat) (hc : wB.cap x) (hk : k + wB.tcnt x ≤ 1000000000000) (S : St w0 w (ow wB lo hi x cs F :: R)) : Calls Try.prog 16 #[.agg cs.toArray, .int .i64 ((k : Nat) : Int)] w fun e w' => e = .returned (.int .i64 ((k + wB.tcnt x : Nat) : Int)) ∧ St w0 w' (ow wB lo hi (wB.top k x) cs F :: R) := by
  rw [tcnt_Bare] at hk
  obtain ⟨hcap0, hcap1, hcap2, hcap3⟩ := hc
  obtain ⟨P0, P1, P2, F0, F1, F2, rfl, rfl, S1⟩ := wB_open2 S
  obtain ⟨A0, c0, e0, -⟩ := lst_val (S1.reads 0 rfl)
  subst e0
  obtain ⟨A1, c1, e1, -⟩ := lst_val (S1.reads 1 rfl)
  subst e1
  obtain ⟨A2, c2, e2, -⟩ := lst_val (S1.reads 2 rfl)
  subst e2
  refine Sx.enterS (args := [.agg #[.slice A0 x.mem.length c0, .slice A1 x.gs.length c1, .slice A2 x.outs.length c2, .int .i64 x.pd], .int .i64 ((k : Nat) : Int)]) S1 Try.func16 rfl Try.ntmps16 rfl ?_
  refine Sx.C.seq ?_
  refine Sx.C.region ?_
  refine Sx.G.box 28 (.tmp 0) [.slice A0 x.mem.length c0, .slice A1 x.gs.length c1, .slice A2 x.outs.length c2, .int .i64 x.pd] rfl (by kernel_rfl) (by kernel_rfl) (fun b1 => ?_)
  refine Sx.G.pure (.int .i64 0) (by kernel_rfl) (fun w => by kernel_rfl) ?_
  refine Sx.G.nil ?_
  refine Sx.E.next ?_
  refine Sx.C.seq ?_
  refine Sx.C.region ?_
  refine Sx.G.pure (.pointer (some ⟨b1, 0, none⟩)) (by kernel_rfl) (fun w => by kernel_rfl) ?_
  refine Sx.G.ld1 24 (.tmp 5) b1 0 0 [.slice A0 x.mem.length c0, .slice A1 x.gs.length c1, .slice A2 x.outs.length c2, .int .i64 x.pd] (.slice A0 x.mem.length c0) rfl (by kernel_rfl) (by kernel_rfl) rfl (by kernel_rfl) (by kernel_rfl) ?_
  refine Sx.G.pure (.int .i64 ((k : Nat) : Int)) (by kernel_rfl) (fun w => by kernel_rfl) ?_
  obtain ⟨q2, hq2⟩ : ∃ q', q' = k + cntAll (rLsw rInt) x.mem := ⟨_, rfl⟩
  refine Sx.G.call 46 #[.slice A0 x.mem.length c0, .int .i64 ((k : Nat) : Int)] (by kernel_rfl) (fun w => by kernel_rfl) (fun w2 S => (Kit.kmk_IntSS x.mem A0 c0 k _ hcap0 (by omega) S 1 rfl).mono fun e w2' hp => ?_)
  rw [← hq2] at hp
  obtain ⟨rfl, S'⟩ := hp
  refine ⟨_, _, rfl, S', ?_⟩
  clear S S'
  refine Sx.G.pure (.int .i64 ((q2 : Nat) : Int)) (by kernel_rfl) (fun w => by kernel_rfl) ?_
  refine Sx.G.nil ?_
  refine Sx.E.next ?_
  refine Sx.C.seq ?_
  refine Sx.C.region ?_
  refine Sx.G.pure (.pointer (some ⟨b1, 1, none⟩)) (by kernel_rfl) (fun w => by kernel_rfl) ?_
  refine Sx.G.ld1 25 (.tmp 9) b1 1 0 [.slice A0 x.mem.length c0, .slice A1 x.gs.length c1, .slice A2 x.outs.length c2, .int .i64 x.pd] (.slice A1 x.gs.length c1) rfl (by kernel_rfl) (by kernel_rfl) rfl (by kernel_rfl) (by kernel_rfl) ?_
  refine Sx.G.pure (.int .i64 ((q2 : Nat) : Int)) (by kernel_rfl) (fun w => by kernel_rfl) ?_
  obtain ⟨q3, hq3⟩ : ∃ q', q' = q2 + cntAll wG x.gs := ⟨_, rfl⟩
  refine Sx.G.call 47 #[.slice A1 x.gs.length c1, .int .i64 ((q2 : Nat) : Int)] (by kernel_rfl) (fun w => by kernel_rfl) (fun w3 S => (Kit.kmk_GuestS x.gs A1 c1 q2 _ hcap1 (by omega) S 2 rfl).mono fun e w3' hp => ?_)
  rw [← hq3] at hp
  obtain ⟨rfl, S'⟩ := hp
  refine ⟨_, _, rfl, S', ?_⟩
  clear S S'
  refine Sx.G.pure (.int .i64 ((q3 : Nat) : Int)) (by kernel_rfl) (fun w => by kernel_rfl) ?_
  refine Sx.G.nil ?_
  refine Sx.E.next ?_
  refine Sx.C.seq ?_
  refine Sx.C.region ?_
  refine Sx.G.pure (.pointer (some ⟨b1, 2, none⟩)) (by kernel_rfl) (fun w => by kernel_rfl) ?_
  refine Sx.G.ld1 26 (.tmp 13) b1 2 0 [.slice A0 x.mem.length c0, .slice A1 x.gs.length c1, .slice A2 x.outs.length c2, .int .i64 x.pd] (.slice A2 x.outs.length c2) rfl (by kernel_rfl) (by kernel_rfl) rfl (by kernel_rfl) (by kernel_rfl) ?_
  refine Sx.G.pure (.int .i64 ((q3 : Nat) : Int)) (by kernel_rfl) (fun w => by kernel_rfl) ?_
  obtain ⟨q4, hq4⟩ : ∃ q', q' = q3 + cntAll rInt x.outs := ⟨_, rfl⟩
  refine Sx.G.call 48 #[.slice A2 x.outs.length c2, .int .i64 ((q3 : Nat) : Int)] (by kernel_rfl) (fun w => by kernel_rfl) (fun w4 S => (Kit.kmk_IntS x.outs A2 c2 q3 _ hcap2 (by omega) S 3 rfl).mono fun e w4' hp => ?_)
  rw [← hq4] at hp
  obtain ⟨rfl, S'⟩ := hp
  refine ⟨_, _, rfl, S', ?_⟩
  clear S S'
  refine Sx.G.pure (.int .i64 ((q4 : Nat) : Int)) (by kernel_rfl) (fun w => by kernel_rfl) ?_
  refine Sx.G.nil ?_
  refine Sx.E.next ?_
  refine Sx.C.seq ?_
  refine Sx.C.region ?_
  refine Sx.G.pure (.int .i64 ((q4 : Nat) : Int)) (by kernel_rfl) (fun w => by kernel_rfl) ?_
  refine Sx.G.pure (.int .i64 ((q4 : Nat) : Int)) (by kernel_rfl) (fun w => by kernel_rfl) ?_
  refine Sx.G.nil ?_
  refine Sx.E.next ?_
  refine Sx.C.ret ?_
  refine Sx.E.ret1 (.int .i64 ((q4 : Nat) : Int)) rfl (by kernel_rfl) (fun w S => ?_)
  replace S := Sx.St.tail S
  subst hq4
  subst hq3
  subst hq2
  refine ⟨by rw [tcnt_Bare]; simp only [Nat.add_assoc], wB_shut2 (g := wB.top k x) ?_⟩
  simp only [wB, rVia, rPair, rInt, rBool, rLsw, Nat.add_zero, Nat.zero_add]
  first | exact S | (simp only [Nat.add_assoc] at S ⊢; exact S)
theorem kmk_Bare {w0 w : World} {lo hi : Nat} {L : List Res} (x : bT) (cs : List Value) (k : Nat) (F : List Nat) (hc : wB.cap x) (hk : k + wB.tcnt x ≤ 1000000000000) (S : St w0 w L) (i : Nat) (hi' : L[i]? = some (ow wB lo hi x cs F)) : Calls Try.prog 16 #[.agg cs.toArray, .int .i64 ((k : Nat) : Int)] w fun e w' => e = .returned (.int .i64 ((k + wB.tcnt x : Nat) : Int)) ∧ St w0 w' (L.set i (ow wB lo hi (wB.top k x) cs F)) :=
  anywhere (fun R S => kmk0_Bare x cs k F hc hk S) S i hi'
end Go.Proofs.Ytldgadmpclgfhaa.Kit
namespace Go.Proofs.Ytldgadmpclgfhaa.Guests
set_option maxRecDepth 100000
open Go.ChangeShapes Go.WideShapes Go.ChangeAt Go.RowKit
open Go.Proofs.Ytldgadmpclgfhaa.Base Go.Proofs.Ytldgadmpclgfhaa.Mem Go.Proofs.Ytldgadmpclgfhaa.Slots Go.Proofs.Ytldgadmpclgfhaa.Data Go.Proofs.Ytldgadmpclgfhaa.Ints Go.Proofs.Ytldgadmpclgfhaa.Inss Go.Proofs.Ytldgadmpclgfhaa.Ctls Go.Proofs.Ytldgadmpclgfhaa.Exits Go.Proofs.Ytldgadmpclgfhaa.Part Go.Proofs.Ytldgadmpclgfhaa.Guests
open Go.Proofs.Ytldgadmpclgfhaa.Irqs
set_option linter.unusedVariables false
set_option linter.unusedSimpArgs false
theorem gR.with {w : World} {lo hi : Nat} {g h : gT} {P0 P1 P2 P3 : Value} (r : gR w lo hi g P0 P1 P2 P3) (e0 : h.prog = g.prog) (e1 : h.wr = g.wr) (e2 : h.lv = g.lv) (e3 : h.seen = g.seen) : gR w lo hi h P0 P1 P2 P3 :=
  ⟨by rw [e0]; exact r.r0, by rw [e1]; exact r.r1, by rw [e2]; exact r.r2, by rw [e3]; exact r.r3⟩
theorem gO.with {w : World} {lo hi : Nat} {g h : gT} {P0 P1 P2 P3 : Value} (r : gO w lo hi g P0 P1 P2 P3) (e0 : h.prog = g.prog) (e1 : h.wr = g.wr) (e2 : h.lv = g.lv) (e3 : h.seen = g.seen) : gO w lo hi h P0 P1 P2 P3 :=
  ⟨by rw [e0]; exact r.r0, by rw [e1]; exact r.r1, by rw [e2]; exact r.r2, by rw [e3]; exact r.r3, r.d01, r.d02, r.d03, r.d12, r.d13, r.d23⟩
theorem gO.far {w : World} {lo hi : Nat} {g : gT} {P0 P1 P2 P3 : Value} (r : gO w lo hi g P0 P1 P2 P3) {z : Nat} (hz : z < lo ∨ hi ≤ z) (i : Nat) (u : Value) : gO (w.setCell ⟨z, i, none⟩ u) lo hi g P0 P1 P2 P3 :=
  r.kept fun k h1 h2 => Below.heap_setCell w ⟨z, i, none⟩ u k (by show k ≠ z; omega)
end Go.Proofs.Ytldgadmpclgfhaa.Guests
namespace Go.Proofs.Ytldgadmpclgfhaa.BroughtW
set_option maxRecDepth 100000
open Go.ChangeShapes Go.WideShapes Go.ChangeAt Go.RowKit
/-- What both functions compute. -/
def brought (n l m : Int) : Int := if m < l ∨ n < l then l else if m < n then m else n
end Go.Proofs.Ytldgadmpclgfhaa.BroughtW
namespace Go.Proofs.Ytldgadmpclgfhaa.Guests
set_option maxRecDepth 100000
open Go.ChangeShapes Go.WideShapes Go.ChangeAt Go.RowKit
open Go.Proofs.Ytldgadmpclgfhaa.Base Go.Proofs.Ytldgadmpclgfhaa.Mem Go.Proofs.Ytldgadmpclgfhaa.Data Go.Proofs.Ytldgadmpclgfhaa.Slots Go.Proofs.Ytldgadmpclgfhaa.Ints Go.Proofs.Ytldgadmpclgfhaa.Ctls Go.Proofs.Ytldgadmpclgfhaa.Exits Go.Proofs.Ytldgadmpclgfhaa.Stt Go.Proofs.Ytldgadmpclgfhaa.Irqs
set_option linter.unusedVariables false
set_option linter.unusedSimpArgs false
theorem below_same {w w' : World} (h : w = w') : Below w.heap.size w w' := h ▸ Below.refl _ _
set_option maxRecDepth 100000 in
set_option maxHeartbeats 4000000 in
theorem specx_copy (g : gT) (cs : List Value) (w : World) (hc : rG.cap g) (h : rG.rd w 0 w.heap.size g cs) : Calls Try.prog 67 #[.agg cs.toArray] w (Gives rG w g) := by
  obtain ⟨q0, q1, q2, q3⟩ := rG_len hc
  have hr := h
  obtain ⟨P0, P1, P2, P3, rfl, h0, h1, h2, h3⟩ := rG_rd h
  obtain ⟨PA0, Pc0, e0, hP0⟩ := lst_val h0
  subst e0
  obtain ⟨PA1, Pc1, e1, hP1⟩ := lst_val h1
  subst e1
  obtain ⟨PA2, Pc2, e2, hP2⟩ := lst_val h2
  subst e2
  obtain ⟨PA3, Pc3, e3, hP3⟩ := lst_val h3
  subst e3
  refine Sx.enter (args := [.agg #[.slice PA0 g.prog.length Pc0, .int .i64 g.a, .int .i64 g.pc, .slice PA1 g.wr.length Pc1, .slice PA2 g.lv.length Pc2, .int .i64 g.t.1, .int .i64 g.t.2.1, .bool g.t.2.2, .int .i64 g.pd, .int .i64 g.x.1, .int .i64 g.x.2.1, .bool g.x.2.2.1, .int .i64 g.x.2.2.2, .bool g.hl, .slice PA3 g.seen.length Pc3]]) Try.func67 rfl Try.ntmps67 rfl ?_
  refine Sx.C.seq ?_
  refine Sx.C.region ?_
  refine Sx.G.box 51 (.tmp 0) [.slice PA0 g.prog.length Pc0, .int .i64 g.a, .int .i64 g.pc, .slice PA1 g.wr.length Pc1, .slice PA2 g.lv.length Pc2, .int .i64 g.t.1, .int .i64 g.t.2.1, .bool g.t.2.2, .int .i64 g.pd, .int .i64 g.x.1, .int .i64 g.x.2.1, .bool g.x.2.2.1, .int .i64 g.x.2.2.2, .bool g.hl, .slice PA3 g.seen.length Pc3] rfl (by kernel_rfl) (by kernel_rfl) (fun b1 => ?_)
  refine Sx.G.alloc 51 (.agg #[.slice none 0 0, .int .i64 0, .int .i64 0, .slice none 0 0, .slice none 0 0, .int .i64 0, .int .i64 0, .bool false, .int .i64 0, .int .i64 0, .int .i64 0, .bool false, .int .i64 0, .bool false, .slice none 0 0]) [.slice none 0 0, .int .i64 0, .int .i64 0, .slice none 0 0, .slice none 0 0, .int .i64 0, .int .i64 0, .bool false, .int .i64 0, .int .i64 0, .int .i64 0, .bool false, .int .i64 0, .bool false, .slice none 0 0] rfl (by kernel_rfl) (fun w => by kernel_rfl) (by kernel_rfl) (fun b2 => ?_)
  refine Sx.G.nil ?_
  refine Sx.E.next ?_
  refine Sx.C.seq ?_
  refine Sx.C.region ?_
  refine Sx.G.fresh 111 (rPair rInt rInt) (by kernel_rfl) (fun w => by kernel_rfl) (fun b3 hi3 => ?_)
  refine Sx.G.pure (.pointer (some ⟨b1, 0, none⟩)) (by kernel_rfl) (fun w => by kernel_rfl) ?_
  refine Sx.G.ld1 44 (.tmp 4) b1 0 2 [.slice PA0 g.prog.length Pc0, .int .i64 g.a, .int .i64 g.pc, .slice PA1 g.wr.length Pc1, .slice PA2 g.lv.length Pc2, .int .i64 g.t.1, .int .i64 g.t.2.1, .bool g.t.2.2, .int .i64 g.pd, .int .i64 g.x.1, .int .i64 g.x.2.1, .bool g.x.2.2.1, .int .i64 g.x.2.2.2, .bool g.hl, .slice PA3 g.seen.length Pc3] (.slice PA0 g.prog.length Pc0) rfl (by kernel_rfl) (by kernel_rfl) rfl (by kernel_rfl) (by kernel_rfl) ?_
  refine Sx.G.apps 0 rfl g.prog (fun w S => St.old S h0) (List.nil_append _) g.prog.length (by simp) flat_P2 (.tmp 3) (.tmp 5) 44 2 16 rfl rfl (by kernel_rfl) (by kernel_rfl) rfl (by kernel_rfl) (by kernel_rfl) (by simp only [maxLen, List.length_nil, List.length_cons]; omega) (by simp only [List.length_nil, List.length_cons]; omega) (fun A4 c4 F4 hi4 hm4 => ?_)
  refine Sx.G.pure (.pointer (some ⟨b1, 0, none⟩)) (by kernel_rfl) (fun w => by kernel_rfl) ?_
  refine Sx.G.sto 44 (.tmp 7) (.tmp 6) b1 0 2 [.slice PA0 g.prog.length Pc0, .int .i64 g.a, .int .i64 g.pc, .slice PA1 g.wr.length Pc1, .slice PA2 g.lv.length Pc2, .int .i64 g.t.1, .int .i64 g.t.2.1, .bool g.t.2.2, .int .i64 g.pd, .int .i64 g.x.1, .int .i64 g.x.2.1, .bool g.x.2.2.1, .int .i64 g.x.2.2.2, .bool g.hl, .slice PA3 g.seen.length Pc3] [.slice A4 g.prog.length c4] [.slice A4 g.prog.length c4, .int .i64 g.a, .int .i64 g.pc, .slice PA1 g.wr.length Pc1, .slice PA2 g.lv.length Pc2, .int .i64 g.t.1, .int .i64 g.t.2.1, .bool g.t.2.2, .int .i64 g.pd, .int .i64 g.x.1, .int .i64 g.x.2.1, .bool g.x.2.2.1, .int .i64 g.x.2.2.2, .bool g.hl, .slice PA3 g.seen.length Pc3] [ow (rLst 111 (rPair rInt rInt)) w.heap.size hi4 g.prog [.slice A4 g.prog.length c4] F4, vr b2 [.slice none 0 0, .int .i64 0, .int .i64 0, .slice none 0 0, .slice none 0 0, .int .i64 0, .int .i64 0, .bool false, .int .i64 0, .int .i64 0, .int .i64 0, .bool false, .int .i64 0, .bool false, .slice none 0 0], vr b1 [.slice A4 g.prog.length c4, .int .i64 g.a, .int .i64 g.pc, .slice PA1 g.wr.length Pc1, .slice PA2 g.lv.length Pc2, .int .i64 g.t.1, .int .i64 g.t.2.1, .bool g.t.2.2, .int .i64 g.pd, .int .i64 g.x.1, .int .i64 g.x.2.1, .bool g.x.2.2.1, .int .i64 g.x.2.2.2, .bool g.hl, .slice PA3 g.seen.length Pc3]] rfl (by kernel_rfl) (by kernel_rfl) (by kernel_rfl) rfl (by kernel_rfl) rfl (by kernel_rfl) (by kernel_rfl) (by kernel_rfl) ?_
  refine Sx.G.nil ?_
  refine Sx.E.next ?_
  refine Sx.C.seq ?_
  refine Sx.C.region ?_
  refine Sx.G.fresh 129 (rPair rInt rInt) (by kernel_rfl) (fun w => by kernel_rfl) (fun b5 hi5 => ?_)
  refine Sx.G.pure (.pointer (some ⟨b1, 3, none⟩)) (by kernel_rfl) (fun w => by kernel_rfl) ?_
  refine Sx.G.ld1 45 (.tmp 9) b1 3 3 [.slice A4 g.prog.length c4, .int .i64 g.a, .int .i64 g.pc, .slice PA1 g.wr.length Pc1, .slice PA2 g.lv.length Pc2, .int .i64 g.t.1, .int .i64 g.t.2.1, .bool g.t.2.2, .int .i64 g.pd, .int .i64 g.x.1, .int .i64 g.x.2.1, .bool g.x.2.2.1, .int .i64 g.x.2.2.2, .bool g.hl, .slice PA3 g.seen.length Pc3] (.slice PA1 g.wr.length Pc1) rfl (by kernel_rfl) (by kernel_rfl) rfl (by kernel_rfl) (by kernel_rfl) ?_
  refine Sx.G.apps 0 rfl g.wr (fun w S => St.old S h1) (List.nil_append _) g.wr.length (by simp) flat_P2 (.tmp 8) (.tmp 10) 45 2 16 rfl rfl (by kernel_rfl) (by kernel_rfl) rfl (by kernel_rfl) (by kernel_rfl) (by simp only [maxLen, List.length_nil, List.length_cons]; omega) (by simp only [List.length_nil, List.length_cons]; omega) (fun A6 c6 F6 hi6 hm6 => ?_)
  refine Sx.G.pure (.pointer (some ⟨b1, 3, none⟩)) (by kernel_rfl) (fun w => by kernel_rfl) ?_
  refine Sx.G.sto 45 (.tmp 12) (.tmp 11) b1 3 3 [.slice A4 g.prog.length c4, .int .i64 g.a, .int .i64 g.pc, .slice PA1 g.wr.length Pc1, .slice PA2 g.lv.length Pc2, .int .i64 g.t.1, .int .i64 g.t.2.1, .bool g.t.2.2, .int .i64 g.pd, .int .i64 g.x.1, .int .i64 g.x.2.1, .bool g.x.2.2.1, .int .i64 g.x.2.2.2, .bool g.hl, .slice PA3 g.seen.length Pc3] [.slice A6 g.wr.length c6] [.slice A4 g.prog.length c4, .int .i64 g.a, .int .i64 g.pc, .slice A6 g.wr.length c6, .slice PA2 g.lv.length Pc2, .int .i64 g.t.1, .int .i64 g.t.2.1, .bool g.t.2.2, .int .i64 g.pd, .int .i64 g.x.1, .int .i64 g.x.2.1, .bool g.x.2.2.1, .int .i64 g.x.2.2.2, .bool g.hl, .slice PA3 g.seen.length Pc3] [ow (rLst 129 (rPair rInt rInt)) w.heap.size hi6 g.wr [.slice A6 g.wr.length c6] F6, ow (rLst 111 (rPair rInt rInt)) w.heap.size hi4 g.prog [.slice A4 g.prog.length c4] F4, vr b2 [.slice none 0 0, .int .i64 0, .int .i64 0, .slice none 0 0, .slice none 0 0, .int .i64 0, .int .i64 0, .bool false, .int .i64 0, .int .i64 0, .int .i64 0, .bool false, .int .i64 0, .bool false, .slice none 0 0], vr b1 [.slice A4 g.prog.length c4, .int .i64 g.a, .int .i64 g.pc, .slice A6 g.wr.length c6, .slice PA2 g.lv.length Pc2, .int .i64 g.t.1, .int .i64 g.t.2.1, .bool g.t.2.2, .int .i64 g.pd, .int .i64 g.x.1, .int .i64 g.x.2.1, .bool g.x.2.2.1, .int .i64 g.x.2.2.2, .bool g.hl, .slice PA3 g.seen.length Pc3]] rfl (by kernel_rfl) (by kernel_rfl) (by kernel_rfl) rfl (by kernel_rfl) rfl (by kernel_rfl) (by kernel_rfl) (by kernel_rfl) ?_
  refine Sx.G.nil ?_
  refine Sx.E.next ?_
  refine Sx.C.seq ?_
  refine Sx.C.region ?_
  refine Sx.G.fresh 129 (rPair rInt rInt) (by kernel_rfl) (fun w => by kernel_rfl) (fun b7 hi7 => ?_)
  refine Sx.G.pure (.pointer (some ⟨b1, 4, none⟩)) (by kernel_rfl) (fun w => by kernel_rfl) ?_
  refine Sx.G.ld1 45 (.tmp 14) b1 4 4 [.slice A4 g.prog.length c4, .int .i64 g.a, .int .i64 g.pc, .slice A6 g.wr.length c6, .slice PA2 g.lv.length Pc2, .int .i64 g.t.1, .int .i64 g.t.2.1, .bool g.t.2.2, .int .i64 g.pd, .int .i64 g.x.1, .int .i64 g.x.2.1, .bool g.x.2.2.1, .int .i64 g.x.2.2.2, .bool g.hl, .slice PA3 g.seen.length Pc3] (.slice PA2 g.lv.length Pc2) rfl (by kernel_rfl) (by kernel_rfl) rfl (by kernel_rfl) (by kernel_rfl) ?_
  refine Sx.G.apps 0 rfl g.lv (fun w S => St.old S h2) (List.nil_append _) g.lv.length (by simp) flat_P2 (.tmp 13) (.tmp 15) 45 2 16 rfl rfl (by kernel_rfl) (by kernel_rfl) rfl (by kernel_rfl) (by kernel_rfl) (by simp only [maxLen, List.length_nil, List.length_cons]; omega) (by simp only [List.length_nil, List.length_cons]; omega) (fun A8 c8 F8 hi8 hm8 => ?_)
  refine Sx.G.pure (.pointer (some ⟨b1, 4, none⟩)) (by kernel_rfl) (fun w => by kernel_rfl) ?_
  refine Sx.G.sto 45 (.tmp 17) (.tmp 16) b1 4 4 [.slice A4 g.prog.length c4, .int .i64 g.a, .int .i64 g.pc, .slice A6 g.wr.length c6, .slice PA2 g.lv.length Pc2, .int .i64 g.t.1, .int .i64 g.t.2.1, .bool g.t.2.2, .int .i64 g.pd, .int .i64 g.x.1, .int .i64 g.x.2.1, .bool g.x.2.2.1, .int .i64 g.x.2.2.2, .bool g.hl, .slice PA3 g.seen.length Pc3] [.slice A8 g.lv.length c8] [.slice A4 g.prog.length c4, .int .i64 g.a, .int .i64 g.pc, .slice A6 g.wr.length c6, .slice A8 g.lv.length c8, .int .i64 g.t.1, .int .i64 g.t.2.1, .bool g.t.2.2, .int .i64 g.pd, .int .i64 g.x.1, .int .i64 g.x.2.1, .bool g.x.2.2.1, .int .i64 g.x.2.2.2, .bool g.hl, .slice PA3 g.seen.length Pc3] [ow (rLst 129 (rPair rInt rInt)) w.heap.size hi8 g.lv [.slice A8 g.lv.length c8] F8, ow (rLst 129 (rPair rInt rInt)) w.heap.size hi6 g.wr [.slice A6 g.wr.length c6] F6, ow (rLst 111 (rPair rInt rInt)) w.heap.size hi4 g.prog [.slice A4 g.prog.length c4] F4, vr b2 [.slice none 0 0, .int .i64 0, .int .i64 0, .slice none 0 0, .slice none 0 0, .int .i64 0, .int .i64 0, .bool false, .int .i64 0, .int .i64 0, .int .i64 0, .bool false, .int .i64 0, .bool false, .slice none 0 0], vr b1 [.slice A4 g.prog.length c4, .int .i64 g.a, .int .i64 g.pc, .slice A6 g.wr.length c6, .slice A8 g.lv.length c8, .int .i64 g.t.1, .int .i64 g.t.2.1, .bool g.t.2.2, .int .i64 g.pd, .int .i64 g.x.1, .int .i64 g.x.2.1, .bool g.x.2.2.1, .int .i64 g.x.2.2.2, .bool g.hl, .slice PA3 g.seen.length Pc3]] rfl (by kernel_rfl) (by kernel_rfl) (by kernel_rfl) rfl (by kernel_rfl) rfl (by kernel_rfl) (by kernel_rfl) (by kernel_rfl) ?_
  refine Sx.G.nil ?_
  refine Sx.E.next ?_
  refine Sx.C.seq ?_
  refine Sx.C.region ?_
  refine Sx.G.fresh 3 rInt (by kernel_rfl) (fun w => by kernel_rfl) (fun b9 hi9 => ?_)
  refine Sx.G.pure (.pointer (some ⟨b1, 14, none⟩)) (by kernel_rfl) (fun w => by kernel_rfl) ?_
  refine Sx.G.ld1 26 (.tmp 19) b1 14 5 [.slice A4 g.prog.length c4, .int .i64 g.a, .int .i64 g.pc, .slice A6 g.wr.length c6, .slice A8 g.lv.length c8, .int .i64 g.t.1, .int .i64 g.t.2.1, .bool g.t.2.2, .int .i64 g.pd, .int .i64 g.x.1, .int .i64 g.x.2.1, .bool g.x.2.2.1, .int .i64 g.x.2.2.2, .bool g.hl, .slice PA3 g.seen.length Pc3] (.slice PA3 g.seen.length Pc3) rfl (by kernel_rfl) (by kernel_rfl) rfl (by kernel_rfl) (by kernel_rfl) ?_
  refine Sx.G.apps 0 rfl g.seen (fun w S => St.old S h3) (List.nil_append _) g.seen.length (by simp) flat_int (.tmp 18) (.tmp 20) 26 1 8 rfl rfl (by kernel_rfl) (by kernel_rfl) rfl (by kernel_rfl) (by kernel_rfl) (by simp only [maxLen, List.length_nil, List.length_cons]; omega) (by simp only [List.length_nil, List.length_cons]; omega) (fun A10 c10 F10 hi10 hm10 => ?_)
  refine Sx.G.pure (.pointer (some ⟨b1, 14, none⟩)) (by kernel_rfl) (fun w => by kernel_rfl) ?_
  refine Sx.G.sto 26 (.tmp 22) (.tmp 21) b1 14 5 [.slice A4 g.prog.length c4, .int .i64 g.a, .int .i64 g.pc, .slice A6 g.wr.length c6, .slice A8 g.lv.length c8, .int .i64 g.t.1, .int .i64 g.t.2.1, .bool g.t.2.2, .int .i64 g.pd, .int .i64 g.x.1, .int .i64 g.x.2.1, .bool g.x.2.2.1, .int .i64 g.x.2.2.2, .bool g.hl, .slice PA3 g.seen.length Pc3] [.slice A10 g.seen.length c10] [.slice A4 g.prog.length c4, .int .i64 g.a, .int .i64 g.pc, .slice A6 g.wr.length c6, .slice A8 g.lv.length c8, .int .i64 g.t.1, .int .i64 g.t.2.1, .bool g.t.2.2, .int .i64 g.pd, .int .i64 g.x.1, .int .i64 g.x.2.1, .bool g.x.2.2.1, .int .i64 g.x.2.2.2, .bool g.hl, .slice A10 g.seen.length c10] [ow (rLst 3 rInt) w.heap.size hi10 g.seen [.slice A10 g.seen.length c10] F10, ow (rLst 129 (rPair rInt rInt)) w.heap.size hi8 g.lv [.slice A8 g.lv.length c8] F8, ow (rLst 129 (rPair rInt rInt)) w.heap.size hi6 g.wr [.slice A6 g.wr.length c6] F6, ow (rLst 111 (rPair rInt rInt)) w.heap.size hi4 g.prog [.slice A4 g.prog.length c4] F4, vr b2 [.slice none 0 0, .int .i64 0, .int .i64 0, .slice none 0 0, .slice none 0 0, .int .i64 0, .int .i64 0, .bool false, .int .i64 0, .int .i64 0, .int .i64 0, .bool false, .int .i64 0, .bool false, .slice none 0 0], vr b1 [.slice A4 g.prog.length c4, .int .i64 g.a, .int .i64 g.pc, .slice A6 g.wr.length c6, .slice A8 g.lv.length c8, .int .i64 g.t.1, .int .i64 g.t.2.1, .bool g.t.2.2, .int .i64 g.pd, .int .i64 g.x.1, .int .i64 g.x.2.1, .bool g.x.2.2.1, .int .i64 g.x.2.2.2, .bool g.hl, .slice A10 g.seen.length c10]] rfl (by kernel_rfl) (by kernel_rfl) (by kernel_rfl) rfl (by kernel_rfl) rfl (by kernel_rfl) (by kernel_rfl) (by kernel_rfl) ?_
  refine Sx.G.nil ?_
  refine Sx.E.next ?_
  refine Sx.C.seq ?_
  refine Sx.C.region ?_
  refine Sx.G.ld 51 (.tmp 1) b1 0 5 [.slice A4 g.prog.length c4, .int .i64 g.a, .int .i64 g.pc, .slice A6 g.wr.length c6, .slice A8 g.lv.length c8, .int .i64 g.t.1, .int .i64 g.t.2.1, .bool g.t.2.2, .int .i64 g.pd, .int .i64 g.x.1, .int .i64 g.x.2.1, .bool g.x.2.2.1, .int .i64 g.x.2.2.2, .bool g.hl, .slice A10 g.seen.length c10] [.slice A4 g.prog.length c4, .int .i64 g.a, .int .i64 g.pc, .slice A6 g.wr.length c6, .slice A8 g.lv.length c8, .int .i64 g.t.1, .int .i64 g.t.2.1, .bool g.t.2.2, .int .i64 g.pd, .int .i64 g.x.1, .int .i64 g.x.2.1, .bool g.x.2.2.1, .int .i64 g.x.2.2.2, .bool g.hl, .slice A10 g.seen.length c10] rfl (by kernel_rfl) (by kernel_rfl) rfl (by kernel_rfl) (by kernel_rfl) (by kernel_rfl) ?_
  refine Sx.G.sto 51 (.tmp 2) (.tmp 23) b2 0 4 [.slice none 0 0, .int .i64 0, .int .i64 0, .slice none 0 0, .slice none 0 0, .int .i64 0, .int .i64 0, .bool false, .int .i64 0, .int .i64 0, .int .i64 0, .bool false, .int .i64 0, .bool false, .slice none 0 0] [.slice A4 g.prog.length c4, .int .i64 g.a, .int .i64 g.pc, .slice A6 g.wr.length c6, .slice A8 g.lv.length c8, .int .i64 g.t.1, .int .i64 g.t.2.1, .bool g.t.2.2, .int .i64 g.pd, .int .i64 g.x.1, .int .i64 g.x.2.1, .bool g.x.2.2.1, .int .i64 g.x.2.2.2, .bool g.hl, .slice A10 g.seen.length c10] [.slice A4 g.prog.length c4, .int .i64 g.a, .int .i64 g.pc, .slice A6 g.wr.length c6, .slice A8 g.lv.length c8, .int .i64 g.t.1, .int .i64 g.t.2.1, .bool g.t.2.2, .int .i64 g.pd, .int .i64 g.x.1, .int .i64 g.x.2.1, .bool g.x.2.2.1, .int .i64 g.x.2.2.2, .bool g.hl, .slice A10 g.seen.length c10] [ow (rLst 3 rInt) w.heap.size hi10 g.seen [.slice A10 g.seen.length c10] F10, ow (rLst 129 (rPair rInt rInt)) w.heap.size hi8 g.lv [.slice A8 g.lv.length c8] F8, ow (rLst 129 (rPair rInt rInt)) w.heap.size hi6 g.wr [.slice A6 g.wr.length c6] F6, ow (rLst 111 (rPair rInt rInt)) w.heap.size hi4 g.prog [.slice A4 g.prog.length c4] F4, vr b2 [.slice A4 g.prog.length c4, .int .i64 g.a, .int .i64 g.pc, .slice A6 g.wr.length c6, .slice A8 g.lv.length c8, .int .i64 g.t.1, .int .i64 g.t.2.1, .bool g.t.2.2, .int .i64 g.pd, .int .i64 g.x.1, .int .i64 g.x.2.1, .bool g.x.2.2.1, .int .i64 g.x.2.2.2, .bool g.hl, .slice A10 g.seen.length c10], vr b1 [.slice A4 g.prog.length c4, .int .i64 g.a, .int .i64 g.pc, .slice A6 g.wr.length c6, .slice A8 g.lv.length c8, .int .i64 g.t.1, .int .i64 g.t.2.1, .bool g.t.2.2, .int .i64 g.pd, .int .i64 g.x.1, .int .i64 g.x.2.1, .bool g.x.2.2.1, .int .i64 g.x.2.2.2, .bool g.hl, .slice A10 g.seen.length c10]] rfl (by kernel_rfl) (by kernel_rfl) (by kernel_rfl) rfl (by kernel_rfl) rfl (by kernel_rfl) (by kernel_rfl) (by kernel_rfl) ?_
  refine Sx.G.nil ?_
  refine Sx.E.next ?_
  refine Sx.C.ret ?_
  refine Sx.E.retc b2 4 [.slice A4 g.prog.length c4, .int .i64 g.a, .int .i64 g.pc, .slice A6 g.wr.length c6, .slice A8 g.lv.length c8, .int .i64 g.t.1, .int .i64 g.t.2.1, .bool g.t.2.2, .int .i64 g.pd, .int .i64 g.x.1, .int .i64 g.x.2.1, .bool g.x.2.2.1, .int .i64 g.x.2.2.2, .bool g.hl, .slice A10 g.seen.length c10] rfl (by kernel_rfl) rfl (by kernel_rfl) (by kernel_rfl) (fun w S => ?_)
  obtain ⟨GW2, S⟩ := S.weak 2 rfl
  obtain ⟨GW1, S⟩ := S.weak 1 rfl
  obtain ⟨ho, hF⟩ := rG_shut (g := g) S 3 rfl 2 rfl 1 rfl 0 rfl (by decide) (by decide) (by decide) (by decide) (by decide) (by decide)
  exact ⟨_, _, rfl, ho, hF, S.below⟩
end Go.Proofs.Ytldgadmpclgfhaa.Guests
namespace Go.Proofs.Ytldgadmpclgfhaa.Sx
set_option maxRecDepth 100000
open Go.ChangeShapes Go.WideShapes Go.ChangeAt Go.RowKit Go.Deep
open Go.Proofs.Ytldgadmpclgfhaa.Base Go.Proofs.Ytldgadmpclgfhaa.Mem Go.Proofs.Ytldgadmpclgfhaa.Data Go.Proofs.Ytldgadmpclgfhaa.Stt
set_option linter.unusedVariables false
set_option linter.unusedSimpArgs false
section
variable {α : Type} {r : Rp α} {P : Program} {n : Nat} {ops : Array Oper} {Q : Exit → Act → World → Prop} {Z : World → Prop} {w0 : World} {T : Tl} {L L' : List Res} {rest : List Oper} {l : List Oper} {o : Oper} {t : Ord.Ot} {w : World}
theorem G.claims (h : ∀ w, St w0 w L → St w0 w L') (k : G P n ops Q w0 T L' rest) : G P n ops Q w0 T L rest := fun a w hA S => k a w hA (h w S)
theorem GT.claims (h : ∀ w, St w0 w L → St w0 w L') (k : GT P n ops Q Z w0 T L' t) : GT P n ops Q Z w0 T L t := fun a w hA S => k a w hA (h w S)
theorem Alone.claims {i : Nat} (h : ∀ w, St w0 w L → St w0 w L') (k : Alone P n ops Q Z w0 T L' i t) : Alone P n ops Q Z w0 T L i t := fun a w hA S => k a w hA (h w S)
theorem C.claims {c : Code} (h : ∀ w, St w0 w L → St w0 w L') (k : C P n Q w0 T L' c) : C P n Q w0 T L c := fun a w hA S => k a w hA (h w S)
theorem G.turn {ι : Type} {p : ι → Prop} (L' : ι → List Res) (h : ∀ w, St w0 w L → ∃ x, p x ∧ St w0 w (L' x)) (k : ∀ x, p x → G P n ops Q w0 T (L' x) rest) : G P n ops Q w0 T L rest := fun a w hA S => by
  obtain ⟨x, hp, S'⟩ := h w S
  exact k x hp a w hA S'
theorem GT.turn {ι : Type} {p : ι → Prop} (L' : ι → List Res) (h : ∀ w, St w0 w L → ∃ x, p x ∧ St w0 w (L' x)) (k : ∀ x, p x → GT P n ops Q Z w0 T (L' x) t) : GT P n ops Q Z w0 T L t := fun a w hA S => by
  obtain ⟨x, hp, S'⟩ := h w S
  exact k x hp a w hA S'
theorem G.know {p : Prop} (h : ∀ w, St w0 w L → p) (k : p → G P n ops Q w0 T L rest) : G P n ops Q w0 T L rest := fun a w hA S => k (h w S) a w hA S
theorem GT.know {p : Prop} (h : ∀ w, St w0 w L → p) (k : p → GT P n ops Q Z w0 T L t) : GT P n ops Q Z w0 T L t := fun a w hA S => k (h w S) a w hA S
theorem Alone.fresh {β : Type} {i : Nat} (e : TypeId) (q : Rp β) (ho : l[i]? = some o) (hc : chk n T l.toArray o = true) (hr : ∀ w : World, (execOp (ev T) o).run P w = .ok (.value (.slice (some ⟨w.heap.size, 0, none⟩) 0 0)) (w.alloc (.cells #[] e))) (hZ : ∀ w, St w0 w L → Z w)
    (k : ∀ b hi, GT P n l.toArray Q Z w0 (up o.dst (.slice (some ⟨b, 0, none⟩) 0 0) T) (ow (rLst e q) b hi [] [.slice (some ⟨b, 0, none⟩) 0 0] [b] :: L) t) : Alone P n l.toArray Q Z w0 T L i t :=
  Alone.turns ho hc fun w S => ⟨_, _, _, hr w, S.fresh e q, fun w S => hZ w (St.tail S), k _ _⟩
theorem Alone.hsto {j' : Nat} {off lo hi k size : Nat} {pre post : List α} {es : List Value} {F1 F2 : List Nat} (ty : TypeId) (x y : Operand) (b p j i : Nat) (us es' : List Value) (L' : List Res) (ho : l[j']? = some o) (hop : o.op = .store ty x y) (hc : chk n T l.toArray o = true) (hx : ev T x = .pointer (some ⟨b, p, none⟩)) (hy : (ev T y).cells = us.toArray) (hL : L[i]? = some (hole r b off lo hi pre post es F1 F2)) (hk : pre.length = k) (hz : r.sz = size) (hp : p = off + k * size + j)
    (hes : (us.foldl (fun (p : List Value × Nat) u => (p.1.set p.2 u, p.2 + 1)) (es, j)).1 = es') (hL' : L.set i (hole r b off lo hi pre post es' F1 F2) = L') (hl : Nat.ble (j + us.length) es.length = true) (hi' : (P.info? ty).map (·.size) = some us.length) (h1 : us.all (·.oneCell') = true)
    (hZ : ∀ w, St w0 w L' → Z w) (kk : GT P n l.toArray Q Z w0 (up o.dst undef T) L' t) : Alone P n l.toArray Q Z w0 T L j' t :=
  Alone.acts ho hc fun w S => by
    have hl' : j + us.length ≤ es.length := Nat.le_of_ble_eq_true hl
    have ht : w.there b p us.toArray.size := fun q hq => by
      have hq' : j + q < es.length := by simp at hq; omega
      have := hole_cell (S.at_ i hL) hk hz (j + q) (List.getElem?_eq_getElem hq')
      rw [← Nat.add_assoc, ← hp] at this
      exact ⟨by rw [this.1]; rfl, this.2⟩
    refine ⟨w.setCells b p us, L', ?_, ?_, hZ, kk⟩
    · unfold execOp
      have hcells : (storeVar ty ⟨b, p, none⟩ (ev T y)).run P w = (storeVar ty ⟨b, p, none⟩ (.agg us.toArray)).run P w := by
        unfold storeVar
        rw [hy]
        rfl
      have hs := run_storeVar_mid (P := P) w b p ty us.toArray ht (by simpa using hi') (by simpa using h1)
      simp only [hop, Sem.run_bind, Instr.storeAt, Instr.sureAddr, hx, Sem.run_pure, Result.andThen_ok, hcells, hs]
    · subst hL' hp
      exact St.holeSets S i hL hk hz j us es' hes hl'
end
end Go.Proofs.Ytldgadmpclgfhaa.Sx
namespace Go.Proofs.Ytldgadmpclgfhaa.Kit
set_option maxRecDepth 100000
open Go.ChangeShapes Go.WideShapes Go.ChangeAt Go.RowKit Go.Deep
open Go.Proofs.Ytldgadmpclgfhaa.Base Go.Proofs.Ytldgadmpclgfhaa.Mem Go.Proofs.Ytldgadmpclgfhaa.Data Go.Proofs.Ytldgadmpclgfhaa.Stt Go.Proofs.Ytldgadmpclgfhaa.Guests Go.Proofs.Ytldgadmpclgfhaa.Ctls Go.Proofs.Ytldgadmpclgfhaa.Exits
set_option linter.unusedVariables false
set_option linter.unusedSimpArgs false
theorem weak_G {w : World} {x : gT} (e : Ending) (w' : World) (h : Gives rG w x e w') : Gives wG w x e w' := by
  obtain ⟨cs, F, rfl, ho, hF, hb⟩ := h
  obtain ⟨P0, P1, P2, P3, F0, F1, F2, F3, rfl, S⟩ := rG_open (St.got (St.start w) hb ho hF)
  obtain ⟨G0, S⟩ := S.weak 0 rfl
  obtain ⟨G3, S⟩ := S.weak 3 rfl
  obtain ⟨ho, hF⟩ := wG_shut (g := x) S 0 rfl 1 rfl 2 rfl 3 rfl (by decide) (by decide) (by decide) (by decide) (by decide) (by decide)
  exact ⟨_, _, rfl, ho, hF, S.below⟩
theorem cap_G {g : gT} (h : wG.cap g) : rG.cap g := h
theorem rd_G {w : World} {lo hi : Nat} {g : gT} {cs : List Value} (h : wG.rd w lo hi g cs) : rG.rd w lo hi g cs := h
end Go.Proofs.Ytldgadmpclgfhaa.Kit
namespace Go.Proofs.Ytldgadmpclgfhaa.Kit
set_option maxRecDepth 100000
open Go.ChangeShapes Go.WideShapes Go.ChangeAt Go.RowKit Go.Deep
open Go.Proofs.Ytldgadmpclgfhaa.Base Go.Proofs.Ytldgadmpclgfhaa.Mem Go.Proofs.Ytldgadmpclgfhaa.Data Go.Proofs.Ytldgadmpclgfhaa.Stt
set_option linter.unusedVariables false
set_option linter.unusedSimpArgs false
section
variable {P : Program} {t e : TypeId}
theorem opens_lsw {α : Type} {r : Rp α} (hs : 0 < r.sz) (ht : P.underlying t = some (.slice e)) (hc : P.cellsOf e = r.sz) (he : Opens P r e) : Opens P (rLsw r) t := fun H enc w fuel cs x h => by
  rcases open_slice ht h with ⟨rfl, _⟩ | ⟨a, len, cap, m, n, D, Pl, rfl, hb, hl, hm, hmm, _, hx⟩
  · exact ⟨[], ⟨none, 0, [], rfl, Nat.le_refl _, rfl, Lies.nil⟩, ⟨Nat.zero_le _, fun x hx => by cases hx⟩⟩
  · have hmc : m = cap := by simpa using hmm
    subst hmc
    have each : ∀ i, i < len → ∃ y : List Value × α, y.1.length = r.sz ∧ (∀ j, j < r.sz → w.cell? ((a.add (i * r.sz)).add j) = y.1[j]?) ∧ r.rd w 0 w.heap.size y.2 y.1 ∧ r.wf y.2 := fun i hi => by
      obtain ⟨cs', h1, h2⟩ := hx i (by omega)
      obtain ⟨v, hv, hw⟩ := he H enc w n cs' _ h2
      rw [hc] at h1
      obtain ⟨_, hlen, hcell⟩ := World.cells?_some h1
      exact ⟨(cs', v), hlen, hcell, hv, hw⟩
    by_cases h0 : len = 0
    · subst h0
      exact ⟨[], ⟨some a, m, [], rfl, Nat.zero_le _, rfl, Lies.nil⟩, ⟨Nat.zero_le _, fun x hx => by cases hx⟩⟩
    have hin : Inhabited (List Value × α) := ⟨(each 0 (by omega)).choose⟩
    obtain ⟨f, hf⟩ := choose_lt each
    refine ⟨(List.range len).map fun i => (f i).2, ⟨some a, m, (List.range len).flatMap fun i => (f i).1, by simp, by simp; omega, rdAll_map _ fun i hi => (hf i (List.mem_range.1 hi)).2.2.1, ?_⟩, ⟨by simp; omega, fun x hx => ?_⟩⟩
    · intro j u hu
      have hL := flatMap_len (g := fun i => (f i).1) (s := r.sz) len fun i hi => (hf i hi).1
      have hj : j < len * r.sz := by
        have := (List.getElem?_eq_some_iff.1 hu).1
        omega
      rw [flatMap_get hs len (fun i hi => (hf i hi).1) j hj] at hu
      have hd : j / r.sz < len := Nat.div_lt_of_lt_mul (by rwa [Nat.mul_comm] at hj)
      have hc1 := (hf (j / r.sz) hd).2.1 (j % r.sz) (Nat.mod_lt _ hs)
      have hc1 := hc1.trans hu
      rw [add_add, show j / r.sz * r.sz + j % r.sz = j by rw [Nat.mul_comm]; exact Nat.div_add_mod j r.sz] at hc1
      have hc0 := (hf 0 (by omega)).2.1 0 hs
      rw [List.getElem?_eq_getElem (by rw [(hf 0 (by omega)).1]; exact hs)] at hc0
      obtain ⟨ab, ao, spot⟩ := a
      have hsp : spot = none := by simpa [Addr.add] using World.cell?_spot hc0
      subst hsp
      rw [Addr.add_lit] at hc1
      exact ⟨ab, ao, rfl, Nat.zero_le _, World.block_lt_of_cell? w _ hc1, hc1⟩
    · obtain ⟨i, hi, rfl⟩ := List.mem_map.1 hx
      exact (hf i (List.mem_range.1 hi)).2.2.2
end
section
variable {P : Program} {t e : TypeId}
variable {α : Type} {r : Rp α} {H : Type} {enc : TypeId × Value → H} {W : World} {base : Nat} {v : Value} {d : DataW H} {p : List MemPlace}
theorem open_struct {fs : Array Field} (ht : P.underlying t = some (.struct fs)) (hO : Opens P r t) (hval : Value.okWide P W .any base t v) (h : DataW.Trod enc P W 0 (fun _ => true) true t v d p) : ∃ x cs, v = .agg (cs : List Value).toArray ∧ r.wf x ∧ r.rd W 0 W.heap.size x cs := by
  obtain ⟨fuel, hf⟩ := h
  obtain ⟨x, hx, wx⟩ := hO H enc W fuel _ _ hf
  have hv : ∃ cs, v = .agg cs := by
    unfold Value.okWide at hval
    rw [ht] at hval
    obtain ⟨cs, e, _⟩ := hval
    exact ⟨cs, e⟩
  obtain ⟨cs, rfl⟩ := hv
  exact ⟨x, cs.toList, by simp, wx, by simpa [Value.cells] using hx⟩
end
end Go.Proofs.Ytldgadmpclgfhaa.Kit
namespace Go.Proofs.Ytldgadmpclgfhaa.Kit
set_option maxRecDepth 100000
open Go.ChangeShapes Go.WideShapes Go.ChangeAt Go.RowKit Go.Deep
open Go.Proofs.Ytldgadmpclgfhaa.Base Go.Proofs.Ytldgadmpclgfhaa.Mem Go.Proofs.Ytldgadmpclgfhaa.Data Go.Proofs.Ytldgadmpclgfhaa.Stt Go.Proofs.Ytldgadmpclgfhaa.Guests Go.Proofs.Ytldgadmpclgfhaa.Ctls Go.Proofs.Ytldgadmpclgfhaa.Exits
set_option linter.unusedVariables false
set_option linter.unusedSimpArgs false
theorem laid : laidOutB Try.prog = true := by kernel_rfl
theorem capz_Int (x : Int) (h : rInt.size x ≤ 1048576) : rInt.cap x := trivial
theorem cntz_Int (x : Int) : rInt.cnt x ≤ 16 * rInt.size x + 1 := by show 1 ≤ _; omega
theorem capz_Slot (x : (Int × Int)) (h : (rPair rInt rInt).size x ≤ 1048576) : (rPair rInt rInt).cap x := ⟨trivial, trivial⟩
theorem cntz_Slot (x : (Int × Int)) : (rPair rInt rInt).cnt x ≤ 16 * (rPair rInt rInt).size x + 2 := Nat.le_trans (Nat.le_of_eq (show (rPair rInt rInt).cnt x = 2 from rfl)) (Nat.le_add_left _ _)
theorem kopens_Slot : Opens Try.prog (rPair rInt rInt) 132 := opens_struct Try.underlying132 (by kernel_rfl) (fields_cons (opens_int Try.underlying3) rfl (by kernel_rfl) (fields_one (opens_int Try.underlying3) rfl (by kernel_rfl)))
theorem capz_Ins (x : (Int × Int)) (h : (rPair rInt rInt).size x ≤ 1048576) : (rPair rInt rInt).cap x := ⟨trivial, trivial⟩
theorem cntz_Ins (x : (Int × Int)) : (rPair rInt rInt).cnt x ≤ 16 * (rPair rInt rInt).size x + 2 := Nat.le_trans (Nat.le_of_eq (show (rPair rInt rInt).cnt x = 2 from rfl)) (Nat.le_add_left _ _)
theorem kopens_Ins : Opens Try.prog (rPair rInt rInt) 113 := opens_struct Try.underlying113 (by kernel_rfl) (fields_cons (opens_int Try.underlying3) rfl (by kernel_rfl) (fields_one (opens_int Try.underlying3) rfl (by kernel_rfl)))
theorem kopens_Ctl : Opens Try.prog rCtl 59 := opens_struct Try.underlying59 (by kernel_rfl) (fields_cons (opens_int Try.underlying3) rfl (by kernel_rfl) (fields_cons (opens_int Try.underlying3) rfl (by kernel_rfl) (fields_one (opens_bool Try.underlying4) rfl (by kernel_rfl))))
theorem kopens_Exit : Opens Try.prog rExit 60 := opens_struct Try.underlying60 (by kernel_rfl) (fields_cons (opens_int Try.underlying3) rfl (by kernel_rfl) (fields_cons (opens_int Try.underlying3) rfl (by kernel_rfl) (fields_cons (opens_bool Try.underlying4) rfl (by kernel_rfl) (fields_one (opens_int Try.underlying3) rfl (by kernel_rfl)))))
theorem capz_IntS (x : (List Int)) (h : (rLsw rInt).size x ≤ 1048576) : (rLsw rInt).cap x := capz (r := rInt) capz_Int h
theorem cntz_IntS (x : (List Int)) : (rLsw rInt).cnt x ≤ 16 * (rLsw rInt).size x + 0 := cntz (r := rInt) cntz_Int (by decide) x
theorem kopens_IntS : Opens Try.prog (rLsw rInt) 26 := opens_lsw (by decide) Try.underlying26 (by kernel_rfl) (opens_int Try.underlying3)
theorem capz_SlotS (x : (List (Int × Int))) (h : (rLsw (rPair rInt rInt)).size x ≤ 1048576) : (rLsw (rPair rInt rInt)).cap x := capz (r := (rPair rInt rInt)) capz_Slot h
theorem cntz_SlotS (x : (List (Int × Int))) : (rLsw (rPair rInt rInt)).cnt x ≤ 16 * (rLsw (rPair rInt rInt)).size x + 0 := cntz (r := (rPair rInt rInt)) cntz_Slot (by decide) x
theorem kopens_SlotS : Opens Try.prog (rLsw (rPair rInt rInt)) 58 := opens_lsw (by decide) Try.underlying58 (by kernel_rfl) kopens_Slot
theorem capz_InsS (x : (List (Int × Int))) (h : (rLsw (rPair rInt rInt)).size x ≤ 1048576) : (rLsw (rPair rInt rInt)).cap x := capz (r := (rPair rInt rInt)) capz_Ins h
theorem cntz_InsS (x : (List (Int × Int))) : (rLsw (rPair rInt rInt)).cnt x ≤ 16 * (rLsw (rPair rInt rInt)).size x + 0 := cntz (r := (rPair rInt rInt)) cntz_Ins (by decide) x
theorem kopens_InsS : Opens Try.prog (rLsw (rPair rInt rInt)) 57 := opens_lsw (by decide) Try.underlying57 (by kernel_rfl) kopens_Ins
theorem capz_Guest (x : gT) (h : wG.size x ≤ 1048576) : wG.cap x := by
  rw [size_Guest] at h
  exact ⟨capz_InsS x.prog (show x.prog.length + sizeAll (rPair rInt rInt) x.prog ≤ 1048576 by omega), trivial, trivial, capz_SlotS x.wr (show x.wr.length + sizeAll (rPair rInt rInt) x.wr ≤ 1048576 by omega), capz_SlotS x.lv (show x.lv.length + sizeAll (rPair rInt rInt) x.lv ≤ 1048576 by omega), ⟨trivial, trivial, trivial⟩, trivial, ⟨trivial, trivial, trivial, trivial⟩, trivial, capz_IntS x.seen (show x.seen.length + sizeAll rInt x.seen ≤ 1048576 by omega)⟩
theorem cntz_Guest (x : gT) : wG.cnt x ≤ 16 * wG.size x + 11 := by
  have h0 : cntAll (rPair rInt rInt) x.prog ≤ 16 * (x.prog.length + sizeAll (rPair rInt rInt) x.prog) := cntz_InsS x.prog
  have h1 : cntAll (rPair rInt rInt) x.wr ≤ 16 * (x.wr.length + sizeAll (rPair rInt rInt) x.wr) := cntz_SlotS x.wr
  have h2 : cntAll (rPair rInt rInt) x.lv ≤ 16 * (x.lv.length + sizeAll (rPair rInt rInt) x.lv) := cntz_SlotS x.lv
  have h3 : cntAll rInt x.seen ≤ 16 * (x.seen.length + sizeAll rInt x.seen) := cntz_IntS x.seen
  rw [cnt_Guest, size_Guest]; omega
theorem tcntz_Guest (x : gT) : wG.tcnt x ≤ 16 * wG.size x := by
  have h0 : cntAll (rPair rInt rInt) x.prog ≤ 16 * (x.prog.length + sizeAll (rPair rInt rInt) x.prog) := cntz_InsS x.prog
  have h1 : cntAll (rPair rInt rInt) x.wr ≤ 16 * (x.wr.length + sizeAll (rPair rInt rInt) x.wr) := cntz_SlotS x.wr
  have h2 : cntAll (rPair rInt rInt) x.lv ≤ 16 * (x.lv.length + sizeAll (rPair rInt rInt) x.lv) := cntz_SlotS x.lv
  have h3 : cntAll rInt x.seen ≤ 16 * (x.seen.length + sizeAll rInt x.seen) := cntz_IntS x.seen
  rw [tcnt_Guest, size_Guest]; omega
theorem kopens_Guest : Opens Try.prog wG 62 := opens_via (fun _ => rfl) (opens_struct Try.underlying62 (by kernel_rfl) (fields_cons kopens_InsS rfl (by kernel_rfl) (fields_cons (opens_int Try.underlying3) rfl (by kernel_rfl) (fields_cons (opens_int Try.underlying3) rfl (by kernel_rfl) (fields_cons kopens_SlotS rfl (by kernel_rfl) (fields_cons kopens_SlotS rfl (by kernel_rfl) (fields_cons kopens_Ctl rfl (by kernel_rfl) (fields_cons (opens_int Try.underlying3) rfl (by kernel_rfl) (fields_cons kopens_Exit rfl (by kernel_rfl) (fields_cons (opens_bool Try.underlying4) rfl (by kernel_rfl) (fields_one kopens_IntS rfl (by kernel_rfl))))))))))))
theorem capz_IntSS (x : (List (List Int))) (h : (rLsw (rLsw rInt)).size x ≤ 1048576) : (rLsw (rLsw rInt)).cap x := capz (r := (rLsw rInt)) capz_IntS h
theorem cntz_IntSS (x : (List (List Int))) : (rLsw (rLsw rInt)).cnt x ≤ 16 * (rLsw (rLsw rInt)).size x + 0 := cntz (r := (rLsw rInt)) cntz_IntS (by decide) x
theorem kopens_IntSS : Opens Try.prog (rLsw (rLsw rInt)) 24 := opens_lsw (by decide) Try.underlying24 (by kernel_rfl) kopens_IntS
theorem capz_GuestS (x : (List gT)) (h : (rLsw wG).size x ≤ 1048576) : (rLsw wG).cap x := capz (r := wG) capz_Guest h
theorem cntz_GuestS (x : (List gT)) : (rLsw wG).cnt x ≤ 16 * (rLsw wG).size x + 0 := cntz (r := wG) cntz_Guest (by decide) x
theorem kopens_GuestS : Opens Try.prog (rLsw wG) 37 := opens_lsw (by decide) Try.underlying37 (by kernel_rfl) kopens_Guest
theorem capz_Bare (x : bT) (h : wB.size x ≤ 1048576) : wB.cap x := by
  rw [size_Bare] at h
  exact ⟨capz_IntSS x.mem (show x.mem.length + sizeAll (rLsw rInt) x.mem ≤ 1048576 by omega), capz_GuestS x.gs (show x.gs.length + sizeAll wG x.gs ≤ 1048576 by omega), capz_IntS x.outs (show x.outs.length + sizeAll rInt x.outs ≤ 1048576 by omega), trivial⟩
theorem tcntz_Bare (x : bT) : wB.tcnt x ≤ 16 * wB.size x := by
  have h0 : cntAll (rLsw rInt) x.mem ≤ 16 * (x.mem.length + sizeAll (rLsw rInt) x.mem) := cntz_IntSS x.mem
  have h1 : cntAll wG x.gs ≤ 16 * (x.gs.length + sizeAll wG x.gs) := cntz_GuestS x.gs
  have h2 : cntAll rInt x.outs ≤ 16 * (x.outs.length + sizeAll rInt x.outs) := cntz_IntS x.outs
  rw [tcnt_Bare, size_Bare]; omega
theorem kopens_Bare : Opens Try.prog wB 39 := opens_via (fun _ => rfl) (opens_struct Try.underlying39 (by kernel_rfl) (fields_cons kopens_IntSS rfl (by kernel_rfl) (fields_cons kopens_GuestS rfl (by kernel_rfl) (fields_cons kopens_IntS rfl (by kernel_rfl) (fields_one (opens_int Try.underlying3) rfl (by kernel_rfl))))))
theorem open_Bare {H : Type} {enc : TypeId × Value → H} {W : World} {base : Nat} {v : Value} {d : DataW H} {p : List MemPlace} (hval : Value.okWide Try.prog W .any base 39 v) (h : DataW.Trod enc Try.prog W 0 (fun _ => true) true 39 v d p) : ∃ (x : bT) (cs : List Value), v = .agg cs.toArray ∧ wB.wf x ∧ wB.rd W 0 W.heap.size x cs := open_struct Try.underlying39 kopens_Bare hval h
end Go.Proofs.Ytldgadmpclgfhaa.Kit
namespace Go.Proofs.Ytldgadmpclgfhaa.Addrs
set_option maxRecDepth 100000
open Go.ChangeShapes Go.WideShapes Go.ChangeAt Go.RowKit
open Go.Proofs.Ytldgadmpclgfhaa.Base
set_option linter.unusedVariables false
theorem range {x : Int} (h : (Lit.int .i64 x).wf = true) : -9223372036854775808 ≤ x ∧ x ≤ 9223372036854775807 := by
  have hm : IntKind.i64.min = -9223372036854775808 := by decide
  rw [← hm]; simpa [Lit.wf] using h
end Go.Proofs.Ytldgadmpclgfhaa.Addrs
namespace Go.Proofs.Ytldgadmpclgfhaa.Grid
set_option maxRecDepth 100000
open Go.ChangeShapes Go.WideShapes Go.ChangeAt Go.RowKit
open Go.Proofs.Ytldgadmpclgfhaa.Base Go.Proofs.Ytldgadmpclgfhaa.Mem Go.Proofs.Ytldgadmpclgfhaa.Ints
set_option linter.unusedVariables false
section
variable {P : Program}
end
theorem ncells_set (l : List Int) (j : Nat) (v : Int) : (ncells l).set j (.int .i64 v) = ncells (l.set j v) := by
  simp [ncells, List.map_set]
end Go.Proofs.Ytldgadmpclgfhaa.Grid
namespace Go.Proofs.Ytldgadmpclgfhaa.Grid
set_option maxRecDepth 100000
open Go.ChangeShapes Go.WideShapes Go.ChangeAt Go.RowKit
open Go.Proofs.Ytldgadmpclgfhaa.Base Go.Proofs.Ytldgadmpclgfhaa.Mem Go.Proofs.Ytldgadmpclgfhaa.Ints
set_option linter.unusedVariables false
/-- A cell of a memory of one's own is written. -/
theorem OG.cell {w : World} {lo hi : Nat} {A : Option Addr} {M : List (List Int)} {hs : List Hd} (h : OG w lo hi A M hs) (hh : hi ≤ w.heap.size) (k j : Nat) (hk : k < M.length) (hj : j < M[k].length) :
    ∃ b off b' off' c, A = some ⟨b, off, none⟩ ∧ b < hi ∧ w.cell? ⟨b, off + k, none⟩ = some (.slice (some ⟨b', off', none⟩) M[k].length c) ∧ (∃ u, w.cell? ⟨b', off' + j, none⟩ = some u) ∧ w.frozen? ⟨b', off' + j, none⟩ = false ∧
      ∀ v : Int, OG (w.setCell ⟨b', off' + j, none⟩ (.int .i64 v)) lo hi A (M.set k (M[k].set j v)) hs ∧ Turned lo hi w (w.setCell ⟨b', off' + j, none⟩ (.int .i64 v)) := by
  obtain ⟨b, off, B, c, lo', hi', e, hb, hc, ho, hn⟩ := h.write hh k hk
  obtain ⟨b', off', rfl, x, y, c2⟩ := int_at ho.1 j hj
  refine ⟨b, off, b', off', c, e, hb, hc, ⟨_, c2⟩, ho.2 _ _ rfl (by rw [ncells_len]; omega) _, fun v => ?_⟩
  have h1 := ho.set j (.int .i64 v)
  rw [ncells_set] at h1
  exact hn _ _ (by simp) h1 ((Turned.refl lo' hi' w).setCell x y _)
end Go.Proofs.Ytldgadmpclgfhaa.Grid
namespace Go.Proofs.Ytldgadmpclgfhaa.Grid
set_option maxRecDepth 100000
open Go.ChangeShapes Go.WideShapes Go.ChangeAt Go.RowKit
open Go.Proofs.Ytldgadmpclgfhaa.Base Go.Proofs.Ytldgadmpclgfhaa.Mem Go.Proofs.Ytldgadmpclgfhaa.Ints
set_option linter.unusedVariables false
def SameP {α : Type} [DecidableEq α] (w : World) (l m : List α) (e : Ending) (w' : World) : Prop := e = .returned (.bool (decide (l = m))) ∧ ∃ q, w' = w.drewN q
section
variable {α : Type} [DecidableEq α] {w : World} {l m : List α}
theorem SameP.yes {P : Program} {f : FuncId} {args : Array Value} {w0 : World} (h : Calls P f args w0 (SameP w l m)) (e : l = m) : Calls P f args w0 fun e w' => e = .returned (.bool true) ∧ ∃ q, w' = w.drewN q :=
  h.mono fun e1 w' ⟨h1, h2⟩ => ⟨by rw [h1, decide_eq_true e], h2⟩
theorem SameP.no {P : Program} {f : FuncId} {args : Array Value} {w0 : World} (h : Calls P f args w0 (SameP w l m)) (e : l ≠ m) : Calls P f args w0 fun e w' => e = .returned (.bool false) ∧ ∃ q, w' = w.drewN q :=
  h.mono fun e1 w' ⟨h1, h2⟩ => ⟨by rw [h1, decide_eq_false e], h2⟩
/-- The world has drawn, and nothing else. -/
def Drawn (w w' : World) : Prop := ∃ q, w' = w.drewN q
theorem Drawn.cell {w' : World} (h : Drawn w w') (p : Addr) : w'.cell? p = w.cell? p := by
  obtain ⟨q, rfl⟩ := h
  rfl
theorem Drawn.lies {w' : World} (h : Drawn w w') {lo hi : Nat} {A : Option Addr} {cs : List Value} (k : Lies w lo hi A cs) : Lies w' lo hi A cs := by
  obtain ⟨q, rfl⟩ := h
  exact k
theorem Drawn.more {w' : World} (h : Drawn w w') (r : Nat) : Drawn w (w'.drewN (1 + r)) := by
  obtain ⟨q, rfl⟩ := h
  exact ⟨q + (1 + r), World.drewN_drewN ..⟩
end
end Go.Proofs.Ytldgadmpclgfhaa.Grid
namespace Go.Proofs.Ytldgadmpclgfhaa.Kit
set_option maxRecDepth 100000
open Go.ChangeShapes Go.WideShapes Go.ChangeAt Go.RowKit Go.Deep
open Go.Proofs.Ytldgadmpclgfhaa.Base Go.Proofs.Ytldgadmpclgfhaa.Mem Go.Proofs.Ytldgadmpclgfhaa.Data Go.Proofs.Ytldgadmpclgfhaa.Stt Go.Proofs.Ytldgadmpclgfhaa.Guests Go.Proofs.Ytldgadmpclgfhaa.Ctls Go.Proofs.Ytldgadmpclgfhaa.Exits Go.Proofs.Ytldgadmpclgfhaa.Irqs
set_option linter.unusedVariables false
set_option linter.unusedSimpArgs false
def zeroG : gT := { prog := [], a := 0, pc := 0, wr := [], lv := [], t := (0, 0, false), pd := 0, x := (0, 0, false, 0), hl := false, seen := [] }
/-- Guest g of a machine. -/
def guestAt (b : bT) (g : Int) : gT × Bool := if inB g 0 ((b.gs.length : Int) - 1) = true then (b.gs.getD g.toNat zeroG, true) else (zeroG, false)
/-- A call hands back a value of its own and a truth value. -/
def Gives2 {α : Type} (r : Rp α) (w : World) (x : α × Bool) (e : Ending) (w' : World) : Prop := ∃ cs F, e = .returned (.tuple #[.agg (cs : List Value).toArray, .bool x.2]) ∧ r.own w' w.heap.size w'.heap.size x.1 cs F ∧ F.Nodup ∧ Below w.heap.size w w'
set_option maxRecDepth 100000 in
set_option maxHeartbeats 4000000 in
theorem specx_gat (x : bT) (cs : List Value) (g : Int) (w : World) (hc : wB.cap x) (h : wB.rd w 0 w.heap.size x cs) : Calls Try.prog 22 #[.agg cs.toArray, .int .i64 g] w (Gives2 wG w (guestAt x g)) := by
  obtain ⟨hcap0, hcap1, hcap2, hcap3⟩ := hc
  have hgl : x.gs.length ≤ 1048576 := hcap1.1
  have hR := h
  obtain ⟨hP0, hP1, hP2, rfl, hf0, hf1, hf2⟩ := wB_rd h
  obtain ⟨hA0, hK0, he0, -⟩ := lst_val hf0
  subst he0
  obtain ⟨hA1, hK1, he1, -⟩ := lst_val hf1
  subst he1
  obtain ⟨hA2, hK2, he2, -⟩ := lst_val hf2
  subst he2
  refine Sx.enter (args := [.agg #[.slice hA0 x.mem.length hK0, .slice hA1 x.gs.length hK1, .slice hA2 x.outs.length hK2, .int .i64 x.pd], .int .i64 g]) Try.func22 rfl Try.ntmps22 rfl ?_
  refine Sx.C.seq ?_
  refine Sx.C.region ?_
  refine Sx.G.box 28 (.tmp 0) [.slice hA0 x.mem.length hK0, .slice hA1 x.gs.length hK1, .slice hA2 x.outs.length hK2, .int .i64 x.pd] rfl (by kernel_rfl) (by kernel_rfl) (fun b1 => ?_)
  refine Sx.G.alloc 51 (.agg #[.slice none 0 0, .int .i64 0, .int .i64 0, .slice none 0 0, .slice none 0 0, .int .i64 0, .int .i64 0, .bool false, .int .i64 0, .int .i64 0, .int .i64 0, .bool false, .int .i64 0, .bool false, .slice none 0 0]) [.slice none 0 0, .int .i64 0, .int .i64 0, .slice none 0 0, .slice none 0 0, .int .i64 0, .int .i64 0, .bool false, .int .i64 0, .int .i64 0, .int .i64 0, .bool false, .int .i64 0, .bool false, .slice none 0 0] rfl (by kernel_rfl) (fun w => by kernel_rfl) (by kernel_rfl) (fun b2 => ?_)
  refine Sx.G.pure (.bool false) (by kernel_rfl) (fun w => by kernel_rfl) ?_
  refine Sx.G.nil ?_
  refine Sx.E.next ?_
  refine Sx.C.seq ?_
  refine Sx.C.seq ?_
  refine Sx.C.region ?_
  refine Sx.G.pure (.int .i64 g) (by kernel_rfl) (fun w => by kernel_rfl) ?_
  refine Sx.G.pure (.pointer (some ⟨b1, 1, none⟩)) (by kernel_rfl) (fun w => by kernel_rfl) ?_
  refine Sx.G.ld1 25 (.tmp 7) b1 1 1 [.slice hA0 x.mem.length hK0, .slice hA1 x.gs.length hK1, .slice hA2 x.outs.length hK2, .int .i64 x.pd] (.slice hA1 x.gs.length hK1) rfl (by kernel_rfl) (by kernel_rfl) rfl (by kernel_rfl) (by kernel_rfl) ?_
  refine Sx.G.pure (.int .i64 ((x.gs.length : Nat) : Int)) (by kernel_rfl) (fun w => by kernel_rfl) ?_
  refine Sx.G.pureq (.int .i64 (IntKind.i64.wrap (((x.gs.length : Nat) : Int) - 1))) (.int .i64 (((x.gs.length : Nat) : Int) - 1)) (by kernel_rfl) (fun w => by kernel_rfl) (congrArg (Value.int .i64) (by rw [IntKind.wrap_i64]; omega)) ?_
  refine Sx.G.plain 57 #[.int .i64 g, .int .i64 0, .int .i64 (((x.gs.length : Nat) : Int) - 1)] (.bool (inB g 0 (((x.gs.length : Nat) : Int) - 1))) (by kernel_rfl) (fun w => by kernel_rfl) (fun w S => by exact ((spec_in g 0 (((x.gs.length : Nat) : Int) - 1) _).mono fun e w' h => And.intro h.1 (Guests.below_same h.2))) ?_
  refine Sx.G.pure (.bool (!(inB g 0 (((x.gs.length : Nat) : Int) - 1)))) (by kernel_rfl) (fun w => by kernel_rfl) ?_
  refine Sx.G.nil ?_
  refine Sx.E.next ?_
  cases hc3 : (inB g 0 (((x.gs.length : Nat) : Int) - 1))
  · have hb3 := hc3
    refine Sx.C.yes (by kernel_rfl) (by kernel_rfl) ?_
    refine Sx.C.seq ?_
    refine Sx.C.region ?_
    refine Sx.G.pure (.agg #[.slice none 0 0, .int .i64 0, .int .i64 0, .slice none 0 0, .slice none 0 0, .int .i64 0, .int .i64 0, .bool false, .int .i64 0, .int .i64 0, .int .i64 0, .bool false, .int .i64 0, .bool false, .slice none 0 0]) (by kernel_rfl) (fun w => by kernel_rfl) ?_
    refine Sx.G.sto 51 (.tmp 4) (.tmp 13) b2 0 0 [.slice none 0 0, .int .i64 0, .int .i64 0, .slice none 0 0, .slice none 0 0, .int .i64 0, .int .i64 0, .bool false, .int .i64 0, .int .i64 0, .int .i64 0, .bool false, .int .i64 0, .bool false, .slice none 0 0] [.slice none 0 0, .int .i64 0, .int .i64 0, .slice none 0 0, .slice none 0 0, .int .i64 0, .int .i64 0, .bool false, .int .i64 0, .int .i64 0, .int .i64 0, .bool false, .int .i64 0, .bool false, .slice none 0 0] [.slice none 0 0, .int .i64 0, .int .i64 0, .slice none 0 0, .slice none 0 0, .int .i64 0, .int .i64 0, .bool false, .int .i64 0, .int .i64 0, .int .i64 0, .bool false, .int .i64 0, .bool false, .slice none 0 0] [vr b2 [.slice none 0 0, .int .i64 0, .int .i64 0, .slice none 0 0, .slice none 0 0, .int .i64 0, .int .i64 0, .bool false, .int .i64 0, .int .i64 0, .int .i64 0, .bool false, .int .i64 0, .bool false, .slice none 0 0], vr b1 [.slice hA0 x.mem.length hK0, .slice hA1 x.gs.length hK1, .slice hA2 x.outs.length hK2, .int .i64 x.pd]] rfl (by kernel_rfl) (by kernel_rfl) (by kernel_rfl) rfl (by kernel_rfl) rfl (by kernel_rfl) (by kernel_rfl) (by kernel_rfl) ?_
    refine Sx.G.pure (.bool false) (by kernel_rfl) (fun w => by kernel_rfl) ?_
    refine Sx.G.nil ?_
    refine Sx.E.next ?_
    refine Sx.C.ret ?_
    refine Sx.E.then_ret ?_
    refine Sx.E.retg2 (.agg #[.slice none 0 0, .int .i64 0, .int .i64 0, .slice none 0 0, .slice none 0 0, .int .i64 0, .int .i64 0, .bool false, .int .i64 0, .int .i64 0, .int .i64 0, .bool false, .int .i64 0, .bool false, .slice none 0 0]) (.bool false) rfl (Sx.IsRes.row b2 0 [.slice none 0 0, .int .i64 0, .int .i64 0, .slice none 0 0, .slice none 0 0, .int .i64 0, .int .i64 0, .bool false, .int .i64 0, .int .i64 0, .int .i64 0, .bool false, .int .i64 0, .bool false, .slice none 0 0] (by kernel_rfl) rfl (by kernel_rfl) (by kernel_rfl)) (Sx.IsRes.slot (by kernel_rfl)) (fun w S => ?_)
    rw [show guestAt x g = (zeroG, false) from if_neg (by rw [hc3]; decide)]
    exact ⟨_, [], rfl, own_zero_Guest _ _ _, List.nodup_nil, S.below⟩
  · have hb3 := hc3
    have hin := inB_iff.1 hc3
    obtain ⟨j, hj⟩ : ∃ j : Nat, g = (j : Int) := ⟨g.toNat, by omega⟩
    subst hj
    have hjl : j < x.gs.length := by omega
    refine Sx.C.no (by kernel_rfl) (by kernel_rfl) ?_
    refine Sx.C.skip ?_
    refine Sx.E.next ?_
    refine Sx.C.seq ?_
    refine Sx.C.region ?_
    refine Sx.G.pure (.pointer (some ⟨b1, 1, none⟩)) (by kernel_rfl) (fun w => by kernel_rfl) ?_
    refine Sx.G.ld1 25 (.tmp 14) b1 1 1 [.slice hA0 x.mem.length hK0, .slice hA1 x.gs.length hK1, .slice hA2 x.outs.length hK2, .int .i64 x.pd] (.slice hA1 x.gs.length hK1) rfl (by kernel_rfl) (by kernel_rfl) rfl (by kernel_rfl) (by kernel_rfl) ?_
    refine Sx.G.pure (.int .i64 (j : Int)) (by kernel_rfl) (fun w => by kernel_rfl) ?_
    obtain ⟨b4, f4, es4, eA4, hr4, hl4, hm4⟩ := Sx.old_elem (by decide) hf1 j (by omega)
    subst eA4
    obtain ⟨x4, hx4⟩ : ∃ z_, z_ = (x.gs[j]'(by omega)) := ⟨_, rfl⟩
    rw [← hx4] at hr4
    have hR4 := hr4
    obtain ⟨P4_0, P4_1, P4_2, P4_3, rfl, hf4_0, hf4_1, hf4_2, hf4_3⟩ := wG_rd hr4
    obtain ⟨A4_0, c4_0, e4_0, -⟩ := lst_val hf4_0
    subst e4_0
    obtain ⟨A4_1, c4_1, e4_1, -⟩ := lst_val hf4_1
    subst e4_1
    obtain ⟨A4_2, c4_2, e4_2, -⟩ := lst_val hf4_2
    subst e4_2
    obtain ⟨A4_3, c4_3, e4_3, -⟩ := lst_val hf4_3
    subst e4_3
    refine Sx.G.elem 25 51 (.tmp 15) (.tmp 16) 15 184 b4 f4 x.gs.length hK1 j rfl (by kernel_rfl) (by kernel_rfl) (by kernel_rfl) (by kernel_rfl) (by omega) ?_
    refine Sx.G.ldr 51 (.tmp 17) b4 (f4 + j * 15) [.slice A4_0 x4.prog.length c4_0, .int .i64 x4.a, .int .i64 x4.pc, .slice A4_1 x4.wr.length c4_1, .slice A4_2 x4.lv.length c4_2, .int .i64 x4.t.1, .int .i64 x4.t.2.1, .bool x4.t.2.2, .int .i64 x4.pd, .int .i64 x4.x.1, .int .i64 x4.x.2.1, .bool x4.x.2.2.1, .int .i64 x4.x.2.2.2, .bool x4.hl, .slice A4_3 x4.seen.length c4_3] rfl (by kernel_rfl) (by kernel_rfl) (fun w S => hm4 w _ S) (by kernel_rfl) (by kernel_rfl) ?_
    refine Sx.G.call 67 #[.agg #[.slice A4_0 x4.prog.length c4_0, .int .i64 x4.a, .int .i64 x4.pc, .slice A4_1 x4.wr.length c4_1, .slice A4_2 x4.lv.length c4_2, .int .i64 x4.t.1, .int .i64 x4.t.2.1, .bool x4.t.2.2, .int .i64 x4.pd, .int .i64 x4.x.1, .int .i64 x4.x.2.1, .bool x4.x.2.2.1, .int .i64 x4.x.2.2.2, .bool x4.hl, .slice A4_3 x4.seen.length c4_3]] (by kernel_rfl) (fun w => by kernel_rfl) (fun w5 S => (((Guests.specx_copy x4 _ _ (cap_G (hcap1.2 _ (hx4 ▸ List.getElem_mem _))) (rd_G (St.old S hR4))).mono weak_G)).mono fun e w5' hp => ?_)
    obtain ⟨cs, F, rfl, ho, hF, hb⟩ := hp
    obtain ⟨P5_0, P5_1, P5_2, P5_3, rfl, f5_0, f5_1, f5_2, f5_3⟩ := wG_rd (wG.reads ho)
    obtain ⟨A5_0, c5_0, e5_0, -⟩ := lst_val f5_0
    subst e5_0
    obtain ⟨A5_1, c5_1, e5_1, -⟩ := lst_val f5_1
    subst e5_1
    obtain ⟨A5_2, c5_2, e5_2, -⟩ := lst_val f5_2
    subst e5_2
    obtain ⟨A5_3, c5_3, e5_3, -⟩ := lst_val f5_3
    subst e5_3
    generalize F = F5 at ho hF
    refine ⟨_, _, rfl, (St.got S hb ho hF), ?_⟩
    clear S hb ho hF f5_0 f5_1 f5_2 f5_3
    refine Sx.G.sto 51 (.tmp 4) (.tmp 19) b2 0 1 [.slice none 0 0, .int .i64 0, .int .i64 0, .slice none 0 0, .slice none 0 0, .int .i64 0, .int .i64 0, .bool false, .int .i64 0, .int .i64 0, .int .i64 0, .bool false, .int .i64 0, .bool false, .slice none 0 0] [.slice A5_0 x4.prog.length c5_0, .int .i64 x4.a, .int .i64 x4.pc, .slice A5_1 x4.wr.length c5_1, .slice A5_2 x4.lv.length c5_2, .int .i64 x4.t.1, .int .i64 x4.t.2.1, .bool x4.t.2.2, .int .i64 x4.pd, .int .i64 x4.x.1, .int .i64 x4.x.2.1, .bool x4.x.2.2.1, .int .i64 x4.x.2.2.2, .bool x4.hl, .slice A5_3 x4.seen.length c5_3] [.slice A5_0 x4.prog.length c5_0, .int .i64 x4.a, .int .i64 x4.pc, .slice A5_1 x4.wr.length c5_1, .slice A5_2 x4.lv.length c5_2, .int .i64 x4.t.1, .int .i64 x4.t.2.1, .bool x4.t.2.2, .int .i64 x4.pd, .int .i64 x4.x.1, .int .i64 x4.x.2.1, .bool x4.x.2.2.1, .int .i64 x4.x.2.2.2, .bool x4.hl, .slice A5_3 x4.seen.length c5_3] [ow wG w5.heap.size w5'.heap.size x4 [.slice A5_0 x4.prog.length c5_0, .int .i64 x4.a, .int .i64 x4.pc, .slice A5_1 x4.wr.length c5_1, .slice A5_2 x4.lv.length c5_2, .int .i64 x4.t.1, .int .i64 x4.t.2.1, .bool x4.t.2.2, .int .i64 x4.pd, .int .i64 x4.x.1, .int .i64 x4.x.2.1, .bool x4.x.2.2.1, .int .i64 x4.x.2.2.2, .bool x4.hl, .slice A5_3 x4.seen.length c5_3] F5, vr b2 [.slice A5_0 x4.prog.length c5_0, .int .i64 x4.a, .int .i64 x4.pc, .slice A5_1 x4.wr.length c5_1, .slice A5_2 x4.lv.length c5_2, .int .i64 x4.t.1, .int .i64 x4.t.2.1, .bool x4.t.2.2, .int .i64 x4.pd, .int .i64 x4.x.1, .int .i64 x4.x.2.1, .bool x4.x.2.2.1, .int .i64 x4.x.2.2.2, .bool x4.hl, .slice A5_3 x4.seen.length c5_3], vr b1 [.slice hA0 x.mem.length hK0, .slice (some ⟨b4, f4, none⟩) x.gs.length hK1, .slice hA2 x.outs.length hK2, .int .i64 x.pd]] rfl (by kernel_rfl) (by kernel_rfl) (by kernel_rfl) rfl (by kernel_rfl) rfl (by kernel_rfl) (by kernel_rfl) (by kernel_rfl) ?_
    refine Sx.G.pure (.bool true) (by kernel_rfl) (fun w => by kernel_rfl) ?_
    refine Sx.G.nil ?_
    refine Sx.E.next ?_
    refine Sx.C.ret ?_
    refine Sx.E.retg2 (.agg #[.slice A5_0 x4.prog.length c5_0, .int .i64 x4.a, .int .i64 x4.pc, .slice A5_1 x4.wr.length c5_1, .slice A5_2 x4.lv.length c5_2, .int .i64 x4.t.1, .int .i64 x4.t.2.1, .bool x4.t.2.2, .int .i64 x4.pd, .int .i64 x4.x.1, .int .i64 x4.x.2.1, .bool x4.x.2.2.1, .int .i64 x4.x.2.2.2, .bool x4.hl, .slice A5_3 x4.seen.length c5_3]) (.bool true) rfl (Sx.IsRes.row b2 1 [.slice A5_0 x4.prog.length c5_0, .int .i64 x4.a, .int .i64 x4.pc, .slice A5_1 x4.wr.length c5_1, .slice A5_2 x4.lv.length c5_2, .int .i64 x4.t.1, .int .i64 x4.t.2.1, .bool x4.t.2.2, .int .i64 x4.pd, .int .i64 x4.x.1, .int .i64 x4.x.2.1, .bool x4.x.2.2.1, .int .i64 x4.x.2.2.2, .bool x4.hl, .slice A5_3 x4.seen.length c5_3] (by kernel_rfl) rfl (by kernel_rfl) (by kernel_rfl)) (Sx.IsRes.slot (by kernel_rfl)) (fun w S => ?_)
    rw [show guestAt x (j : Int) = (x4, true) from by rw [hx4]; unfold guestAt; rw [hc3, if_pos rfl]; simp [List.getD_eq_getElem?_getD, hjl]]
    exact ⟨_, _, rfl, S.own 0 rfl, S.nodup 0 rfl, S.below⟩
end Go.Proofs.Ytldgadmpclgfhaa.Kit
namespace Go.Proofs.Ytldgadmpclgfhaa.Kit
set_option maxRecDepth 100000
open Go.ChangeShapes Go.WideShapes Go.ChangeAt Go.RowKit Go.Deep
open Go.Proofs.Ytldgadmpclgfhaa.Base Go.Proofs.Ytldgadmpclgfhaa.Mem Go.Proofs.Ytldgadmpclgfhaa.Data Go.Proofs.Ytldgadmpclgfhaa.Stt Go.Proofs.Ytldgadmpclgfhaa.Guests Go.Proofs.Ytldgadmpclgfhaa.Ctls Go.Proofs.Ytldgadmpclgfhaa.Exits
set_option linter.unusedVariables false
set_option linter.unusedSimpArgs false
theorem cap_zeroG : wG.cap zeroG := ⟨⟨by decide, fun _ _ => ⟨trivial, trivial⟩⟩, trivial, trivial, ⟨by decide, fun _ _ => ⟨trivial, trivial⟩⟩, ⟨by decide, fun _ _ => ⟨trivial, trivial⟩⟩, ⟨trivial, trivial, trivial⟩, trivial, ⟨trivial, trivial, trivial, trivial⟩, trivial, ⟨by decide, fun _ _ => trivial⟩⟩
theorem at_facts {b : bT} {g : Int} (h : inB g 0 ((b.gs.length : Int) - 1) = true) : b.gs.getD g.toNat zeroG ∈ b.gs := by
  have hj := inB_iff.1 h
  have : g.toNat < b.gs.length := by omega
  rw [List.getD_eq_getElem?_getD, List.getElem?_eq_getElem this]
  exact List.getElem_mem _
theorem cap_guestAt {b : bT} (g : Int) (h : wB.cap b) : wG.cap (guestAt b g).1 := by
  unfold guestAt
  split
  · rename_i hi; exact h.2.1.2 _ (at_facts hi)
  · exact cap_zeroG
theorem size_guestAt (b : bT) (g : Int) : wG.size (guestAt b g).1 ≤ wB.size b := by
  unfold guestAt
  split
  · rename_i hi
    have := size_mem (r := wG) (at_facts hi)
    rw [size_Bare]; simp only; omega
  · have : wG.size zeroG = 0 := by decide
    show wG.size zeroG ≤ _
    omega
end Go.Proofs.Ytldgadmpclgfhaa.Kit
namespace Go.Proofs.Ytldgadmpclgfhaa.Ctls
set_option maxRecDepth 100000
open Go.ChangeShapes Go.WideShapes Go.ChangeAt Go.RowKit
open Go.Proofs.Ytldgadmpclgfhaa.Base Go.Proofs.Ytldgadmpclgfhaa.Mem Go.Proofs.Ytldgadmpclgfhaa.Data Go.Proofs.Ytldgadmpclgfhaa.Ints Go.Proofs.Ytldgadmpclgfhaa.Slots
set_option linter.unusedVariables false
set_option linter.unusedSimpArgs false
def p1 (s : CT) : Bool := !inB s.1 0 3
def p2 (s : CT) : Bool := !inB s.2.1 0 255
def p3 (s : CT) : Bool := (s.2.1 != 0) && !s.2.2
end Go.Proofs.Ytldgadmpclgfhaa.Ctls
namespace Go.Proofs.Ytldgadmpclgfhaa.Guests
set_option maxRecDepth 100000
open Go.ChangeShapes Go.WideShapes Go.ChangeAt Go.RowKit
open Go.Proofs.Ytldgadmpclgfhaa.Base Go.Proofs.Ytldgadmpclgfhaa.Mem Go.Proofs.Ytldgadmpclgfhaa.Data Go.Proofs.Ytldgadmpclgfhaa.Slots Go.Proofs.Ytldgadmpclgfhaa.Ints Go.Proofs.Ytldgadmpclgfhaa.Ctls Go.Proofs.Ytldgadmpclgfhaa.Exits Go.Proofs.Ytldgadmpclgfhaa.Stt Go.Proofs.Ytldgadmpclgfhaa.Irqs Go.Proofs.Ytldgadmpclgfhaa.Inss
set_option linter.unusedVariables false
set_option linter.unusedSimpArgs false
set_option maxRecDepth 100000 in
set_option maxHeartbeats 4000000 in
theorem lib_cloneIns (xs : List (Int × Int)) (A : Option Addr) (c : Nat) (w : World) (hp : xs.length ≤ 1048576) (h : rdLst (rPair rInt rInt) w 0 w.heap.size xs [.slice A xs.length c]) : Calls Try.prog 121 #[.slice A xs.length c] w (Gives (rLst 111 (rPair rInt rInt)) w xs) := by
  rcases A with _ | ad
  · obtain rfl := Sx.p2_nothing h
    refine Sx.enter (args := [.slice none 0 c]) Try.func121 rfl Try.ntmps121 rfl ?_
    refine Sx.C.seq ?_
    refine Sx.C.region ?_
    refine Sx.G.pure (.slice none 0 0) (by kernel_rfl) (fun w => by kernel_rfl) ?_
    refine Sx.G.nil ?_
    refine Sx.E.next ?_
    refine Sx.C.seq ?_
    refine Sx.C.seq ?_
    refine Sx.C.region ?_
    refine Sx.G.pure (.slice none 0 c) (by kernel_rfl) (fun w => by kernel_rfl) ?_
    refine Sx.G.pure (.bool true) (by kernel_rfl) (fun w => by kernel_rfl) ?_
    refine Sx.G.nil ?_
    refine Sx.E.next ?_
    refine Sx.C.yes (by kernel_rfl) (by kernel_rfl) ?_
    refine Sx.C.seq ?_
    refine Sx.C.region ?_
    refine Sx.G.pure (.slice none 0 0) (by kernel_rfl) (fun w => by kernel_rfl) ?_
    refine Sx.G.nil ?_
    refine Sx.E.next ?_
    refine Sx.C.ret ?_
    refine Sx.E.then_ret ?_
    refine Sx.E.ret1 (.slice none 0 0) rfl (by kernel_rfl) (fun w S => ?_)
    have S' := St.nil S 111 (rPair rInt rInt)
    exact ⟨[_], _, rfl, S'.own 0 rfl, S'.nodup 0 rfl, S.below⟩
  · refine Sx.enter (args := [.slice (some ad) xs.length c]) Try.func121 rfl Try.ntmps121 rfl ?_
    refine Sx.C.seq ?_
    refine Sx.C.region ?_
    refine Sx.G.pure (.slice none 0 0) (by kernel_rfl) (fun w => by kernel_rfl) ?_
    refine Sx.G.nil ?_
    refine Sx.E.next ?_
    refine Sx.C.seq ?_
    refine Sx.C.seq ?_
    refine Sx.C.region ?_
    refine Sx.G.pure (.slice (some ad) xs.length c) (by kernel_rfl) (fun w => by kernel_rfl) ?_
    refine Sx.G.pure (.bool false) (by kernel_rfl) (fun w => by kernel_rfl) ?_
    refine Sx.G.nil ?_
    refine Sx.E.next ?_
    refine Sx.C.no (by kernel_rfl) (by kernel_rfl) ?_
    refine Sx.C.skip ?_
    refine Sx.E.next ?_
    refine Sx.C.seq ?_
    refine Sx.C.region ?_
    refine Sx.G.fresh 111 (rPair rInt rInt) (by kernel_rfl) (fun w => by kernel_rfl) (fun b1 hi1 => ?_)
    refine Sx.G.pure (.slice (some ad) xs.length c) (by kernel_rfl) (fun w => by kernel_rfl) ?_
    refine Sx.G.apps 0 rfl xs (fun w S => St.old (r := rLsw (rPair rInt rInt)) S h) (List.nil_append _) xs.length (by simp) flat_P2 (.tmp 5) (.tmp 6) 44 2 16 rfl rfl (by kernel_rfl) (by kernel_rfl) rfl (by kernel_rfl) (by kernel_rfl) (by simp only [maxLen, List.length_nil, List.length_cons]; omega) (by simp only [List.length_nil, List.length_cons]; omega) (fun A2 c2 F2 hi2 hm2 => ?_)
    refine Sx.G.pure (.slice A2 xs.length c2) (by kernel_rfl) (fun w => by kernel_rfl) ?_
    refine Sx.G.nil ?_
    refine Sx.E.next ?_
    refine Sx.C.ret ?_
    refine Sx.E.ret1 (.slice A2 xs.length c2) rfl (by kernel_rfl) (fun w S => ?_)
    exact ⟨[_], _, rfl, S.own 0 rfl, S.nodup 0 rfl, S.below⟩
set_option maxRecDepth 100000 in
set_option maxHeartbeats 4000000 in
theorem lib_cloneSlot (xs : List (Int × Int)) (A : Option Addr) (c : Nat) (w : World) (hp : xs.length ≤ 1048576) (h : rdLst (rPair rInt rInt) w 0 w.heap.size xs [.slice A xs.length c]) : Calls Try.prog 130 #[.slice A xs.length c] w (Gives (rLst 129 (rPair rInt rInt)) w xs) := by
  rcases A with _ | ad
  · obtain rfl := Sx.p2_nothing h
    refine Sx.enter (args := [.slice none 0 c]) Try.func130 rfl Try.ntmps130 rfl ?_
    refine Sx.C.seq ?_
    refine Sx.C.region ?_
    refine Sx.G.pure (.slice none 0 0) (by kernel_rfl) (fun w => by kernel_rfl) ?_
    refine Sx.G.nil ?_
    refine Sx.E.next ?_
    refine Sx.C.seq ?_
    refine Sx.C.seq ?_
    refine Sx.C.region ?_
    refine Sx.G.pure (.slice none 0 c) (by kernel_rfl) (fun w => by kernel_rfl) ?_
    refine Sx.G.pure (.bool true) (by kernel_rfl) (fun w => by kernel_rfl) ?_
    refine Sx.G.nil ?_
    refine Sx.E.next ?_
    refine Sx.C.yes (by kernel_rfl) (by kernel_rfl) ?_
    refine Sx.C.seq ?_
    refine Sx.C.region ?_
    refine Sx.G.pure (.slice none 0 0) (by kernel_rfl) (fun w => by kernel_rfl) ?_
    refine Sx.G.nil ?_
    refine Sx.E.next ?_
    refine Sx.C.ret ?_
    refine Sx.E.then_ret ?_
    refine Sx.E.ret1 (.slice none 0 0) rfl (by kernel_rfl) (fun w S => ?_)
    have S' := St.nil S 129 (rPair rInt rInt)
    exact ⟨[_], _, rfl, S'.own 0 rfl, S'.nodup 0 rfl, S.below⟩
  · refine Sx.enter (args := [.slice (some ad) xs.length c]) Try.func130 rfl Try.ntmps130 rfl ?_
    refine Sx.C.seq ?_
    refine Sx.C.region ?_
    refine Sx.G.pure (.slice none 0 0) (by kernel_rfl) (fun w => by kernel_rfl) ?_
    refine Sx.G.nil ?_
    refine Sx.E.next ?_
    refine Sx.C.seq ?_
    refine Sx.C.seq ?_
    refine Sx.C.region ?_
    refine Sx.G.pure (.slice (some ad) xs.length c) (by kernel_rfl) (fun w => by kernel_rfl) ?_
    refine Sx.G.pure (.bool false) (by kernel_rfl) (fun w => by kernel_rfl) ?_
    refine Sx.G.nil ?_
    refine Sx.E.next ?_
    refine Sx.C.no (by kernel_rfl) (by kernel_rfl) ?_
    refine Sx.C.skip ?_
    refine Sx.E.next ?_
    refine Sx.C.seq ?_
    refine Sx.C.region ?_
    refine Sx.G.fresh 129 (rPair rInt rInt) (by kernel_rfl) (fun w => by kernel_rfl) (fun b1 hi1 => ?_)
    refine Sx.G.pure (.slice (some ad) xs.length c) (by kernel_rfl) (fun w => by kernel_rfl) ?_
    refine Sx.G.apps 0 rfl xs (fun w S => St.old (r := rLsw (rPair rInt rInt)) S h) (List.nil_append _) xs.length (by simp) flat_P2 (.tmp 5) (.tmp 6) 45 2 16 rfl rfl (by kernel_rfl) (by kernel_rfl) rfl (by kernel_rfl) (by kernel_rfl) (by simp only [maxLen, List.length_nil, List.length_cons]; omega) (by simp only [List.length_nil, List.length_cons]; omega) (fun A2 c2 F2 hi2 hm2 => ?_)
    refine Sx.G.pure (.slice A2 xs.length c2) (by kernel_rfl) (fun w => by kernel_rfl) ?_
    refine Sx.G.nil ?_
    refine Sx.E.next ?_
    refine Sx.C.ret ?_
    refine Sx.E.ret1 (.slice A2 xs.length c2) rfl (by kernel_rfl) (fun w S => ?_)
    exact ⟨[_], _, rfl, S.own 0 rfl, S.nodup 0 rfl, S.below⟩
set_option maxRecDepth 100000 in
set_option maxHeartbeats 4000000 in
theorem lib_cloneInt (xs : List (Int)) (A : Option Addr) (c : Nat) (w : World) (hp : xs.length ≤ 1048576) (h : rdLst rInt w 0 w.heap.size xs [.slice A xs.length c]) : Calls Try.prog 115 #[.slice A xs.length c] w (Gives (rLst 3 rInt) w xs) := by
  rcases A with _ | ad
  · obtain rfl := Sx.i1_nothing h
    refine Sx.enter (args := [.slice none 0 c]) Try.func115 rfl Try.ntmps115 rfl ?_
    refine Sx.C.seq ?_
    refine Sx.C.region ?_
    refine Sx.G.pure (.slice none 0 0) (by kernel_rfl) (fun w => by kernel_rfl) ?_
    refine Sx.G.nil ?_
    refine Sx.E.next ?_
    refine Sx.C.seq ?_
    refine Sx.C.seq ?_
    refine Sx.C.region ?_
    refine Sx.G.pure (.slice none 0 c) (by kernel_rfl) (fun w => by kernel_rfl) ?_
    refine Sx.G.pure (.bool true) (by kernel_rfl) (fun w => by kernel_rfl) ?_
    refine Sx.G.nil ?_
    refine Sx.E.next ?_
    refine Sx.C.yes (by kernel_rfl) (by kernel_rfl) ?_
    refine Sx.C.seq ?_
    refine Sx.C.region ?_
    refine Sx.G.pure (.slice none 0 0) (by kernel_rfl) (fun w => by kernel_rfl) ?_
    refine Sx.G.nil ?_
    refine Sx.E.next ?_
    refine Sx.C.ret ?_
    refine Sx.E.then_ret ?_
    refine Sx.E.ret1 (.slice none 0 0) rfl (by kernel_rfl) (fun w S => ?_)
    have S' := St.nil S 3 rInt
    exact ⟨[_], _, rfl, S'.own 0 rfl, S'.nodup 0 rfl, S.below⟩
  · refine Sx.enter (args := [.slice (some ad) xs.length c]) Try.func115 rfl Try.ntmps115 rfl ?_
    refine Sx.C.seq ?_
    refine Sx.C.region ?_
    refine Sx.G.pure (.slice none 0 0) (by kernel_rfl) (fun w => by kernel_rfl) ?_
    refine Sx.G.nil ?_
    refine Sx.E.next ?_
    refine Sx.C.seq ?_
    refine Sx.C.seq ?_
    refine Sx.C.region ?_
    refine Sx.G.pure (.slice (some ad) xs.length c) (by kernel_rfl) (fun w => by kernel_rfl) ?_
    refine Sx.G.pure (.bool false) (by kernel_rfl) (fun w => by kernel_rfl) ?_
    refine Sx.G.nil ?_
    refine Sx.E.next ?_
    refine Sx.C.no (by kernel_rfl) (by kernel_rfl) ?_
    refine Sx.C.skip ?_
    refine Sx.E.next ?_
    refine Sx.C.seq ?_
    refine Sx.C.region ?_
    refine Sx.G.fresh 3 rInt (by kernel_rfl) (fun w => by kernel_rfl) (fun b1 hi1 => ?_)
    refine Sx.G.pure (.slice (some ad) xs.length c) (by kernel_rfl) (fun w => by kernel_rfl) ?_
    refine Sx.G.apps 0 rfl xs (fun w S => St.old (r := rLsw rInt) S h) (List.nil_append _) xs.length (by simp) flat_int (.tmp 5) (.tmp 6) 26 1 8 rfl rfl (by kernel_rfl) (by kernel_rfl) rfl (by kernel_rfl) (by kernel_rfl) (by simp only [maxLen, List.length_nil, List.length_cons]; omega) (by simp only [List.length_nil, List.length_cons]; omega) (fun A2 c2 F2 hi2 hm2 => ?_)
    refine Sx.G.pure (.slice A2 xs.length c2) (by kernel_rfl) (fun w => by kernel_rfl) ?_
    refine Sx.G.nil ?_
    refine Sx.E.next ?_
    refine Sx.C.ret ?_
    refine Sx.E.ret1 (.slice A2 xs.length c2) rfl (by kernel_rfl) (fun w S => ?_)
    exact ⟨[_], _, rfl, S.own 0 rfl, S.nodup 0 rfl, S.below⟩
set_option maxRecDepth 100000 in
set_option maxHeartbeats 4000000 in
theorem impl_regs (g : gT) (cs : List Value) (w : World) (h : rG.rd w 0 w.heap.size g cs) : Calls Try.prog 117 #[.agg cs.toArray] w (fun e w' => e = .returned (.agg #[.int .i64 g.a, .int .i64 g.pc, .int .i64 g.t.1, .int .i64 g.t.2.1, .bool g.t.2.2, .int .i64 g.pd, .int .i64 g.x.1, .int .i64 g.x.2.1, .bool g.x.2.2.1, .int .i64 g.x.2.2.2, .bool g.hl]) ∧ Below w.heap.size w w') := by
  have hr := h
  obtain ⟨P0, P1, P2, P3, rfl, h0, h1, h2, h3⟩ := rG_rd h
  obtain ⟨PA0, Pc0, e0, hP0⟩ := lst_val h0
  subst e0
  obtain ⟨PA1, Pc1, e1, hP1⟩ := lst_val h1
  subst e1
  obtain ⟨PA2, Pc2, e2, hP2⟩ := lst_val h2
  subst e2
  obtain ⟨PA3, Pc3, e3, hP3⟩ := lst_val h3
  subst e3
  refine Sx.enter (args := [.agg #[.slice PA0 g.prog.length Pc0, .int .i64 g.a, .int .i64 g.pc, .slice PA1 g.wr.length Pc1, .slice PA2 g.lv.length Pc2, .int .i64 g.t.1, .int .i64 g.t.2.1, .bool g.t.2.2, .int .i64 g.pd, .int .i64 g.x.1, .int .i64 g.x.2.1, .bool g.x.2.2.1, .int .i64 g.x.2.2.2, .bool g.hl, .slice PA3 g.seen.length Pc3]]) Try.func117 rfl Try.ntmps117 rfl ?_
  refine Sx.C.seq ?_
  refine Sx.C.region ?_
  refine Sx.G.box 51 (.tmp 0) [.slice PA0 g.prog.length Pc0, .int .i64 g.a, .int .i64 g.pc, .slice PA1 g.wr.length Pc1, .slice PA2 g.lv.length Pc2, .int .i64 g.t.1, .int .i64 g.t.2.1, .bool g.t.2.2, .int .i64 g.pd, .int .i64 g.x.1, .int .i64 g.x.2.1, .bool g.x.2.2.1, .int .i64 g.x.2.2.2, .bool g.hl, .slice PA3 g.seen.length Pc3] rfl (by kernel_rfl) (by kernel_rfl) (fun b1 => ?_)
  refine Sx.G.alloc 135 (.agg #[.int .i64 0, .int .i64 0, .int .i64 0, .int .i64 0, .bool false, .int .i64 0, .int .i64 0, .int .i64 0, .bool false, .int .i64 0, .bool false]) [.int .i64 0, .int .i64 0, .int .i64 0, .int .i64 0, .bool false, .int .i64 0, .int .i64 0, .int .i64 0, .bool false, .int .i64 0, .bool false] rfl (by kernel_rfl) (fun w => by kernel_rfl) (by kernel_rfl) (fun b2 => ?_)
  refine Sx.G.nil ?_
  refine Sx.E.next ?_
  refine Sx.C.seq ?_
  refine Sx.C.region ?_
  refine Sx.G.pure (.pointer (some ⟨b1, 1, none⟩)) (by kernel_rfl) (fun w => by kernel_rfl) ?_
  refine Sx.G.ld1 3 (.tmp 3) b1 1 1 [.slice PA0 g.prog.length Pc0, .int .i64 g.a, .int .i64 g.pc, .slice PA1 g.wr.length Pc1, .slice PA2 g.lv.length Pc2, .int .i64 g.t.1, .int .i64 g.t.2.1, .bool g.t.2.2, .int .i64 g.pd, .int .i64 g.x.1, .int .i64 g.x.2.1, .bool g.x.2.2.1, .int .i64 g.x.2.2.2, .bool g.hl, .slice PA3 g.seen.length Pc3] (.int .i64 g.a) rfl (by kernel_rfl) (by kernel_rfl) rfl (by kernel_rfl) (by kernel_rfl) ?_
  refine Sx.G.pure (.pointer (some ⟨b1, 2, none⟩)) (by kernel_rfl) (fun w => by kernel_rfl) ?_
  refine Sx.G.ld1 3 (.tmp 5) b1 2 1 [.slice PA0 g.prog.length Pc0, .int .i64 g.a, .int .i64 g.pc, .slice PA1 g.wr.length Pc1, .slice PA2 g.lv.length Pc2, .int .i64 g.t.1, .int .i64 g.t.2.1, .bool g.t.2.2, .int .i64 g.pd, .int .i64 g.x.1, .int .i64 g.x.2.1, .bool g.x.2.2.1, .int .i64 g.x.2.2.2, .bool g.hl, .slice PA3 g.seen.length Pc3] (.int .i64 g.pc) rfl (by kernel_rfl) (by kernel_rfl) rfl (by kernel_rfl) (by kernel_rfl) ?_
  refine Sx.G.pure (.pointer (some ⟨b1, 5, none⟩)) (by kernel_rfl) (fun w => by kernel_rfl) ?_
  refine Sx.G.ld 47 (.tmp 7) b1 5 1 [.slice PA0 g.prog.length Pc0, .int .i64 g.a, .int .i64 g.pc, .slice PA1 g.wr.length Pc1, .slice PA2 g.lv.length Pc2, .int .i64 g.t.1, .int .i64 g.t.2.1, .bool g.t.2.2, .int .i64 g.pd, .int .i64 g.x.1, .int .i64 g.x.2.1, .bool g.x.2.2.1, .int .i64 g.x.2.2.2, .bool g.hl, .slice PA3 g.seen.length Pc3] [.int .i64 g.t.1, .int .i64 g.t.2.1, .bool g.t.2.2] rfl (by kernel_rfl) (by kernel_rfl) rfl (by kernel_rfl) (by kernel_rfl) (by kernel_rfl) ?_
  refine Sx.G.pure (.pointer (some ⟨b1, 8, none⟩)) (by kernel_rfl) (fun w => by kernel_rfl) ?_
  refine Sx.G.ld1 3 (.tmp 9) b1 8 1 [.slice PA0 g.prog.length Pc0, .int .i64 g.a, .int .i64 g.pc, .slice PA1 g.wr.length Pc1, .slice PA2 g.lv.length Pc2, .int .i64 g.t.1, .int .i64 g.t.2.1, .bool g.t.2.2, .int .i64 g.pd, .int .i64 g.x.1, .int .i64 g.x.2.1, .bool g.x.2.2.1, .int .i64 g.x.2.2.2, .bool g.hl, .slice PA3 g.seen.length Pc3] (.int .i64 g.pd) rfl (by kernel_rfl) (by kernel_rfl) rfl (by kernel_rfl) (by kernel_rfl) ?_
  refine Sx.G.pure (.pointer (some ⟨b1, 9, none⟩)) (by kernel_rfl) (fun w => by kernel_rfl) ?_
  refine Sx.G.ld 49 (.tmp 11) b1 9 1 [.slice PA0 g.prog.length Pc0, .int .i64 g.a, .int .i64 g.pc, .slice PA1 g.wr.length Pc1, .slice PA2 g.lv.length Pc2, .int .i64 g.t.1, .int .i64 g.t.2.1, .bool g.t.2.2, .int .i64 g.pd, .int .i64 g.x.1, .int .i64 g.x.2.1, .bool g.x.2.2.1, .int .i64 g.x.2.2.2, .bool g.hl, .slice PA3 g.seen.length Pc3] [.int .i64 g.x.1, .int .i64 g.x.2.1, .bool g.x.2.2.1, .int .i64 g.x.2.2.2] rfl (by kernel_rfl) (by kernel_rfl) rfl (by kernel_rfl) (by kernel_rfl) (by kernel_rfl) ?_
  refine Sx.G.pure (.pointer (some ⟨b1, 13, none⟩)) (by kernel_rfl) (fun w => by kernel_rfl) ?_
  refine Sx.G.ld1 4 (.tmp 13) b1 13 1 [.slice PA0 g.prog.length Pc0, .int .i64 g.a, .int .i64 g.pc, .slice PA1 g.wr.length Pc1, .slice PA2 g.lv.length Pc2, .int .i64 g.t.1, .int .i64 g.t.2.1, .bool g.t.2.2, .int .i64 g.pd, .int .i64 g.x.1, .int .i64 g.x.2.1, .bool g.x.2.2.1, .int .i64 g.x.2.2.2, .bool g.hl, .slice PA3 g.seen.length Pc3] (.bool g.hl) rfl (by kernel_rfl) (by kernel_rfl) rfl (by kernel_rfl) (by kernel_rfl) ?_
  refine Sx.G.pure (.agg #[.int .i64 g.a, .int .i64 g.pc, .int .i64 g.t.1, .int .i64 g.t.2.1, .bool g.t.2.2, .int .i64 g.pd, .int .i64 g.x.1, .int .i64 g.x.2.1, .bool g.x.2.2.1, .int .i64 g.x.2.2.2, .bool g.hl]) (by kernel_rfl) (fun w => by kernel_rfl) ?_
  refine Sx.G.sto 135 (.tmp 2) (.tmp 15) b2 0 0 [.int .i64 0, .int .i64 0, .int .i64 0, .int .i64 0, .bool false, .int .i64 0, .int .i64 0, .int .i64 0, .bool false, .int .i64 0, .bool false] [.int .i64 g.a, .int .i64 g.pc, .int .i64 g.t.1, .int .i64 g.t.2.1, .bool g.t.2.2, .int .i64 g.pd, .int .i64 g.x.1, .int .i64 g.x.2.1, .bool g.x.2.2.1, .int .i64 g.x.2.2.2, .bool g.hl] [.int .i64 g.a, .int .i64 g.pc, .int .i64 g.t.1, .int .i64 g.t.2.1, .bool g.t.2.2, .int .i64 g.pd, .int .i64 g.x.1, .int .i64 g.x.2.1, .bool g.x.2.2.1, .int .i64 g.x.2.2.2, .bool g.hl] [vr b2 [.int .i64 g.a, .int .i64 g.pc, .int .i64 g.t.1, .int .i64 g.t.2.1, .bool g.t.2.2, .int .i64 g.pd, .int .i64 g.x.1, .int .i64 g.x.2.1, .bool g.x.2.2.1, .int .i64 g.x.2.2.2, .bool g.hl], vr b1 [.slice PA0 g.prog.length Pc0, .int .i64 g.a, .int .i64 g.pc, .slice PA1 g.wr.length Pc1, .slice PA2 g.lv.length Pc2, .int .i64 g.t.1, .int .i64 g.t.2.1, .bool g.t.2.2, .int .i64 g.pd, .int .i64 g.x.1, .int .i64 g.x.2.1, .bool g.x.2.2.1, .int .i64 g.x.2.2.2, .bool g.hl, .slice PA3 g.seen.length Pc3]] rfl (by kernel_rfl) (by kernel_rfl) (by kernel_rfl) rfl (by kernel_rfl) rfl (by kernel_rfl) (by kernel_rfl) (by kernel_rfl) ?_
  refine Sx.G.nil ?_
  refine Sx.E.next ?_
  refine Sx.C.ret ?_
  refine Sx.E.retc b2 0 [.int .i64 g.a, .int .i64 g.pc, .int .i64 g.t.1, .int .i64 g.t.2.1, .bool g.t.2.2, .int .i64 g.pd, .int .i64 g.x.1, .int .i64 g.x.2.1, .bool g.x.2.2.1, .int .i64 g.x.2.2.2, .bool g.hl] rfl (by kernel_rfl) rfl (by kernel_rfl) (by kernel_rfl) (fun w S => ?_)
  exact ⟨rfl, S.below⟩
set_option maxRecDepth 100000 in
set_option maxHeartbeats 4000000 in
theorem impl_copyM (g : gT) (cs : List Value) (w : World) (hc : rG.cap g) (h : rG.rd w 0 w.heap.size g cs) : Calls Try.prog 107 #[.agg cs.toArray] w (fun e w' => ∃ (b : Nat) (A0 : Option Addr) (c0 l0 h0 : Nat) (F0 : List Nat) (A1 : Option Addr) (c1 l1 h1 : Nat) (F1 : List Nat) (A2 : Option Addr) (c2 l2 h2 : Nat) (F2 : List Nat) (A3 : Option Addr) (c3 l3 h3 : Nat) (F3 : List Nat), e = .returned (.pointer (some ⟨b, 0, none⟩)) ∧ St w w' [vr b [.int .i64 g.a, .int .i64 g.pc, .int .i64 g.t.1, .int .i64 g.t.2.1, .bool g.t.2.2, .int .i64 g.pd, .int .i64 g.x.1, .int .i64 g.x.2.1, .bool g.x.2.2.1, .int .i64 g.x.2.2.2, .bool g.hl, .slice A0 g.prog.length c0, .slice A1 g.wr.length c1, .slice A2 g.lv.length c2, .slice A3 g.seen.length c3], ow (rLst 111 (rPair rInt rInt)) l0 h0 g.prog [.slice A0 g.prog.length c0] F0, ow (rLst 129 (rPair rInt rInt)) l1 h1 g.wr [.slice A1 g.wr.length c1] F1, ow (rLst 129 (rPair rInt rInt)) l2 h2 g.lv [.slice A2 g.lv.length c2] F2, ow (rLst 3 rInt) l3 h3 g.seen [.slice A3 g.seen.length c3] F3]) := by
  obtain ⟨q0, q1, q2, q3⟩ := rG_len hc
  have hr := h
  obtain ⟨P0, P1, P2, P3, rfl, h0, h1, h2, h3⟩ := rG_rd h
  obtain ⟨PA0, Pc0, e0, hP0⟩ := lst_val h0
  subst e0
  obtain ⟨PA1, Pc1, e1, hP1⟩ := lst_val h1
  subst e1
  obtain ⟨PA2, Pc2, e2, hP2⟩ := lst_val h2
  subst e2
  obtain ⟨PA3, Pc3, e3, hP3⟩ := lst_val h3
  subst e3
  refine Sx.enter (args := [.agg #[.slice PA0 g.prog.length Pc0, .int .i64 g.a, .int .i64 g.pc, .slice PA1 g.wr.length Pc1, .slice PA2 g.lv.length Pc2, .int .i64 g.t.1, .int .i64 g.t.2.1, .bool g.t.2.2, .int .i64 g.pd, .int .i64 g.x.1, .int .i64 g.x.2.1, .bool g.x.2.2.1, .int .i64 g.x.2.2.2, .bool g.hl, .slice PA3 g.seen.length Pc3]]) Try.func107 rfl Try.ntmps107 rfl ?_
  refine Sx.C.seq ?_
  refine Sx.C.region ?_
  refine Sx.G.box 51 (.tmp 0) [.slice PA0 g.prog.length Pc0, .int .i64 g.a, .int .i64 g.pc, .slice PA1 g.wr.length Pc1, .slice PA2 g.lv.length Pc2, .int .i64 g.t.1, .int .i64 g.t.2.1, .bool g.t.2.2, .int .i64 g.pd, .int .i64 g.x.1, .int .i64 g.x.2.1, .bool g.x.2.2.1, .int .i64 g.x.2.2.2, .bool g.hl, .slice PA3 g.seen.length Pc3] rfl (by kernel_rfl) (by kernel_rfl) (fun b1 => ?_)
  refine Sx.G.pure (.pointer none) (by kernel_rfl) (fun w => by kernel_rfl) ?_
  refine Sx.G.nil ?_
  refine Sx.E.next ?_
  refine Sx.C.seq ?_
  refine Sx.C.draw (.take 0 (.take 2 (.take 3 (.take 5 (.take 6 (.take 8 (.take 9 (.take 11 (.take 12 (.alone 1 (.alone 4 (.alone 7 (.alone 10 (.alone 13 (.take 14 (.alone 15 (.take 16 .nil))))))))))))))))) [vr b1 [.slice PA0 g.prog.length Pc0, .int .i64 g.a, .int .i64 g.pc, .slice PA1 g.wr.length Pc1, .slice PA2 g.lv.length Pc2, .int .i64 g.t.1, .int .i64 g.t.2.1, .bool g.t.2.2, .int .i64 g.pd, .int .i64 g.x.1, .int .i64 g.x.2.1, .bool g.x.2.2.1, .int .i64 g.x.2.2.2, .bool g.hl, .slice PA3 g.seen.length Pc3]] (fun w S => St.pick S [0] _ rfl (by decide)) (by kernel_rfl) (by kernel_rfl) (by kernel_rfl) ?_
  refine Sx.GT.ld 51 (.tmp 1) b1 0 0 [.slice PA0 g.prog.length Pc0, .int .i64 g.a, .int .i64 g.pc, .slice PA1 g.wr.length Pc1, .slice PA2 g.lv.length Pc2, .int .i64 g.t.1, .int .i64 g.t.2.1, .bool g.t.2.2, .int .i64 g.pd, .int .i64 g.x.1, .int .i64 g.x.2.1, .bool g.x.2.2.1, .int .i64 g.x.2.2.2, .bool g.hl, .slice PA3 g.seen.length Pc3] [.slice PA0 g.prog.length Pc0, .int .i64 g.a, .int .i64 g.pc, .slice PA1 g.wr.length Pc1, .slice PA2 g.lv.length Pc2, .int .i64 g.t.1, .int .i64 g.t.2.1, .bool g.t.2.2, .int .i64 g.pd, .int .i64 g.x.1, .int .i64 g.x.2.1, .bool g.x.2.2.1, .int .i64 g.x.2.2.2, .bool g.hl, .slice PA3 g.seen.length Pc3] 0 (by rfl) (by rfl) (by kernel_rfl) (by kernel_rfl) (by rfl) (by kernel_rfl) (by kernel_rfl) (by kernel_rfl) ?_
  refine Sx.GT.pure (.pointer (some ⟨b1, 0, none⟩)) 2 (by rfl) (by kernel_rfl) (fun w => by kernel_rfl) ?_
  refine Sx.GT.ld1 44 (.tmp 5) b1 0 0 [.slice PA0 g.prog.length Pc0, .int .i64 g.a, .int .i64 g.pc, .slice PA1 g.wr.length Pc1, .slice PA2 g.lv.length Pc2, .int .i64 g.t.1, .int .i64 g.t.2.1, .bool g.t.2.2, .int .i64 g.pd, .int .i64 g.x.1, .int .i64 g.x.2.1, .bool g.x.2.2.1, .int .i64 g.x.2.2.2, .bool g.hl, .slice PA3 g.seen.length Pc3] (.slice PA0 g.prog.length Pc0) 3 (by rfl) (by rfl) (by kernel_rfl) (by kernel_rfl) (by rfl) (by kernel_rfl) (by kernel_rfl) ?_
  refine Sx.GT.pure (.pointer (some ⟨b1, 3, none⟩)) 5 (by rfl) (by kernel_rfl) (fun w => by kernel_rfl) ?_
  refine Sx.GT.ld1 45 (.tmp 8) b1 3 0 [.slice PA0 g.prog.length Pc0, .int .i64 g.a, .int .i64 g.pc, .slice PA1 g.wr.length Pc1, .slice PA2 g.lv.length Pc2, .int .i64 g.t.1, .int .i64 g.t.2.1, .bool g.t.2.2, .int .i64 g.pd, .int .i64 g.x.1, .int .i64 g.x.2.1, .bool g.x.2.2.1, .int .i64 g.x.2.2.2, .bool g.hl, .slice PA3 g.seen.length Pc3] (.slice PA1 g.wr.length Pc1) 6 (by rfl) (by rfl) (by kernel_rfl) (by kernel_rfl) (by rfl) (by kernel_rfl) (by kernel_rfl) ?_
  refine Sx.GT.pure (.pointer (some ⟨b1, 4, none⟩)) 8 (by rfl) (by kernel_rfl) (fun w => by kernel_rfl) ?_
  refine Sx.GT.ld1 45 (.tmp 11) b1 4 0 [.slice PA0 g.prog.length Pc0, .int .i64 g.a, .int .i64 g.pc, .slice PA1 g.wr.length Pc1, .slice PA2 g.lv.length Pc2, .int .i64 g.t.1, .int .i64 g.t.2.1, .bool g.t.2.2, .int .i64 g.pd, .int .i64 g.x.1, .int .i64 g.x.2.1, .bool g.x.2.2.1, .int .i64 g.x.2.2.2, .bool g.hl, .slice PA3 g.seen.length Pc3] (.slice PA2 g.lv.length Pc2) 9 (by rfl) (by rfl) (by kernel_rfl) (by kernel_rfl) (by rfl) (by kernel_rfl) (by kernel_rfl) ?_
  refine Sx.GT.pure (.pointer (some ⟨b1, 14, none⟩)) 11 (by rfl) (by kernel_rfl) (fun w => by kernel_rfl) ?_
  refine Sx.GT.ld1 26 (.tmp 14) b1 14 0 [.slice PA0 g.prog.length Pc0, .int .i64 g.a, .int .i64 g.pc, .slice PA1 g.wr.length Pc1, .slice PA2 g.lv.length Pc2, .int .i64 g.t.1, .int .i64 g.t.2.1, .bool g.t.2.2, .int .i64 g.pd, .int .i64 g.x.1, .int .i64 g.x.2.1, .bool g.x.2.2.1, .int .i64 g.x.2.2.2, .bool g.hl, .slice PA3 g.seen.length Pc3] (.slice PA3 g.seen.length Pc3) 12 (by rfl) (by rfl) (by kernel_rfl) (by kernel_rfl) (by rfl) (by kernel_rfl) (by kernel_rfl) ?_
  refine Sx.GT.alone (Sx.Alone.plain 117 #[.agg #[.slice PA0 g.prog.length Pc0, .int .i64 g.a, .int .i64 g.pc, .slice PA1 g.wr.length Pc1, .slice PA2 g.lv.length Pc2, .int .i64 g.t.1, .int .i64 g.t.2.1, .bool g.t.2.2, .int .i64 g.pd, .int .i64 g.x.1, .int .i64 g.x.2.1, .bool g.x.2.2.1, .int .i64 g.x.2.2.2, .bool g.hl, .slice PA3 g.seen.length Pc3]] (.agg #[.int .i64 g.a, .int .i64 g.pc, .int .i64 g.t.1, .int .i64 g.t.2.1, .bool g.t.2.2, .int .i64 g.pd, .int .i64 g.x.1, .int .i64 g.x.2.1, .bool g.x.2.2.1, .int .i64 g.x.2.2.2, .bool g.hl]) (by rfl) (by kernel_rfl) (fun w => by kernel_rfl) (fun w S => by exact impl_regs g _ _ (St.old S hr)) (fun w S => St.pick S [0] _ rfl (by decide)) ?_)
  refine Sx.GT.alone (Sx.Alone.call 121 #[.slice PA0 g.prog.length Pc0] (by rfl) (by kernel_rfl) (fun w => by kernel_rfl) (fun w2 S => (lib_cloneIns g.prog PA0 Pc0 _ q0 (St.old S h0)).mono fun e w2' hp => ?_))
  obtain ⟨cs, F, rfl, ho, hF, hb⟩ := hp
  obtain ⟨u2, rfl⟩ := lst_own ho
  obtain ⟨A2, c2, e2, -⟩ := lst_val ((St.got S hb ho hF).reads 0 rfl)
  subst e2
  generalize F = F2 at ho hF
  refine ⟨_, _, rfl, (St.got S hb ho hF), (fun w S => St.pick S [1] _ rfl (by decide)), ?_⟩
  clear S hb ho hF
  refine Sx.GT.alone (Sx.Alone.call 130 #[.slice PA1 g.wr.length Pc1] (by rfl) (by kernel_rfl) (fun w => by kernel_rfl) (fun w3 S => (lib_cloneSlot g.wr PA1 Pc1 _ q1 (St.old S h1)).mono fun e w3' hp => ?_))
  obtain ⟨cs, F, rfl, ho, hF, hb⟩ := hp
  obtain ⟨u3, rfl⟩ := lst_own ho
  obtain ⟨A3, c3, e3, -⟩ := lst_val ((St.got S hb ho hF).reads 0 rfl)
  subst e3
  generalize F = F3 at ho hF
  refine ⟨_, _, rfl, (St.got S hb ho hF), (fun w S => St.pick S [2] _ rfl (by decide)), ?_⟩
  clear S hb ho hF
  refine Sx.GT.alone (Sx.Alone.call 130 #[.slice PA2 g.lv.length Pc2] (by rfl) (by kernel_rfl) (fun w => by kernel_rfl) (fun w4 S => (lib_cloneSlot g.lv PA2 Pc2 _ q2 (St.old S h2)).mono fun e w4' hp => ?_))
  obtain ⟨cs, F, rfl, ho, hF, hb⟩ := hp
  obtain ⟨u4, rfl⟩ := lst_own ho
  obtain ⟨A4, c4, e4, -⟩ := lst_val ((St.got S hb ho hF).reads 0 rfl)
  subst e4
  generalize F = F4 at ho hF
  refine ⟨_, _, rfl, (St.got S hb ho hF), (fun w S => St.pick S [3] _ rfl (by decide)), ?_⟩
  clear S hb ho hF
  refine Sx.GT.alone (Sx.Alone.call 115 #[.slice PA3 g.seen.length Pc3] (by rfl) (by kernel_rfl) (fun w => by kernel_rfl) (fun w5 S => (lib_cloneInt g.seen PA3 Pc3 _ q3 (St.old S h3)).mono fun e w5' hp => ?_))
  obtain ⟨cs, F, rfl, ho, hF, hb⟩ := hp
  obtain ⟨u5, rfl⟩ := lst_own ho
  obtain ⟨A5, c5, e5, -⟩ := lst_val ((St.got S hb ho hF).reads 0 rfl)
  subst e5
  generalize F = F5 at ho hF
  refine ⟨_, _, rfl, (St.got S hb ho hF), (fun w S => St.pick S [4] _ rfl (by decide)), ?_⟩
  clear S hb ho hF
  refine Sx.GT.pure (.agg #[.int .i64 g.a, .int .i64 g.pc, .int .i64 g.t.1, .int .i64 g.t.2.1, .bool g.t.2.2, .int .i64 g.pd, .int .i64 g.x.1, .int .i64 g.x.2.1, .bool g.x.2.2.1, .int .i64 g.x.2.2.2, .bool g.hl, .slice A2 g.prog.length c2, .slice A3 g.wr.length c3, .slice A4 g.lv.length c4, .slice A5 g.seen.length c5]) 14 (by rfl) (by kernel_rfl) (fun w => by kernel_rfl) ?_
  refine Sx.GT.alone (Sx.Alone.box 145 (.tmp 17) [.int .i64 g.a, .int .i64 g.pc, .int .i64 g.t.1, .int .i64 g.t.2.1, .bool g.t.2.2, .int .i64 g.pd, .int .i64 g.x.1, .int .i64 g.x.2.1, .bool g.x.2.2.1, .int .i64 g.x.2.2.2, .bool g.hl, .slice A2 g.prog.length c2, .slice A3 g.wr.length c3, .slice A4 g.lv.length c4, .slice A5 g.seen.length c5] (by rfl) (by rfl) (by kernel_rfl) (by kernel_rfl) (fun w S => St.pick S [4] _ rfl (by decide)) (fun b6 => ?_))
  refine Sx.GT.pure (.pointer (some ⟨b6, 0, none⟩)) 16 (by rfl) (by kernel_rfl) (fun w => by kernel_rfl) ?_
  refine Sx.GT.nil ?_
  refine Sx.E.next ?_
  refine Sx.C.ret ?_
  refine Sx.E.ret1 (.pointer (some ⟨b6, 0, none⟩)) rfl (by kernel_rfl) (fun w S => ?_)
  exact ⟨_, _, _, _, _, _, _, _, _, _, _, _, _, _, _, _, _, _, _, _, _, rfl, St.pick S [0, 4, 3, 2, 1] _ rfl (by decide)⟩
set_option maxRecDepth 100000 in
set_option maxHeartbeats 4000000 in
theorem impl_guestM {w0 w : World} {b : Nat} {R : List Res} {A0 A1 A2 A3 : Option Addr} {c0 c1 c2 c3 : Nat} (g : gT) (S : St w0 w (vr b [.int .i64 g.a, .int .i64 g.pc, .int .i64 g.t.1, .int .i64 g.t.2.1, .bool g.t.2.2, .int .i64 g.pd, .int .i64 g.x.1, .int .i64 g.x.2.1, .bool g.x.2.2.1, .int .i64 g.x.2.2.2, .bool g.hl, .slice A0 g.prog.length c0, .slice A1 g.wr.length c1, .slice A2 g.lv.length c2, .slice A3 g.seen.length c3] :: R)) : Calls Try.prog 108 #[.pointer (some ⟨b, 0, none⟩)] w fun e w' => e = .returned (.agg #[.slice A0 g.prog.length c0, .int .i64 g.a, .int .i64 g.pc, .slice A1 g.wr.length c1, .slice A2 g.lv.length c2, .int .i64 g.t.1, .int .i64 g.t.2.1, .bool g.t.2.2, .int .i64 g.pd, .int .i64 g.x.1, .int .i64 g.x.2.1, .bool g.x.2.2.1, .int .i64 g.x.2.2.2, .bool g.hl, .slice A3 g.seen.length c3]) ∧ St w0 w' (vr b [.int .i64 g.a, .int .i64 g.pc, .int .i64 g.t.1, .int .i64 g.t.2.1, .bool g.t.2.2, .int .i64 g.pd, .int .i64 g.x.1, .int .i64 g.x.2.1, .bool g.x.2.2.1, .int .i64 g.x.2.2.2, .bool g.hl, .slice A0 g.prog.length c0, .slice A1 g.wr.length c1, .slice A2 g.lv.length c2, .slice A3 g.seen.length c3] :: R) := by
  refine Sx.enterS (args := [.pointer (some ⟨b, 0, none⟩)]) S Try.func108 rfl Try.ntmps108 rfl ?_
  refine Sx.C.seq ?_
  refine Sx.C.region ?_
  refine Sx.G.alloc 51 (.agg #[.slice none 0 0, .int .i64 0, .int .i64 0, .slice none 0 0, .slice none 0 0, .int .i64 0, .int .i64 0, .bool false, .int .i64 0, .int .i64 0, .int .i64 0, .bool false, .int .i64 0, .bool false, .slice none 0 0]) [.slice none 0 0, .int .i64 0, .int .i64 0, .slice none 0 0, .slice none 0 0, .int .i64 0, .int .i64 0, .bool false, .int .i64 0, .int .i64 0, .int .i64 0, .bool false, .int .i64 0, .bool false, .slice none 0 0] rfl (by kernel_rfl) (fun w => by kernel_rfl) (by kernel_rfl) (fun b1 => ?_)
  refine Sx.G.nil ?_
  refine Sx.E.next ?_
  refine Sx.C.seq ?_
  refine Sx.C.draw (.take 0 (.take 1 (.take 2 (.take 3 (.take 4 (.take 5 (.take 6 (.take 7 (.take 8 (.take 9 (.take 10 (.take 11 (.take 12 (.take 13 (.take 14 (.take 15 (.take 16 (.take 17 (.take 18 (.take 19 (.take 20 (.take 21 (.take 22 (.take 23 (.take 24 (.take 25 (.take 26 (.take 27 (.take 28 (.take 29 (.take 30 (.take 31 (.take 32 (.take 33 (.take 34 (.take 35 (.take 36 (.take 37 (.take 38 (.take 39 (.take 40 (.take 41 (.take 42 (.take 43 (.take 44 (.take 45 (.take 46 (.alone 47 .nil)))))))))))))))))))))))))))))))))))))))))))))))) [vr b [.int .i64 g.a, .int .i64 g.pc, .int .i64 g.t.1, .int .i64 g.t.2.1, .bool g.t.2.2, .int .i64 g.pd, .int .i64 g.x.1, .int .i64 g.x.2.1, .bool g.x.2.2.1, .int .i64 g.x.2.2.2, .bool g.hl, .slice A0 g.prog.length c0, .slice A1 g.wr.length c1, .slice A2 g.lv.length c2, .slice A3 g.seen.length c3]] (fun w S => St.pick S [1] _ rfl (by decide)) (by kernel_rfl) (by kernel_rfl) (by kernel_rfl) ?_
  refine Sx.GT.pure (.pointer (some ⟨b, 0, none⟩)) 0 (by rfl) (by kernel_rfl) (fun w => by kernel_rfl) ?_
  refine Sx.GT.pure (.pointer (some ⟨b, 0, none⟩)) 1 (by rfl) (by kernel_rfl) (fun w => by kernel_rfl) ?_
  refine Sx.GT.pure (.pointer (some ⟨b, 11, none⟩)) 2 (by rfl) (by kernel_rfl) (fun w => by kernel_rfl) ?_
  refine Sx.GT.ld1 44 (.tmp 5) b 11 0 [.int .i64 g.a, .int .i64 g.pc, .int .i64 g.t.1, .int .i64 g.t.2.1, .bool g.t.2.2, .int .i64 g.pd, .int .i64 g.x.1, .int .i64 g.x.2.1, .bool g.x.2.2.1, .int .i64 g.x.2.2.2, .bool g.hl, .slice A0 g.prog.length c0, .slice A1 g.wr.length c1, .slice A2 g.lv.length c2, .slice A3 g.seen.length c3] (.slice A0 g.prog.length c0) 3 (by rfl) (by rfl) (by kernel_rfl) (by kernel_rfl) (by rfl) (by kernel_rfl) (by kernel_rfl) ?_
  refine Sx.GT.pure (.pointer (some ⟨b, 0, none⟩)) 4 (by rfl) (by kernel_rfl) (fun w => by kernel_rfl) ?_
  refine Sx.GT.pure (.pointer (some ⟨b, 0, none⟩)) 5 (by rfl) (by kernel_rfl) (fun w => by kernel_rfl) ?_
  refine Sx.GT.pure (.pointer (some ⟨b, 0, none⟩)) 6 (by rfl) (by kernel_rfl) (fun w => by kernel_rfl) ?_
  refine Sx.GT.pure (.pointer (some ⟨b, 0, none⟩)) 7 (by rfl) (by kernel_rfl) (fun w => by kernel_rfl) ?_
  refine Sx.GT.ld1 3 (.tmp 10) b 0 0 [.int .i64 g.a, .int .i64 g.pc, .int .i64 g.t.1, .int .i64 g.t.2.1, .bool g.t.2.2, .int .i64 g.pd, .int .i64 g.x.1, .int .i64 g.x.2.1, .bool g.x.2.2.1, .int .i64 g.x.2.2.2, .bool g.hl, .slice A0 g.prog.length c0, .slice A1 g.wr.length c1, .slice A2 g.lv.length c2, .slice A3 g.seen.length c3] (.int .i64 g.a) 8 (by rfl) (by rfl) (by kernel_rfl) (by kernel_rfl) (by rfl) (by kernel_rfl) (by kernel_rfl) ?_
  refine Sx.GT.pure (.pointer (some ⟨b, 0, none⟩)) 9 (by rfl) (by kernel_rfl) (fun w => by kernel_rfl) ?_
  refine Sx.GT.pure (.pointer (some ⟨b, 0, none⟩)) 10 (by rfl) (by kernel_rfl) (fun w => by kernel_rfl) ?_
  refine Sx.GT.pure (.pointer (some ⟨b, 0, none⟩)) 11 (by rfl) (by kernel_rfl) (fun w => by kernel_rfl) ?_
  refine Sx.GT.pure (.pointer (some ⟨b, 1, none⟩)) 12 (by rfl) (by kernel_rfl) (fun w => by kernel_rfl) ?_
  refine Sx.GT.ld1 3 (.tmp 15) b 1 0 [.int .i64 g.a, .int .i64 g.pc, .int .i64 g.t.1, .int .i64 g.t.2.1, .bool g.t.2.2, .int .i64 g.pd, .int .i64 g.x.1, .int .i64 g.x.2.1, .bool g.x.2.2.1, .int .i64 g.x.2.2.2, .bool g.hl, .slice A0 g.prog.length c0, .slice A1 g.wr.length c1, .slice A2 g.lv.length c2, .slice A3 g.seen.length c3] (.int .i64 g.pc) 13 (by rfl) (by rfl) (by kernel_rfl) (by kernel_rfl) (by rfl) (by kernel_rfl) (by kernel_rfl) ?_
  refine Sx.GT.pure (.pointer (some ⟨b, 0, none⟩)) 14 (by rfl) (by kernel_rfl) (fun w => by kernel_rfl) ?_
  refine Sx.GT.pure (.pointer (some ⟨b, 0, none⟩)) 15 (by rfl) (by kernel_rfl) (fun w => by kernel_rfl) ?_
  refine Sx.GT.pure (.pointer (some ⟨b, 12, none⟩)) 16 (by rfl) (by kernel_rfl) (fun w => by kernel_rfl) ?_
  refine Sx.GT.ld1 45 (.tmp 19) b 12 0 [.int .i64 g.a, .int .i64 g.pc, .int .i64 g.t.1, .int .i64 g.t.2.1, .bool g.t.2.2, .int .i64 g.pd, .int .i64 g.x.1, .int .i64 g.x.2.1, .bool g.x.2.2.1, .int .i64 g.x.2.2.2, .bool g.hl, .slice A0 g.prog.length c0, .slice A1 g.wr.length c1, .slice A2 g.lv.length c2, .slice A3 g.seen.length c3] (.slice A1 g.wr.length c1) 17 (by rfl) (by rfl) (by kernel_rfl) (by kernel_rfl) (by rfl) (by kernel_rfl) (by kernel_rfl) ?_
  refine Sx.GT.pure (.pointer (some ⟨b, 0, none⟩)) 18 (by rfl) (by kernel_rfl) (fun w => by kernel_rfl) ?_
  refine Sx.GT.pure (.pointer (some ⟨b, 0, none⟩)) 19 (by rfl) (by kernel_rfl) (fun w => by kernel_rfl) ?_
  refine Sx.GT.pure (.pointer (some ⟨b, 13, none⟩)) 20 (by rfl) (by kernel_rfl) (fun w => by kernel_rfl) ?_
  refine Sx.GT.ld1 45 (.tmp 23) b 13 0 [.int .i64 g.a, .int .i64 g.pc, .int .i64 g.t.1, .int .i64 g.t.2.1, .bool g.t.2.2, .int .i64 g.pd, .int .i64 g.x.1, .int .i64 g.x.2.1, .bool g.x.2.2.1, .int .i64 g.x.2.2.2, .bool g.hl, .slice A0 g.prog.length c0, .slice A1 g.wr.length c1, .slice A2 g.lv.length c2, .slice A3 g.seen.length c3] (.slice A2 g.lv.length c2) 21 (by rfl) (by rfl) (by kernel_rfl) (by kernel_rfl) (by rfl) (by kernel_rfl) (by kernel_rfl) ?_
  refine Sx.GT.pure (.pointer (some ⟨b, 0, none⟩)) 22 (by rfl) (by kernel_rfl) (fun w => by kernel_rfl) ?_
  refine Sx.GT.pure (.pointer (some ⟨b, 0, none⟩)) 23 (by rfl) (by kernel_rfl) (fun w => by kernel_rfl) ?_
  refine Sx.GT.pure (.pointer (some ⟨b, 0, none⟩)) 24 (by rfl) (by kernel_rfl) (fun w => by kernel_rfl) ?_
  refine Sx.GT.pure (.pointer (some ⟨b, 2, none⟩)) 25 (by rfl) (by kernel_rfl) (fun w => by kernel_rfl) ?_
  refine Sx.GT.ld 47 (.tmp 28) b 2 0 [.int .i64 g.a, .int .i64 g.pc, .int .i64 g.t.1, .int .i64 g.t.2.1, .bool g.t.2.2, .int .i64 g.pd, .int .i64 g.x.1, .int .i64 g.x.2.1, .bool g.x.2.2.1, .int .i64 g.x.2.2.2, .bool g.hl, .slice A0 g.prog.length c0, .slice A1 g.wr.length c1, .slice A2 g.lv.length c2, .slice A3 g.seen.length c3] [.int .i64 g.t.1, .int .i64 g.t.2.1, .bool g.t.2.2] 26 (by rfl) (by rfl) (by kernel_rfl) (by kernel_rfl) (by rfl) (by kernel_rfl) (by kernel_rfl) (by kernel_rfl) ?_
  refine Sx.GT.pure (.pointer (some ⟨b, 0, none⟩)) 27 (by rfl) (by kernel_rfl) (fun w => by kernel_rfl) ?_
  refine Sx.GT.pure (.pointer (some ⟨b, 0, none⟩)) 28 (by rfl) (by kernel_rfl) (fun w => by kernel_rfl) ?_
  refine Sx.GT.pure (.pointer (some ⟨b, 0, none⟩)) 29 (by rfl) (by kernel_rfl) (fun w => by kernel_rfl) ?_
  refine Sx.GT.pure (.pointer (some ⟨b, 5, none⟩)) 30 (by rfl) (by kernel_rfl) (fun w => by kernel_rfl) ?_
  refine Sx.GT.ld1 3 (.tmp 33) b 5 0 [.int .i64 g.a, .int .i64 g.pc, .int .i64 g.t.1, .int .i64 g.t.2.1, .bool g.t.2.2, .int .i64 g.pd, .int .i64 g.x.1, .int .i64 g.x.2.1, .bool g.x.2.2.1, .int .i64 g.x.2.2.2, .bool g.hl, .slice A0 g.prog.length c0, .slice A1 g.wr.length c1, .slice A2 g.lv.length c2, .slice A3 g.seen.length c3] (.int .i64 g.pd) 31 (by rfl) (by rfl) (by kernel_rfl) (by kernel_rfl) (by rfl) (by kernel_rfl) (by kernel_rfl) ?_
  refine Sx.GT.pure (.pointer (some ⟨b, 0, none⟩)) 32 (by rfl) (by kernel_rfl) (fun w => by kernel_rfl) ?_
  refine Sx.GT.pure (.pointer (some ⟨b, 0, none⟩)) 33 (by rfl) (by kernel_rfl) (fun w => by kernel_rfl) ?_
  refine Sx.GT.pure (.pointer (some ⟨b, 0, none⟩)) 34 (by rfl) (by kernel_rfl) (fun w => by kernel_rfl) ?_
  refine Sx.GT.pure (.pointer (some ⟨b, 6, none⟩)) 35 (by rfl) (by kernel_rfl) (fun w => by kernel_rfl) ?_
  refine Sx.GT.ld 49 (.tmp 38) b 6 0 [.int .i64 g.a, .int .i64 g.pc, .int .i64 g.t.1, .int .i64 g.t.2.1, .bool g.t.2.2, .int .i64 g.pd, .int .i64 g.x.1, .int .i64 g.x.2.1, .bool g.x.2.2.1, .int .i64 g.x.2.2.2, .bool g.hl, .slice A0 g.prog.length c0, .slice A1 g.wr.length c1, .slice A2 g.lv.length c2, .slice A3 g.seen.length c3] [.int .i64 g.x.1, .int .i64 g.x.2.1, .bool g.x.2.2.1, .int .i64 g.x.2.2.2] 36 (by rfl) (by rfl) (by kernel_rfl) (by kernel_rfl) (by rfl) (by kernel_rfl) (by kernel_rfl) (by kernel_rfl) ?_
  refine Sx.GT.pure (.pointer (some ⟨b, 0, none⟩)) 37 (by rfl) (by kernel_rfl) (fun w => by kernel_rfl) ?_
  refine Sx.GT.pure (.pointer (some ⟨b, 0, none⟩)) 38 (by rfl) (by kernel_rfl) (fun w => by kernel_rfl) ?_
  refine Sx.GT.pure (.pointer (some ⟨b, 0, none⟩)) 39 (by rfl) (by kernel_rfl) (fun w => by kernel_rfl) ?_
  refine Sx.GT.pure (.pointer (some ⟨b, 10, none⟩)) 40 (by rfl) (by kernel_rfl) (fun w => by kernel_rfl) ?_
  refine Sx.GT.ld1 4 (.tmp 43) b 10 0 [.int .i64 g.a, .int .i64 g.pc, .int .i64 g.t.1, .int .i64 g.t.2.1, .bool g.t.2.2, .int .i64 g.pd, .int .i64 g.x.1, .int .i64 g.x.2.1, .bool g.x.2.2.1, .int .i64 g.x.2.2.2, .bool g.hl, .slice A0 g.prog.length c0, .slice A1 g.wr.length c1, .slice A2 g.lv.length c2, .slice A3 g.seen.length c3] (.bool g.hl) 41 (by rfl) (by rfl) (by kernel_rfl) (by kernel_rfl) (by rfl) (by kernel_rfl) (by kernel_rfl) ?_
  refine Sx.GT.pure (.pointer (some ⟨b, 0, none⟩)) 42 (by rfl) (by kernel_rfl) (fun w => by kernel_rfl) ?_
  refine Sx.GT.pure (.pointer (some ⟨b, 0, none⟩)) 43 (by rfl) (by kernel_rfl) (fun w => by kernel_rfl) ?_
  refine Sx.GT.pure (.pointer (some ⟨b, 14, none⟩)) 44 (by rfl) (by kernel_rfl) (fun w => by kernel_rfl) ?_
  refine Sx.GT.ld1 26 (.tmp 47) b 14 0 [.int .i64 g.a, .int .i64 g.pc, .int .i64 g.t.1, .int .i64 g.t.2.1, .bool g.t.2.2, .int .i64 g.pd, .int .i64 g.x.1, .int .i64 g.x.2.1, .bool g.x.2.2.1, .int .i64 g.x.2.2.2, .bool g.hl, .slice A0 g.prog.length c0, .slice A1 g.wr.length c1, .slice A2 g.lv.length c2, .slice A3 g.seen.length c3] (.slice A3 g.seen.length c3) 45 (by rfl) (by rfl) (by kernel_rfl) (by kernel_rfl) (by rfl) (by kernel_rfl) (by kernel_rfl) ?_
  refine Sx.GT.pure (.agg #[.slice A0 g.prog.length c0, .int .i64 g.a, .int .i64 g.pc, .slice A1 g.wr.length c1, .slice A2 g.lv.length c2, .int .i64 g.t.1, .int .i64 g.t.2.1, .bool g.t.2.2, .int .i64 g.pd, .int .i64 g.x.1, .int .i64 g.x.2.1, .bool g.x.2.2.1, .int .i64 g.x.2.2.2, .bool g.hl, .slice A3 g.seen.length c3]) 46 (by rfl) (by kernel_rfl) (fun w => by kernel_rfl) ?_
  refine Sx.GT.alone (Sx.Alone.sto 51 (.tmp 2) (.tmp 49) b1 0 0 [.slice none 0 0, .int .i64 0, .int .i64 0, .slice none 0 0, .slice none 0 0, .int .i64 0, .int .i64 0, .bool false, .int .i64 0, .int .i64 0, .int .i64 0, .bool false, .int .i64 0, .bool false, .slice none 0 0] [.slice A0 g.prog.length c0, .int .i64 g.a, .int .i64 g.pc, .slice A1 g.wr.length c1, .slice A2 g.lv.length c2, .int .i64 g.t.1, .int .i64 g.t.2.1, .bool g.t.2.2, .int .i64 g.pd, .int .i64 g.x.1, .int .i64 g.x.2.1, .bool g.x.2.2.1, .int .i64 g.x.2.2.2, .bool g.hl, .slice A3 g.seen.length c3] [.slice A0 g.prog.length c0, .int .i64 g.a, .int .i64 g.pc, .slice A1 g.wr.length c1, .slice A2 g.lv.length c2, .int .i64 g.t.1, .int .i64 g.t.2.1, .bool g.t.2.2, .int .i64 g.pd, .int .i64 g.x.1, .int .i64 g.x.2.1, .bool g.x.2.2.1, .int .i64 g.x.2.2.2, .bool g.hl, .slice A3 g.seen.length c3] (vr b1 [.slice A0 g.prog.length c0, .int .i64 g.a, .int .i64 g.pc, .slice A1 g.wr.length c1, .slice A2 g.lv.length c2, .int .i64 g.t.1, .int .i64 g.t.2.1, .bool g.t.2.2, .int .i64 g.pd, .int .i64 g.x.1, .int .i64 g.x.2.1, .bool g.x.2.2.1, .int .i64 g.x.2.2.2, .bool g.hl, .slice A3 g.seen.length c3] :: vr b [.int .i64 g.a, .int .i64 g.pc, .int .i64 g.t.1, .int .i64 g.t.2.1, .bool g.t.2.2, .int .i64 g.pd, .int .i64 g.x.1, .int .i64 g.x.2.1, .bool g.x.2.2.1, .int .i64 g.x.2.2.2, .bool g.hl, .slice A0 g.prog.length c0, .slice A1 g.wr.length c1, .slice A2 g.lv.length c2, .slice A3 g.seen.length c3] :: R) (by rfl) (by rfl) (by kernel_rfl) (by kernel_rfl) (by kernel_rfl) (by rfl) (by kernel_rfl) (by rfl) (by kernel_rfl) (by kernel_rfl) (by kernel_rfl) (fun w S => St.pick S [1] _ rfl (by decide)) ?_)
  refine Sx.GT.nil ?_
  refine Sx.E.next ?_
  refine Sx.C.ret ?_
  refine Sx.E.retc b1 0 [.slice A0 g.prog.length c0, .int .i64 g.a, .int .i64 g.pc, .slice A1 g.wr.length c1, .slice A2 g.lv.length c2, .int .i64 g.t.1, .int .i64 g.t.2.1, .bool g.t.2.2, .int .i64 g.pd, .int .i64 g.x.1, .int .i64 g.x.2.1, .bool g.x.2.2.1, .int .i64 g.x.2.2.2, .bool g.hl, .slice A3 g.seen.length c3] rfl (by kernel_rfl) rfl (by kernel_rfl) (by kernel_rfl) (fun w S => ?_)
  replace S := Sx.St.tail S
  exact ⟨rfl, S⟩
end Go.Proofs.Ytldgadmpclgfhaa.Guests
namespace Go.Proofs.Ytldgadmpclgfhaa.Sx
set_option maxRecDepth 100000
open Go.ChangeShapes Go.WideShapes Go.ChangeAt Go.RowKit Go.Deep
open Go.Proofs.Ytldgadmpclgfhaa.Base Go.Proofs.Ytldgadmpclgfhaa.Mem Go.Proofs.Ytldgadmpclgfhaa.Data Go.Proofs.Ytldgadmpclgfhaa.Stt Go.Proofs.Ytldgadmpclgfhaa.Draw
set_option linter.unusedVariables false
set_option linter.unusedSimpArgs false
section
variable {α β : Type} {r : Rp α} {P : Program} {n : Nat} {ops : Array Oper} {Q : Exit → Act → World → Prop} {Z : World → Prop} {w0 : World} {T : Tl} {L L' M : List Res} {rest : List Oper} {l : List Oper} {o : Oper} {t : Ord.Ot} {w : World} {x : α} {cs : List Value}
/-- The slots told anew. -/
theorem C.slots {T' : Tl} {c : Code} (h : ∀ a, Ag n T a → Ag n T' a) (k : C P n Q w0 T' L c) : C P n Q w0 T L c := fun a w hA S => k a w (h a hA) S
theorem Fresh.one {w' : World} (q : Res) (hs : q.says w') (h0 : w0.heap.size ≤ w.heap.size) (hl : w.heap.size ≤ q.lo) (hh : q.hi ≤ w'.heap.size) : Fresh w0 w w' [q] :=
  ⟨fun i r h => by
    match i, h with
    | 0, h => cases h; exact hs
    | i + 1, h => simp at h, fun i r h => by
    match i, h with
    | 0, h => cases h; exact Nat.le_trans h0 hl
    | i + 1, h => simp at h, fun i r h => by
    match i, h with
    | 0, h => cases h; exact hh
    | i + 1, h => simp at h, fun i r h k hk => by
    match i, h with
    | 0, h => cases h; exact Nat.le_trans hl (q.inn k hk).1
    | i + 1, h => simp at h, fun i j r s h1 h2 hne => by
    match i, j, h1, h2 with
    | 0, 0, _, _ => exact absurd rfl hne
    | 0, j + 1, _, h2 => simp at h2
    | i + 1, _, h1, _ => simp at h1⟩
theorem Fresh.nil (w0 w w' : World) : Fresh w0 w w' [] := ⟨fun i r h => by simp at h, fun i r h => by simp at h, fun i r h => by simp at h, fun i r h => by simp at h, fun i j r s h => by simp at h⟩
end
end Go.Proofs.Ytldgadmpclgfhaa.Sx
namespace Go.Proofs.Ytldgadmpclgfhaa.Kit
set_option maxRecDepth 100000
open Go.ChangeShapes Go.WideShapes Go.ChangeAt Go.RowKit Go.Deep
open Go.Proofs.Ytldgadmpclgfhaa.Base Go.Proofs.Ytldgadmpclgfhaa.Mem Go.Proofs.Ytldgadmpclgfhaa.Data Go.Proofs.Ytldgadmpclgfhaa.Stt Go.Proofs.Ytldgadmpclgfhaa.Guests Go.Proofs.Ytldgadmpclgfhaa.Ctls Go.Proofs.Ytldgadmpclgfhaa.Exits
set_option linter.unusedVariables false
set_option linter.unusedSimpArgs false
set_option maxRecDepth 100000 in
set_option maxHeartbeats 4000000 in
theorem implx_another_g (g : gT) (cs : List Value) (w : World) (hc : rG.cap g) (h : rG.rd w 0 w.heap.size g cs) : Calls Try.prog 69 #[.agg cs.toArray] w (Gives rG w g) := by
  obtain ⟨q0, q1, q2, q3⟩ := rG_len hc
  have hr := h
  obtain ⟨P0, P1, P2, P3, rfl, h0, h1, h2, h3⟩ := rG_rd h
  obtain ⟨PA0, Pc0, e0, hP0⟩ := lst_val h0
  subst e0
  obtain ⟨PA1, Pc1, e1, hP1⟩ := lst_val h1
  subst e1
  obtain ⟨PA2, Pc2, e2, hP2⟩ := lst_val h2
  subst e2
  obtain ⟨PA3, Pc3, e3, hP3⟩ := lst_val h3
  subst e3
  refine Sx.enter (args := [.agg #[.slice PA0 g.prog.length Pc0, .int .i64 g.a, .int .i64 g.pc, .slice PA1 g.wr.length Pc1, .slice PA2 g.lv.length Pc2, .int .i64 g.t.1, .int .i64 g.t.2.1, .bool g.t.2.2, .int .i64 g.pd, .int .i64 g.x.1, .int .i64 g.x.2.1, .bool g.x.2.2.1, .int .i64 g.x.2.2.2, .bool g.hl, .slice PA3 g.seen.length Pc3]]) Try.func69 rfl Try.ntmps69 rfl ?_
  refine Sx.C.seq ?_
  refine Sx.C.region ?_
  refine Sx.G.box 51 (.tmp 0) [.slice PA0 g.prog.length Pc0, .int .i64 g.a, .int .i64 g.pc, .slice PA1 g.wr.length Pc1, .slice PA2 g.lv.length Pc2, .int .i64 g.t.1, .int .i64 g.t.2.1, .bool g.t.2.2, .int .i64 g.pd, .int .i64 g.x.1, .int .i64 g.x.2.1, .bool g.x.2.2.1, .int .i64 g.x.2.2.2, .bool g.hl, .slice PA3 g.seen.length Pc3] rfl (by kernel_rfl) (by kernel_rfl) (fun b1 => ?_)
  refine Sx.G.alloc 51 (.agg #[.slice none 0 0, .int .i64 0, .int .i64 0, .slice none 0 0, .slice none 0 0, .int .i64 0, .int .i64 0, .bool false, .int .i64 0, .int .i64 0, .int .i64 0, .bool false, .int .i64 0, .bool false, .slice none 0 0]) [.slice none 0 0, .int .i64 0, .int .i64 0, .slice none 0 0, .slice none 0 0, .int .i64 0, .int .i64 0, .bool false, .int .i64 0, .int .i64 0, .int .i64 0, .bool false, .int .i64 0, .bool false, .slice none 0 0] rfl (by kernel_rfl) (fun w => by kernel_rfl) (by kernel_rfl) (fun b2 => ?_)
  refine Sx.G.nil ?_
  refine Sx.E.next ?_
  refine Sx.C.seq ?_
  refine Sx.C.region ?_
  refine Sx.G.ld 51 (.tmp 1) b1 0 1 [.slice PA0 g.prog.length Pc0, .int .i64 g.a, .int .i64 g.pc, .slice PA1 g.wr.length Pc1, .slice PA2 g.lv.length Pc2, .int .i64 g.t.1, .int .i64 g.t.2.1, .bool g.t.2.2, .int .i64 g.pd, .int .i64 g.x.1, .int .i64 g.x.2.1, .bool g.x.2.2.1, .int .i64 g.x.2.2.2, .bool g.hl, .slice PA3 g.seen.length Pc3] [.slice PA0 g.prog.length Pc0, .int .i64 g.a, .int .i64 g.pc, .slice PA1 g.wr.length Pc1, .slice PA2 g.lv.length Pc2, .int .i64 g.t.1, .int .i64 g.t.2.1, .bool g.t.2.2, .int .i64 g.pd, .int .i64 g.x.1, .int .i64 g.x.2.1, .bool g.x.2.2.1, .int .i64 g.x.2.2.2, .bool g.hl, .slice PA3 g.seen.length Pc3] rfl (by kernel_rfl) (by kernel_rfl) rfl (by kernel_rfl) (by kernel_rfl) (by kernel_rfl) ?_
  refine Sx.G.call 107 #[.agg #[.slice PA0 g.prog.length Pc0, .int .i64 g.a, .int .i64 g.pc, .slice PA1 g.wr.length Pc1, .slice PA2 g.lv.length Pc2, .int .i64 g.t.1, .int .i64 g.t.2.1, .bool g.t.2.2, .int .i64 g.pd, .int .i64 g.x.1, .int .i64 g.x.2.1, .bool g.x.2.2.1, .int .i64 g.x.2.2.2, .bool g.hl, .slice PA3 g.seen.length Pc3]] (by kernel_rfl) (fun w => by kernel_rfl) (fun w3 S => (impl_copyM g _ _ hc (St.old S hr)).mono fun e w3' hp => ?_)
  obtain ⟨b3, A3_0, c3_0, l3_0, h3_0, F3_0, A3_1, c3_1, l3_1, h3_1, F3_1, A3_2, c3_2, l3_2, h3_2, F3_2, A3_3, c3_3, l3_3, h3_3, F3_3, rfl, U⟩ := hp
  refine ⟨_, _, rfl, (Sx.St.join S U), ?_⟩
  clear S U
  refine Sx.G.call 108 #[.pointer (some ⟨b3, 0, none⟩)] (by kernel_rfl) (fun w => by kernel_rfl) (fun w4 S => (impl_guestM g S).mono fun e w4' hp => ?_)
  obtain ⟨rfl, S'⟩ := hp
  refine ⟨_, _, rfl, S', ?_⟩
  clear S S'
  refine Sx.G.sto 51 (.tmp 2) (.tmp 5) b2 0 5 [.slice none 0 0, .int .i64 0, .int .i64 0, .slice none 0 0, .slice none 0 0, .int .i64 0, .int .i64 0, .bool false, .int .i64 0, .int .i64 0, .int .i64 0, .bool false, .int .i64 0, .bool false, .slice none 0 0] [.slice A3_0 g.prog.length c3_0, .int .i64 g.a, .int .i64 g.pc, .slice A3_1 g.wr.length c3_1, .slice A3_2 g.lv.length c3_2, .int .i64 g.t.1, .int .i64 g.t.2.1, .bool g.t.2.2, .int .i64 g.pd, .int .i64 g.x.1, .int .i64 g.x.2.1, .bool g.x.2.2.1, .int .i64 g.x.2.2.2, .bool g.hl, .slice A3_3 g.seen.length c3_3] [.slice A3_0 g.prog.length c3_0, .int .i64 g.a, .int .i64 g.pc, .slice A3_1 g.wr.length c3_1, .slice A3_2 g.lv.length c3_2, .int .i64 g.t.1, .int .i64 g.t.2.1, .bool g.t.2.2, .int .i64 g.pd, .int .i64 g.x.1, .int .i64 g.x.2.1, .bool g.x.2.2.1, .int .i64 g.x.2.2.2, .bool g.hl, .slice A3_3 g.seen.length c3_3] [vr b3 [.int .i64 g.a, .int .i64 g.pc, .int .i64 g.t.1, .int .i64 g.t.2.1, .bool g.t.2.2, .int .i64 g.pd, .int .i64 g.x.1, .int .i64 g.x.2.1, .bool g.x.2.2.1, .int .i64 g.x.2.2.2, .bool g.hl, .slice A3_0 g.prog.length c3_0, .slice A3_1 g.wr.length c3_1, .slice A3_2 g.lv.length c3_2, .slice A3_3 g.seen.length c3_3], ow (rLst 111 (rPair rInt rInt)) l3_0 h3_0 g.prog [.slice A3_0 g.prog.length c3_0] F3_0, ow (rLst 129 (rPair rInt rInt)) l3_1 h3_1 g.wr [.slice A3_1 g.wr.length c3_1] F3_1, ow (rLst 129 (rPair rInt rInt)) l3_2 h3_2 g.lv [.slice A3_2 g.lv.length c3_2] F3_2, ow (rLst 3 rInt) l3_3 h3_3 g.seen [.slice A3_3 g.seen.length c3_3] F3_3, vr b2 [.slice A3_0 g.prog.length c3_0, .int .i64 g.a, .int .i64 g.pc, .slice A3_1 g.wr.length c3_1, .slice A3_2 g.lv.length c3_2, .int .i64 g.t.1, .int .i64 g.t.2.1, .bool g.t.2.2, .int .i64 g.pd, .int .i64 g.x.1, .int .i64 g.x.2.1, .bool g.x.2.2.1, .int .i64 g.x.2.2.2, .bool g.hl, .slice A3_3 g.seen.length c3_3], vr b1 [.slice PA0 g.prog.length Pc0, .int .i64 g.a, .int .i64 g.pc, .slice PA1 g.wr.length Pc1, .slice PA2 g.lv.length Pc2, .int .i64 g.t.1, .int .i64 g.t.2.1, .bool g.t.2.2, .int .i64 g.pd, .int .i64 g.x.1, .int .i64 g.x.2.1, .bool g.x.2.2.1, .int .i64 g.x.2.2.2, .bool g.hl, .slice PA3 g.seen.length Pc3]] rfl (by kernel_rfl) (by kernel_rfl) (by kernel_rfl) rfl (by kernel_rfl) rfl (by kernel_rfl) (by kernel_rfl) (by kernel_rfl) ?_
  refine Sx.G.nil ?_
  refine Sx.E.next ?_
  refine Sx.C.ret ?_
  refine Sx.E.retc b2 5 [.slice A3_0 g.prog.length c3_0, .int .i64 g.a, .int .i64 g.pc, .slice A3_1 g.wr.length c3_1, .slice A3_2 g.lv.length c3_2, .int .i64 g.t.1, .int .i64 g.t.2.1, .bool g.t.2.2, .int .i64 g.pd, .int .i64 g.x.1, .int .i64 g.x.2.1, .bool g.x.2.2.1, .int .i64 g.x.2.2.2, .bool g.hl, .slice A3_3 g.seen.length c3_3] rfl (by kernel_rfl) rfl (by kernel_rfl) (by kernel_rfl) (fun w S => ?_)
  obtain ⟨GW2, S⟩ := S.weak 2 rfl
  obtain ⟨GW3, S⟩ := S.weak 3 rfl
  obtain ⟨ho, hF⟩ := rG_shut (g := g) S 1 rfl 2 rfl 3 rfl 4 rfl (by decide) (by decide) (by decide) (by decide) (by decide) (by decide)
  exact ⟨_, _, rfl, ho, hF, S.below⟩
theorem implx_another (g : gT) (cs : List Value) (w : World) (hc : wG.cap g) (h : wG.rd w 0 w.heap.size g cs) : Calls Try.prog 69 #[.agg cs.toArray] w (Gives wG w g) := (implx_another_g g cs w (cap_G hc) (rd_G h)).mono weak_G
theorem inB_dec (g n : Int) : inB g 0 (n - 1) = (decide (g ≥ 0) && decide (g < n)) := by
  rw [Bool.eq_iff_iff, inB_iff]; simp; omega
set_option maxRecDepth 100000 in
set_option maxHeartbeats 4000000 in
theorem implx_has (A : Option Addr) (n c : Nat) (g : Int) (w : World)  : Calls Try.prog 68 #[.slice A n c, .int .i64 g] w (fun e w' => e = .returned (.bool (inB g 0 (((n : Nat) : Int) - 1))) ∧ Below w.heap.size w w') := by
  refine Sx.enter (args := [.slice A n c, .int .i64 g]) Try.func68 rfl Try.ntmps68 rfl ?_
  refine Sx.C.seq ?_
  refine Sx.C.region ?_
  refine Sx.G.pure (.bool false) (by kernel_rfl) (fun w => by kernel_rfl) ?_
  refine Sx.G.nil ?_
  refine Sx.E.next ?_
  refine Sx.C.seq ?_
  refine Sx.C.region ?_
  refine Sx.G.pure (.int .i64 g) (by kernel_rfl) (fun w => by kernel_rfl) ?_
  refine Sx.G.pure (.bool (decide (g ≥ 0))) (by kernel_rfl) (fun w => by kernel_rfl) ?_
  refine Sx.G.pure (.bool (decide (g ≥ 0))) (by kernel_rfl) (fun w => by kernel_rfl) ?_
  cases hc1 : (decide (g ≥ 0))
  · have hb1 := hc1
    replace hc1 := of_decide_eq_false hc1
    refine Sx.G.skip (by kernel_rfl) ?_
    refine Sx.G.skip (by kernel_rfl) ?_
    refine Sx.G.skip (by kernel_rfl) ?_
    refine Sx.G.skip (by kernel_rfl) ?_
    refine Sx.G.pure (.bool false) (by kernel_rfl) (fun w => by kernel_rfl) ?_
    refine Sx.G.pure (.bool false) (by kernel_rfl) (fun w => by kernel_rfl) ?_
    refine Sx.G.nil ?_
    refine Sx.E.next ?_
    refine Sx.C.ret ?_
    refine Sx.E.ret1 (.bool false) rfl (by kernel_rfl) (fun w S => ?_)
    exact ⟨congrArg Ending.returned (congrArg Value.bool (by rw [inB_dec]; simp only [hb1, Bool.true_and, Bool.false_and])), S.below⟩
  · have hb1 := hc1
    replace hc1 := of_decide_eq_true hc1
    refine Sx.G.pure (.int .i64 g) (by kernel_rfl) (fun w => by kernel_rfl) ?_
    refine Sx.G.pure (.slice A n c) (by kernel_rfl) (fun w => by kernel_rfl) ?_
    refine Sx.G.pure (.int .i64 ((n : Nat) : Int)) (by kernel_rfl) (fun w => by kernel_rfl) ?_
    refine Sx.G.pure (.bool (decide (g < ((n : Nat) : Int)))) (by kernel_rfl) (fun w => by kernel_rfl) ?_
    refine Sx.G.pure (.bool (decide (g < ((n : Nat) : Int)))) (by kernel_rfl) (fun w => by kernel_rfl) ?_
    refine Sx.G.pure (.bool (decide (g < ((n : Nat) : Int)))) (by kernel_rfl) (fun w => by kernel_rfl) ?_
    refine Sx.G.nil ?_
    refine Sx.E.next ?_
    refine Sx.C.ret ?_
    refine Sx.E.ret1 (.bool (decide (g < ((n : Nat) : Int)))) rfl (by kernel_rfl) (fun w S => ?_)
    exact ⟨congrArg Ending.returned (congrArg Value.bool (by rw [inB_dec]; simp only [hb1, Bool.true_and, Bool.false_and])), S.below⟩
set_option maxRecDepth 100000 in
set_option maxHeartbeats 4000000 in
theorem impl_gat (x : bT) (cs : List Value) (g : Int) (w : World) (hn : wB.wf x) (hc : wB.cap x) (h : wB.rd w 0 w.heap.size x cs) (hg : (Lit.int .i64 g).wf = true) : Calls Try.prog 23 #[.agg cs.toArray, .int .i64 g] w (Gives2 wG w (guestAt x g)) := by
  obtain ⟨hcap0, hcap1, hcap2, hcap3⟩ := hc
  have hgl : x.gs.length ≤ 1048576 := hcap1.1
  have hR := h
  obtain ⟨hP0, hP1, hP2, rfl, hf0, hf1, hf2⟩ := wB_rd h
  obtain ⟨hA0, hK0, he0, -⟩ := lst_val hf0
  subst he0
  obtain ⟨hA1, hK1, he1, -⟩ := lst_val hf1
  subst he1
  obtain ⟨hA2, hK2, he2, -⟩ := lst_val hf2
  subst he2
  refine Sx.enter (args := [.agg #[.slice hA0 x.mem.length hK0, .slice hA1 x.gs.length hK1, .slice hA2 x.outs.length hK2, .int .i64 x.pd], .int .i64 g]) Try.func23 rfl Try.ntmps23 rfl ?_
  refine Sx.C.seq ?_
  refine Sx.C.region ?_
  refine Sx.G.box 28 (.tmp 0) [.slice hA0 x.mem.length hK0, .slice hA1 x.gs.length hK1, .slice hA2 x.outs.length hK2, .int .i64 x.pd] rfl (by kernel_rfl) (by kernel_rfl) (fun b1 => ?_)
  refine Sx.G.alloc 51 (.agg #[.slice none 0 0, .int .i64 0, .int .i64 0, .slice none 0 0, .slice none 0 0, .int .i64 0, .int .i64 0, .bool false, .int .i64 0, .int .i64 0, .int .i64 0, .bool false, .int .i64 0, .bool false, .slice none 0 0]) [.slice none 0 0, .int .i64 0, .int .i64 0, .slice none 0 0, .slice none 0 0, .int .i64 0, .int .i64 0, .bool false, .int .i64 0, .int .i64 0, .int .i64 0, .bool false, .int .i64 0, .bool false, .slice none 0 0] rfl (by kernel_rfl) (fun w => by kernel_rfl) (by kernel_rfl) (fun b2 => ?_)
  refine Sx.G.pure (.bool false) (by kernel_rfl) (fun w => by kernel_rfl) ?_
  refine Sx.G.nil ?_
  refine Sx.E.next ?_
  refine Sx.C.seq ?_
  refine Sx.C.seq ?_
  refine Sx.C.region ?_
  refine Sx.G.pure (.pointer (some ⟨b1, 1, none⟩)) (by kernel_rfl) (fun w => by kernel_rfl) ?_
  refine Sx.G.ld1 25 (.tmp 6) b1 1 1 [.slice hA0 x.mem.length hK0, .slice hA1 x.gs.length hK1, .slice hA2 x.outs.length hK2, .int .i64 x.pd] (.slice hA1 x.gs.length hK1) rfl (by kernel_rfl) (by kernel_rfl) rfl (by kernel_rfl) (by kernel_rfl) ?_
  refine Sx.G.pure (.int .i64 g) (by kernel_rfl) (fun w => by kernel_rfl) ?_
  refine Sx.G.plain 68 #[.slice hA1 x.gs.length hK1, .int .i64 g] (.bool (inB g 0 (((x.gs.length : Nat) : Int) - 1))) (by kernel_rfl) (fun w => by kernel_rfl) (fun w S => by exact implx_has hA1 x.gs.length hK1 g _) ?_
  refine Sx.G.pure (.bool (!(inB g 0 (((x.gs.length : Nat) : Int) - 1)))) (by kernel_rfl) (fun w => by kernel_rfl) ?_
  refine Sx.G.nil ?_
  refine Sx.E.next ?_
  cases hc3 : (inB g 0 (((x.gs.length : Nat) : Int) - 1))
  · have hb3 := hc3
    refine Sx.C.yes (by kernel_rfl) (by kernel_rfl) ?_
    refine Sx.C.seq ?_
    refine Sx.C.region ?_
    refine Sx.G.pure (.agg #[.slice none 0 0, .int .i64 0, .int .i64 0, .slice none 0 0, .slice none 0 0, .int .i64 0, .int .i64 0, .bool false, .int .i64 0, .int .i64 0, .int .i64 0, .bool false, .int .i64 0, .bool false, .slice none 0 0]) (by kernel_rfl) (fun w => by kernel_rfl) ?_
    refine Sx.G.sto 51 (.tmp 4) (.tmp 11) b2 0 0 [.slice none 0 0, .int .i64 0, .int .i64 0, .slice none 0 0, .slice none 0 0, .int .i64 0, .int .i64 0, .bool false, .int .i64 0, .int .i64 0, .int .i64 0, .bool false, .int .i64 0, .bool false, .slice none 0 0] [.slice none 0 0, .int .i64 0, .int .i64 0, .slice none 0 0, .slice none 0 0, .int .i64 0, .int .i64 0, .bool false, .int .i64 0, .int .i64 0, .int .i64 0, .bool false, .int .i64 0, .bool false, .slice none 0 0] [.slice none 0 0, .int .i64 0, .int .i64 0, .slice none 0 0, .slice none 0 0, .int .i64 0, .int .i64 0, .bool false, .int .i64 0, .int .i64 0, .int .i64 0, .bool false, .int .i64 0, .bool false, .slice none 0 0] [vr b2 [.slice none 0 0, .int .i64 0, .int .i64 0, .slice none 0 0, .slice none 0 0, .int .i64 0, .int .i64 0, .bool false, .int .i64 0, .int .i64 0, .int .i64 0, .bool false, .int .i64 0, .bool false, .slice none 0 0], vr b1 [.slice hA0 x.mem.length hK0, .slice hA1 x.gs.length hK1, .slice hA2 x.outs.length hK2, .int .i64 x.pd]] rfl (by kernel_rfl) (by kernel_rfl) (by kernel_rfl) rfl (by kernel_rfl) rfl (by kernel_rfl) (by kernel_rfl) (by kernel_rfl) ?_
    refine Sx.G.pure (.bool false) (by kernel_rfl) (fun w => by kernel_rfl) ?_
    refine Sx.G.nil ?_
    refine Sx.E.next ?_
    refine Sx.C.ret ?_
    refine Sx.E.then_ret ?_
    refine Sx.E.retg2 (.agg #[.slice none 0 0, .int .i64 0, .int .i64 0, .slice none 0 0, .slice none 0 0, .int .i64 0, .int .i64 0, .bool false, .int .i64 0, .int .i64 0, .int .i64 0, .bool false, .int .i64 0, .bool false, .slice none 0 0]) (.bool false) rfl (Sx.IsRes.row b2 0 [.slice none 0 0, .int .i64 0, .int .i64 0, .slice none 0 0, .slice none 0 0, .int .i64 0, .int .i64 0, .bool false, .int .i64 0, .int .i64 0, .int .i64 0, .bool false, .int .i64 0, .bool false, .slice none 0 0] (by kernel_rfl) rfl (by kernel_rfl) (by kernel_rfl)) (Sx.IsRes.slot (by kernel_rfl)) (fun w S => ?_)
    rw [show guestAt x g = (zeroG, false) from if_neg (by rw [hc3]; decide)]
    exact ⟨_, [], rfl, own_zero_Guest _ _ _, List.nodup_nil, S.below⟩
  · have hb3 := hc3
    have hin := inB_iff.1 hc3
    obtain ⟨j, hj⟩ : ∃ j : Nat, g = (j : Int) := ⟨g.toNat, by omega⟩
    subst hj
    have hjl : j < x.gs.length := by omega
    refine Sx.C.no (by kernel_rfl) (by kernel_rfl) ?_
    refine Sx.C.skip ?_
    refine Sx.E.next ?_
    refine Sx.C.seq ?_
    refine Sx.C.region ?_
    refine Sx.G.pure (.pointer (some ⟨b1, 1, none⟩)) (by kernel_rfl) (fun w => by kernel_rfl) ?_
    refine Sx.G.ld1 25 (.tmp 12) b1 1 1 [.slice hA0 x.mem.length hK0, .slice hA1 x.gs.length hK1, .slice hA2 x.outs.length hK2, .int .i64 x.pd] (.slice hA1 x.gs.length hK1) rfl (by kernel_rfl) (by kernel_rfl) rfl (by kernel_rfl) (by kernel_rfl) ?_
    refine Sx.G.pure (.int .i64 (j : Int)) (by kernel_rfl) (fun w => by kernel_rfl) ?_
    obtain ⟨b4, f4, es4, eA4, hr4, hl4, hm4⟩ := Sx.old_elem (by decide) hf1 j (by omega)
    subst eA4
    obtain ⟨x4, hx4⟩ : ∃ z_, z_ = (x.gs[j]'(by omega)) := ⟨_, rfl⟩
    rw [← hx4] at hr4
    have hR4 := hr4
    obtain ⟨P4_0, P4_1, P4_2, P4_3, rfl, hf4_0, hf4_1, hf4_2, hf4_3⟩ := wG_rd hr4
    obtain ⟨A4_0, c4_0, e4_0, -⟩ := lst_val hf4_0
    subst e4_0
    obtain ⟨A4_1, c4_1, e4_1, -⟩ := lst_val hf4_1
    subst e4_1
    obtain ⟨A4_2, c4_2, e4_2, -⟩ := lst_val hf4_2
    subst e4_2
    obtain ⟨A4_3, c4_3, e4_3, -⟩ := lst_val hf4_3
    subst e4_3
    refine Sx.G.elem 25 51 (.tmp 13) (.tmp 14) 15 184 b4 f4 x.gs.length hK1 j rfl (by kernel_rfl) (by kernel_rfl) (by kernel_rfl) (by kernel_rfl) (by omega) ?_
    refine Sx.G.ldr 51 (.tmp 15) b4 (f4 + j * 15) [.slice A4_0 x4.prog.length c4_0, .int .i64 x4.a, .int .i64 x4.pc, .slice A4_1 x4.wr.length c4_1, .slice A4_2 x4.lv.length c4_2, .int .i64 x4.t.1, .int .i64 x4.t.2.1, .bool x4.t.2.2, .int .i64 x4.pd, .int .i64 x4.x.1, .int .i64 x4.x.2.1, .bool x4.x.2.2.1, .int .i64 x4.x.2.2.2, .bool x4.hl, .slice A4_3 x4.seen.length c4_3] rfl (by kernel_rfl) (by kernel_rfl) (fun w S => hm4 w _ S) (by kernel_rfl) (by kernel_rfl) ?_
    refine Sx.G.call 69 #[.agg #[.slice A4_0 x4.prog.length c4_0, .int .i64 x4.a, .int .i64 x4.pc, .slice A4_1 x4.wr.length c4_1, .slice A4_2 x4.lv.length c4_2, .int .i64 x4.t.1, .int .i64 x4.t.2.1, .bool x4.t.2.2, .int .i64 x4.pd, .int .i64 x4.x.1, .int .i64 x4.x.2.1, .bool x4.x.2.2.1, .int .i64 x4.x.2.2.2, .bool x4.hl, .slice A4_3 x4.seen.length c4_3]] (by kernel_rfl) (fun w => by kernel_rfl) (fun w5 S => (implx_another x4 _ _ (hcap1.2 _ (hx4 ▸ List.getElem_mem _)) (St.old S hR4)).mono fun e w5' hp => ?_)
    obtain ⟨cs, F, rfl, ho, hF, hb⟩ := hp
    obtain ⟨P5_0, P5_1, P5_2, P5_3, rfl, f5_0, f5_1, f5_2, f5_3⟩ := wG_rd (wG.reads ho)
    obtain ⟨A5_0, c5_0, e5_0, -⟩ := lst_val f5_0
    subst e5_0
    obtain ⟨A5_1, c5_1, e5_1, -⟩ := lst_val f5_1
    subst e5_1
    obtain ⟨A5_2, c5_2, e5_2, -⟩ := lst_val f5_2
    subst e5_2
    obtain ⟨A5_3, c5_3, e5_3, -⟩ := lst_val f5_3
    subst e5_3
    generalize F = F5 at ho hF
    refine ⟨_, _, rfl, (St.got S hb ho hF), ?_⟩
    clear S hb ho hF f5_0 f5_1 f5_2 f5_3
    refine Sx.G.sto 51 (.tmp 4) (.tmp 17) b2 0 1 [.slice none 0 0, .int .i64 0, .int .i64 0, .slice none 0 0, .slice none 0 0, .int .i64 0, .int .i64 0, .bool false, .int .i64 0, .int .i64 0, .int .i64 0, .bool false, .int .i64 0, .bool false, .slice none 0 0] [.slice A5_0 x4.prog.length c5_0, .int .i64 x4.a, .int .i64 x4.pc, .slice A5_1 x4.wr.length c5_1, .slice A5_2 x4.lv.length c5_2, .int .i64 x4.t.1, .int .i64 x4.t.2.1, .bool x4.t.2.2, .int .i64 x4.pd, .int .i64 x4.x.1, .int .i64 x4.x.2.1, .bool x4.x.2.2.1, .int .i64 x4.x.2.2.2, .bool x4.hl, .slice A5_3 x4.seen.length c5_3] [.slice A5_0 x4.prog.length c5_0, .int .i64 x4.a, .int .i64 x4.pc, .slice A5_1 x4.wr.length c5_1, .slice A5_2 x4.lv.length c5_2, .int .i64 x4.t.1, .int .i64 x4.t.2.1, .bool x4.t.2.2, .int .i64 x4.pd, .int .i64 x4.x.1, .int .i64 x4.x.2.1, .bool x4.x.2.2.1, .int .i64 x4.x.2.2.2, .bool x4.hl, .slice A5_3 x4.seen.length c5_3] [ow wG w5.heap.size w5'.heap.size x4 [.slice A5_0 x4.prog.length c5_0, .int .i64 x4.a, .int .i64 x4.pc, .slice A5_1 x4.wr.length c5_1, .slice A5_2 x4.lv.length c5_2, .int .i64 x4.t.1, .int .i64 x4.t.2.1, .bool x4.t.2.2, .int .i64 x4.pd, .int .i64 x4.x.1, .int .i64 x4.x.2.1, .bool x4.x.2.2.1, .int .i64 x4.x.2.2.2, .bool x4.hl, .slice A5_3 x4.seen.length c5_3] F5, vr b2 [.slice A5_0 x4.prog.length c5_0, .int .i64 x4.a, .int .i64 x4.pc, .slice A5_1 x4.wr.length c5_1, .slice A5_2 x4.lv.length c5_2, .int .i64 x4.t.1, .int .i64 x4.t.2.1, .bool x4.t.2.2, .int .i64 x4.pd, .int .i64 x4.x.1, .int .i64 x4.x.2.1, .bool x4.x.2.2.1, .int .i64 x4.x.2.2.2, .bool x4.hl, .slice A5_3 x4.seen.length c5_3], vr b1 [.slice hA0 x.mem.length hK0, .slice (some ⟨b4, f4, none⟩) x.gs.length hK1, .slice hA2 x.outs.length hK2, .int .i64 x.pd]] rfl (by kernel_rfl) (by kernel_rfl) (by kernel_rfl) rfl (by kernel_rfl) rfl (by kernel_rfl) (by kernel_rfl) (by kernel_rfl) ?_
    refine Sx.G.pure (.bool true) (by kernel_rfl) (fun w => by kernel_rfl) ?_
    refine Sx.G.nil ?_
    refine Sx.E.next ?_
    refine Sx.C.ret ?_
    refine Sx.E.retg2 (.agg #[.slice A5_0 x4.prog.length c5_0, .int .i64 x4.a, .int .i64 x4.pc, .slice A5_1 x4.wr.length c5_1, .slice A5_2 x4.lv.length c5_2, .int .i64 x4.t.1, .int .i64 x4.t.2.1, .bool x4.t.2.2, .int .i64 x4.pd, .int .i64 x4.x.1, .int .i64 x4.x.2.1, .bool x4.x.2.2.1, .int .i64 x4.x.2.2.2, .bool x4.hl, .slice A5_3 x4.seen.length c5_3]) (.bool true) rfl (Sx.IsRes.row b2 1 [.slice A5_0 x4.prog.length c5_0, .int .i64 x4.a, .int .i64 x4.pc, .slice A5_1 x4.wr.length c5_1, .slice A5_2 x4.lv.length c5_2, .int .i64 x4.t.1, .int .i64 x4.t.2.1, .bool x4.t.2.2, .int .i64 x4.pd, .int .i64 x4.x.1, .int .i64 x4.x.2.1, .bool x4.x.2.2.1, .int .i64 x4.x.2.2.2, .bool x4.hl, .slice A5_3 x4.seen.length c5_3] (by kernel_rfl) rfl (by kernel_rfl) (by kernel_rfl)) (Sx.IsRes.slot (by kernel_rfl)) (fun w S => ?_)
    rw [show guestAt x (j : Int) = (x4, true) from by rw [hx4]; unfold guestAt; rw [hc3, if_pos rfl]; simp [List.getD_eq_getElem?_getD, hjl]]
    exact ⟨_, _, rfl, S.own 0 rfl, S.nodup 0 rfl, S.below⟩
end Go.Proofs.Ytldgadmpclgfhaa.Kit
namespace Go.Proofs.Ytldgadmpclgfhaa.fnExactGuestAt
set_option maxRecDepth 100000
open Go.ChangeShapes Go.WideShapes Go.ChangeAt Go.RowKit
open Go.Proofs.Ytldgadmpclgfhaa.Base Go.Proofs.Ytldgadmpclgfhaa.Mem Go.Proofs.Ytldgadmpclgfhaa.Data Go.Proofs.Ytldgadmpclgfhaa.Stt Go.Proofs.Ytldgadmpclgfhaa.Kit Go.Proofs.Ytldgadmpclgfhaa.Guests Go.Proofs.Ytldgadmpclgfhaa.Ctls Go.Proofs.Ytldgadmpclgfhaa.Exits
set_option linter.unusedVariables false
set_option linter.unusedSimpArgs false
set_option maxRecDepth 100000 in
set_option maxHeartbeats 8000000 in
theorem walk (w : World) (x0 : bT) (cs0 : List Value) (x1 : Int) (hw0 : wB.wf x0) (h0 : wB.rd w 0 w.heap.size x0 cs0) (hw1 : (Lit.int .i64 x1).wf = true) :
    Calls Try.prog 5 #[.agg cs0.toArray, .int .i64 x1] w fun e w' => e = .returned (.bool true) ∧ Below w.heap.size w w' := by
  have h0R := h0
  obtain ⟨h0P0, h0P1, h0P2, rfl, h0f0, h0f1, h0f2⟩ := wB_rd h0
  obtain ⟨h0A0, h0K0, h0e0, -⟩ := lst_val h0f0
  subst h0e0
  obtain ⟨h0A1, h0K1, h0e1, -⟩ := lst_val h0f1
  subst h0e1
  obtain ⟨h0A2, h0K2, h0e2, -⟩ := lst_val h0f2
  subst h0e2
  refine Sx.enter (args := [.agg #[.slice h0A0 x0.mem.length h0K0, .slice h0A1 x0.gs.length h0K1, .slice h0A2 x0.outs.length h0K2, .int .i64 x0.pd], .int .i64 x1]) Try.func5 rfl Try.ntmps5 rfl ?_
  refine Sx.C.seq ?_
  refine Sx.C.region ?_
  refine Sx.G.box 39 (.tmp 0) [.slice h0A0 x0.mem.length h0K0, .slice h0A1 x0.gs.length h0K1, .slice h0A2 x0.outs.length h0K2, .int .i64 x0.pd] rfl (by kernel_rfl) (by kernel_rfl) (fun b1 => ?_)
  refine Sx.G.pure (.bool false) (by kernel_rfl) (fun w => by kernel_rfl) ?_
  refine Sx.G.nil ?_
  refine Sx.E.next ?_
  refine Sx.C.seq ?_
  refine Sx.C.region ?_
  refine Sx.G.pure (.int .i64 1048576) (by kernel_rfl) (fun w => by kernel_rfl) ?_
  refine Sx.G.nil ?_
  refine Sx.E.next ?_
  refine Sx.C.seq ?_
  refine Sx.C.region ?_
  refine Sx.G.ld 39 (.tmp 2) b1 0 0 [.slice h0A0 x0.mem.length h0K0, .slice h0A1 x0.gs.length h0K1, .slice h0A2 x0.outs.length h0K2, .int .i64 x0.pd] [.slice h0A0 x0.mem.length h0K0, .slice h0A1 x0.gs.length h0K1, .slice h0A2 x0.outs.length h0K2, .int .i64 x0.pd] rfl (by kernel_rfl) (by kernel_rfl) rfl (by kernel_rfl) (by kernel_rfl) (by kernel_rfl) ?_
  refine Sx.G.pure (.int .i64 1048576) (by kernel_rfl) (fun w => by kernel_rfl) ?_
  refine Sx.G.call 18 #[.agg #[.slice h0A0 x0.mem.length h0K0, .slice h0A1 x0.gs.length h0K1, .slice h0A2 x0.outs.length h0K2, .int .i64 x0.pd], .int .i64 1048576] (by kernel_rfl) (fun w => by kernel_rfl) (fun w2 S => (Kit.ksz_Bare x0 _ 1048576 _ hw0 (by omega) (by omega) (St.old S h0R)).mono fun e w2' hp => ?_)
  obtain ⟨l2, rfl, hs0, hb⟩ := hp
  unfold Kit.Sz at hs0
  refine ⟨_, _, rfl, (S.call hb), ?_⟩
  clear S hb
  refine Sx.G.pure (.int .i64 l2) (by kernel_rfl) (fun w => by kernel_rfl) ?_
  refine Sx.G.nil ?_
  refine Sx.E.next ?_
  refine Sx.C.seq ?_
  refine Sx.C.seq ?_
  refine Sx.C.region ?_
  refine Sx.G.pure (.int .i64 l2) (by kernel_rfl) (fun w => by kernel_rfl) ?_
  refine Sx.G.pure (.bool (decide (l2 < 0))) (by kernel_rfl) (fun w => by kernel_rfl) ?_
  refine Sx.G.nil ?_
  refine Sx.E.next ?_
  cases hc3 : (decide (l2 < 0))
  · have hb3 := hc3
    replace hc3 := of_decide_eq_false hc3
    have hc0 := Kit.capz_Bare x0 (by omega)
    have hz0 := Kit.tcntz_Bare x0
    have hcapr0 : wG.cap (guestAt x0 x1).1 := cap_guestAt x1 hc0
    have hres0 : wG.size (guestAt x0 x1).1 ≤ 4000000 := by have h1 := size_guestAt x0 x1; omega
    obtain ⟨y0, hy0⟩ : ∃ y, y = (guestAt x0 x1).1 := ⟨_, rfl⟩
    rw [← hy0] at hres0 hcapr0
    have hd0 := hcapr0
    have hzr0 := Kit.tcntz_Guest y0
    refine Sx.C.no (by kernel_rfl) (by kernel_rfl) ?_
    refine Sx.C.skip ?_
    refine Sx.E.next ?_
    refine Sx.C.seq ?_
    refine Sx.C.region ?_
    refine Sx.G.ld 39 (.tmp 2) b1 0 0 [.slice h0A0 x0.mem.length h0K0, .slice h0A1 x0.gs.length h0K1, .slice h0A2 x0.outs.length h0K2, .int .i64 x0.pd] [.slice h0A0 x0.mem.length h0K0, .slice h0A1 x0.gs.length h0K1, .slice h0A2 x0.outs.length h0K2, .int .i64 x0.pd] rfl (by kernel_rfl) (by kernel_rfl) rfl (by kernel_rfl) (by kernel_rfl) (by kernel_rfl) ?_
    refine Sx.G.call 20 #[.agg #[.slice h0A0 x0.mem.length h0K0, .slice h0A1 x0.gs.length h0K1, .slice h0A2 x0.outs.length h0K2, .int .i64 x0.pd]] (by kernel_rfl) (fun w => by kernel_rfl) (fun w4 S => (Kit.kto_Bare x0 _ _ hc0 (St.old S h0R)).mono fun e w4' hp => ?_)
    obtain ⟨cs, F, rfl, ho, hF, hb⟩ := hp
    obtain ⟨P4_0, P4_1, P4_2, rfl, f4_0, f4_1, f4_2⟩ := wB_rd (wB.reads ho)
    obtain ⟨A4_0, c4_0, e4_0, -⟩ := lst_val f4_0
    subst e4_0
    obtain ⟨A4_1, c4_1, e4_1, -⟩ := lst_val f4_1
    subst e4_1
    obtain ⟨A4_2, c4_2, e4_2, -⟩ := lst_val f4_2
    subst e4_2
    generalize F = F4 at ho hF
    refine ⟨_, _, rfl, (St.got S hb ho hF), ?_⟩
    clear S hb ho hF f4_0 f4_1 f4_2
    refine Sx.G.pure (.int .i64 x1) (by kernel_rfl) (fun w => by kernel_rfl) ?_
    refine Sx.G.call 22 #[.agg #[.slice A4_0 x0.mem.length c4_0, .slice A4_1 x0.gs.length c4_1, .slice A4_2 x0.outs.length c4_2, .int .i64 x0.pd], .int .i64 x1] (by kernel_rfl) (fun w => by kernel_rfl) (fun w5 S => (specx_gat x0 _ x1 _ hc0 (St.reads S 0 rfl)).mono fun e w5' hp => ?_)
    obtain ⟨cs, F, rfl, ho, hF, hb⟩ := hp
    rw [← hy0] at ho
    obtain ⟨P5_0, P5_1, P5_2, P5_3, rfl, f5_0, f5_1, f5_2, f5_3⟩ := wG_rd (wG.reads ho)
    obtain ⟨A5_0, c5_0, e5_0, -⟩ := lst_val f5_0
    subst e5_0
    obtain ⟨A5_1, c5_1, e5_1, -⟩ := lst_val f5_1
    subst e5_1
    obtain ⟨A5_2, c5_2, e5_2, -⟩ := lst_val f5_2
    subst e5_2
    obtain ⟨A5_3, c5_3, e5_3, -⟩ := lst_val f5_3
    subst e5_3
    generalize F = F5 at ho hF
    refine ⟨_, _, rfl, (St.got S hb ho hF), ?_⟩
    clear S hb ho hF f5_0 f5_1 f5_2 f5_3
    refine Sx.G.pure (.tuple #[.agg #[.slice A5_0 y0.prog.length c5_0, .int .i64 y0.a, .int .i64 y0.pc, .slice A5_1 y0.wr.length c5_1, .slice A5_2 y0.lv.length c5_2, .int .i64 y0.t.1, .int .i64 y0.t.2.1, .bool y0.t.2.2, .int .i64 y0.pd, .int .i64 y0.x.1, .int .i64 y0.x.2.1, .bool y0.x.2.2.1, .int .i64 y0.x.2.2.2, .bool y0.hl, .slice A5_3 y0.seen.length c5_3], .bool ((guestAt x0 x1).2)]) (by kernel_rfl) (fun w => by kernel_rfl) ?_
    refine Sx.G.pure (.agg #[.slice A5_0 y0.prog.length c5_0, .int .i64 y0.a, .int .i64 y0.pc, .slice A5_1 y0.wr.length c5_1, .slice A5_2 y0.lv.length c5_2, .int .i64 y0.t.1, .int .i64 y0.t.2.1, .bool y0.t.2.2, .int .i64 y0.pd, .int .i64 y0.x.1, .int .i64 y0.x.2.1, .bool y0.x.2.2.1, .int .i64 y0.x.2.2.2, .bool y0.hl, .slice A5_3 y0.seen.length c5_3]) (by kernel_rfl) (fun w => by kernel_rfl) ?_
    refine Sx.G.pure (.bool ((guestAt x0 x1).2)) (by kernel_rfl) (fun w => by kernel_rfl) ?_
    refine Sx.G.alloc 51 (.agg #[.slice none 0 0, .int .i64 0, .int .i64 0, .slice none 0 0, .slice none 0 0, .int .i64 0, .int .i64 0, .bool false, .int .i64 0, .int .i64 0, .int .i64 0, .bool false, .int .i64 0, .bool false, .slice none 0 0]) [.slice none 0 0, .int .i64 0, .int .i64 0, .slice none 0 0, .slice none 0 0, .int .i64 0, .int .i64 0, .bool false, .int .i64 0, .int .i64 0, .int .i64 0, .bool false, .int .i64 0, .bool false, .slice none 0 0] rfl (by kernel_rfl) (fun w => by kernel_rfl) (by kernel_rfl) (fun b6 => ?_)
    refine Sx.G.sto 51 (.tmp 6) (.tmp 26) b6 0 0 [.slice none 0 0, .int .i64 0, .int .i64 0, .slice none 0 0, .slice none 0 0, .int .i64 0, .int .i64 0, .bool false, .int .i64 0, .int .i64 0, .int .i64 0, .bool false, .int .i64 0, .bool false, .slice none 0 0] [.slice A5_0 y0.prog.length c5_0, .int .i64 y0.a, .int .i64 y0.pc, .slice A5_1 y0.wr.length c5_1, .slice A5_2 y0.lv.length c5_2, .int .i64 y0.t.1, .int .i64 y0.t.2.1, .bool y0.t.2.2, .int .i64 y0.pd, .int .i64 y0.x.1, .int .i64 y0.x.2.1, .bool y0.x.2.2.1, .int .i64 y0.x.2.2.2, .bool y0.hl, .slice A5_3 y0.seen.length c5_3] [.slice A5_0 y0.prog.length c5_0, .int .i64 y0.a, .int .i64 y0.pc, .slice A5_1 y0.wr.length c5_1, .slice A5_2 y0.lv.length c5_2, .int .i64 y0.t.1, .int .i64 y0.t.2.1, .bool y0.t.2.2, .int .i64 y0.pd, .int .i64 y0.x.1, .int .i64 y0.x.2.1, .bool y0.x.2.2.1, .int .i64 y0.x.2.2.2, .bool y0.hl, .slice A5_3 y0.seen.length c5_3] [vr b6 [.slice A5_0 y0.prog.length c5_0, .int .i64 y0.a, .int .i64 y0.pc, .slice A5_1 y0.wr.length c5_1, .slice A5_2 y0.lv.length c5_2, .int .i64 y0.t.1, .int .i64 y0.t.2.1, .bool y0.t.2.2, .int .i64 y0.pd, .int .i64 y0.x.1, .int .i64 y0.x.2.1, .bool y0.x.2.2.1, .int .i64 y0.x.2.2.2, .bool y0.hl, .slice A5_3 y0.seen.length c5_3], ow wG w5.heap.size w5'.heap.size y0 [.slice A5_0 y0.prog.length c5_0, .int .i64 y0.a, .int .i64 y0.pc, .slice A5_1 y0.wr.length c5_1, .slice A5_2 y0.lv.length c5_2, .int .i64 y0.t.1, .int .i64 y0.t.2.1, .bool y0.t.2.2, .int .i64 y0.pd, .int .i64 y0.x.1, .int .i64 y0.x.2.1, .bool y0.x.2.2.1, .int .i64 y0.x.2.2.2, .bool y0.hl, .slice A5_3 y0.seen.length c5_3] F5, ow wB w4.heap.size w4'.heap.size x0 [.slice A4_0 x0.mem.length c4_0, .slice A4_1 x0.gs.length c4_1, .slice A4_2 x0.outs.length c4_2, .int .i64 x0.pd] F4, vr b1 [.slice h0A0 x0.mem.length h0K0, .slice h0A1 x0.gs.length h0K1, .slice h0A2 x0.outs.length h0K2, .int .i64 x0.pd]] rfl (by kernel_rfl) (by kernel_rfl) (by kernel_rfl) rfl (by kernel_rfl) rfl (by kernel_rfl) (by kernel_rfl) (by kernel_rfl) ?_
    refine Sx.G.pure (.bool ((guestAt x0 x1).2)) (by kernel_rfl) (fun w => by kernel_rfl) ?_
    refine Sx.G.nil ?_
    refine Sx.E.next ?_
    refine Sx.C.seq ?_
    refine Sx.C.region ?_
    refine Sx.G.ld 39 (.tmp 2) b1 0 3 [.slice h0A0 x0.mem.length h0K0, .slice h0A1 x0.gs.length h0K1, .slice h0A2 x0.outs.length h0K2, .int .i64 x0.pd] [.slice h0A0 x0.mem.length h0K0, .slice h0A1 x0.gs.length h0K1, .slice h0A2 x0.outs.length h0K2, .int .i64 x0.pd] rfl (by kernel_rfl) (by kernel_rfl) rfl (by kernel_rfl) (by kernel_rfl) (by kernel_rfl) ?_
    refine Sx.G.call 20 #[.agg #[.slice h0A0 x0.mem.length h0K0, .slice h0A1 x0.gs.length h0K1, .slice h0A2 x0.outs.length h0K2, .int .i64 x0.pd]] (by kernel_rfl) (fun w => by kernel_rfl) (fun w7 S => (Kit.kto_Bare x0 _ _ hc0 (St.old S h0R)).mono fun e w7' hp => ?_)
    obtain ⟨cs, F, rfl, ho, hF, hb⟩ := hp
    obtain ⟨P7_0, P7_1, P7_2, rfl, f7_0, f7_1, f7_2⟩ := wB_rd (wB.reads ho)
    obtain ⟨A7_0, c7_0, e7_0, -⟩ := lst_val f7_0
    subst e7_0
    obtain ⟨A7_1, c7_1, e7_1, -⟩ := lst_val f7_1
    subst e7_1
    obtain ⟨A7_2, c7_2, e7_2, -⟩ := lst_val f7_2
    subst e7_2
    generalize F = F7 at ho hF
    refine ⟨_, _, rfl, (St.got S hb ho hF), ?_⟩
    clear S hb ho hF f7_0 f7_1 f7_2
    refine Sx.G.alloc 28 (.agg #[.slice none 0 0, .slice none 0 0, .slice none 0 0, .int .i64 0]) [.slice none 0 0, .slice none 0 0, .slice none 0 0, .int .i64 0] rfl (by kernel_rfl) (fun w => by kernel_rfl) (by kernel_rfl) (fun b8 => ?_)
    refine Sx.G.sto 28 (.tmp 8) (.tmp 29) b8 0 0 [.slice none 0 0, .slice none 0 0, .slice none 0 0, .int .i64 0] [.slice A7_0 x0.mem.length c7_0, .slice A7_1 x0.gs.length c7_1, .slice A7_2 x0.outs.length c7_2, .int .i64 x0.pd] [.slice A7_0 x0.mem.length c7_0, .slice A7_1 x0.gs.length c7_1, .slice A7_2 x0.outs.length c7_2, .int .i64 x0.pd] [vr b8 [.slice A7_0 x0.mem.length c7_0, .slice A7_1 x0.gs.length c7_1, .slice A7_2 x0.outs.length c7_2, .int .i64 x0.pd], ow wB w7.heap.size w7'.heap.size x0 [.slice A7_0 x0.mem.length c7_0, .slice A7_1 x0.gs.length c7_1, .slice A7_2 x0.outs.length c7_2, .int .i64 x0.pd] F7, vr b6 [.slice A5_0 y0.prog.length c5_0, .int .i64 y0.a, .int .i64 y0.pc, .slice A5_1 y0.wr.length c5_1, .slice A5_2 y0.lv.length c5_2, .int .i64 y0.t.1, .int .i64 y0.t.2.1, .bool y0.t.2.2, .int .i64 y0.pd, .int .i64 y0.x.1, .int .i64 y0.x.2.1, .bool y0.x.2.2.1, .int .i64 y0.x.2.2.2, .bool y0.hl, .slice A5_3 y0.seen.length c5_3], ow wG w5.heap.size w5'.heap.size y0 [.slice A5_0 y0.prog.length c5_0, .int .i64 y0.a, .int .i64 y0.pc, .slice A5_1 y0.wr.length c5_1, .slice A5_2 y0.lv.length c5_2, .int .i64 y0.t.1, .int .i64 y0.t.2.1, .bool y0.t.2.2, .int .i64 y0.pd, .int .i64 y0.x.1, .int .i64 y0.x.2.1, .bool y0.x.2.2.1, .int .i64 y0.x.2.2.2, .bool y0.hl, .slice A5_3 y0.seen.length c5_3] F5, ow wB w4.heap.size w4'.heap.size x0 [.slice A4_0 x0.mem.length c4_0, .slice A4_1 x0.gs.length c4_1, .slice A4_2 x0.outs.length c4_2, .int .i64 x0.pd] F4, vr b1 [.slice h0A0 x0.mem.length h0K0, .slice h0A1 x0.gs.length h0K1, .slice h0A2 x0.outs.length h0K2, .int .i64 x0.pd]] rfl (by kernel_rfl) (by kernel_rfl) (by kernel_rfl) rfl (by kernel_rfl) rfl (by kernel_rfl) (by kernel_rfl) (by kernel_rfl) ?_
    refine Sx.G.nil ?_
    refine Sx.E.next ?_
    refine Sx.C.seq ?_
    refine Sx.C.region ?_
    refine Sx.G.ld 28 (.tmp 8) b8 0 0 [.slice A7_0 x0.mem.length c7_0, .slice A7_1 x0.gs.length c7_1, .slice A7_2 x0.outs.length c7_2, .int .i64 x0.pd] [.slice A7_0 x0.mem.length c7_0, .slice A7_1 x0.gs.length c7_1, .slice A7_2 x0.outs.length c7_2, .int .i64 x0.pd] rfl (by kernel_rfl) (by kernel_rfl) rfl (by kernel_rfl) (by kernel_rfl) (by kernel_rfl) ?_
    refine Sx.G.pure (.int .i64 x1) (by kernel_rfl) (fun w => by kernel_rfl) ?_
    refine Sx.G.call 23 #[.agg #[.slice A7_0 x0.mem.length c7_0, .slice A7_1 x0.gs.length c7_1, .slice A7_2 x0.outs.length c7_2, .int .i64 x0.pd], .int .i64 x1] (by kernel_rfl) (fun w => by kernel_rfl) (fun w9 S => (impl_gat x0 _ x1 _ hw0 hc0 (St.reads S 1 rfl) hw1).mono fun e w9' hp => ?_)
    obtain ⟨cs, F, rfl, ho, hF, hb⟩ := hp
    rw [← hy0] at ho
    obtain ⟨P9_0, P9_1, P9_2, P9_3, rfl, f9_0, f9_1, f9_2, f9_3⟩ := wG_rd (wG.reads ho)
    obtain ⟨A9_0, c9_0, e9_0, -⟩ := lst_val f9_0
    subst e9_0
    obtain ⟨A9_1, c9_1, e9_1, -⟩ := lst_val f9_1
    subst e9_1
    obtain ⟨A9_2, c9_2, e9_2, -⟩ := lst_val f9_2
    subst e9_2
    obtain ⟨A9_3, c9_3, e9_3, -⟩ := lst_val f9_3
    subst e9_3
    generalize F = F9 at ho hF
    refine ⟨_, _, rfl, (St.got S hb ho hF), ?_⟩
    clear S hb ho hF f9_0 f9_1 f9_2 f9_3
    refine Sx.G.pure (.tuple #[.agg #[.slice A9_0 y0.prog.length c9_0, .int .i64 y0.a, .int .i64 y0.pc, .slice A9_1 y0.wr.length c9_1, .slice A9_2 y0.lv.length c9_2, .int .i64 y0.t.1, .int .i64 y0.t.2.1, .bool y0.t.2.2, .int .i64 y0.pd, .int .i64 y0.x.1, .int .i64 y0.x.2.1, .bool y0.x.2.2.1, .int .i64 y0.x.2.2.2, .bool y0.hl, .slice A9_3 y0.seen.length c9_3], .bool ((guestAt x0 x1).2)]) (by kernel_rfl) (fun w => by kernel_rfl) ?_
    refine Sx.G.pure (.agg #[.slice A9_0 y0.prog.length c9_0, .int .i64 y0.a, .int .i64 y0.pc, .slice A9_1 y0.wr.length c9_1, .slice A9_2 y0.lv.length c9_2, .int .i64 y0.t.1, .int .i64 y0.t.2.1, .bool y0.t.2.2, .int .i64 y0.pd, .int .i64 y0.x.1, .int .i64 y0.x.2.1, .bool y0.x.2.2.1, .int .i64 y0.x.2.2.2, .bool y0.hl, .slice A9_3 y0.seen.length c9_3]) (by kernel_rfl) (fun w => by kernel_rfl) ?_
    refine Sx.G.pure (.bool ((guestAt x0 x1).2)) (by kernel_rfl) (fun w => by kernel_rfl) ?_
    refine Sx.G.alloc 51 (.agg #[.slice none 0 0, .int .i64 0, .int .i64 0, .slice none 0 0, .slice none 0 0, .int .i64 0, .int .i64 0, .bool false, .int .i64 0, .int .i64 0, .int .i64 0, .bool false, .int .i64 0, .bool false, .slice none 0 0]) [.slice none 0 0, .int .i64 0, .int .i64 0, .slice none 0 0, .slice none 0 0, .int .i64 0, .int .i64 0, .bool false, .int .i64 0, .int .i64 0, .int .i64 0, .bool false, .int .i64 0, .bool false, .slice none 0 0] rfl (by kernel_rfl) (fun w => by kernel_rfl) (by kernel_rfl) (fun b10 => ?_)
    refine Sx.G.sto 51 (.tmp 9) (.tmp 34) b10 0 0 [.slice none 0 0, .int .i64 0, .int .i64 0, .slice none 0 0, .slice none 0 0, .int .i64 0, .int .i64 0, .bool false, .int .i64 0, .int .i64 0, .int .i64 0, .bool false, .int .i64 0, .bool false, .slice none 0 0] [.slice A9_0 y0.prog.length c9_0, .int .i64 y0.a, .int .i64 y0.pc, .slice A9_1 y0.wr.length c9_1, .slice A9_2 y0.lv.length c9_2, .int .i64 y0.t.1, .int .i64 y0.t.2.1, .bool y0.t.2.2, .int .i64 y0.pd, .int .i64 y0.x.1, .int .i64 y0.x.2.1, .bool y0.x.2.2.1, .int .i64 y0.x.2.2.2, .bool y0.hl, .slice A9_3 y0.seen.length c9_3] [.slice A9_0 y0.prog.length c9_0, .int .i64 y0.a, .int .i64 y0.pc, .slice A9_1 y0.wr.length c9_1, .slice A9_2 y0.lv.length c9_2, .int .i64 y0.t.1, .int .i64 y0.t.2.1, .bool y0.t.2.2, .int .i64 y0.pd, .int .i64 y0.x.1, .int .i64 y0.x.2.1, .bool y0.x.2.2.1, .int .i64 y0.x.2.2.2, .bool y0.hl, .slice A9_3 y0.seen.length c9_3] [vr b10 [.slice A9_0 y0.prog.length c9_0, .int .i64 y0.a, .int .i64 y0.pc, .slice A9_1 y0.wr.length c9_1, .slice A9_2 y0.lv.length c9_2, .int .i64 y0.t.1, .int .i64 y0.t.2.1, .bool y0.t.2.2, .int .i64 y0.pd, .int .i64 y0.x.1, .int .i64 y0.x.2.1, .bool y0.x.2.2.1, .int .i64 y0.x.2.2.2, .bool y0.hl, .slice A9_3 y0.seen.length c9_3], ow wG w9.heap.size w9'.heap.size y0 [.slice A9_0 y0.prog.length c9_0, .int .i64 y0.a, .int .i64 y0.pc, .slice A9_1 y0.wr.length c9_1, .slice A9_2 y0.lv.length c9_2, .int .i64 y0.t.1, .int .i64 y0.t.2.1, .bool y0.t.2.2, .int .i64 y0.pd, .int .i64 y0.x.1, .int .i64 y0.x.2.1, .bool y0.x.2.2.1, .int .i64 y0.x.2.2.2, .bool y0.hl, .slice A9_3 y0.seen.length c9_3] F9, vr b8 [.slice A7_0 x0.mem.length c7_0, .slice A7_1 x0.gs.length c7_1, .slice A7_2 x0.outs.length c7_2, .int .i64 x0.pd], ow wB w7.heap.size w7'.heap.size x0 [.slice A7_0 x0.mem.length c7_0, .slice A7_1 x0.gs.length c7_1, .slice A7_2 x0.outs.length c7_2, .int .i64 x0.pd] F7, vr b6 [.slice A5_0 y0.prog.length c5_0, .int .i64 y0.a, .int .i64 y0.pc, .slice A5_1 y0.wr.length c5_1, .slice A5_2 y0.lv.length c5_2, .int .i64 y0.t.1, .int .i64 y0.t.2.1, .bool y0.t.2.2, .int .i64 y0.pd, .int .i64 y0.x.1, .int .i64 y0.x.2.1, .bool y0.x.2.2.1, .int .i64 y0.x.2.2.2, .bool y0.hl, .slice A5_3 y0.seen.length c5_3], ow wG w5.heap.size w5'.heap.size y0 [.slice A5_0 y0.prog.length c5_0, .int .i64 y0.a, .int .i64 y0.pc, .slice A5_1 y0.wr.length c5_1, .slice A5_2 y0.lv.length c5_2, .int .i64 y0.t.1, .int .i64 y0.t.2.1, .bool y0.t.2.2, .int .i64 y0.pd, .int .i64 y0.x.1, .int .i64 y0.x.2.1, .bool y0.x.2.2.1, .int .i64 y0.x.2.2.2, .bool y0.hl, .slice A5_3 y0.seen.length c5_3] F5, ow wB w4.heap.size w4'.heap.size x0 [.slice A4_0 x0.mem.length c4_0, .slice A4_1 x0.gs.length c4_1, .slice A4_2 x0.outs.length c4_2, .int .i64 x0.pd] F4, vr b1 [.slice h0A0 x0.mem.length h0K0, .slice h0A1 x0.gs.length h0K1, .slice h0A2 x0.outs.length h0K2, .int .i64 x0.pd]] rfl (by kernel_rfl) (by kernel_rfl) (by kernel_rfl) rfl (by kernel_rfl) rfl (by kernel_rfl) (by kernel_rfl) (by kernel_rfl) ?_
    refine Sx.G.pure (.bool ((guestAt x0 x1).2)) (by kernel_rfl) (fun w => by kernel_rfl) ?_
    refine Sx.G.nil ?_
    refine Sx.E.next ?_
    refine Sx.C.seq ?_
    refine Sx.C.seq ?_
    refine Sx.C.region ?_
    refine Sx.G.ld 51 (.tmp 9) b10 0 0 [.slice A9_0 y0.prog.length c9_0, .int .i64 y0.a, .int .i64 y0.pc, .slice A9_1 y0.wr.length c9_1, .slice A9_2 y0.lv.length c9_2, .int .i64 y0.t.1, .int .i64 y0.t.2.1, .bool y0.t.2.2, .int .i64 y0.pd, .int .i64 y0.x.1, .int .i64 y0.x.2.1, .bool y0.x.2.2.1, .int .i64 y0.x.2.2.2, .bool y0.hl, .slice A9_3 y0.seen.length c9_3] [.slice A9_0 y0.prog.length c9_0, .int .i64 y0.a, .int .i64 y0.pc, .slice A9_1 y0.wr.length c9_1, .slice A9_2 y0.lv.length c9_2, .int .i64 y0.t.1, .int .i64 y0.t.2.1, .bool y0.t.2.2, .int .i64 y0.pd, .int .i64 y0.x.1, .int .i64 y0.x.2.1, .bool y0.x.2.2.1, .int .i64 y0.x.2.2.2, .bool y0.hl, .slice A9_3 y0.seen.length c9_3] rfl (by kernel_rfl) (by kernel_rfl) rfl (by kernel_rfl) (by kernel_rfl) (by kernel_rfl) ?_
    refine Sx.G.ld 51 (.tmp 6) b6 0 4 [.slice A5_0 y0.prog.length c5_0, .int .i64 y0.a, .int .i64 y0.pc, .slice A5_1 y0.wr.length c5_1, .slice A5_2 y0.lv.length c5_2, .int .i64 y0.t.1, .int .i64 y0.t.2.1, .bool y0.t.2.2, .int .i64 y0.pd, .int .i64 y0.x.1, .int .i64 y0.x.2.1, .bool y0.x.2.2.1, .int .i64 y0.x.2.2.2, .bool y0.hl, .slice A5_3 y0.seen.length c5_3] [.slice A5_0 y0.prog.length c5_0, .int .i64 y0.a, .int .i64 y0.pc, .slice A5_1 y0.wr.length c5_1, .slice A5_2 y0.lv.length c5_2, .int .i64 y0.t.1, .int .i64 y0.t.2.1, .bool y0.t.2.2, .int .i64 y0.pd, .int .i64 y0.x.1, .int .i64 y0.x.2.1, .bool y0.x.2.2.1, .int .i64 y0.x.2.2.2, .bool y0.hl, .slice A5_3 y0.seen.length c5_3] rfl (by kernel_rfl) (by kernel_rfl) rfl (by kernel_rfl) (by kernel_rfl) (by kernel_rfl) ?_
    refine Sx.G.plain 24 #[.agg #[.slice A9_0 y0.prog.length c9_0, .int .i64 y0.a, .int .i64 y0.pc, .slice A9_1 y0.wr.length c9_1, .slice A9_2 y0.lv.length c9_2, .int .i64 y0.t.1, .int .i64 y0.t.2.1, .bool y0.t.2.2, .int .i64 y0.pd, .int .i64 y0.x.1, .int .i64 y0.x.2.1, .bool y0.x.2.2.1, .int .i64 y0.x.2.2.2, .bool y0.hl, .slice A9_3 y0.seen.length c9_3], .agg #[.slice A5_0 y0.prog.length c5_0, .int .i64 y0.a, .int .i64 y0.pc, .slice A5_1 y0.wr.length c5_1, .slice A5_2 y0.lv.length c5_2, .int .i64 y0.t.1, .int .i64 y0.t.2.1, .bool y0.t.2.2, .int .i64 y0.pd, .int .i64 y0.x.1, .int .i64 y0.x.2.1, .bool y0.x.2.2.1, .int .i64 y0.x.2.2.2, .bool y0.hl, .slice A5_3 y0.seen.length c5_3]] (.bool true) (by kernel_rfl) (fun w => by kernel_rfl) (fun w S => by exact Kit.keq_Guest y0 _ _ _ hd0 (St.reads S 1 rfl) (St.reads S 5 rfl)) ?_
    refine Sx.G.pure (.bool false) (by kernel_rfl) (fun w => by kernel_rfl) ?_
    refine Sx.G.pure (.bool false) (by kernel_rfl) (fun w => by kernel_rfl) ?_
    refine Sx.G.pure (.bool ((guestAt x0 x1).2)) (by kernel_rfl) (fun w => by kernel_rfl) ?_
    refine Sx.G.pure (.bool ((guestAt x0 x1).2)) (by kernel_rfl) (fun w => by kernel_rfl) ?_
    refine Sx.G.pureq (.bool (((guestAt x0 x1).2) != ((guestAt x0 x1).2))) (.bool false) (by kernel_rfl) (fun w => by kernel_rfl) (congrArg Value.bool (bne_self_eq_false _)) ?_
    refine Sx.G.pure (.bool false) (by kernel_rfl) (fun w => by kernel_rfl) ?_
    refine Sx.G.nil ?_
    refine Sx.E.next ?_
    refine Sx.C.no (by kernel_rfl) (by kernel_rfl) ?_
    refine Sx.C.skip ?_
    refine Sx.E.next ?_
    refine Sx.C.seq ?_
    refine Sx.C.seq ?_
    refine Sx.C.draw (.take 0 (.take 1 (.alone 2 (.alone 3 (.take 4 .nil))))) [vr b8 [.slice A7_0 x0.mem.length c7_0, .slice A7_1 x0.gs.length c7_1, .slice A7_2 x0.outs.length c7_2, .int .i64 x0.pd], vr b1 [.slice h0A0 x0.mem.length h0K0, .slice h0A1 x0.gs.length h0K1, .slice h0A2 x0.outs.length h0K2, .int .i64 x0.pd]] (fun w S => St.pick S [2, 7] _ rfl (by decide)) (by kernel_rfl) (by kernel_rfl) (by kernel_rfl) ?_
    refine Sx.GT.ld 28 (.tmp 8) b8 0 0 [.slice A7_0 x0.mem.length c7_0, .slice A7_1 x0.gs.length c7_1, .slice A7_2 x0.outs.length c7_2, .int .i64 x0.pd] [.slice A7_0 x0.mem.length c7_0, .slice A7_1 x0.gs.length c7_1, .slice A7_2 x0.outs.length c7_2, .int .i64 x0.pd] 0 (by rfl) (by rfl) (by kernel_rfl) (by kernel_rfl) (by rfl) (by kernel_rfl) (by kernel_rfl) (by kernel_rfl) ?_
    refine Sx.GT.ld 39 (.tmp 2) b1 0 1 [.slice h0A0 x0.mem.length h0K0, .slice h0A1 x0.gs.length h0K1, .slice h0A2 x0.outs.length h0K2, .int .i64 x0.pd] [.slice h0A0 x0.mem.length h0K0, .slice h0A1 x0.gs.length h0K1, .slice h0A2 x0.outs.length h0K2, .int .i64 x0.pd] 1 (by rfl) (by rfl) (by kernel_rfl) (by kernel_rfl) (by rfl) (by kernel_rfl) (by kernel_rfl) (by kernel_rfl) ?_
    refine Sx.GT.alone (Sx.Alone.call 20 #[.agg #[.slice h0A0 x0.mem.length h0K0, .slice h0A1 x0.gs.length h0K1, .slice h0A2 x0.outs.length h0K2, .int .i64 x0.pd]] (by rfl) (by kernel_rfl) (fun w => by kernel_rfl) (fun w11 S => (Kit.kto_Bare x0 _ _ hc0 (St.old S h0R)).mono fun e w11' hp => ?_))
    obtain ⟨cs, F, rfl, ho, hF, hb⟩ := hp
    obtain ⟨P11_0, P11_1, P11_2, rfl, f11_0, f11_1, f11_2⟩ := wB_rd (wB.reads ho)
    obtain ⟨A11_0, c11_0, e11_0, -⟩ := lst_val f11_0
    subst e11_0
    obtain ⟨A11_1, c11_1, e11_1, -⟩ := lst_val f11_1
    subst e11_1
    obtain ⟨A11_2, c11_2, e11_2, -⟩ := lst_val f11_2
    subst e11_2
    generalize F = F11 at ho hF
    refine ⟨_, _, rfl, (St.got S hb ho hF), (fun w S => St.pick S [3, 8] _ rfl (by decide)), ?_⟩
    clear S hb ho hF f11_0 f11_1 f11_2
    refine Sx.GT.alone (Sx.Alone.plain 13 #[.agg #[.slice A7_0 x0.mem.length c7_0, .slice A7_1 x0.gs.length c7_1, .slice A7_2 x0.outs.length c7_2, .int .i64 x0.pd], .agg #[.slice A11_0 x0.mem.length c11_0, .slice A11_1 x0.gs.length c11_1, .slice A11_2 x0.outs.length c11_2, .int .i64 x0.pd]] (.bool true) (by rfl) (by kernel_rfl) (fun w => by kernel_rfl) (fun w S => by exact Kit.keq_Bare x0 _ _ _ hc0 (St.reads S 4 rfl) (St.reads S 0 rfl)) (fun w S => St.pick S [3, 8] _ rfl (by decide)) ?_)
    refine Sx.GT.pure (.bool false) 4 (by rfl) (by kernel_rfl) (fun w => by kernel_rfl) ?_
    refine Sx.GT.nil ?_
    refine Sx.E.next ?_
    refine Sx.C.no (by kernel_rfl) (by kernel_rfl) ?_
    refine Sx.C.skip ?_
    refine Sx.E.next ?_
    refine Sx.C.seq ?_
    refine Sx.C.region ?_
    refine Sx.G.pure (.int .i64 1) (by kernel_rfl) (fun w => by kernel_rfl) ?_
    refine Sx.G.nil ?_
    refine Sx.E.next ?_
    refine Sx.C.seq ?_
    refine Sx.C.region ?_
    refine Sx.G.ld 28 (.tmp 8) b8 0 3 [.slice A7_0 x0.mem.length c7_0, .slice A7_1 x0.gs.length c7_1, .slice A7_2 x0.outs.length c7_2, .int .i64 x0.pd] [.slice A7_0 x0.mem.length c7_0, .slice A7_1 x0.gs.length c7_1, .slice A7_2 x0.outs.length c7_2, .int .i64 x0.pd] rfl (by kernel_rfl) (by kernel_rfl) rfl (by kernel_rfl) (by kernel_rfl) (by kernel_rfl) ?_
    refine Sx.G.pure (.int .i64 1) (by kernel_rfl) (fun w => by kernel_rfl) ?_
    obtain ⟨t12, ht12⟩ : ∃ q, q = 1 + wB.tcnt x0 := ⟨_, rfl⟩
    refine Sx.G.call 16 #[.agg #[.slice A7_0 x0.mem.length c7_0, .slice A7_1 x0.gs.length c7_1, .slice A7_2 x0.outs.length c7_2, .int .i64 x0.pd], .int .i64 1] (by kernel_rfl) (fun w => by kernel_rfl) (fun w12 S => (Kit.kmk_Bare x0 _ 1 F7 hc0 (by omega) S 4 rfl).mono fun e w12' hp => ?_)
    rw [← ht12] at hp
    obtain ⟨rfl, S'⟩ := hp
    refine ⟨_, _, rfl, S', ?_⟩
    clear S S'
    refine Sx.G.pure (.int .i64 ((t12 : Nat) : Int)) (by kernel_rfl) (fun w => by kernel_rfl) ?_
    refine Sx.G.nil ?_
    refine Sx.E.next ?_
    refine Sx.C.seq ?_
    refine Sx.C.seq ?_
    refine Sx.C.region ?_
    refine Sx.G.pure (.int .i64 ((t12 : Nat) : Int)) (by kernel_rfl) (fun w => by kernel_rfl) ?_
    refine Sx.G.pureq (.bool (decide (((t12 : Nat) : Int) < 0))) (.bool false) (by kernel_rfl) (fun w => by kernel_rfl) (congrArg Value.bool (decide_eq_false (by omega))) ?_
    refine Sx.G.pure (.bool false) (by kernel_rfl) (fun w => by kernel_rfl) ?_
    refine Sx.G.ld 51 (.tmp 9) b10 0 1 [.slice A9_0 y0.prog.length c9_0, .int .i64 y0.a, .int .i64 y0.pc, .slice A9_1 y0.wr.length c9_1, .slice A9_2 y0.lv.length c9_2, .int .i64 y0.t.1, .int .i64 y0.t.2.1, .bool y0.t.2.2, .int .i64 y0.pd, .int .i64 y0.x.1, .int .i64 y0.x.2.1, .bool y0.x.2.2.1, .int .i64 y0.x.2.2.2, .bool y0.hl, .slice A9_3 y0.seen.length c9_3] [.slice A9_0 y0.prog.length c9_0, .int .i64 y0.a, .int .i64 y0.pc, .slice A9_1 y0.wr.length c9_1, .slice A9_2 y0.lv.length c9_2, .int .i64 y0.t.1, .int .i64 y0.t.2.1, .bool y0.t.2.2, .int .i64 y0.pd, .int .i64 y0.x.1, .int .i64 y0.x.2.1, .bool y0.x.2.2.1, .int .i64 y0.x.2.2.2, .bool y0.hl, .slice A9_3 y0.seen.length c9_3] rfl (by kernel_rfl) (by kernel_rfl) rfl (by kernel_rfl) (by kernel_rfl) (by kernel_rfl) ?_
    refine Sx.G.ld 51 (.tmp 6) b6 0 5 [.slice A5_0 y0.prog.length c5_0, .int .i64 y0.a, .int .i64 y0.pc, .slice A5_1 y0.wr.length c5_1, .slice A5_2 y0.lv.length c5_2, .int .i64 y0.t.1, .int .i64 y0.t.2.1, .bool y0.t.2.2, .int .i64 y0.pd, .int .i64 y0.x.1, .int .i64 y0.x.2.1, .bool y0.x.2.2.1, .int .i64 y0.x.2.2.2, .bool y0.hl, .slice A5_3 y0.seen.length c5_3] [.slice A5_0 y0.prog.length c5_0, .int .i64 y0.a, .int .i64 y0.pc, .slice A5_1 y0.wr.length c5_1, .slice A5_2 y0.lv.length c5_2, .int .i64 y0.t.1, .int .i64 y0.t.2.1, .bool y0.t.2.2, .int .i64 y0.pd, .int .i64 y0.x.1, .int .i64 y0.x.2.1, .bool y0.x.2.2.1, .int .i64 y0.x.2.2.2, .bool y0.hl, .slice A5_3 y0.seen.length c5_3] rfl (by kernel_rfl) (by kernel_rfl) rfl (by kernel_rfl) (by kernel_rfl) (by kernel_rfl) ?_
    refine Sx.G.plain 24 #[.agg #[.slice A9_0 y0.prog.length c9_0, .int .i64 y0.a, .int .i64 y0.pc, .slice A9_1 y0.wr.length c9_1, .slice A9_2 y0.lv.length c9_2, .int .i64 y0.t.1, .int .i64 y0.t.2.1, .bool y0.t.2.2, .int .i64 y0.pd, .int .i64 y0.x.1, .int .i64 y0.x.2.1, .bool y0.x.2.2.1, .int .i64 y0.x.2.2.2, .bool y0.hl, .slice A9_3 y0.seen.length c9_3], .agg #[.slice A5_0 y0.prog.length c5_0, .int .i64 y0.a, .int .i64 y0.pc, .slice A5_1 y0.wr.length c5_1, .slice A5_2 y0.lv.length c5_2, .int .i64 y0.t.1, .int .i64 y0.t.2.1, .bool y0.t.2.2, .int .i64 y0.pd, .int .i64 y0.x.1, .int .i64 y0.x.2.1, .bool y0.x.2.2.1, .int .i64 y0.x.2.2.2, .bool y0.hl, .slice A5_3 y0.seen.length c5_3]] (.bool true) (by kernel_rfl) (fun w => by kernel_rfl) (fun w S => by exact Kit.keq_Guest y0 _ _ _ hd0 (St.reads S 2 rfl) (St.reads S 6 rfl)) ?_
    refine Sx.G.pure (.bool false) (by kernel_rfl) (fun w => by kernel_rfl) ?_
    refine Sx.G.pure (.bool false) (by kernel_rfl) (fun w => by kernel_rfl) ?_
    refine Sx.G.pure (.bool false) (by kernel_rfl) (fun w => by kernel_rfl) ?_
    refine Sx.G.pure (.bool ((guestAt x0 x1).2)) (by kernel_rfl) (fun w => by kernel_rfl) ?_
    refine Sx.G.pure (.bool ((guestAt x0 x1).2)) (by kernel_rfl) (fun w => by kernel_rfl) ?_
    refine Sx.G.pureq (.bool (((guestAt x0 x1).2) != ((guestAt x0 x1).2))) (.bool false) (by kernel_rfl) (fun w => by kernel_rfl) (congrArg Value.bool (bne_self_eq_false _)) ?_
    refine Sx.G.pure (.bool false) (by kernel_rfl) (fun w => by kernel_rfl) ?_
    refine Sx.G.nil ?_
    refine Sx.E.next ?_
    refine Sx.C.no (by kernel_rfl) (by kernel_rfl) ?_
    refine Sx.C.skip ?_
    refine Sx.E.next ?_
    refine Sx.C.seq ?_
    refine Sx.C.region ?_
    refine Sx.G.pure (.int .i64 1) (by kernel_rfl) (fun w => by kernel_rfl) ?_
    refine Sx.G.nil ?_
    refine Sx.E.next ?_
    refine Sx.C.seq ?_
    refine Sx.C.region ?_
    refine Sx.G.ld 51 (.tmp 9) b10 0 1 [.slice A9_0 y0.prog.length c9_0, .int .i64 y0.a, .int .i64 y0.pc, .slice A9_1 y0.wr.length c9_1, .slice A9_2 y0.lv.length c9_2, .int .i64 y0.t.1, .int .i64 y0.t.2.1, .bool y0.t.2.2, .int .i64 y0.pd, .int .i64 y0.x.1, .int .i64 y0.x.2.1, .bool y0.x.2.2.1, .int .i64 y0.x.2.2.2, .bool y0.hl, .slice A9_3 y0.seen.length c9_3] [.slice A9_0 y0.prog.length c9_0, .int .i64 y0.a, .int .i64 y0.pc, .slice A9_1 y0.wr.length c9_1, .slice A9_2 y0.lv.length c9_2, .int .i64 y0.t.1, .int .i64 y0.t.2.1, .bool y0.t.2.2, .int .i64 y0.pd, .int .i64 y0.x.1, .int .i64 y0.x.2.1, .bool y0.x.2.2.1, .int .i64 y0.x.2.2.2, .bool y0.hl, .slice A9_3 y0.seen.length c9_3] rfl (by kernel_rfl) (by kernel_rfl) rfl (by kernel_rfl) (by kernel_rfl) (by kernel_rfl) ?_
    refine Sx.G.pure (.int .i64 1) (by kernel_rfl) (fun w => by kernel_rfl) ?_
    obtain ⟨t13, ht13⟩ : ∃ q, q = 1 + wG.tcnt y0 := ⟨_, rfl⟩
    refine Sx.G.call 25 #[.agg #[.slice A9_0 y0.prog.length c9_0, .int .i64 y0.a, .int .i64 y0.pc, .slice A9_1 y0.wr.length c9_1, .slice A9_2 y0.lv.length c9_2, .int .i64 y0.t.1, .int .i64 y0.t.2.1, .bool y0.t.2.2, .int .i64 y0.pd, .int .i64 y0.x.1, .int .i64 y0.x.2.1, .bool y0.x.2.2.1, .int .i64 y0.x.2.2.2, .bool y0.hl, .slice A9_3 y0.seen.length c9_3], .int .i64 1] (by kernel_rfl) (fun w => by kernel_rfl) (fun w13 S => (Kit.kmk_Guest y0 _ 1 F9 hd0 (by omega) S 2 rfl).mono fun e w13' hp => ?_)
    rw [← ht13] at hp
    obtain ⟨rfl, S'⟩ := hp
    refine ⟨_, _, rfl, S', ?_⟩
    clear S S'
    refine Sx.G.pure (.int .i64 ((t13 : Nat) : Int)) (by kernel_rfl) (fun w => by kernel_rfl) ?_
    refine Sx.G.nil ?_
    refine Sx.E.next ?_
    refine Sx.C.seq ?_
    refine Sx.C.region ?_
    refine Sx.G.pure (.int .i64 1) (by kernel_rfl) (fun w => by kernel_rfl) ?_
    refine Sx.G.nil ?_
    refine Sx.E.next ?_
    refine Sx.C.seq ?_
    refine Sx.C.region ?_
    refine Sx.G.ld 51 (.tmp 9) b10 0 1 [.slice A9_0 y0.prog.length c9_0, .int .i64 y0.a, .int .i64 y0.pc, .slice A9_1 y0.wr.length c9_1, .slice A9_2 y0.lv.length c9_2, .int .i64 y0.t.1, .int .i64 y0.t.2.1, .bool y0.t.2.2, .int .i64 y0.pd, .int .i64 y0.x.1, .int .i64 y0.x.2.1, .bool y0.x.2.2.1, .int .i64 y0.x.2.2.2, .bool y0.hl, .slice A9_3 y0.seen.length c9_3] [.slice A9_0 y0.prog.length c9_0, .int .i64 y0.a, .int .i64 y0.pc, .slice A9_1 y0.wr.length c9_1, .slice A9_2 y0.lv.length c9_2, .int .i64 y0.t.1, .int .i64 y0.t.2.1, .bool y0.t.2.2, .int .i64 y0.pd, .int .i64 y0.x.1, .int .i64 y0.x.2.1, .bool y0.x.2.2.1, .int .i64 y0.x.2.2.2, .bool y0.hl, .slice A9_3 y0.seen.length c9_3] rfl (by kernel_rfl) (by kernel_rfl) rfl (by kernel_rfl) (by kernel_rfl) (by kernel_rfl) ?_
    refine Sx.G.pure (.int .i64 1) (by kernel_rfl) (fun w => by kernel_rfl) ?_
    refine Sx.G.call 26 #[.agg #[.slice A9_0 y0.prog.length c9_0, .int .i64 y0.a, .int .i64 y0.pc, .slice A9_1 y0.wr.length c9_1, .slice A9_2 y0.lv.length c9_2, .int .i64 y0.t.1, .int .i64 y0.t.2.1, .bool y0.t.2.2, .int .i64 y0.pd, .int .i64 y0.x.1, .int .i64 y0.x.2.1, .bool y0.x.2.2.1, .int .i64 y0.x.2.2.2, .bool y0.hl, .slice A9_3 y0.seen.length c9_3], .int .i64 1] (by kernel_rfl) (fun w => by kernel_rfl) (fun w14 S => (Kit.khd_Guest y0 _ 1 _ hd0 (by omega) (St.reads S 2 rfl)).mono fun e w14' hp => ?_)
    rw [← ht13] at hp
    obtain ⟨rfl, hb⟩ := hp
    refine ⟨_, _, rfl, (S.call hb), ?_⟩
    clear S hb
    refine Sx.G.pure (.int .i64 ((t13 : Nat) : Int)) (by kernel_rfl) (fun w => by kernel_rfl) ?_
    refine Sx.G.nil ?_
    refine Sx.E.next ?_
    refine Sx.C.seq ?_
    refine Sx.C.seq ?_
    refine Sx.C.region ?_
    refine Sx.G.pure (.int .i64 ((t13 : Nat) : Int)) (by kernel_rfl) (fun w => by kernel_rfl) ?_
    refine Sx.G.pureq (.bool (decide (((t13 : Nat) : Int) < 0))) (.bool false) (by kernel_rfl) (fun w => by kernel_rfl) (congrArg Value.bool (decide_eq_false (by omega))) ?_
    refine Sx.G.nil ?_
    refine Sx.E.next ?_
    refine Sx.C.no (by kernel_rfl) (by kernel_rfl) ?_
    refine Sx.C.skip ?_
    refine Sx.E.next ?_
    refine Sx.C.seq ?_
    refine Sx.C.seq ?_
    refine Sx.C.region ?_
    refine Sx.G.pure (.int .i64 ((t13 : Nat) : Int)) (by kernel_rfl) (fun w => by kernel_rfl) ?_
    refine Sx.G.pure (.int .i64 ((t13 : Nat) : Int)) (by kernel_rfl) (fun w => by kernel_rfl) ?_
    refine Sx.G.pureq (.bool (((t13 : Nat) : Int) != ((t13 : Nat) : Int))) (.bool false) (by kernel_rfl) (fun w => by kernel_rfl) (congrArg Value.bool (bne_self_eq_false _)) ?_
    refine Sx.G.nil ?_
    refine Sx.E.next ?_
    refine Sx.C.no (by kernel_rfl) (by kernel_rfl) ?_
    refine Sx.C.skip ?_
    refine Sx.E.next ?_
    refine Sx.C.seq ?_
    refine Sx.C.region ?_
    refine Sx.G.ld 39 (.tmp 2) b1 0 8 [.slice h0A0 x0.mem.length h0K0, .slice h0A1 x0.gs.length h0K1, .slice h0A2 x0.outs.length h0K2, .int .i64 x0.pd] [.slice h0A0 x0.mem.length h0K0, .slice h0A1 x0.gs.length h0K1, .slice h0A2 x0.outs.length h0K2, .int .i64 x0.pd] rfl (by kernel_rfl) (by kernel_rfl) rfl (by kernel_rfl) (by kernel_rfl) (by kernel_rfl) ?_
    refine Sx.G.call 20 #[.agg #[.slice h0A0 x0.mem.length h0K0, .slice h0A1 x0.gs.length h0K1, .slice h0A2 x0.outs.length h0K2, .int .i64 x0.pd]] (by kernel_rfl) (fun w => by kernel_rfl) (fun w15 S => (Kit.kto_Bare x0 _ _ hc0 (St.old S h0R)).mono fun e w15' hp => ?_)
    obtain ⟨cs, F, rfl, ho, hF, hb⟩ := hp
    obtain ⟨P15_0, P15_1, P15_2, rfl, f15_0, f15_1, f15_2⟩ := wB_rd (wB.reads ho)
    obtain ⟨A15_0, c15_0, e15_0, -⟩ := lst_val f15_0
    subst e15_0
    obtain ⟨A15_1, c15_1, e15_1, -⟩ := lst_val f15_1
    subst e15_1
    obtain ⟨A15_2, c15_2, e15_2, -⟩ := lst_val f15_2
    subst e15_2
    generalize F = F15 at ho hF
    refine ⟨_, _, rfl, (St.got S hb ho hF), ?_⟩
    clear S hb ho hF f15_0 f15_1 f15_2
    refine Sx.G.pure (.int .i64 x1) (by kernel_rfl) (fun w => by kernel_rfl) ?_
    refine Sx.G.call 23 #[.agg #[.slice A15_0 x0.mem.length c15_0, .slice A15_1 x0.gs.length c15_1, .slice A15_2 x0.outs.length c15_2, .int .i64 x0.pd], .int .i64 x1] (by kernel_rfl) (fun w => by kernel_rfl) (fun w16 S => (impl_gat x0 _ x1 _ hw0 hc0 (St.reads S 0 rfl) hw1).mono fun e w16' hp => ?_)
    obtain ⟨cs, F, rfl, ho, hF, hb⟩ := hp
    rw [← hy0] at ho
    obtain ⟨P16_0, P16_1, P16_2, P16_3, rfl, f16_0, f16_1, f16_2, f16_3⟩ := wG_rd (wG.reads ho)
    obtain ⟨A16_0, c16_0, e16_0, -⟩ := lst_val f16_0
    subst e16_0
    obtain ⟨A16_1, c16_1, e16_1, -⟩ := lst_val f16_1
    subst e16_1
    obtain ⟨A16_2, c16_2, e16_2, -⟩ := lst_val f16_2
    subst e16_2
    obtain ⟨A16_3, c16_3, e16_3, -⟩ := lst_val f16_3
    subst e16_3
    generalize F = F16 at ho hF
    refine ⟨_, _, rfl, (St.got S hb ho hF), ?_⟩
    clear S hb ho hF f16_0 f16_1 f16_2 f16_3
    refine Sx.G.pure (.tuple #[.agg #[.slice A16_0 y0.prog.length c16_0, .int .i64 y0.a, .int .i64 y0.pc, .slice A16_1 y0.wr.length c16_1, .slice A16_2 y0.lv.length c16_2, .int .i64 y0.t.1, .int .i64 y0.t.2.1, .bool y0.t.2.2, .int .i64 y0.pd, .int .i64 y0.x.1, .int .i64 y0.x.2.1, .bool y0.x.2.2.1, .int .i64 y0.x.2.2.2, .bool y0.hl, .slice A16_3 y0.seen.length c16_3], .bool ((guestAt x0 x1).2)]) (by kernel_rfl) (fun w => by kernel_rfl) ?_
    refine Sx.G.pure (.agg #[.slice A16_0 y0.prog.length c16_0, .int .i64 y0.a, .int .i64 y0.pc, .slice A16_1 y0.wr.length c16_1, .slice A16_2 y0.lv.length c16_2, .int .i64 y0.t.1, .int .i64 y0.t.2.1, .bool y0.t.2.2, .int .i64 y0.pd, .int .i64 y0.x.1, .int .i64 y0.x.2.1, .bool y0.x.2.2.1, .int .i64 y0.x.2.2.2, .bool y0.hl, .slice A16_3 y0.seen.length c16_3]) (by kernel_rfl) (fun w => by kernel_rfl) ?_
    refine Sx.G.pure (.bool ((guestAt x0 x1).2)) (by kernel_rfl) (fun w => by kernel_rfl) ?_
    refine Sx.G.alloc 51 (.agg #[.slice none 0 0, .int .i64 0, .int .i64 0, .slice none 0 0, .slice none 0 0, .int .i64 0, .int .i64 0, .bool false, .int .i64 0, .int .i64 0, .int .i64 0, .bool false, .int .i64 0, .bool false, .slice none 0 0]) [.slice none 0 0, .int .i64 0, .int .i64 0, .slice none 0 0, .slice none 0 0, .int .i64 0, .int .i64 0, .bool false, .int .i64 0, .int .i64 0, .int .i64 0, .bool false, .int .i64 0, .bool false, .slice none 0 0] rfl (by kernel_rfl) (fun w => by kernel_rfl) (by kernel_rfl) (fun b17 => ?_)
    refine Sx.G.sto 51 (.tmp 14) (.tmp 82) b17 0 0 [.slice none 0 0, .int .i64 0, .int .i64 0, .slice none 0 0, .slice none 0 0, .int .i64 0, .int .i64 0, .bool false, .int .i64 0, .int .i64 0, .int .i64 0, .bool false, .int .i64 0, .bool false, .slice none 0 0] [.slice A16_0 y0.prog.length c16_0, .int .i64 y0.a, .int .i64 y0.pc, .slice A16_1 y0.wr.length c16_1, .slice A16_2 y0.lv.length c16_2, .int .i64 y0.t.1, .int .i64 y0.t.2.1, .bool y0.t.2.2, .int .i64 y0.pd, .int .i64 y0.x.1, .int .i64 y0.x.2.1, .bool y0.x.2.2.1, .int .i64 y0.x.2.2.2, .bool y0.hl, .slice A16_3 y0.seen.length c16_3] [.slice A16_0 y0.prog.length c16_0, .int .i64 y0.a, .int .i64 y0.pc, .slice A16_1 y0.wr.length c16_1, .slice A16_2 y0.lv.length c16_2, .int .i64 y0.t.1, .int .i64 y0.t.2.1, .bool y0.t.2.2, .int .i64 y0.pd, .int .i64 y0.x.1, .int .i64 y0.x.2.1, .bool y0.x.2.2.1, .int .i64 y0.x.2.2.2, .bool y0.hl, .slice A16_3 y0.seen.length c16_3] [vr b17 [.slice A16_0 y0.prog.length c16_0, .int .i64 y0.a, .int .i64 y0.pc, .slice A16_1 y0.wr.length c16_1, .slice A16_2 y0.lv.length c16_2, .int .i64 y0.t.1, .int .i64 y0.t.2.1, .bool y0.t.2.2, .int .i64 y0.pd, .int .i64 y0.x.1, .int .i64 y0.x.2.1, .bool y0.x.2.2.1, .int .i64 y0.x.2.2.2, .bool y0.hl, .slice A16_3 y0.seen.length c16_3], ow wG w16.heap.size w16'.heap.size y0 [.slice A16_0 y0.prog.length c16_0, .int .i64 y0.a, .int .i64 y0.pc, .slice A16_1 y0.wr.length c16_1, .slice A16_2 y0.lv.length c16_2, .int .i64 y0.t.1, .int .i64 y0.t.2.1, .bool y0.t.2.2, .int .i64 y0.pd, .int .i64 y0.x.1, .int .i64 y0.x.2.1, .bool y0.x.2.2.1, .int .i64 y0.x.2.2.2, .bool y0.hl, .slice A16_3 y0.seen.length c16_3] F16, ow wB w15.heap.size w15'.heap.size x0 [.slice A15_0 x0.mem.length c15_0, .slice A15_1 x0.gs.length c15_1, .slice A15_2 x0.outs.length c15_2, .int .i64 x0.pd] F15, ow wB w11.heap.size w11'.heap.size x0 [.slice A11_0 x0.mem.length c11_0, .slice A11_1 x0.gs.length c11_1, .slice A11_2 x0.outs.length c11_2, .int .i64 x0.pd] F11, vr b10 [.slice A9_0 y0.prog.length c9_0, .int .i64 y0.a, .int .i64 y0.pc, .slice A9_1 y0.wr.length c9_1, .slice A9_2 y0.lv.length c9_2, .int .i64 y0.t.1, .int .i64 y0.t.2.1, .bool y0.t.2.2, .int .i64 y0.pd, .int .i64 y0.x.1, .int .i64 y0.x.2.1, .bool y0.x.2.2.1, .int .i64 y0.x.2.2.2, .bool y0.hl, .slice A9_3 y0.seen.length c9_3], ow wG w9.heap.size w9'.heap.size (wG.top 1 y0) [.slice A9_0 y0.prog.length c9_0, .int .i64 y0.a, .int .i64 y0.pc, .slice A9_1 y0.wr.length c9_1, .slice A9_2 y0.lv.length c9_2, .int .i64 y0.t.1, .int .i64 y0.t.2.1, .bool y0.t.2.2, .int .i64 y0.pd, .int .i64 y0.x.1, .int .i64 y0.x.2.1, .bool y0.x.2.2.1, .int .i64 y0.x.2.2.2, .bool y0.hl, .slice A9_3 y0.seen.length c9_3] F9, vr b8 [.slice A7_0 x0.mem.length c7_0, .slice A7_1 x0.gs.length c7_1, .slice A7_2 x0.outs.length c7_2, .int .i64 x0.pd], ow wB w7.heap.size w7'.heap.size (wB.top 1 x0) [.slice A7_0 x0.mem.length c7_0, .slice A7_1 x0.gs.length c7_1, .slice A7_2 x0.outs.length c7_2, .int .i64 x0.pd] F7, vr b6 [.slice A5_0 y0.prog.length c5_0, .int .i64 y0.a, .int .i64 y0.pc, .slice A5_1 y0.wr.length c5_1, .slice A5_2 y0.lv.length c5_2, .int .i64 y0.t.1, .int .i64 y0.t.2.1, .bool y0.t.2.2, .int .i64 y0.pd, .int .i64 y0.x.1, .int .i64 y0.x.2.1, .bool y0.x.2.2.1, .int .i64 y0.x.2.2.2, .bool y0.hl, .slice A5_3 y0.seen.length c5_3], ow wG w5.heap.size w5'.heap.size y0 [.slice A5_0 y0.prog.length c5_0, .int .i64 y0.a, .int .i64 y0.pc, .slice A5_1 y0.wr.length c5_1, .slice A5_2 y0.lv.length c5_2, .int .i64 y0.t.1, .int .i64 y0.t.2.1, .bool y0.t.2.2, .int .i64 y0.pd, .int .i64 y0.x.1, .int .i64 y0.x.2.1, .bool y0.x.2.2.1, .int .i64 y0.x.2.2.2, .bool y0.hl, .slice A5_3 y0.seen.length c5_3] F5, ow wB w4.heap.size w4'.heap.size x0 [.slice A4_0 x0.mem.length c4_0, .slice A4_1 x0.gs.length c4_1, .slice A4_2 x0.outs.length c4_2, .int .i64 x0.pd] F4, vr b1 [.slice h0A0 x0.mem.length h0K0, .slice h0A1 x0.gs.length h0K1, .slice h0A2 x0.outs.length h0K2, .int .i64 x0.pd]] rfl (by kernel_rfl) (by kernel_rfl) (by kernel_rfl) rfl (by kernel_rfl) rfl (by kernel_rfl) (by kernel_rfl) (by kernel_rfl) ?_
    refine Sx.G.pure (.bool ((guestAt x0 x1).2)) (by kernel_rfl) (fun w => by kernel_rfl) ?_
    refine Sx.G.nil ?_
    refine Sx.E.next ?_
    refine Sx.C.seq ?_
    refine Sx.C.seq ?_
    refine Sx.C.region ?_
    refine Sx.G.ld 51 (.tmp 14) b17 0 0 [.slice A16_0 y0.prog.length c16_0, .int .i64 y0.a, .int .i64 y0.pc, .slice A16_1 y0.wr.length c16_1, .slice A16_2 y0.lv.length c16_2, .int .i64 y0.t.1, .int .i64 y0.t.2.1, .bool y0.t.2.2, .int .i64 y0.pd, .int .i64 y0.x.1, .int .i64 y0.x.2.1, .bool y0.x.2.2.1, .int .i64 y0.x.2.2.2, .bool y0.hl, .slice A16_3 y0.seen.length c16_3] [.slice A16_0 y0.prog.length c16_0, .int .i64 y0.a, .int .i64 y0.pc, .slice A16_1 y0.wr.length c16_1, .slice A16_2 y0.lv.length c16_2, .int .i64 y0.t.1, .int .i64 y0.t.2.1, .bool y0.t.2.2, .int .i64 y0.pd, .int .i64 y0.x.1, .int .i64 y0.x.2.1, .bool y0.x.2.2.1, .int .i64 y0.x.2.2.2, .bool y0.hl, .slice A16_3 y0.seen.length c16_3] rfl (by kernel_rfl) (by kernel_rfl) rfl (by kernel_rfl) (by kernel_rfl) (by kernel_rfl) ?_
    refine Sx.G.ld 51 (.tmp 6) b6 0 8 [.slice A5_0 y0.prog.length c5_0, .int .i64 y0.a, .int .i64 y0.pc, .slice A5_1 y0.wr.length c5_1, .slice A5_2 y0.lv.length c5_2, .int .i64 y0.t.1, .int .i64 y0.t.2.1, .bool y0.t.2.2, .int .i64 y0.pd, .int .i64 y0.x.1, .int .i64 y0.x.2.1, .bool y0.x.2.2.1, .int .i64 y0.x.2.2.2, .bool y0.hl, .slice A5_3 y0.seen.length c5_3] [.slice A5_0 y0.prog.length c5_0, .int .i64 y0.a, .int .i64 y0.pc, .slice A5_1 y0.wr.length c5_1, .slice A5_2 y0.lv.length c5_2, .int .i64 y0.t.1, .int .i64 y0.t.2.1, .bool y0.t.2.2, .int .i64 y0.pd, .int .i64 y0.x.1, .int .i64 y0.x.2.1, .bool y0.x.2.2.1, .int .i64 y0.x.2.2.2, .bool y0.hl, .slice A5_3 y0.seen.length c5_3] rfl (by kernel_rfl) (by kernel_rfl) rfl (by kernel_rfl) (by kernel_rfl) (by kernel_rfl) ?_
    refine Sx.G.plain 24 #[.agg #[.slice A16_0 y0.prog.length c16_0, .int .i64 y0.a, .int .i64 y0.pc, .slice A16_1 y0.wr.length c16_1, .slice A16_2 y0.lv.length c16_2, .int .i64 y0.t.1, .int .i64 y0.t.2.1, .bool y0.t.2.2, .int .i64 y0.pd, .int .i64 y0.x.1, .int .i64 y0.x.2.1, .bool y0.x.2.2.1, .int .i64 y0.x.2.2.2, .bool y0.hl, .slice A16_3 y0.seen.length c16_3], .agg #[.slice A5_0 y0.prog.length c5_0, .int .i64 y0.a, .int .i64 y0.pc, .slice A5_1 y0.wr.length c5_1, .slice A5_2 y0.lv.length c5_2, .int .i64 y0.t.1, .int .i64 y0.t.2.1, .bool y0.t.2.2, .int .i64 y0.pd, .int .i64 y0.x.1, .int .i64 y0.x.2.1, .bool y0.x.2.2.1, .int .i64 y0.x.2.2.2, .bool y0.hl, .slice A5_3 y0.seen.length c5_3]] (.bool true) (by kernel_rfl) (fun w => by kernel_rfl) (fun w S => by exact Kit.keq_Guest y0 _ _ _ hd0 (St.reads S 1 rfl) (St.reads S 9 rfl)) ?_
    refine Sx.G.pure (.bool false) (by kernel_rfl) (fun w => by kernel_rfl) ?_
    refine Sx.G.pure (.bool false) (by kernel_rfl) (fun w => by kernel_rfl) ?_
    refine Sx.G.pure (.bool ((guestAt x0 x1).2)) (by kernel_rfl) (fun w => by kernel_rfl) ?_
    refine Sx.G.pure (.bool ((guestAt x0 x1).2)) (by kernel_rfl) (fun w => by kernel_rfl) ?_
    refine Sx.G.pureq (.bool (((guestAt x0 x1).2) != ((guestAt x0 x1).2))) (.bool false) (by kernel_rfl) (fun w => by kernel_rfl) (congrArg Value.bool (bne_self_eq_false _)) ?_
    refine Sx.G.pure (.bool false) (by kernel_rfl) (fun w => by kernel_rfl) ?_
    refine Sx.G.nil ?_
    refine Sx.E.next ?_
    refine Sx.C.no (by kernel_rfl) (by kernel_rfl) ?_
    refine Sx.C.skip ?_
    refine Sx.E.next ?_
    refine Sx.C.seq ?_
    refine Sx.C.region ?_
    refine Sx.G.pure (.int .i64 1) (by kernel_rfl) (fun w => by kernel_rfl) ?_
    refine Sx.G.nil ?_
    refine Sx.E.next ?_
    refine Sx.C.seq ?_
    refine Sx.C.region ?_
    refine Sx.G.ld 51 (.tmp 9) b10 0 4 [.slice A9_0 y0.prog.length c9_0, .int .i64 y0.a, .int .i64 y0.pc, .slice A9_1 y0.wr.length c9_1, .slice A9_2 y0.lv.length c9_2, .int .i64 y0.t.1, .int .i64 y0.t.2.1, .bool y0.t.2.2, .int .i64 y0.pd, .int .i64 y0.x.1, .int .i64 y0.x.2.1, .bool y0.x.2.2.1, .int .i64 y0.x.2.2.2, .bool y0.hl, .slice A9_3 y0.seen.length c9_3] [.slice A9_0 y0.prog.length c9_0, .int .i64 y0.a, .int .i64 y0.pc, .slice A9_1 y0.wr.length c9_1, .slice A9_2 y0.lv.length c9_2, .int .i64 y0.t.1, .int .i64 y0.t.2.1, .bool y0.t.2.2, .int .i64 y0.pd, .int .i64 y0.x.1, .int .i64 y0.x.2.1, .bool y0.x.2.2.1, .int .i64 y0.x.2.2.2, .bool y0.hl, .slice A9_3 y0.seen.length c9_3] rfl (by kernel_rfl) (by kernel_rfl) rfl (by kernel_rfl) (by kernel_rfl) (by kernel_rfl) ?_
    refine Sx.G.pure (.int .i64 1) (by kernel_rfl) (fun w => by kernel_rfl) ?_
    refine Sx.G.call 26 #[.agg #[.slice A9_0 y0.prog.length c9_0, .int .i64 y0.a, .int .i64 y0.pc, .slice A9_1 y0.wr.length c9_1, .slice A9_2 y0.lv.length c9_2, .int .i64 y0.t.1, .int .i64 y0.t.2.1, .bool y0.t.2.2, .int .i64 y0.pd, .int .i64 y0.x.1, .int .i64 y0.x.2.1, .bool y0.x.2.2.1, .int .i64 y0.x.2.2.2, .bool y0.hl, .slice A9_3 y0.seen.length c9_3], .int .i64 1] (by kernel_rfl) (fun w => by kernel_rfl) (fun w18 S => (Kit.khd_Guest y0 _ 1 _ hd0 (by omega) (St.reads S 5 rfl)).mono fun e w18' hp => ?_)
    rw [← ht13] at hp
    obtain ⟨rfl, hb⟩ := hp
    refine ⟨_, _, rfl, (S.call hb), ?_⟩
    clear S hb
    refine Sx.G.pure (.int .i64 ((t13 : Nat) : Int)) (by kernel_rfl) (fun w => by kernel_rfl) ?_
    refine Sx.G.nil ?_
    refine Sx.E.next ?_
    refine Sx.C.seq ?_
    refine Sx.C.seq ?_
    refine Sx.C.region ?_
    refine Sx.G.pure (.int .i64 ((t13 : Nat) : Int)) (by kernel_rfl) (fun w => by kernel_rfl) ?_
    refine Sx.G.pureq (.bool (decide (((t13 : Nat) : Int) < 0))) (.bool false) (by kernel_rfl) (fun w => by kernel_rfl) (congrArg Value.bool (decide_eq_false (by omega))) ?_
    refine Sx.G.nil ?_
    refine Sx.E.next ?_
    refine Sx.C.no (by kernel_rfl) (by kernel_rfl) ?_
    refine Sx.C.skip ?_
    refine Sx.E.next ?_
    refine Sx.C.seq ?_
    refine Sx.C.seq ?_
    refine Sx.C.region ?_
    refine Sx.G.pure (.int .i64 ((t13 : Nat) : Int)) (by kernel_rfl) (fun w => by kernel_rfl) ?_
    refine Sx.G.pure (.int .i64 ((t13 : Nat) : Int)) (by kernel_rfl) (fun w => by kernel_rfl) ?_
    refine Sx.G.pureq (.bool (((t13 : Nat) : Int) != ((t13 : Nat) : Int))) (.bool false) (by kernel_rfl) (fun w => by kernel_rfl) (congrArg Value.bool (bne_self_eq_false _)) ?_
    refine Sx.G.nil ?_
    refine Sx.E.next ?_
    refine Sx.C.no (by kernel_rfl) (by kernel_rfl) ?_
    refine Sx.C.skip ?_
    refine Sx.E.next ?_
    refine Sx.C.seq ?_
    refine Sx.C.region ?_
    refine Sx.G.pure (.bool true) (by kernel_rfl) (fun w => by kernel_rfl) ?_
    refine Sx.G.nil ?_
    refine Sx.E.next ?_
    refine Sx.C.ret ?_
    refine Sx.E.ret1 (.bool true) rfl (by kernel_rfl) (fun w S => ?_)
    exact ⟨rfl, S.below⟩
  · have hb3 := hc3
    replace hc3 := of_decide_eq_true hc3
    refine Sx.C.yes (by kernel_rfl) (by kernel_rfl) ?_
    refine Sx.C.seq ?_
    refine Sx.C.region ?_
    refine Sx.G.pure (.bool true) (by kernel_rfl) (fun w => by kernel_rfl) ?_
    refine Sx.G.nil ?_
    refine Sx.E.next ?_
    refine Sx.C.ret ?_
    refine Sx.E.then_ret ?_
    refine Sx.E.ret1 (.bool true) rfl (by kernel_rfl) (fun w S => ?_)
    exact ⟨rfl, S.below⟩
set_option maxRecDepth 100000 in
theorem lifted (os : Os) (started : os.Started) (H : Type) (enc : TypeId × Value → H) :
    ReturnsInHanded {} Try.checked os 5 .any (Rows.fnExactGuestAtSpec.pre6 enc Try.prog Try.f5 Rows.fnExactGuestAtRow.domain false) (Rows.fnExactGuestAtSpec.post enc Try.prog Try.f5 false true false false) := by
  refine returnsInHanded_of_change (C := Try.checked) Base.own started (by kernel_rfl) Try.func5
    (ChangeSpec.witness6 (enc := enc) (C := Try.checked) false ⟨#[], #[.agg #[.slice none 0 0, .slice none 0 0, .slice none 0 0, .int .i64 0], .int .i64 0], []⟩ 8 (by kernel_rfl) (by kernel_rfl) (by kernel_rfl) (by kernel_rfl)) ?_
  intro W base args ds gs before hval0 hW hcnd _
  have hval : ∀ (j : Nat) t v, Try.f5.params[j]? = some t → args[j]? = some v → Value.okWide Try.prog W .any base t v := hval0
  have hW' := hW
  obtain ⟨p, q, hA0, hV, rfl, hfz, hnd⟩ := hW
  have hA : DataW.TrodAll enc Try.prog W 0 (fun _ => true) true Try.f5.params.toList args.toList ds p := hA0
  have hA1 := hA
  rw [Try.params5] at hA hval
  obtain ⟨v0, vs0, d0, ds0, p0, q0, hargs, rfl, rfl, h0, r0⟩ := trodAll_cons hA
  obtain ⟨v1, vs1, d1, ds1, p1, q1, rfl, rfl, rfl, h1, r1⟩ := trodAll_cons r0
  obtain ⟨rfl, rfl, rfl⟩ := trodAll_nil r1
  obtain rfl : args = #[v0, v1] := by cases args; simp_all
  obtain ⟨rfl, rfl⟩ := trodVars_none hV
  obtain ⟨x0, cs0, rfl, hw0, h0'⟩ := Kit.open_Bare (hval 0 39 v0 rfl rfl) h0
  obtain ⟨x1, rfl, _, _, hw1⟩ := open_int Try.underlying3 (hval 1 3 v1 rfl rfl) h1
  clear hA0 hval0
  rw [List.append_nil] at hW'
  refine (walk W x0 cs0 x1 hw0 h0' hw1).mono fun e W' ⟨he, hg⟩ => ?_
  subst he
  exact ⟨_, rfl, Mem.post_args Kit.laid (by kernel_rfl) rfl rfl rfl hW' hA1 hg (fun _ _ _ => (trodAll_cons_mk (shut_bool Try.underlying4 _) trodAll_mk0)) (ok_one (by kernel_rfl) rfl (okWide_bool_mk Try.underlying4 _))⟩
theorem over : Rows.fnExactGuestAtRow.holds Try.pinned (OpenSpec.ofChange Rows.fnExactGuestAtSpec) :=
  OpenClaim.holds_of_wide 5 Try.f5 rfl rfl rfl rfl rfl rfl rfl ⟨rfl, rfl, rfl, rfl, rfl⟩ rfl rfl rfl rfl rfl (by kernel_rfl) Try.func5 (by kernel_rfl)
    (of_decide_eq_true (by kernel_rfl)) (by unfold Func.isWrapper; first | (rw [if_pos (by decide +kernel)]; kernel_rfl) | (rw [if_neg (by decide +kernel)]; exact ⟨rfl, rfl⟩))
    (fun os started H enc _ => lifted os started H enc)
/-- The given statement. -/
theorem proved : Rows.FnExactGuestAtSaid :=
  over
#print axioms proved
end Go.Proofs.Ytldgadmpclgfhaa.fnExactGuestAt
