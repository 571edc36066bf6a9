/-
  Texts that a law wants, merged: KitB TabA With BroughtImpl TabN GuestX BareR KitO KitA Addrs Rights Ins TabOk InsSame Same Page MemMake MemCopy BroughtSpec MemSet MemPut MemPutS GuestOkX BareX BareM BareS GuestB IrqImpl CtlImpl InsImpl GuestImpl Ro BareImpl WantX RunX. No condition.
-/
import Derived.Test.YtmiokacihcpepaaMb7c4ab18
import Derived.Test.YtmiokacihcpepaaSq
import Derived.Test.YtmiokacihcpepaaSlotOne
import Derived.Test.YtmiokacihcpepaaRows
import Derived.WalkKit
import Derived.ProofKit
import Derived.OpenShut
import Derived.Deep.MidRow
import Derived.Test.YtmiokacihcpepaaGuest
import Derived.Test.YtmiokacihcpepaaSx
import Derived.Test.YtmiokacihcpepaaSxA
import Derived.Test.YtmiokacihcpepaaPart
import Derived.Test.YtmiokacihcpepaaBase
import Derived.Test.YtmiokacihcpepaaRightsMath
import Derived.Test.YtmiokacihcpepaaIn
import Derived.Lib.SlBytesConst
import Derived.Test.YtmiokacihcpepaaInsH
import Derived.Test.YtmiokacihcpepaaSlotOneS
import Derived.BigQuiet
import Derived.Test.YtmiokacihcpepaaSlotMath
import Derived.Test.YtmiokacihcpepaaGridM
import Derived.Laws.CopyOwn
import Derived.Maps.AppendAt
import Derived.Test.YtmiokacihcpepaaSxEq
import Derived.Test.YtmiokacihcpepaaIrq
import Derived.RangeFuncFrom
import Derived.RangeFuncBound
import Derived.RangeFuncCalls
import Derived.RangeFuncLeaves
import Derived.Shelf.Abstract
import Derived.OwnWalkIn
import Derived.TacticsInMore
import Derived.LoopNIn
import Derived.LoopIn
import Derived.Test.YtmiokacihcpepaaCtl2
import Derived.Laws.StructEq
import Derived.Test.YtmiokacihcpepaaSxM
import Derived.Test.YtmiokacihcpepaaExitImpl
import Derived.Test.YtmiokacihcpepaaSxRd
import Derived.Test.YtmiokacihcpepaaGridH
namespace Go.Proofs.Ytmiokacihcpepaa.Kit
set_option maxRecDepth 100000
open Go.ChangeShapes Go.WideShapes Go.ChangeAt Go.RowKit Go.Deep
open Go.Proofs.Ytmiokacihcpepaa.Base Go.Proofs.Ytmiokacihcpepaa.Mem Go.Proofs.Ytmiokacihcpepaa.Data Go.Proofs.Ytmiokacihcpepaa.Stt Go.Proofs.Ytmiokacihcpepaa.Guests Go.Proofs.Ytmiokacihcpepaa.Ctls Go.Proofs.Ytmiokacihcpepaa.Exits
set_option linter.unusedVariables false
set_option linter.unusedSimpArgs false
/-- A reference machine. -/
structure bT where
  mem : List (List Int)
  gs : List gT
  outs : List Int
  pd : Int
/-- How a bT lies in memory. -/
def wB : Rp bT := rVia (rPair ((rLsw (rLsw rInt))) (rPair ((rLsw wG)) (rPair ((rLsw rInt)) (rInt)))) (fun g => (g.mem, g.gs, g.outs, g.pd)) (fun k => ⟨k.1, k.2.1, k.2.2.1, k.2.2.2⟩)
theorem wB_len {g : bT} (h : wB.cap g) : g.mem.length ≤ 1048576 ∧ g.gs.length ≤ 1048576 ∧ g.outs.length ≤ 1048576 := ⟨h.1.1, h.2.1.1, h.2.2.1.1⟩
theorem wB_rd {w : World} {lo hi : Nat} {g : bT} {cs : List Value} (h : wB.rd w lo hi g cs) : ∃ P0 P1 P2, cs = [P0, P1, P2, .int .i64 g.pd] ∧ ((rLsw (rLsw rInt))).rd w lo hi g.mem [P0] ∧ ((rLsw wG)).rd w lo hi g.gs [P1] ∧ ((rLsw rInt)).rd w lo hi g.outs [P2] := by
  obtain ⟨c0, s0, rfl, h0, g0⟩ := h
  obtain ⟨P0, rfl⟩ := lst_rd h0
  obtain ⟨c1, s1, rfl, h1, g1⟩ := g0
  obtain ⟨P1, rfl⟩ := lst_rd h1
  obtain ⟨c2, s2, rfl, h2, g2⟩ := g1
  obtain ⟨P2, rfl⟩ := lst_rd h2
  obtain rfl := show _ = _ from g2
  exact ⟨P0, P1, P2, by simp, h0, h1, h2⟩
theorem wB_own {w : World} {lo hi : Nat} {g : bT} {cs : List Value} {F : List Nat} (h : wB.own w lo hi g cs F) : ∃ P0 P1 P2 F0 F1 F2, cs = [P0, P1, P2, .int .i64 g.pd] ∧ F = F0 ++ (F1 ++ F2) ∧ ((rLsw (rLsw rInt))).own w lo hi g.mem [P0] F0 ∧ ((rLsw wG)).own w lo hi g.gs [P1] F1 ∧ ((rLsw rInt)).own w lo hi g.outs [P2] F2 := by
  obtain ⟨c0, s0, G0, H0, rfl, rfl, h0, g0⟩ := h
  obtain ⟨P0, rfl⟩ := lsw_own h0
  obtain ⟨c1, s1, G1, H1, rfl, rfl, h1, g1⟩ := g0
  obtain ⟨P1, rfl⟩ := lsw_own h1
  obtain ⟨c2, s2, G2, H2, rfl, rfl, h2, g2⟩ := g1
  obtain ⟨P2, rfl⟩ := lsw_own h2
  obtain ⟨rfl, rfl⟩ := g2
  exact ⟨P0, P1, P2, G0, G1, G2, by simp, by simp, h0, h1, h2⟩
theorem wB_rd_mk {w : World} {lo hi : Nat} {g : bT} {P0 P1 P2 : Value} (h0 : ((rLsw (rLsw rInt))).rd w lo hi g.mem [P0]) (h1 : ((rLsw wG)).rd w lo hi g.gs [P1]) (h2 : ((rLsw rInt)).rd w lo hi g.outs [P2]) : wB.rd w lo hi g [P0, P1, P2, .int .i64 g.pd] :=
  ⟨[_], _, rfl, h0, ⟨[_], _, rfl, h1, ⟨[_], _, rfl, h2, rfl⟩⟩⟩
theorem wB_own_mk {w : World} {lo hi : Nat} {g : bT} {P0 P1 P2 : Value} {F0 F1 F2 : List Nat} (h0 : ((rLsw (rLsw rInt))).own w lo hi g.mem [P0] F0) (h1 : ((rLsw wG)).own w lo hi g.gs [P1] F1) (h2 : ((rLsw rInt)).own w lo hi g.outs [P2] F2) : wB.own w lo hi g [P0, P1, P2, .int .i64 g.pd] (F0 ++ (F1 ++ F2)) := by
  have h : wB.own w lo hi g [P0, P1, P2, .int .i64 g.pd] _ := ⟨[_], _, F0, _, rfl, rfl, h0, ⟨[_], _, F1, _, rfl, rfl, h1, ⟨[_], _, F2, _, rfl, rfl, h2, ⟨rfl, rfl⟩⟩⟩⟩
  simpa using h
theorem wB_open {w0 w : World} {lo hi : Nat} {g : bT} {cs : List Value} {F : List Nat} {T : List Res} (S : St w0 w (ow wB lo hi g cs F :: T)) : ∃ P0 P1 P2 F0 F1 F2, cs = [P0, P1, P2, .int .i64 g.pd] ∧ St w0 w (ow (rLsw (rLsw rInt)) lo hi g.mem [P0] F0 :: ow (rLsw wG) lo hi g.gs [P1] F1 :: ow (rLsw rInt) lo hi g.outs [P2] F2 :: T) := by
  obtain ⟨hown, hnd⟩ := S.at_ 0 rfl
  have hl := S.lo 0 _ rfl
  have hh := S.hi 0 _ rfl
  obtain ⟨P0, P1, P2, F0, F1, F2, rfl, rfl, q0, q1, q2⟩ := wB_own hown
  obtain ⟨m0, n0, d0⟩ := List.nodup_append.1 hnd
  obtain ⟨m1, n1, d1⟩ := List.nodup_append.1 n0
  have m2 := n1
  refine ⟨P0, P1, P2, F0, F1, F2, rfl, S.parts [ow (rLsw (rLsw rInt)) lo hi g.mem [P0] F0, ow (rLsw wG) lo hi g.gs [P1] F1, ow (rLsw rInt) lo hi g.outs [P2] F2] ?_ ?_⟩
  · intro s hs
    simp only [List.mem_cons, List.not_mem_nil, or_false] at hs
    rcases hs with rfl | rfl | rfl
    · exact ⟨⟨q0, m0⟩, fun k hk => ⟨by simp [hk.1], hk.2⟩, hl, hh⟩
    · exact ⟨⟨q1, m1⟩, fun k hk => ⟨by simp [hk.1], hk.2⟩, hl, hh⟩
    · exact ⟨⟨q2, m2⟩, fun k hk => ⟨by simp [hk.1], hk.2⟩, hl, hh⟩
  · simp only [List.pairwise_cons, List.mem_cons, List.not_mem_nil, or_false, forall_eq_or_imp, forall_eq, List.Pairwise.nil, and_true, false_implies, implies_true, ow]
    exact ⟨⟨(fun k hk hk' => d0 k hk.1 k (by simp [hk'.1]) rfl), (fun k hk hk' => d0 k hk.1 k (by simp [hk'.1]) rfl)⟩, (fun k hk hk' => d1 k hk.1 k (by simp [hk'.1]) rfl)⟩
theorem wB_shut {w0 w : World} {g : bT} {L : List Res} {P0 P1 P2 : Value} {F0 F1 F2 : List Nat} {l0 k0 l1 k1 l2 k2 : Nat} (S : St w0 w L) (i0 : Nat) (e0 : L[i0]? = some (ow (rLsw (rLsw rInt)) l0 k0 g.mem [P0] F0)) (i1 : Nat) (e1 : L[i1]? = some (ow (rLsw wG) l1 k1 g.gs [P1] F1)) (i2 : Nat) (e2 : L[i2]? = some (ow (rLsw rInt) l2 k2 g.outs [P2] F2)) (n01 : i0 ≠ i1) (n02 : i0 ≠ i2) (n12 : i1 ≠ i2) : wB.own w w0.heap.size w.heap.size g [P0, P1, P2, .int .i64 g.pd] (F0 ++ (F1 ++ F2)) ∧ (F0 ++ (F1 ++ F2)).Nodup := by
  refine ⟨wB_own_mk (S.own i0 e0) (S.own i1 e1) (S.own i2 e2), ?_⟩
  exact (nodup_app (S.nodup i0 e0) (nodup_app (S.nodup i1 e1) (S.nodup i2 e2) (fun k hk => (S.disj i1 i2 e1 e2 n12 k hk))) (fun k hk => (not_app (S.disj i0 i1 e0 e1 n01 k hk) (S.disj i0 i2 e0 e2 n02 k hk))))
theorem wB_open2 {w0 w : World} {lo hi : Nat} {g : bT} {cs : List Value} {F : List Nat} {T : List Res} (S : St w0 w (ow wB lo hi g cs F :: T)) : ∃ P0 P1 P2 F0 F1 F2, cs = [P0, P1, P2, .int .i64 g.pd] ∧ F = F0 ++ (F1 ++ F2) ∧ St w0 w (ow (rLsw (rLsw rInt)) lo hi g.mem [P0] F0 :: ow (rLsw wG) lo hi g.gs [P1] F1 :: ow (rLsw rInt) lo hi g.outs [P2] F2 :: T) := by
  obtain ⟨hown, hnd⟩ := S.at_ 0 rfl
  have hl := S.lo 0 _ rfl
  have hh := S.hi 0 _ rfl
  obtain ⟨P0, P1, P2, F0, F1, F2, rfl, rfl, q0, q1, q2⟩ := wB_own hown
  obtain ⟨m0, n0, d0⟩ := List.nodup_append.1 hnd
  obtain ⟨m1, n1, d1⟩ := List.nodup_append.1 n0
  have m2 := n1
  refine ⟨P0, P1, P2, F0, F1, F2, rfl, rfl, S.parts [ow (rLsw (rLsw rInt)) lo hi g.mem [P0] F0, ow (rLsw wG) lo hi g.gs [P1] F1, ow (rLsw rInt) lo hi g.outs [P2] F2] ?_ ?_⟩
  · intro s hs
    simp only [List.mem_cons, List.not_mem_nil, or_false] at hs
    rcases hs with rfl | rfl | rfl
    · exact ⟨⟨q0, m0⟩, fun k hk => ⟨by simp [hk.1], hk.2⟩, hl, hh⟩
    · exact ⟨⟨q1, m1⟩, fun k hk => ⟨by simp [hk.1], hk.2⟩, hl, hh⟩
    · exact ⟨⟨q2, m2⟩, fun k hk => ⟨by simp [hk.1], hk.2⟩, hl, hh⟩
  · simp only [List.pairwise_cons, List.mem_cons, List.not_mem_nil, or_false, forall_eq_or_imp, forall_eq, List.Pairwise.nil, and_true, false_implies, implies_true, ow]
    exact ⟨⟨(fun k hk hk' => d0 k hk.1 k (by simp [hk'.1]) rfl), (fun k hk hk' => d0 k hk.1 k (by simp [hk'.1]) rfl)⟩, (fun k hk hk' => d1 k hk.1 k (by simp [hk'.1]) rfl)⟩
theorem wB_shut2 {w0 w : World} {lo hi : Nat} {g : bT} {P0 P1 P2 : Value} {F0 F1 F2 : List Nat} {T : List Res} (S : St w0 w (ow (rLsw (rLsw rInt)) lo hi g.mem [P0] F0 :: ow (rLsw wG) lo hi g.gs [P1] F1 :: ow (rLsw rInt) lo hi g.outs [P2] F2 :: T)) : St w0 w (ow wB lo hi g [P0, P1, P2, .int .i64 g.pd] (F0 ++ (F1 ++ F2)) :: T) := by
  have hnd := (wB_shut (g := g) S 0 rfl 1 rfl 2 rfl (by decide) (by decide) (by decide)).2
  refine Sx.St.merge (rs := [ow (rLsw (rLsw rInt)) lo hi g.mem [P0] F0, ow (rLsw wG) lo hi g.gs [P1] F1, ow (rLsw rInt) lo hi g.outs [P2] F2]) S (ow wB lo hi g [P0, P1, P2, .int .i64 g.pd] (F0 ++ (F1 ++ F2))) ⟨wB_own_mk (S.at_ 0 rfl).1 (S.at_ 1 rfl).1 (S.at_ 2 rfl).1, hnd⟩ (fun k hk => ?_) (S.lo 0 _ rfl : w0.heap.size ≤ lo) (S.hi 0 _ rfl : hi ≤ w.heap.size)
  obtain ⟨hk, hb⟩ := hk
  simp only [List.mem_append] at hk
  rcases hk with h | h | h
  · exact ⟨_, List.mem_cons_self, h, hb⟩
  · exact ⟨_, List.mem_cons_of_mem _ (List.mem_cons_self), h, hb⟩
  · exact ⟨_, List.mem_cons_of_mem _ (List.mem_cons_of_mem _ (List.mem_cons_self)), h, hb⟩
theorem copen_Bare {P : Program} {n : Nat} {Q : Exit → Act → World → Prop} {w0 : World} {T : Sx.Tl} {c : Code} {lo hi : Nat} {g : bT} {es : List Value} {Fi : List Nat} {H : Res} {rest : List Res} (kk : ∀ P0 P1 P2 F0 F1 F2, es = [P0, P1, P2, .int .i64 g.pd] → Fi = F0 ++ (F1 ++ F2) → Sx.C P n Q w0 T (H :: ow (rLsw (rLsw rInt)) lo hi g.mem [P0] F0 :: ow (rLsw wG) lo hi g.gs [P1] F1 :: ow (rLsw rInt) lo hi g.outs [P2] F2 :: rest) c) : Sx.C P n Q w0 T (H :: ow wB lo hi g es Fi :: rest) c := fun a w hA S => by
  obtain ⟨P0, P1, P2, F0, F1, F2, e1, e2, S'⟩ := wB_open2 (Sx.St.front S 1 rfl)
  exact kk P0 P1 P2 F0 F1 F2 e1 e2 a w hA (Sx.St.front S' 3 rfl)
theorem cshut_Bare {w0 w : World} {lo hi : Nat} {g : bT} {P0 P1 P2 : Value} {F0 F1 F2 : List Nat} {H : Res} {rest : List Res} (S : St w0 w (H :: ow (rLsw (rLsw rInt)) lo hi g.mem [P0] F0 :: ow (rLsw wG) lo hi g.gs [P1] F1 :: ow (rLsw rInt) lo hi g.outs [P2] F2 :: rest)) : St w0 w (H :: ow wB lo hi g [P0, P1, P2, .int .i64 g.pd] (F0 ++ (F1 ++ F2)) :: rest) :=
  Sx.St.front (wB_shut2 (g := g) (Sx.St.front (Sx.St.front (Sx.St.front S 3 rfl) 3 rfl) 3 rfl)) 1 rfl
theorem tcnt_Bare (g : bT) : wB.tcnt g = cntAll (rLsw rInt) g.mem + cntAll wG g.gs + cntAll rInt g.outs := by simp only [wB, rVia, rPair, rInt, rBool, rLsw]; omega
theorem size_Bare (g : bT) : wB.size g = (g.mem.length + sizeAll (rLsw rInt) g.mem) + (g.gs.length + sizeAll wG g.gs) + (g.outs.length + sizeAll rInt g.outs) := by simp only [wB, rVia, rPair, rInt, rBool, rLsw]; omega
theorem cnt_Bare (g : bT) : wB.cnt g = cntAll (rLsw rInt) g.mem + cntAll wG g.gs + cntAll rInt g.outs + 1 := by simp only [wB, rVia, rPair, rInt, rBool, rLsw]; omega
theorem own_zero_Bare (w : World) (lo hi : Nat) : wB.own w lo hi ({ mem := [], gs := [], outs := [], pd := 0 } : bT) [.slice none 0 0, .slice none 0 0, .slice none 0 0, .int .i64 0] [] := by
  have h := wB_own_mk (w := w) (lo := lo) (hi := hi) (g := ({ mem := [], gs := [], outs := [], pd := 0 } : bT)) (P0 := .slice none 0 0) (F0 := []) (P1 := .slice none 0 0) (F1 := []) (P2 := .slice none 0 0) (F2 := []) (own_nil _ _ _) (own_nil _ _ _) (own_nil _ _ _)
  exact h
theorem open_zero_Bare {w : World} {lo hi : Nat} {es : List Value} {F : List Nat} (h : wB.own w lo hi ({ mem := [], gs := [], outs := [], pd := 0 } : bT) es F) : ∃ A0 A1 A2 c0 c1 c2, es = [.slice A0 0 c0, .slice A1 0 c1, .slice A2 0 c2, .int .i64 ({ mem := [], gs := [], outs := [], pd := 0 } : bT).pd] := by
  obtain ⟨P0, P1, P2, F0, F1, F2, rfl, -, q0, q1, q2⟩ := wB_own h
  obtain ⟨A0, c0, e0, -⟩ := lst_val ((rLsw _).reads q0)
  subst e0
  obtain ⟨A1, c1, e1, -⟩ := lst_val ((rLsw _).reads q1)
  subst e1
  obtain ⟨A2, c2, e2, -⟩ := lst_val ((rLsw _).reads q2)
  subst e2
  exact ⟨A0, A1, A2, c0, c1, c2, rfl⟩

set_option maxRecDepth 100000 in
set_option maxHeartbeats 4000000 in
theorem keq_Bare (x : bT) (cs ds : List Value) (w : World) (hc : wB.cap x) (h : wB.rd w 0 w.heap.size x cs) (j : wB.rd w 0 w.heap.size x ds) : Calls Try.prog 11 #[.agg cs.toArray, .agg ds.toArray] w (fun e w' => e = .returned (.bool true) ∧ Below w.heap.size w w') := by
  obtain ⟨hcap0, hcap1, hcap2, hcap3⟩ := hc
  have hR := h
  obtain ⟨hP0, hP1, hP2, rfl, hf0, hf1, hf2⟩ := wB_rd h
  obtain ⟨hA0, hK0, he0, -⟩ := lst_val hf0
  subst he0
  obtain ⟨hA1, hK1, he1, -⟩ := lst_val hf1
  subst he1
  obtain ⟨hA2, hK2, he2, -⟩ := lst_val hf2
  subst he2
  have jR := j
  obtain ⟨jP0, jP1, jP2, rfl, jf0, jf1, jf2⟩ := wB_rd j
  obtain ⟨jA0, jK0, je0, -⟩ := lst_val jf0
  subst je0
  obtain ⟨jA1, jK1, je1, -⟩ := lst_val jf1
  subst je1
  obtain ⟨jA2, jK2, je2, -⟩ := lst_val jf2
  subst je2
  refine Sx.enter (args := [.agg #[.slice hA0 x.mem.length hK0, .slice hA1 x.gs.length hK1, .slice hA2 x.outs.length hK2, .int .i64 x.pd], .agg #[.slice jA0 x.mem.length jK0, .slice jA1 x.gs.length jK1, .slice jA2 x.outs.length jK2, .int .i64 x.pd]]) Try.func11 rfl Try.ntmps11 rfl ?_
  refine Sx.C.seq (Sx.C.region ?_)
  refine Sx.G.b [.slice hA0 x.mem.length hK0, .slice hA1 x.gs.length hK1, .slice hA2 x.outs.length hK2, .int .i64 x.pd] (fun b1 => ?_)
  refine Sx.G.b [.slice jA0 x.mem.length jK0, .slice jA1 x.gs.length jK1, .slice jA2 x.outs.length jK2, .int .i64 x.pd] (fun b2 => ?_)
  refine Sx.G.p (.bool false) ?_
  refine Sx.G.nil (Sx.E.next (Sx.C.seq (Sx.C.seq (Sx.C.region ?_))))
  refine Sx.G.p (.pointer (some ⟨b1, 0, none⟩)) ?_
  refine Sx.G.g (.slice hA0 x.mem.length hK0) .m1 .m0 ?_
  refine Sx.G.p (.pointer (some ⟨b2, 0, none⟩)) ?_
  refine Sx.G.g (.slice jA0 x.mem.length jK0) .m0 .m0 ?_
  refine Sx.G.cp 28 #[.slice hA0 x.mem.length hK0, .slice jA0 x.mem.length jK0] (.bool true) (fun w S => by exact Kit.keq_IntSS x.mem hA0 hK0 jA0 jK0 _ hcap0 (St.old (r := (rLsw (rLsw rInt))) S hf0) (St.old (r := (rLsw (rLsw rInt))) S jf0)) ?_
  refine Sx.G.p (.bool false) ?_
  refine Sx.G.nil (Sx.E.next ?_)
  refine Sx.C.nn ?_
  refine Sx.C.skip (Sx.E.next (Sx.C.seq (Sx.C.seq (Sx.C.region ?_))))
  refine Sx.G.p (.pointer (some ⟨b1, 1, none⟩)) ?_
  refine Sx.G.g (.slice hA1 x.gs.length hK1) .m1 .m1 ?_
  refine Sx.G.p (.pointer (some ⟨b2, 1, none⟩)) ?_
  refine Sx.G.g (.slice jA1 x.gs.length jK1) .m0 .m1 ?_
  refine Sx.G.cp 29 #[.slice hA1 x.gs.length hK1, .slice jA1 x.gs.length jK1] (.bool true) (fun w S => by exact Kit.keq_GuestS x.gs hA1 hK1 jA1 jK1 _ hcap1 (St.old (r := (rLsw wG)) S hf1) (St.old (r := (rLsw wG)) S jf1)) ?_
  refine Sx.G.p (.bool false) ?_
  refine Sx.G.nil (Sx.E.next ?_)
  refine Sx.C.nn ?_
  refine Sx.C.skip (Sx.E.next (Sx.C.seq (Sx.C.seq (Sx.C.region ?_))))
  refine Sx.G.p (.pointer (some ⟨b1, 2, none⟩)) ?_
  refine Sx.G.g (.slice hA2 x.outs.length hK2) .m1 .m2 ?_
  refine Sx.G.p (.pointer (some ⟨b2, 2, none⟩)) ?_
  refine Sx.G.g (.slice jA2 x.outs.length jK2) .m0 .m2 ?_
  refine Sx.G.cp 10 #[.slice hA2 x.outs.length hK2, .slice jA2 x.outs.length jK2] (.bool true) (fun w S => by exact Kit.keq_IntS x.outs hA2 hK2 jA2 jK2 _ hcap2 (St.old (r := (rLsw rInt)) S hf2) (St.old (r := (rLsw rInt)) S jf2)) ?_
  refine Sx.G.p (.bool false) ?_
  refine Sx.G.nil (Sx.E.next ?_)
  refine Sx.C.nn ?_
  refine Sx.C.skip (Sx.E.next (Sx.C.seq (Sx.C.seq (Sx.C.region ?_))))
  refine Sx.G.p (.pointer (some ⟨b1, 3, none⟩)) ?_
  refine Sx.G.g (.int .i64 x.pd) .m1 .m3 ?_
  refine Sx.G.p (.pointer (some ⟨b2, 3, none⟩)) ?_
  refine Sx.G.g (.int .i64 x.pd) .m0 .m3 ?_
  refine Sx.G.q (.bool (x.pd != x.pd)) (.bool false) (congrArg Value.bool (bne_self_eq_false _)) ?_
  refine Sx.G.nil (Sx.E.next ?_)
  refine Sx.C.nn ?_
  refine Sx.C.skip (Sx.E.next (Sx.C.seq (Sx.C.region ?_)))
  refine Sx.G.p (.bool true) ?_
  refine Sx.G.nil (Sx.E.next (Sx.C.ret ?_))
  refine Sx.E.ret1 (.bool true) rfl (by kernel_rfl) (fun w S => ?_)
  exact ⟨rfl, S.below⟩

set_option maxRecDepth 100000 in
set_option maxHeartbeats 4000000 in
theorem ksz_Bare (x : bT) (cs : List Value) (left : Int) (w : World) (hw : wB.wf x) (h0 : 0 ≤ left) (h1 : left ≤ 1048576) (h : wB.rd w 0 w.heap.size x cs) : Calls Try.prog 6 #[.agg cs.toArray, .int .i64 left] w (fun e w' => ∃ l, e = .returned (.int .i64 l) ∧ Kit.Sz left (wB.size x) l ∧ Below w.heap.size w w') := by
  obtain ⟨hwf0, hwf1, hwf2, hwf3⟩ := hw
  have hR := h
  obtain ⟨hP0, hP1, hP2, rfl, hf0, hf1, hf2⟩ := wB_rd h
  obtain ⟨hA0, hK0, he0, -⟩ := lst_val hf0
  subst he0
  obtain ⟨hA1, hK1, he1, -⟩ := lst_val hf1
  subst he1
  obtain ⟨hA2, hK2, he2, -⟩ := lst_val hf2
  subst he2
  refine Sx.enter (args := [.agg #[.slice hA0 x.mem.length hK0, .slice hA1 x.gs.length hK1, .slice hA2 x.outs.length hK2, .int .i64 x.pd], .int .i64 left]) Try.func6 rfl Try.ntmps6 rfl ?_
  refine Sx.C.seq (Sx.C.region ?_)
  refine Sx.G.b [.slice hA0 x.mem.length hK0, .slice hA1 x.gs.length hK1, .slice hA2 x.outs.length hK2, .int .i64 x.pd] (fun b1 => ?_)
  refine Sx.G.p (.int .i64 0) ?_
  refine Sx.G.nil (Sx.E.next (Sx.C.seq (Sx.C.region ?_)))
  refine Sx.G.p (.pointer (some ⟨b1, 0, none⟩)) ?_
  refine Sx.G.g (.slice hA0 x.mem.length hK0) .m0 .m0 ?_
  refine Sx.G.p (.int .i64 left) ?_
  refine Sx.G.c 20 #[.slice hA0 x.mem.length hK0, .int .i64 left] (fun w2 S => (Kit.ksz_IntSS x.mem hA0 hK0 left _ hwf0 (by omega) (by omega) (St.old (r := (rLsw (rLsw rInt))) S hf0)).mono fun e w2' hp => ?_)
  obtain ⟨l2, rfl, hz2, hb⟩ := hp
  replace hz2 : Kit.Sz left (x.mem.length + sizeAll (rLsw rInt) x.mem) l2 := hz2
  unfold Kit.Sz at hz2
  refine ⟨_, _, rfl, (S.call hb), ?_⟩
  clear S hb
  refine Sx.G.p (.int .i64 l2) ?_
  refine Sx.G.nil (Sx.E.next (Sx.C.seq (Sx.C.seq (Sx.C.region ?_))))
  refine Sx.G.p (.int .i64 l2) ?_
  refine Sx.G.p (.bool (decide (l2 < 0))) ?_
  refine Sx.G.nil (Sx.E.next ?_)
  cases hc3 : (decide (l2 < 0))
  · have hb3 := hc3
    replace hc3 := of_decide_eq_false hc3
    refine Sx.C.nn ?_
    refine Sx.C.skip (Sx.E.next (Sx.C.seq (Sx.C.region ?_)))
    refine Sx.G.p (.pointer (some ⟨b1, 1, none⟩)) ?_
    refine Sx.G.g (.slice hA1 x.gs.length hK1) .m0 .m1 ?_
    refine Sx.G.p (.int .i64 l2) ?_
    refine Sx.G.c 21 #[.slice hA1 x.gs.length hK1, .int .i64 l2] (fun w4 S => (Kit.ksz_GuestS x.gs hA1 hK1 l2 _ hwf1 (by omega) (by omega) (St.old (r := (rLsw wG)) S hf1)).mono fun e w4' hp => ?_)
    obtain ⟨l4, rfl, hz4, hb⟩ := hp
    replace hz4 : Kit.Sz l2 (x.gs.length + sizeAll wG x.gs) l4 := hz4
    unfold Kit.Sz at hz4
    refine ⟨_, _, rfl, (S.call hb), ?_⟩
    clear S hb
    refine Sx.G.p (.int .i64 l4) ?_
    refine Sx.G.nil (Sx.E.next (Sx.C.seq (Sx.C.seq (Sx.C.region ?_))))
    refine Sx.G.p (.int .i64 l4) ?_
    refine Sx.G.p (.bool (decide (l4 < 0))) ?_
    refine Sx.G.nil (Sx.E.next ?_)
    cases hc5 : (decide (l4 < 0))
    · have hb5 := hc5
      replace hc5 := of_decide_eq_false hc5
      refine Sx.C.nn ?_
      refine Sx.C.skip (Sx.E.next (Sx.C.seq (Sx.C.region ?_)))
      refine Sx.G.p (.pointer (some ⟨b1, 2, none⟩)) ?_
      refine Sx.G.g (.slice hA2 x.outs.length hK2) .m0 .m2 ?_
      refine Sx.G.p (.int .i64 l4) ?_
      refine Sx.G.c 22 #[.slice hA2 x.outs.length hK2, .int .i64 l4] (fun w6 S => (Kit.ksz_IntS x.outs hA2 hK2 l4 _ hwf2 (by omega) (by omega) (St.old (r := (rLsw rInt)) S hf2)).mono fun e w6' hp => ?_)
      obtain ⟨l6, rfl, hz6, hb⟩ := hp
      replace hz6 : Kit.Sz l4 (x.outs.length + sizeAll rInt x.outs) l6 := hz6
      unfold Kit.Sz at hz6
      refine ⟨_, _, rfl, (S.call hb), ?_⟩
      clear S hb
      refine Sx.G.p (.int .i64 l6) ?_
      refine Sx.G.nil (Sx.E.next (Sx.C.seq (Sx.C.seq (Sx.C.region ?_))))
      refine Sx.G.p (.int .i64 l6) ?_
      refine Sx.G.p (.bool (decide (l6 < 0))) ?_
      refine Sx.G.nil (Sx.E.next ?_)
      cases hc7 : (decide (l6 < 0))
      · have hb7 := hc7
        replace hc7 := of_decide_eq_false hc7
        refine Sx.C.nn ?_
        refine Sx.C.skip (Sx.E.next (Sx.C.seq (Sx.C.region ?_)))
        refine Sx.G.p (.int .i64 l6) ?_
        refine Sx.G.p (.int .i64 l6) ?_
        refine Sx.G.nil (Sx.E.next (Sx.C.ret ?_))
        refine Sx.E.ret1 (.int .i64 l6) rfl (by kernel_rfl) (fun w S => ?_)
        exact ⟨_, rfl, by unfold Kit.Sz; rw [size_Bare]; omega, S.below⟩
      · have hb7 := hc7
        replace hc7 := of_decide_eq_true hc7
        refine Sx.C.yy ?_
        refine Sx.C.seq (Sx.C.region ?_)
        refine Sx.G.p (.int .i64 (-1)) ?_
        refine Sx.G.nil (Sx.E.next (Sx.C.ret (Sx.E.then_ret ?_)))
        refine Sx.E.ret1 (.int .i64 (-1)) rfl (by kernel_rfl) (fun w S => ?_)
        exact ⟨_, rfl, by unfold Kit.Sz; rw [size_Bare]; omega, S.below⟩
    · have hb5 := hc5
      replace hc5 := of_decide_eq_true hc5
      refine Sx.C.yy ?_
      refine Sx.C.seq (Sx.C.region ?_)
      refine Sx.G.p (.int .i64 (-1)) ?_
      refine Sx.G.nil (Sx.E.next (Sx.C.ret (Sx.E.then_ret ?_)))
      refine Sx.E.ret1 (.int .i64 (-1)) rfl (by kernel_rfl) (fun w S => ?_)
      exact ⟨_, rfl, by unfold Kit.Sz; rw [size_Bare]; omega, S.below⟩
  · have hb3 := hc3
    replace hc3 := of_decide_eq_true hc3
    refine Sx.C.yy ?_
    refine Sx.C.seq (Sx.C.region ?_)
    refine Sx.G.p (.int .i64 (-1)) ?_
    refine Sx.G.nil (Sx.E.next (Sx.C.ret (Sx.E.then_ret ?_)))
    refine Sx.E.ret1 (.int .i64 (-1)) rfl (by kernel_rfl) (fun w S => ?_)
    exact ⟨_, rfl, by unfold Kit.Sz; rw [size_Bare]; omega, S.below⟩

set_option maxRecDepth 100000 in
set_option maxHeartbeats 4000000 in
theorem kto_Bare (x : bT) (cs : List Value) (w : World) (hc : wB.cap x) (h : wB.rd w 0 w.heap.size x cs) : Calls Try.prog 8 #[.agg cs.toArray] w (Gives wB w x) := by
  obtain ⟨hcap0, hcap1, hcap2, hcap3⟩ := hc
  have hR := h
  obtain ⟨hP0, hP1, hP2, rfl, hf0, hf1, hf2⟩ := wB_rd h
  obtain ⟨hA0, hK0, he0, -⟩ := lst_val hf0
  subst he0
  obtain ⟨hA1, hK1, he1, -⟩ := lst_val hf1
  subst he1
  obtain ⟨hA2, hK2, he2, -⟩ := lst_val hf2
  subst he2
  refine Sx.enter (args := [.agg #[.slice hA0 x.mem.length hK0, .slice hA1 x.gs.length hK1, .slice hA2 x.outs.length hK2, .int .i64 x.pd]]) Try.func8 rfl Try.ntmps8 rfl ?_
  refine Sx.C.seq (Sx.C.region ?_)
  refine Sx.G.b [.slice hA0 x.mem.length hK0, .slice hA1 x.gs.length hK1, .slice hA2 x.outs.length hK2, .int .i64 x.pd] (fun b1 => ?_)
  refine Sx.G.ar [.slice none 0 0, .slice none 0 0, .slice none 0 0, .int .i64 0] (fun b2 => ?_)
  refine Sx.G.nil (Sx.E.next (Sx.C.seq (Sx.C.region ?_)))
  refine Sx.G.ar [.slice none 0 0, .slice none 0 0, .slice none 0 0, .int .i64 0] (fun b3 => ?_)
  refine Sx.G.nil (Sx.E.next (Sx.C.seq (Sx.C.region ?_)))
  refine Sx.G.p (.pointer (some ⟨b1, 0, none⟩)) ?_
  refine Sx.G.g (.slice hA0 x.mem.length hK0) .m2 .m0 ?_
  refine Sx.G.c 24 #[.slice hA0 x.mem.length hK0] (fun w4 S => (Kit.kto_IntSS x.mem hA0 hK0 _ hcap0 (St.old (r := (rLsw (rLsw rInt))) S hf0)).mono fun e w4' hp => ?_)
  obtain ⟨cs, F, rfl, ho, hF, hb⟩ := hp
  obtain ⟨u4, rfl⟩ := lsw_own ho
  obtain ⟨A4, c4, e4, -⟩ := lst_val ((St.got S hb ho hF).reads 0 rfl)
  subst e4
  generalize F = F4 at ho hF
  refine ⟨_, _, rfl, (St.got S hb ho hF), ?_⟩
  clear S hb ho hF
  refine Sx.G.p (.pointer (some ⟨b3, 0, none⟩)) ?_
  refine Sx.G.s (.slice A4 x.mem.length c4) .a1 .a0 ?_
  refine Sx.G.nil (Sx.E.next (Sx.C.seq (Sx.C.region ?_)))
  refine Sx.G.p (.pointer (some ⟨b1, 1, none⟩)) ?_
  refine Sx.G.g (.slice hA1 x.gs.length hK1) .m3 .m1 ?_
  refine Sx.G.c 25 #[.slice hA1 x.gs.length hK1] (fun w5 S => (Kit.kto_GuestS x.gs hA1 hK1 _ hcap1 (St.old (r := (rLsw wG)) S hf1)).mono fun e w5' hp => ?_)
  obtain ⟨cs, F, rfl, ho, hF, hb⟩ := hp
  obtain ⟨u5, rfl⟩ := lsw_own ho
  obtain ⟨A5, c5, e5, -⟩ := lst_val ((St.got S hb ho hF).reads 0 rfl)
  subst e5
  generalize F = F5 at ho hF
  refine ⟨_, _, rfl, (St.got S hb ho hF), ?_⟩
  clear S hb ho hF
  refine Sx.G.p (.pointer (some ⟨b3, 1, none⟩)) ?_
  refine Sx.G.s (.slice A5 x.gs.length c5) .a2 .a1 ?_
  refine Sx.G.nil (Sx.E.next (Sx.C.seq (Sx.C.region ?_)))
  refine Sx.G.p (.pointer (some ⟨b1, 2, none⟩)) ?_
  refine Sx.G.g (.slice hA2 x.outs.length hK2) .m4 .m2 ?_
  refine Sx.G.c 26 #[.slice hA2 x.outs.length hK2] (fun w6 S => (Kit.kto_IntS x.outs hA2 hK2 _ hcap2 (St.old (r := (rLsw rInt)) S hf2)).mono fun e w6' hp => ?_)
  obtain ⟨cs, F, rfl, ho, hF, hb⟩ := hp
  obtain ⟨u6, rfl⟩ := lsw_own ho
  obtain ⟨A6, c6, e6, -⟩ := lst_val ((St.got S hb ho hF).reads 0 rfl)
  subst e6
  generalize F = F6 at ho hF
  refine ⟨_, _, rfl, (St.got S hb ho hF), ?_⟩
  clear S hb ho hF
  refine Sx.G.p (.pointer (some ⟨b3, 2, none⟩)) ?_
  refine Sx.G.s (.slice A6 x.outs.length c6) .a3 .a2 ?_
  refine Sx.G.nil (Sx.E.next (Sx.C.seq (Sx.C.region ?_)))
  refine Sx.G.p (.pointer (some ⟨b1, 3, none⟩)) ?_
  refine Sx.G.g (.int .i64 x.pd) .m5 .m3 ?_
  refine Sx.G.p (.pointer (some ⟨b3, 3, none⟩)) ?_
  refine Sx.G.s (.int .i64 x.pd) .a3 .a3 ?_
  refine Sx.G.nil (Sx.E.next (Sx.C.seq (Sx.C.region ?_)))
  refine Sx.G.lw .m3 ?_
  refine Sx.G.sw [.slice A4 x.mem.length c4, .slice A5 x.gs.length c5, .slice A6 x.outs.length c6, .int .i64 x.pd] .a4 ?_
  refine Sx.G.nil (Sx.E.next (Sx.C.ret ?_))
  refine Sx.E.retc b2 4 [.slice A4 x.mem.length c4, .slice A5 x.gs.length c5, .slice A6 x.outs.length c6, .int .i64 x.pd] rfl (by kernel_rfl) rfl (by kernel_rfl) (by kernel_rfl) (fun w S => ?_)
  obtain ⟨ho, hF⟩ := wB_shut (g := x) S 2 rfl 1 rfl 0 rfl (by decide) (by decide) (by decide)
  exact ⟨_, _, rfl, ho, hF, S.below⟩

set_option maxRecDepth 100000 in
set_option maxHeartbeats 4000000 in
theorem kmk0_Bare {w0 w : World} {lo hi : Nat} {R : List Res} (x : bT) (cs : List Value) (k : Nat) (F : List Nat) (hc : wB.cap x) (hk : k + wB.tcnt x ≤ 1000000000000) (S : St w0 w (ow wB lo hi x cs F :: R)) : Calls Try.prog 12 #[.agg cs.toArray, .int .i64 ((k : Nat) : Int)] w fun e w' => e = .returned (.int .i64 ((k + wB.tcnt x : Nat) : Int)) ∧ St w0 w' (ow wB lo hi (wB.top k x) cs F :: R) := by
  rw [tcnt_Bare] at hk
  obtain ⟨hcap0, hcap1, hcap2, hcap3⟩ := hc
  obtain ⟨P0, P1, P2, F0, F1, F2, rfl, rfl, S1⟩ := wB_open2 S
  obtain ⟨A0, c0, e0, -⟩ := lst_val (S1.reads 0 rfl)
  subst e0
  obtain ⟨A1, c1, e1, -⟩ := lst_val (S1.reads 1 rfl)
  subst e1
  obtain ⟨A2, c2, e2, -⟩ := lst_val (S1.reads 2 rfl)
  subst e2
  refine Sx.enterS (args := [.agg #[.slice A0 x.mem.length c0, .slice A1 x.gs.length c1, .slice A2 x.outs.length c2, .int .i64 x.pd], .int .i64 ((k : Nat) : Int)]) S1 Try.func12 rfl Try.ntmps12 rfl ?_
  refine Sx.C.seq (Sx.C.region ?_)
  refine Sx.G.b [.slice A0 x.mem.length c0, .slice A1 x.gs.length c1, .slice A2 x.outs.length c2, .int .i64 x.pd] (fun b1 => ?_)
  refine Sx.G.p (.int .i64 0) ?_
  refine Sx.G.nil (Sx.E.next (Sx.C.seq (Sx.C.region ?_)))
  refine Sx.G.p (.pointer (some ⟨b1, 0, none⟩)) ?_
  refine Sx.G.g (.slice A0 x.mem.length c0) .m0 .m0 ?_
  refine Sx.G.p (.int .i64 ((k : Nat) : Int)) ?_
  obtain ⟨q2, hq2⟩ : ∃ q', q' = k + cntAll (rLsw rInt) x.mem := ⟨_, rfl⟩
  refine Sx.G.c 30 #[.slice A0 x.mem.length c0, .int .i64 ((k : Nat) : Int)] (fun w2 S => (Kit.kmk_IntSS x.mem A0 c0 k _ hcap0 (by omega) S 1 rfl).mono fun e w2' hp => ?_)
  rw [← hq2] at hp
  obtain ⟨rfl, S'⟩ := hp
  refine ⟨_, _, rfl, S', ?_⟩
  clear S S'
  refine Sx.G.p (.int .i64 ((q2 : Nat) : Int)) ?_
  refine Sx.G.nil (Sx.E.next (Sx.C.seq (Sx.C.region ?_)))
  refine Sx.G.p (.pointer (some ⟨b1, 1, none⟩)) ?_
  refine Sx.G.g (.slice A1 x.gs.length c1) .m0 .m1 ?_
  refine Sx.G.p (.int .i64 ((q2 : Nat) : Int)) ?_
  obtain ⟨q3, hq3⟩ : ∃ q', q' = q2 + cntAll wG x.gs := ⟨_, rfl⟩
  refine Sx.G.c 31 #[.slice A1 x.gs.length c1, .int .i64 ((q2 : Nat) : Int)] (fun w3 S => (Kit.kmk_GuestS x.gs A1 c1 q2 _ hcap1 (by omega) S 2 rfl).mono fun e w3' hp => ?_)
  rw [← hq3] at hp
  obtain ⟨rfl, S'⟩ := hp
  refine ⟨_, _, rfl, S', ?_⟩
  clear S S'
  refine Sx.G.p (.int .i64 ((q3 : Nat) : Int)) ?_
  refine Sx.G.nil (Sx.E.next (Sx.C.seq (Sx.C.region ?_)))
  refine Sx.G.p (.pointer (some ⟨b1, 2, none⟩)) ?_
  refine Sx.G.g (.slice A2 x.outs.length c2) .m0 .m2 ?_
  refine Sx.G.p (.int .i64 ((q3 : Nat) : Int)) ?_
  obtain ⟨q4, hq4⟩ : ∃ q', q' = q3 + cntAll rInt x.outs := ⟨_, rfl⟩
  refine Sx.G.c 13 #[.slice A2 x.outs.length c2, .int .i64 ((q3 : Nat) : Int)] (fun w4 S => (Kit.kmk_IntS x.outs A2 c2 q3 _ hcap2 (by omega) S 3 rfl).mono fun e w4' hp => ?_)
  rw [← hq4] at hp
  obtain ⟨rfl, S'⟩ := hp
  refine ⟨_, _, rfl, S', ?_⟩
  clear S S'
  refine Sx.G.p (.int .i64 ((q4 : Nat) : Int)) ?_
  refine Sx.G.nil (Sx.E.next (Sx.C.seq (Sx.C.region ?_)))
  refine Sx.G.p (.int .i64 ((q4 : Nat) : Int)) ?_
  refine Sx.G.p (.int .i64 ((q4 : Nat) : Int)) ?_
  refine Sx.G.nil (Sx.E.next (Sx.C.ret ?_))
  refine Sx.E.ret1 (.int .i64 ((q4 : Nat) : Int)) rfl (by kernel_rfl) (fun w S => ?_)
  replace S := Sx.St.tail S
  subst hq4
  subst hq3
  subst hq2
  refine ⟨by rw [tcnt_Bare]; simp only [Nat.add_assoc], wB_shut2 (g := wB.top k x) ?_⟩
  simp only [wB, rVia, rPair, rInt, rBool, rLsw, Nat.add_zero, Nat.zero_add]
  first | exact S | (simp only [Nat.add_assoc] at S ⊢; exact S)
theorem kmk_Bare {w0 w : World} {lo hi : Nat} {L : List Res} (x : bT) (cs : List Value) (k : Nat) (F : List Nat) (hc : wB.cap x) (hk : k + wB.tcnt x ≤ 1000000000000) (S : St w0 w L) (i : Nat) (hi' : L[i]? = some (ow wB lo hi x cs F)) : Calls Try.prog 12 #[.agg cs.toArray, .int .i64 ((k : Nat) : Int)] w fun e w' => e = .returned (.int .i64 ((k + wB.tcnt x : Nat) : Int)) ∧ St w0 w' (L.set i (ow wB lo hi (wB.top k x) cs F)) :=
  anywhere (fun R S => kmk0_Bare x cs k F hc hk S) S i hi'

end Go.Proofs.Ytmiokacihcpepaa.Kit
namespace Go.Proofs.Ytmiokacihcpepaa.Slots
set_option maxRecDepth 100000
open Go.ChangeShapes Go.WideShapes Go.ChangeAt Go.RowKit
open Go.Proofs.Ytmiokacihcpepaa.Base Go.Proofs.Ytmiokacihcpepaa.Mem Go.Proofs.Ytmiokacihcpepaa.Ints
set_option linter.unusedVariables false

theorem atS_no {l : List Sl} {page : Int} (h : ¬ (0 ≤ page ∧ page < l.length)) : atS l page = (-1, 0) := by
  unfold atS
  split
  · rw [List.getD_eq_getElem?_getD, List.getElem?_eq_none (by omega)]; rfl
  · rfl
theorem atS_yes {l : List Sl} {k : Nat} (h : k < l.length) : atS l k = l[k] := by
  unfold atS
  rw [if_pos (by omega), Int.toNat_natCast, List.getD_eq_getElem?_getD, List.getElem?_eq_getElem h]; rfl

/-- A block of two cells behind a call that left it alone. -/
theorem two_kept {w w1 : World} {u v : Value} {T : TypeId} (hb : Below (w.alloc (.cells #[u, v] T)).heap.size (w.alloc (.cells #[u, v] T)) w1) :
    w1.cell? ⟨w.heap.size, 0, none⟩ = some u ∧ w1.cell? ⟨w.heap.size, 1, none⟩ = some v ∧ w1.frozen? ⟨w.heap.size, 0, none⟩ = false ∧ w1.frozen? ⟨w.heap.size, 1, none⟩ = false ∧ Below w.heap.size w w1 := by
  obtain ⟨k0, k1, hW, hsz⟩ := boxed w u v T
  refine ⟨(hb.cell (p := ⟨w.heap.size, 0, none⟩) hsz).trans k0, (hb.cell (p := ⟨w.heap.size, 1, none⟩) hsz).trans k1, ?_, ?_, btr hW hb⟩
  · exact (hb.frozen (p := ⟨w.heap.size, 0, none⟩) hsz).trans (frozen_of_row _ _ _ _ _ (heap_alloc_new w _))
  · exact (hb.frozen (p := ⟨w.heap.size, 1, none⟩) hsz).trans (frozen_of_row _ _ _ _ _ (heap_alloc_new w _))

def AtPost (w : World) (s : Sl) (e : Ending) (w' : World) : Prop := e = .returned (.agg #[.int .i64 s.1, .int .i64 s.2]) ∧ Below w.heap.size w w'

theorem mapS_snoc (l : List Sl) (x y : Int) : mapS (l ++ [(x, y)]) = mapS l + if x = -1 then 0 else 1 := by
  unfold mapS
  rw [List.countP_append]
  by_cases h : x = -1 <;> simp [h]
theorem mapS_le (l : List Sl) : mapS l ≤ l.length := List.countP_le_length

end Go.Proofs.Ytmiokacihcpepaa.Slots
namespace Go.Proofs.Ytmiokacihcpepaa.Slots
set_option maxRecDepth 100000
open Go.ChangeShapes Go.WideShapes Go.ChangeAt Go.RowKit
open Go.Proofs.Ytmiokacihcpepaa.Base Go.Proofs.Ytmiokacihcpepaa.Mem Go.Proofs.Ytmiokacihcpepaa.Ints
set_option linter.unusedVariables false

theorem scells_set : ∀ (l : List Sl) (k : Nat) (_ : k < l.length) (x y : Int), scells (l.set k (x, y)) = ((scells l).set (k * 2) (.int .i64 x)).set (k * 2 + 1) (.int .i64 y)
  | p :: l, 0, _, x, y => by simp [scells]
  | p :: l, k + 1, h, x, y => by
    have := scells_set l k (by simpa using h) x y
    rw [show (k + 1) * 2 = k * 2 + 1 + 1 by omega]
    simp [scells, this]
theorem withS_no {l : List Sl} {page : Int} {s : Sl} (h : ¬ (0 ≤ page ∧ page < l.length)) : withS l page s = l := by
  unfold withS
  split
  · exact List.set_eq_of_length_le (by omega)
  · rfl
theorem withS_len (l : List Sl) (page : Int) (s : Sl) : (withS l page s).length = l.length := by
  unfold withS
  split <;> simp
theorem made2 (w : World) (o : Obj) (e : TypeId) : ((w.alloc o).alloc (.cells #[] e)).ownsRow w.heap.size e 2 (.slice (some ⟨w.heap.size + 1, 0, none⟩) 0 0) 0 [] := by
  have := World.ownsRow_made (base := w.heap.size) (e := e) (size := 2) (w.alloc o) #[] 0 (by simp) (Nat.zero_le _) rfl
  simpa using this
/-- The source's cells behind two new blocks. -/
theorem src_cells {w : World} {lo : Nat} {ad : Addr} {cs : List Value} (h : Lies w lo w.heap.size (some ad) cs) (o o' : Obj) : ∀ j u, cs[j]? = some u → ((w.alloc o).alloc o').cell? (ad.add j) = some u := by
  intro j u hu
  obtain ⟨b, off, e, _, hb, hc⟩ := h j u hu
  cases e
  rw [Addr.add_lit, World.cell?_alloc_lt _ _ _ (by simp; omega), World.cell?_alloc_lt _ _ _ (by simpa using hb)]
  exact hc
/-- What append left of a new slice. -/
theorem copied {w w1 : World} {o : Obj} {e : TypeId} {n : Nat} {v : Value} {cs : List Value} (hown : w1.ownsRow w.heap.size e 2 v (0 + n) ([] ++ cs))
    (hgrow : ((w.alloc o).alloc (.cells #[] e)).grownBy w1 (Value.slice (some ⟨w.heap.size + 1, 0, none⟩) 0 0).ownBlock) (hnil : v = .slice none 0 0 ↔ Value.slice (some ⟨w.heap.size + 1, 0, none⟩) 0 0 = .slice none 0 0 ∧ n = 0) :
    ∃ g cap, v = .slice (some ⟨g, 0, none⟩) n cap ∧ n ≤ cap ∧ w1.ownsRow w.heap.size e 2 (.slice (some ⟨g, 0, none⟩) n cap) n cs ∧ Below (w.alloc o).heap.size (w.alloc o) w1 := by
  rw [Nat.zero_add, List.nil_append] at hown
  rcases hown.2 with ⟨h, _⟩ | ⟨g, cap, cur, rfl, _, _, hnc, _⟩
  · have := (hnil.1 h).1
    simp at this
  · refine ⟨g, cap, rfl, hnc, hown, ?_⟩
    exact ((Below.refl _ _).alloc (Nat.le_refl _) _).grown hgrow (by simp) (fun k hk => by simp [Value.ownBlock] at hk; simp; omega)
theorem boxed_below {w w1 : World} {u v : Value} {T : TypeId} (hb : Below (w.alloc (.cells #[u, v] T)).heap.size (w.alloc (.cells #[u, v] T)) w1) :
    w1.cell? ⟨w.heap.size, 0, none⟩ = some u ∧ w1.cell? ⟨w.heap.size, 1, none⟩ = some v := by
  obtain ⟨a, b, _⟩ := two_kept hb
  exact ⟨a, b⟩
theorem with_yes {w : World} {base g n cap : Nat} {e : TypeId} {l : List Sl} {k : Nat} {x y : Int} (hl : l.length = n) (hk : k < n) (h : w.ownsRow base e 2 (.slice (some ⟨g, 0, none⟩) n cap) n (scells l)) :
    Owned ((w.setCell ⟨g, k * 2, none⟩ (.int .i64 x)).setCell ⟨g, k * 2 + 1, none⟩ (.int .i64 y)) base ((w.setCell ⟨g, k * 2, none⟩ (.int .i64 x)).setCell ⟨g, k * 2 + 1, none⟩ (.int .i64 y)).heap.size (some ⟨g, 0, none⟩) (scells (withS l (k : Int) (x, y))) := by
  have h2 := Owned.of_row (row_set2 h k (.int .i64 x) (.int .i64 y))
  have e1 : scells (withS l (k : Int) (x, y)) = ((scells l).set (k * 2) (.int .i64 x)).set (k * 2 + 1) (.int .i64 y) := by
    unfold withS
    rw [if_pos (by omega), Int.toNat_natCast]
    exact scells_set l k (by omega) x y
  rw [e1]
  exact h2
theorem with_below {w w1 : World} {g n cap : Nat} {e : TypeId} {o : Obj} {cs : List Value} (hb : Below (w.alloc o).heap.size (w.alloc o) w1) (h : w1.ownsRow w.heap.size e 2 (.slice (some ⟨g, 0, none⟩) n cap) n cs) (k : Nat) (x y : Int) :
    Below w.heap.size w ((w1.setCell ⟨g, k * 2, none⟩ (.int .i64 x)).setCell ⟨g, k * 2 + 1, none⟩ (.int .i64 y)) := by
  have hg := (h.lt g rfl).1
  exact ((btr ((Below.refl _ _).alloc (Nat.le_refl _) _) hb).setCell (p := ⟨g, k * 2, none⟩) hg _).setCell (p := ⟨g, k * 2 + 1, none⟩) hg _

end Go.Proofs.Ytmiokacihcpepaa.Slots
namespace Go.Proofs.Ytmiokacihcpepaa.BroughtW
set_option maxRecDepth 100000
open Go.ChangeShapes Go.WideShapes Go.ChangeAt Go.RowKit

/-- What both functions compute. -/
def brought (n l m : Int) : Int := if m < l ∨ n < l then l else if m < n then m else n

theorem ret_int {k : IntKind} {a b : Int} (h : a = b) : Ending.returned (.int k a) = .returned (.int k b) := by rw [h]

end Go.Proofs.Ytmiokacihcpepaa.BroughtW
namespace Go.Proofs.Ytmiokacihcpepaa.Slots
set_option maxRecDepth 100000
open Go.ChangeShapes Go.WideShapes Go.ChangeAt Go.RowKit
open Go.Proofs.Ytmiokacihcpepaa.Base Go.Proofs.Ytmiokacihcpepaa.Mem Go.Proofs.Ytmiokacihcpepaa.Ints
set_option linter.unusedVariables false

/-- A result that lies in a variable. -/
theorem results_cell {fn : Func} {P : Program} {w : World} {t : Tmp} {ty : TypeId} {tmps : Array Value} {ad : Addr} {v : Value} (h : fn.results = #[.cell t ty]) (hp : tmps.getD t undef = .pointer (some ad)) (hl : (loadVar ty ad).run P w = .ok v w) :
    (results fn tmps).run P w = .ok v w := by
  have hp' : tmps[t]?.getD undef = .pointer (some ad) := by simpa using hp
  simp [results, h, hp', asAddr, hl]
theorem bset {B b : Nat} {a : World} (hb : B ≤ b) : ∀ (vs : List Value) (o : Nat) (w : World), Below B a w → Below B a (w.setCells b o vs)
  | [], _, _, h => h
  | v :: r, o, w, h => bset hb r (o + 1) _ (h.setCell (p := ⟨b, o, none⟩) hb v)
theorem range_of_row {w : World} {base g n c size : Nat} {e : TypeId} {xs : List Value} (h : w.ownsRow base e size (.slice (some ⟨g, 0, none⟩) n c) n xs) : w.rangeAt g 0 xs := fun j v hv => by
  have := h.cells (g := g) rfl j v hv
  rw [Addr.add_lit] at this
  exact this
theorem there_of_row {w : World} {base g n c size : Nat} {e : TypeId} {xs : List Value} (h : w.ownsRow base e size (.slice (some ⟨g, 0, none⟩) n c) n xs) : w.there g 0 xs.length := fun j hj => by
  refine ⟨?_, by rw [Nat.zero_add]; exact h.frozenAt j⟩
  have := range_of_row h j _ (List.getElem?_eq_getElem hj)
  rw [this]; rfl

def zero48 : Array Value := (scells (List.replicate 24 (0, 0))).toArray
theorem nosL_take (k : Nat) (h : k ≤ 24) : (nosL 24).take k = nosL k := by unfold nosL; rw [List.take_replicate, Nat.min_eq_left h]
theorem nosL_len (k : Nat) : (nosL k).length = k := by simp [nosL]
theorem nosL_step (k : Nat) (h : k < 24) : (nosL 24).take (k + 1) = (nosL 24).take k ++ [(-1, 0)] := by
  rw [nosL_take _ h, nosL_take _ (by omega)]
  exact List.replicate_succ'

theorem nos48 : (scells (nosL 24)).length = 48 := rfl

theorem brought24 (n : Int) : ∃ m : Nat, m ≤ 24 ∧ BroughtW.brought n 0 24 = m := by
  unfold BroughtW.brought
  by_cases h : n < 0
  · exact ⟨0, by omega, by rw [if_pos (Or.inr h)]; rfl⟩
  · by_cases h2 : 24 < n
    · exact ⟨24, by omega, by rw [if_neg (by omega), if_pos h2]; rfl⟩
    · exact ⟨n.toNat, by omega, by rw [if_neg (by omega), if_neg h2]; omega⟩
def newN (n : Int) : Nat := (BroughtW.brought n 0 24).toNat
theorem newN_le (n : Int) : newN n ≤ 24 := by
  obtain ⟨m, h1, h2⟩ := brought24 n
  unfold newN
  rw [h2]; omega
theorem newN_eq (n : Int) : BroughtW.brought n 0 24 = (newN n : Int) := by
  obtain ⟨m, h1, h2⟩ := brought24 n
  unfold newN
  rw [h2]; omega

theorem scells_pre {l m : List Sl} {j : Nat} {u : Value} (h : (scells l)[j]? = some u) : (scells (l ++ m))[j]? = some u := by
  rw [scells_append, List.getElem?_append_left (List.getElem?_eq_some_iff.1 h).1]
  exact h
theorem arr_there (w : World) (cs : Array Value) (T : TypeId) (hcs : cs.size = 48) : (w.alloc (.cells cs T)).there w.heap.size 0 48 := fun j hj => by
  refine ⟨?_, by rw [Nat.zero_add]; exact frozen_of_row _ _ _ _ _ (heap_alloc_new w _)⟩
  rw [Nat.zero_add, cell_of_row _ _ j _ _ _ (heap_alloc_new w _), Array.getElem?_eq_getElem (by omega)]; rfl
theorem arr_owned {w : World} {m : Nat} (hm : m ≤ 24) (cs : Array Value) (T : TypeId) (hcs : cs.size = 48) :
    Owned ((w.alloc (.cells cs T)).setCells w.heap.size 0 (scells (nosL 24))) w.heap.size ((w.alloc (.cells cs T)).setCells w.heap.size 0 (scells (nosL 24))).heap.size (some ⟨w.heap.size, 0, none⟩) (scells (nosL m)) := by
  have ht : (w.alloc (.cells cs T)).there w.heap.size 0 (scells (nosL 24)).length := fun j hj => by
    rw [nos48] at hj
    refine ⟨?_, by rw [Nat.zero_add]; exact frozen_of_row _ _ _ _ _ (heap_alloc_new w _)⟩
    rw [Nat.zero_add, cell_of_row _ _ j _ _ _ (heap_alloc_new w _), Array.getElem?_eq_getElem (by omega)]; rfl
  have hr := World.rangeAt_setCells_same _ _ _ _ ht
  have hsz : w.heap.size < ((w.alloc (.cells cs T)).setCells w.heap.size 0 (scells (nosL 24))).heap.size := by
    have h1 := (bset (Nat.zero_le w.heap.size) (scells (nosL 24)) 0 (w.alloc (.cells cs T)) (Below.refl 0 (w.alloc (.cells cs T)))).size
    simp at h1
    omega
  have hpre : nosL 24 = nosL m ++ nosL (24 - m) := by
    unfold nosL
    rw [List.replicate_append_replicate]
    congr 1
    omega
  refine ⟨fun j u hu => ⟨w.heap.size, 0, rfl, Nat.le_refl _, hsz, hr j u (by rw [hpre]; exact scells_pre hu)⟩, fun b off e _ j => ?_⟩
  cases e
  rw [World.frozen?_setCells]
  exact frozen_of_row _ _ _ _ _ (heap_alloc_new w _)

theorem Try.infoSlot2 : (Try.prog.info? 91).map (fun i => (i.zero, i.size, i.bytes)) = some (some (.agg #[.int .i64 0, .int .i64 0]), 2, 16) := by kernel_rfl
theorem nosL_snoc (k : Nat) : nosL (k + 1) = nosL k ++ [(-1, 0)] := List.replicate_succ'

end Go.Proofs.Ytmiokacihcpepaa.Slots
namespace Go.Proofs.Ytmiokacihcpepaa.Guests
set_option maxRecDepth 100000
open Go.ChangeShapes Go.WideShapes Go.ChangeAt Go.RowKit
open Go.Proofs.Ytmiokacihcpepaa.Base Go.Proofs.Ytmiokacihcpepaa.Mem Go.Proofs.Ytmiokacihcpepaa.Data Go.Proofs.Ytmiokacihcpepaa.Slots Go.Proofs.Ytmiokacihcpepaa.Ints Go.Proofs.Ytmiokacihcpepaa.Ctls Go.Proofs.Ytmiokacihcpepaa.Exits Go.Proofs.Ytmiokacihcpepaa.Stt Go.Proofs.Ytmiokacihcpepaa.Irqs
set_option linter.unusedVariables false
set_option linter.unusedSimpArgs false
theorem pcells_s : ∀ l : List (Int × Int), pcells l = Slots.scells l
  | [] => rfl
  | s :: l => by rw [Slots.scells, ← pcells_s l]; rfl
theorem pcells_j : ∀ l : List (Int × Int), pcells l = Inss.jcells l
  | [] => rfl
  | s :: l => by rw [Inss.jcells, ← pcells_j l]; rfl
theorem below_same {w w' : World} (h : w = w') : Below w.heap.size w w' := h ▸ Below.refl _ _
theorem takeI_lt (p : Int) : -1 ≤ (takeI p).2.1 ∧ (takeI p).2.1 ≤ 7 := by
  have := topI_range p
  unfold takeI
  split
  · exact ⟨Int.le_refl _, show (-1 : Int) ≤ 7 by decide⟩
  · exact this

set_option maxRecDepth 100000 in
set_option maxHeartbeats 4000000 in
theorem specx_copy (g : gT) (cs : List Value) (w : World) (hc : rG.cap g) (h : rG.rd w 0 w.heap.size g cs) : Calls Try.prog 42 #[.agg cs.toArray] w (Gives rG w g) := by
  obtain ⟨q0, q1, q2, q3⟩ := rG_len hc
  have hr := h
  obtain ⟨P0, P1, P2, P3, rfl, h0, h1, h2, h3⟩ := rG_rd h
  obtain ⟨PA0, Pc0, e0, hP0⟩ := lst_val h0
  subst e0
  obtain ⟨PA1, Pc1, e1, hP1⟩ := lst_val h1
  subst e1
  obtain ⟨PA2, Pc2, e2, hP2⟩ := lst_val h2
  subst e2
  obtain ⟨PA3, Pc3, e3, hP3⟩ := lst_val h3
  subst e3
  refine Sx.enter (args := [.agg #[.slice PA0 g.prog.length Pc0, .int .i64 g.a, .int .i64 g.pc, .slice PA1 g.wr.length Pc1, .slice PA2 g.lv.length Pc2, .int .i64 g.t.1, .int .i64 g.t.2.1, .bool g.t.2.2, .int .i64 g.pd, .int .i64 g.x.1, .int .i64 g.x.2.1, .bool g.x.2.2.1, .int .i64 g.x.2.2.2, .bool g.hl, .slice PA3 g.seen.length Pc3]]) Try.func42 rfl Try.ntmps42 rfl ?_
  refine Sx.C.seq (Sx.C.region ?_)
  refine Sx.G.b [.slice PA0 g.prog.length Pc0, .int .i64 g.a, .int .i64 g.pc, .slice PA1 g.wr.length Pc1, .slice PA2 g.lv.length Pc2, .int .i64 g.t.1, .int .i64 g.t.2.1, .bool g.t.2.2, .int .i64 g.pd, .int .i64 g.x.1, .int .i64 g.x.2.1, .bool g.x.2.2.1, .int .i64 g.x.2.2.2, .bool g.hl, .slice PA3 g.seen.length Pc3] (fun b1 => ?_)
  refine Sx.G.ar [.slice none 0 0, .int .i64 0, .int .i64 0, .slice none 0 0, .slice none 0 0, .int .i64 0, .int .i64 0, .bool false, .int .i64 0, .int .i64 0, .int .i64 0, .bool false, .int .i64 0, .bool false, .slice none 0 0] (fun b2 => ?_)
  refine Sx.G.nil (Sx.E.next (Sx.C.seq (Sx.C.region ?_)))
  refine Sx.G.fresh 89 (rPair rInt rInt) (by kernel_rfl) (fun w => by kernel_rfl) (fun b3 hi3 => ?_)
  refine Sx.G.p (.pointer (some ⟨b1, 0, none⟩)) ?_
  refine Sx.G.g (.slice PA0 g.prog.length Pc0) .m2 .m0 ?_
  refine Sx.G.apps 0 rfl g.prog (fun w S => St.old S h0) (List.nil_append _) g.prog.length (by simp) flat_P2 (.tmp 3) (.tmp 5) 47 2 16 rfl rfl (by kernel_rfl) (by kernel_rfl) rfl (by kernel_rfl) (by kernel_rfl) (by simp only [maxLen, List.length_nil, List.length_cons]; omega) (by simp only [List.length_nil, List.length_cons]; omega) (fun A4 c4 F4 hi4 hm4 => ?_)
  refine Sx.G.p (.pointer (some ⟨b1, 0, none⟩)) ?_
  refine Sx.G.s (.slice A4 g.prog.length c4) .a2 .a0 ?_
  refine Sx.G.nil (Sx.E.next (Sx.C.seq (Sx.C.region ?_)))
  refine Sx.G.fresh 91 (rPair rInt rInt) (by kernel_rfl) (fun w => by kernel_rfl) (fun b5 hi5 => ?_)
  refine Sx.G.p (.pointer (some ⟨b1, 3, none⟩)) ?_
  refine Sx.G.g (.slice PA1 g.wr.length Pc1) .m3 .m3 ?_
  refine Sx.G.apps 0 rfl g.wr (fun w S => St.old S h1) (List.nil_append _) g.wr.length (by simp) flat_P2 (.tmp 8) (.tmp 10) 48 2 16 rfl rfl (by kernel_rfl) (by kernel_rfl) rfl (by kernel_rfl) (by kernel_rfl) (by simp only [maxLen, List.length_nil, List.length_cons]; omega) (by simp only [List.length_nil, List.length_cons]; omega) (fun A6 c6 F6 hi6 hm6 => ?_)
  refine Sx.G.p (.pointer (some ⟨b1, 3, none⟩)) ?_
  refine Sx.G.s (.slice A6 g.wr.length c6) .a3 .a3 ?_
  refine Sx.G.nil (Sx.E.next (Sx.C.seq (Sx.C.region ?_)))
  refine Sx.G.fresh 91 (rPair rInt rInt) (by kernel_rfl) (fun w => by kernel_rfl) (fun b7 hi7 => ?_)
  refine Sx.G.p (.pointer (some ⟨b1, 4, none⟩)) ?_
  refine Sx.G.g (.slice PA2 g.lv.length Pc2) .m4 .m4 ?_
  refine Sx.G.apps 0 rfl g.lv (fun w S => St.old S h2) (List.nil_append _) g.lv.length (by simp) flat_P2 (.tmp 13) (.tmp 15) 48 2 16 rfl rfl (by kernel_rfl) (by kernel_rfl) rfl (by kernel_rfl) (by kernel_rfl) (by simp only [maxLen, List.length_nil, List.length_cons]; omega) (by simp only [List.length_nil, List.length_cons]; omega) (fun A8 c8 F8 hi8 hm8 => ?_)
  refine Sx.G.p (.pointer (some ⟨b1, 4, none⟩)) ?_
  refine Sx.G.s (.slice A8 g.lv.length c8) .a4 .a4 ?_
  refine Sx.G.nil (Sx.E.next (Sx.C.seq (Sx.C.region ?_)))
  refine Sx.G.fresh 3 rInt (by kernel_rfl) (fun w => by kernel_rfl) (fun b9 hi9 => ?_)
  refine Sx.G.p (.pointer (some ⟨b1, 14, none⟩)) ?_
  refine Sx.G.g (.slice PA3 g.seen.length Pc3) .m5 .m14 ?_
  refine Sx.G.apps 0 rfl g.seen (fun w S => St.old S h3) (List.nil_append _) g.seen.length (by simp) flat_int (.tmp 18) (.tmp 20) 24 1 8 rfl rfl (by kernel_rfl) (by kernel_rfl) rfl (by kernel_rfl) (by kernel_rfl) (by simp only [maxLen, List.length_nil, List.length_cons]; omega) (by simp only [List.length_nil, List.length_cons]; omega) (fun A10 c10 F10 hi10 hm10 => ?_)
  refine Sx.G.p (.pointer (some ⟨b1, 14, none⟩)) ?_
  refine Sx.G.s (.slice A10 g.seen.length c10) .a5 .a14 ?_
  refine Sx.G.nil (Sx.E.next (Sx.C.seq (Sx.C.region ?_)))
  refine Sx.G.lw .m5 ?_
  refine Sx.G.sw [.slice A4 g.prog.length c4, .int .i64 g.a, .int .i64 g.pc, .slice A6 g.wr.length c6, .slice A8 g.lv.length c8, .int .i64 g.t.1, .int .i64 g.t.2.1, .bool g.t.2.2, .int .i64 g.pd, .int .i64 g.x.1, .int .i64 g.x.2.1, .bool g.x.2.2.1, .int .i64 g.x.2.2.2, .bool g.hl, .slice A10 g.seen.length c10] .a4 ?_
  refine Sx.G.nil (Sx.E.next (Sx.C.ret ?_))
  refine Sx.E.retc b2 4 [.slice A4 g.prog.length c4, .int .i64 g.a, .int .i64 g.pc, .slice A6 g.wr.length c6, .slice A8 g.lv.length c8, .int .i64 g.t.1, .int .i64 g.t.2.1, .bool g.t.2.2, .int .i64 g.pd, .int .i64 g.x.1, .int .i64 g.x.2.1, .bool g.x.2.2.1, .int .i64 g.x.2.2.2, .bool g.hl, .slice A10 g.seen.length c10] rfl (by kernel_rfl) rfl (by kernel_rfl) (by kernel_rfl) (fun w S => ?_)
  obtain ⟨GW2, S⟩ := S.weak 2 rfl
  obtain ⟨GW1, S⟩ := S.weak 1 rfl
  obtain ⟨ho, hF⟩ := rG_shut (g := g) S 3 rfl 2 rfl 1 rfl 0 rfl (by decide) (by decide) (by decide) (by decide) (by decide) (by decide)
  exact ⟨_, _, rfl, ho, hF, S.below⟩

/-- A new guest. -/
def newG (p : List (Int × Int)) : gT := { prog := p, a := 0, pc := 0, wr := Slots.nosL 4, lv := Slots.nosL 4, t := (0, 0, false), pd := 0, x := (0, 0, false, 0), hl := false, seen := [] }

end Go.Proofs.Ytmiokacihcpepaa.Guests
namespace Go.Proofs.Ytmiokacihcpepaa.Kit
set_option maxRecDepth 100000
open Go.ChangeShapes Go.WideShapes Go.ChangeAt Go.RowKit Go.Deep
open Go.Proofs.Ytmiokacihcpepaa.Base Go.Proofs.Ytmiokacihcpepaa.Mem Go.Proofs.Ytmiokacihcpepaa.Data Go.Proofs.Ytmiokacihcpepaa.Stt Go.Proofs.Ytmiokacihcpepaa.Guests Go.Proofs.Ytmiokacihcpepaa.Ctls Go.Proofs.Ytmiokacihcpepaa.Exits
set_option linter.unusedVariables false
set_option linter.unusedSimpArgs false
/-- How a bT lies in memory. -/
def rB : Rp bT := rVia (rPair ((rLsw (rLsw rInt))) (rPair ((rLsw wG)) (rPair ((rLst 3 rInt)) (rInt)))) (fun g => (g.mem, g.gs, g.outs, g.pd)) (fun k => ⟨k.1, k.2.1, k.2.2.1, k.2.2.2⟩)
theorem rB_len {g : bT} (h : rB.cap g) : g.mem.length ≤ 1048576 ∧ g.gs.length ≤ 1048576 ∧ g.outs.length ≤ 1048576 := ⟨h.1.1, h.2.1.1, h.2.2.1.1⟩
theorem rB_rd {w : World} {lo hi : Nat} {g : bT} {cs : List Value} (h : rB.rd w lo hi g cs) : ∃ P0 P1 P2, cs = [P0, P1, P2, .int .i64 g.pd] ∧ ((rLsw (rLsw rInt))).rd w lo hi g.mem [P0] ∧ ((rLsw wG)).rd w lo hi g.gs [P1] ∧ ((rLst 3 rInt)).rd w lo hi g.outs [P2] := by
  obtain ⟨c0, s0, rfl, h0, g0⟩ := h
  obtain ⟨P0, rfl⟩ := lst_rd h0
  obtain ⟨c1, s1, rfl, h1, g1⟩ := g0
  obtain ⟨P1, rfl⟩ := lst_rd h1
  obtain ⟨c2, s2, rfl, h2, g2⟩ := g1
  obtain ⟨P2, rfl⟩ := lst_rd h2
  obtain rfl := show _ = _ from g2
  exact ⟨P0, P1, P2, by simp, h0, h1, h2⟩
theorem rB_own {w : World} {lo hi : Nat} {g : bT} {cs : List Value} {F : List Nat} (h : rB.own w lo hi g cs F) : ∃ P0 P1 P2 F0 F1 F2, cs = [P0, P1, P2, .int .i64 g.pd] ∧ F = F0 ++ (F1 ++ F2) ∧ ((rLsw (rLsw rInt))).own w lo hi g.mem [P0] F0 ∧ ((rLsw wG)).own w lo hi g.gs [P1] F1 ∧ ((rLst 3 rInt)).own w lo hi g.outs [P2] F2 := by
  obtain ⟨c0, s0, G0, H0, rfl, rfl, h0, g0⟩ := h
  obtain ⟨P0, rfl⟩ := lsw_own h0
  obtain ⟨c1, s1, G1, H1, rfl, rfl, h1, g1⟩ := g0
  obtain ⟨P1, rfl⟩ := lsw_own h1
  obtain ⟨c2, s2, G2, H2, rfl, rfl, h2, g2⟩ := g1
  obtain ⟨P2, rfl⟩ := lst_own h2
  obtain ⟨rfl, rfl⟩ := g2
  exact ⟨P0, P1, P2, G0, G1, G2, by simp, by simp, h0, h1, h2⟩
theorem rB_rd_mk {w : World} {lo hi : Nat} {g : bT} {P0 P1 P2 : Value} (h0 : ((rLsw (rLsw rInt))).rd w lo hi g.mem [P0]) (h1 : ((rLsw wG)).rd w lo hi g.gs [P1]) (h2 : ((rLst 3 rInt)).rd w lo hi g.outs [P2]) : rB.rd w lo hi g [P0, P1, P2, .int .i64 g.pd] :=
  ⟨[_], _, rfl, h0, ⟨[_], _, rfl, h1, ⟨[_], _, rfl, h2, rfl⟩⟩⟩
theorem rB_own_mk {w : World} {lo hi : Nat} {g : bT} {P0 P1 P2 : Value} {F0 F1 F2 : List Nat} (h0 : ((rLsw (rLsw rInt))).own w lo hi g.mem [P0] F0) (h1 : ((rLsw wG)).own w lo hi g.gs [P1] F1) (h2 : ((rLst 3 rInt)).own w lo hi g.outs [P2] F2) : rB.own w lo hi g [P0, P1, P2, .int .i64 g.pd] (F0 ++ (F1 ++ F2)) := by
  have h : rB.own w lo hi g [P0, P1, P2, .int .i64 g.pd] _ := ⟨[_], _, F0, _, rfl, rfl, h0, ⟨[_], _, F1, _, rfl, rfl, h1, ⟨[_], _, F2, _, rfl, rfl, h2, ⟨rfl, rfl⟩⟩⟩⟩
  simpa using h
theorem rB_open {w0 w : World} {lo hi : Nat} {g : bT} {cs : List Value} {F : List Nat} {T : List Res} (S : St w0 w (ow rB lo hi g cs F :: T)) : ∃ P0 P1 P2 F0 F1 F2, cs = [P0, P1, P2, .int .i64 g.pd] ∧ St w0 w (ow (rLsw (rLsw rInt)) lo hi g.mem [P0] F0 :: ow (rLsw wG) lo hi g.gs [P1] F1 :: ow (rLst 3 rInt) lo hi g.outs [P2] F2 :: T) := by
  obtain ⟨hown, hnd⟩ := S.at_ 0 rfl
  have hl := S.lo 0 _ rfl
  have hh := S.hi 0 _ rfl
  obtain ⟨P0, P1, P2, F0, F1, F2, rfl, rfl, q0, q1, q2⟩ := rB_own hown
  obtain ⟨m0, n0, d0⟩ := List.nodup_append.1 hnd
  obtain ⟨m1, n1, d1⟩ := List.nodup_append.1 n0
  have m2 := n1
  refine ⟨P0, P1, P2, F0, F1, F2, rfl, S.parts [ow (rLsw (rLsw rInt)) lo hi g.mem [P0] F0, ow (rLsw wG) lo hi g.gs [P1] F1, ow (rLst 3 rInt) lo hi g.outs [P2] F2] ?_ ?_⟩
  · intro s hs
    simp only [List.mem_cons, List.not_mem_nil, or_false] at hs
    rcases hs with rfl | rfl | rfl
    · exact ⟨⟨q0, m0⟩, fun k hk => ⟨by simp [hk.1], hk.2⟩, hl, hh⟩
    · exact ⟨⟨q1, m1⟩, fun k hk => ⟨by simp [hk.1], hk.2⟩, hl, hh⟩
    · exact ⟨⟨q2, m2⟩, fun k hk => ⟨by simp [hk.1], hk.2⟩, hl, hh⟩
  · simp only [List.pairwise_cons, List.mem_cons, List.not_mem_nil, or_false, forall_eq_or_imp, forall_eq, List.Pairwise.nil, and_true, false_implies, implies_true, ow]
    exact ⟨⟨(fun k hk hk' => d0 k hk.1 k (by simp [hk'.1]) rfl), (fun k hk hk' => d0 k hk.1 k (by simp [hk'.1]) rfl)⟩, (fun k hk hk' => d1 k hk.1 k (by simp [hk'.1]) rfl)⟩
theorem rB_shut {w0 w : World} {g : bT} {L : List Res} {P0 P1 P2 : Value} {F0 F1 F2 : List Nat} {l0 k0 l1 k1 l2 k2 : Nat} (S : St w0 w L) (i0 : Nat) (e0 : L[i0]? = some (ow (rLsw (rLsw rInt)) l0 k0 g.mem [P0] F0)) (i1 : Nat) (e1 : L[i1]? = some (ow (rLsw wG) l1 k1 g.gs [P1] F1)) (i2 : Nat) (e2 : L[i2]? = some (ow (rLst 3 rInt) l2 k2 g.outs [P2] F2)) (n01 : i0 ≠ i1) (n02 : i0 ≠ i2) (n12 : i1 ≠ i2) : rB.own w w0.heap.size w.heap.size g [P0, P1, P2, .int .i64 g.pd] (F0 ++ (F1 ++ F2)) ∧ (F0 ++ (F1 ++ F2)).Nodup := by
  refine ⟨rB_own_mk (S.own i0 e0) (S.own i1 e1) (S.own i2 e2), ?_⟩
  exact (nodup_app (S.nodup i0 e0) (nodup_app (S.nodup i1 e1) (S.nodup i2 e2) (fun k hk => (S.disj i1 i2 e1 e2 n12 k hk))) (fun k hk => (not_app (S.disj i0 i1 e0 e1 n01 k hk) (S.disj i0 i2 e0 e2 n02 k hk))))
theorem weak_G {w : World} {x : gT} (e : Ending) (w' : World) (h : Gives rG w x e w') : Gives wG w x e w' := by
  obtain ⟨cs, F, rfl, ho, hF, hb⟩ := h
  obtain ⟨P0, P1, P2, P3, F0, F1, F2, F3, rfl, S⟩ := rG_open (St.got (St.start w) hb ho hF)
  obtain ⟨G0, S⟩ := S.weak 0 rfl
  obtain ⟨G3, S⟩ := S.weak 3 rfl
  obtain ⟨ho, hF⟩ := wG_shut (g := x) S 0 rfl 1 rfl 2 rfl 3 rfl (by decide) (by decide) (by decide) (by decide) (by decide) (by decide)
  exact ⟨_, _, rfl, ho, hF, S.below⟩
theorem weak_B {w : World} {x : bT} (e : Ending) (w' : World) (h : Gives rB w x e w') : Gives wB w x e w' := by
  obtain ⟨cs, F, rfl, ho, hF, hb⟩ := h
  obtain ⟨P0, P1, P2, F0, F1, F2, rfl, S⟩ := rB_open (St.got (St.start w) hb ho hF)
  obtain ⟨G2, S⟩ := S.weak 2 rfl
  obtain ⟨ho, hF⟩ := wB_shut (g := x) S 0 rfl 1 rfl 2 rfl (by decide) (by decide) (by decide)
  exact ⟨_, _, rfl, ho, hF, S.below⟩
theorem cap_G {g : gT} (h : wG.cap g) : rG.cap g := h
theorem rd_G {w : World} {lo hi : Nat} {g : gT} {cs : List Value} (h : wG.rd w lo hi g cs) : rG.rd w lo hi g cs := h
theorem cap_B {b : bT} (h : wB.cap b) : rB.cap b := h
end Go.Proofs.Ytmiokacihcpepaa.Kit
namespace Go.Proofs.Ytmiokacihcpepaa.Kit
set_option maxRecDepth 100000
open Go.ChangeShapes Go.WideShapes Go.ChangeAt Go.RowKit Go.Deep
open Go.Proofs.Ytmiokacihcpepaa.Base Go.Proofs.Ytmiokacihcpepaa.Mem Go.Proofs.Ytmiokacihcpepaa.Data Go.Proofs.Ytmiokacihcpepaa.Stt
set_option linter.unusedVariables false
set_option linter.unusedSimpArgs false
section
variable {P : Program} {t e : TypeId}
theorem opens_lsw {α : Type} {r : Rp α} (hs : 0 < r.sz) (ht : P.underlying t = some (.slice e)) (hc : P.cellsOf e = r.sz) (he : Opens P r e) : Opens P (rLsw r) t := fun H enc w fuel cs x h => by
  rcases open_slice ht h with ⟨rfl, _⟩ | ⟨a, len, cap, m, n, D, Pl, rfl, hb, hl, hm, hmm, _, hx⟩
  · exact ⟨[], ⟨none, 0, [], rfl, Nat.le_refl _, rfl, Lies.nil⟩, ⟨Nat.zero_le _, fun x hx => by cases hx⟩⟩
  · have hmc : m = cap := by simpa using hmm
    subst hmc
    have each : ∀ i, i < len → ∃ y : List Value × α, y.1.length = r.sz ∧ (∀ j, j < r.sz → w.cell? ((a.add (i * r.sz)).add j) = y.1[j]?) ∧ r.rd w 0 w.heap.size y.2 y.1 ∧ r.wf y.2 := fun i hi => by
      obtain ⟨cs', h1, h2⟩ := hx i (by omega)
      obtain ⟨v, hv, hw⟩ := he H enc w n cs' _ h2
      rw [hc] at h1
      obtain ⟨_, hlen, hcell⟩ := World.cells?_some h1
      exact ⟨(cs', v), hlen, hcell, hv, hw⟩
    by_cases h0 : len = 0
    · subst h0
      exact ⟨[], ⟨some a, m, [], rfl, Nat.zero_le _, rfl, Lies.nil⟩, ⟨Nat.zero_le _, fun x hx => by cases hx⟩⟩
    have hin : Inhabited (List Value × α) := ⟨(each 0 (by omega)).choose⟩
    obtain ⟨f, hf⟩ := choose_lt each
    refine ⟨(List.range len).map fun i => (f i).2, ⟨some a, m, (List.range len).flatMap fun i => (f i).1, by simp, by simp; omega, rdAll_map _ fun i hi => (hf i (List.mem_range.1 hi)).2.2.1, ?_⟩, ⟨by simp; omega, fun x hx => ?_⟩⟩
    · intro j u hu
      have hL := flatMap_len (g := fun i => (f i).1) (s := r.sz) len fun i hi => (hf i hi).1
      have hj : j < len * r.sz := by
        have := (List.getElem?_eq_some_iff.1 hu).1
        omega
      rw [flatMap_get hs len (fun i hi => (hf i hi).1) j hj] at hu
      have hd : j / r.sz < len := Nat.div_lt_of_lt_mul (by rwa [Nat.mul_comm] at hj)
      have hc1 := (hf (j / r.sz) hd).2.1 (j % r.sz) (Nat.mod_lt _ hs)
      have hc1 := hc1.trans hu
      rw [add_add, show j / r.sz * r.sz + j % r.sz = j by rw [Nat.mul_comm]; exact Nat.div_add_mod j r.sz] at hc1
      have hc0 := (hf 0 (by omega)).2.1 0 hs
      rw [List.getElem?_eq_getElem (by rw [(hf 0 (by omega)).1]; exact hs)] at hc0
      obtain ⟨ab, ao, spot⟩ := a
      have hsp : spot = none := by simpa [Addr.add] using World.cell?_spot hc0
      subst hsp
      rw [Addr.add_lit] at hc1
      exact ⟨ab, ao, rfl, Nat.zero_le _, World.block_lt_of_cell? w _ hc1, hc1⟩
    · obtain ⟨i, hi, rfl⟩ := List.mem_map.1 hx
      exact (hf i (List.mem_range.1 hi)).2.2.2
end
section
variable {P : Program} {t e : TypeId}
variable {α : Type} {r : Rp α} {H : Type} {enc : TypeId × Value → H} {W : World} {base : Nat} {v : Value} {d : DataW H} {p : List MemPlace}
theorem open_struct {fs : Array Field} (ht : P.underlying t = some (.struct fs)) (hO : Opens P r t) (hval : Value.okWide P W .any base t v) (h : DataW.Trod enc P W 0 (fun _ => true) true t v d p) : ∃ x cs, v = .agg (cs : List Value).toArray ∧ r.wf x ∧ r.rd W 0 W.heap.size x cs := by
  obtain ⟨fuel, hf⟩ := h
  obtain ⟨x, hx, wx⟩ := hO H enc W fuel _ _ hf
  have hv : ∃ cs, v = .agg cs := by
    unfold Value.okWide at hval
    rw [ht] at hval
    obtain ⟨cs, e, _⟩ := hval
    exact ⟨cs, e⟩
  obtain ⟨cs, rfl⟩ := hv
  exact ⟨x, cs.toList, by simp, wx, by simpa [Value.cells] using hx⟩
theorem open_list (ht : P.underlying t = some (.slice e)) (hO : Opens P (rLsw r) t) (hval : Value.okWide P W .any base t v) (h : DataW.Trod enc P W 0 (fun _ => true) true t v d p) : ∃ (x : List α) (A : Option Addr) (c : Nat), v = .slice A x.length c ∧ (rLsw r).wf x ∧ rdLst r W 0 W.heap.size x [.slice A x.length c] := by
  obtain ⟨a1, len, cap, rfl⟩ := okWide_slice ht hval
  obtain ⟨fuel, hf⟩ := h
  obtain ⟨x, hx, wx⟩ := hO H enc W fuel _ _ hf
  have hx' : rdLst r W 0 W.heap.size x [.slice a1 len cap] := by
    have h := hx
    simp [Value.cells] at h
    exact h
  obtain ⟨A, c, ds, e1, h1, h2, h3⟩ := hx'
  cases e1
  exact ⟨x, _, _, rfl, wx, _, _, ds, rfl, h1, h2, h3⟩
end
end Go.Proofs.Ytmiokacihcpepaa.Kit
namespace Go.Proofs.Ytmiokacihcpepaa.Kit
set_option maxRecDepth 100000
open Go.ChangeShapes Go.WideShapes Go.ChangeAt Go.RowKit Go.Deep
open Go.Proofs.Ytmiokacihcpepaa.Base Go.Proofs.Ytmiokacihcpepaa.Mem Go.Proofs.Ytmiokacihcpepaa.Data Go.Proofs.Ytmiokacihcpepaa.Stt Go.Proofs.Ytmiokacihcpepaa.Guests Go.Proofs.Ytmiokacihcpepaa.Ctls Go.Proofs.Ytmiokacihcpepaa.Exits
set_option linter.unusedVariables false
set_option linter.unusedSimpArgs false
theorem laid : laidOutB Try.prog = true := by kernel_rfl
theorem capz_Int (x : Int) (h : rInt.size x ≤ 1048576) : rInt.cap x := trivial
theorem cntz_Int (x : Int) : rInt.cnt x ≤ 16 * rInt.size x + 1 := by show 1 ≤ _; omega
theorem capz_Bool (x : Bool) (h : rBool.size x ≤ 1048576) : rBool.cap x := trivial
theorem cntz_Bool (x : Bool) : rBool.cnt x ≤ 16 * rBool.size x + 1 := by show 1 ≤ _; omega
theorem capz_Slot (x : (Int × Int)) (h : (rPair rInt rInt).size x ≤ 1048576) : (rPair rInt rInt).cap x := ⟨trivial, trivial⟩
theorem cntz_Slot (x : (Int × Int)) : (rPair rInt rInt).cnt x ≤ 16 * (rPair rInt rInt).size x + 2 := Nat.le_trans (Nat.le_of_eq (show (rPair rInt rInt).cnt x = 2 from rfl)) (Nat.le_add_left _ _)
theorem kopens_Slot : Opens Try.prog (rPair rInt rInt) 98 := opens_struct Try.underlying98 (by kernel_rfl) (fields_cons (opens_int Try.underlying3) rfl (by kernel_rfl) (fields_one (opens_int Try.underlying3) rfl (by kernel_rfl)))
theorem open_Slot {H : Type} {enc : TypeId × Value → H} {W : World} {base : Nat} {v : Value} {d : DataW H} {p : List MemPlace} (hval : Value.okWide Try.prog W .any base 98 v) (h : DataW.Trod enc Try.prog W 0 (fun _ => true) true 98 v d p) : ∃ (x : (Int × Int)) (cs : List Value), v = .agg cs.toArray ∧ (rPair rInt rInt).wf x ∧ (rPair rInt rInt).rd W 0 W.heap.size x cs := open_struct Try.underlying98 kopens_Slot hval h
theorem capz_Ins (x : (Int × Int)) (h : (rPair rInt rInt).size x ≤ 1048576) : (rPair rInt rInt).cap x := ⟨trivial, trivial⟩
theorem cntz_Ins (x : (Int × Int)) : (rPair rInt rInt).cnt x ≤ 16 * (rPair rInt rInt).size x + 2 := Nat.le_trans (Nat.le_of_eq (show (rPair rInt rInt).cnt x = 2 from rfl)) (Nat.le_add_left _ _)
theorem kopens_Ins : Opens Try.prog (rPair rInt rInt) 96 := opens_struct Try.underlying96 (by kernel_rfl) (fields_cons (opens_int Try.underlying3) rfl (by kernel_rfl) (fields_one (opens_int Try.underlying3) rfl (by kernel_rfl)))
theorem open_Ins {H : Type} {enc : TypeId × Value → H} {W : World} {base : Nat} {v : Value} {d : DataW H} {p : List MemPlace} (hval : Value.okWide Try.prog W .any base 96 v) (h : DataW.Trod enc Try.prog W 0 (fun _ => true) true 96 v d p) : ∃ (x : (Int × Int)) (cs : List Value), v = .agg cs.toArray ∧ (rPair rInt rInt).wf x ∧ (rPair rInt rInt).rd W 0 W.heap.size x cs := open_struct Try.underlying96 kopens_Ins hval h
theorem capz_Ctl (x : CT) (h : rCtl.size x ≤ 1048576) : rCtl.cap x := ⟨trivial, trivial, trivial⟩
theorem cntz_Ctl (x : CT) : rCtl.cnt x ≤ 16 * rCtl.size x + 3 := Nat.le_trans (Nat.le_of_eq (show rCtl.cnt x = 3 from rfl)) (Nat.le_add_left _ _)
theorem kopens_Ctl : Opens Try.prog rCtl 64 := opens_struct Try.underlying64 (by kernel_rfl) (fields_cons (opens_int Try.underlying3) rfl (by kernel_rfl) (fields_cons (opens_int Try.underlying3) rfl (by kernel_rfl) (fields_one (opens_bool Try.underlying4) rfl (by kernel_rfl))))
theorem open_Ctl {H : Type} {enc : TypeId × Value → H} {W : World} {base : Nat} {v : Value} {d : DataW H} {p : List MemPlace} (hval : Value.okWide Try.prog W .any base 64 v) (h : DataW.Trod enc Try.prog W 0 (fun _ => true) true 64 v d p) : ∃ (x : CT) (cs : List Value), v = .agg cs.toArray ∧ rCtl.wf x ∧ rCtl.rd W 0 W.heap.size x cs := open_struct Try.underlying64 kopens_Ctl hval h
theorem capz_Exit (x : QT) (h : rExit.size x ≤ 1048576) : rExit.cap x := ⟨trivial, trivial, trivial, trivial⟩
theorem cntz_Exit (x : QT) : rExit.cnt x ≤ 16 * rExit.size x + 4 := Nat.le_trans (Nat.le_of_eq (show rExit.cnt x = 4 from rfl)) (Nat.le_add_left _ _)
theorem kopens_Exit : Opens Try.prog rExit 65 := opens_struct Try.underlying65 (by kernel_rfl) (fields_cons (opens_int Try.underlying3) rfl (by kernel_rfl) (fields_cons (opens_int Try.underlying3) rfl (by kernel_rfl) (fields_cons (opens_bool Try.underlying4) rfl (by kernel_rfl) (fields_one (opens_int Try.underlying3) rfl (by kernel_rfl)))))
theorem open_Exit {H : Type} {enc : TypeId × Value → H} {W : World} {base : Nat} {v : Value} {d : DataW H} {p : List MemPlace} (hval : Value.okWide Try.prog W .any base 65 v) (h : DataW.Trod enc Try.prog W 0 (fun _ => true) true 65 v d p) : ∃ (x : QT) (cs : List Value), v = .agg cs.toArray ∧ rExit.wf x ∧ rExit.rd W 0 W.heap.size x cs := open_struct Try.underlying65 kopens_Exit hval h
theorem capz_IntS (x : (List Int)) (h : (rLsw rInt).size x ≤ 1048576) : (rLsw rInt).cap x := capz (r := rInt) capz_Int h
theorem cntz_IntS (x : (List Int)) : (rLsw rInt).cnt x ≤ 16 * (rLsw rInt).size x + 0 := cntz (r := rInt) cntz_Int (by decide) x
theorem kopens_IntS : Opens Try.prog (rLsw rInt) 24 := opens_lsw (by decide) Try.underlying24 (by kernel_rfl) (opens_int Try.underlying3)
theorem open_IntS {H : Type} {enc : TypeId × Value → H} {W : World} {base : Nat} {v : Value} {d : DataW H} {p : List MemPlace} (hval : Value.okWide Try.prog W .any base 24 v) (h : DataW.Trod enc Try.prog W 0 (fun _ => true) true 24 v d p) : ∃ (x : (List Int)) (A : Option Addr) (c : Nat), v = .slice A x.length c ∧ (rLsw rInt).wf x ∧ rdLst rInt W 0 W.heap.size x [.slice A x.length c] := open_list Try.underlying24 kopens_IntS hval h
theorem capz_SlotS (x : (List (Int × Int))) (h : (rLsw (rPair rInt rInt)).size x ≤ 1048576) : (rLsw (rPair rInt rInt)).cap x := capz (r := (rPair rInt rInt)) capz_Slot h
theorem cntz_SlotS (x : (List (Int × Int))) : (rLsw (rPair rInt rInt)).cnt x ≤ 16 * (rLsw (rPair rInt rInt)).size x + 0 := cntz (r := (rPair rInt rInt)) cntz_Slot (by decide) x
theorem kopens_SlotS : Opens Try.prog (rLsw (rPair rInt rInt)) 63 := opens_lsw (by decide) Try.underlying63 (by kernel_rfl) kopens_Slot
theorem open_SlotS {H : Type} {enc : TypeId × Value → H} {W : World} {base : Nat} {v : Value} {d : DataW H} {p : List MemPlace} (hval : Value.okWide Try.prog W .any base 63 v) (h : DataW.Trod enc Try.prog W 0 (fun _ => true) true 63 v d p) : ∃ (x : (List (Int × Int))) (A : Option Addr) (c : Nat), v = .slice A x.length c ∧ (rLsw (rPair rInt rInt)).wf x ∧ rdLst (rPair rInt rInt) W 0 W.heap.size x [.slice A x.length c] := open_list Try.underlying63 kopens_SlotS hval h
theorem capz_InsS (x : (List (Int × Int))) (h : (rLsw (rPair rInt rInt)).size x ≤ 1048576) : (rLsw (rPair rInt rInt)).cap x := capz (r := (rPair rInt rInt)) capz_Ins h
theorem cntz_InsS (x : (List (Int × Int))) : (rLsw (rPair rInt rInt)).cnt x ≤ 16 * (rLsw (rPair rInt rInt)).size x + 0 := cntz (r := (rPair rInt rInt)) cntz_Ins (by decide) x
theorem kopens_InsS : Opens Try.prog (rLsw (rPair rInt rInt)) 62 := opens_lsw (by decide) Try.underlying62 (by kernel_rfl) kopens_Ins
theorem open_InsS {H : Type} {enc : TypeId × Value → H} {W : World} {base : Nat} {v : Value} {d : DataW H} {p : List MemPlace} (hval : Value.okWide Try.prog W .any base 62 v) (h : DataW.Trod enc Try.prog W 0 (fun _ => true) true 62 v d p) : ∃ (x : (List (Int × Int))) (A : Option Addr) (c : Nat), v = .slice A x.length c ∧ (rLsw (rPair rInt rInt)).wf x ∧ rdLst (rPair rInt rInt) W 0 W.heap.size x [.slice A x.length c] := open_list Try.underlying62 kopens_InsS hval h
theorem capz_Guest (x : gT) (h : wG.size x ≤ 1048576) : wG.cap x := by
  rw [size_Guest] at h
  exact ⟨capz_InsS x.prog (show x.prog.length + sizeAll (rPair rInt rInt) x.prog ≤ 1048576 by omega), trivial, trivial, capz_SlotS x.wr (show x.wr.length + sizeAll (rPair rInt rInt) x.wr ≤ 1048576 by omega), capz_SlotS x.lv (show x.lv.length + sizeAll (rPair rInt rInt) x.lv ≤ 1048576 by omega), ⟨trivial, trivial, trivial⟩, trivial, ⟨trivial, trivial, trivial, trivial⟩, trivial, capz_IntS x.seen (show x.seen.length + sizeAll rInt x.seen ≤ 1048576 by omega)⟩
theorem cntz_Guest (x : gT) : wG.cnt x ≤ 16 * wG.size x + 11 := by
  have h0 : cntAll (rPair rInt rInt) x.prog ≤ 16 * (x.prog.length + sizeAll (rPair rInt rInt) x.prog) := cntz_InsS x.prog
  have h1 : cntAll (rPair rInt rInt) x.wr ≤ 16 * (x.wr.length + sizeAll (rPair rInt rInt) x.wr) := cntz_SlotS x.wr
  have h2 : cntAll (rPair rInt rInt) x.lv ≤ 16 * (x.lv.length + sizeAll (rPair rInt rInt) x.lv) := cntz_SlotS x.lv
  have h3 : cntAll rInt x.seen ≤ 16 * (x.seen.length + sizeAll rInt x.seen) := cntz_IntS x.seen
  rw [cnt_Guest, size_Guest]; omega
theorem tcntz_Guest (x : gT) : wG.tcnt x ≤ 16 * wG.size x := by
  have h0 : cntAll (rPair rInt rInt) x.prog ≤ 16 * (x.prog.length + sizeAll (rPair rInt rInt) x.prog) := cntz_InsS x.prog
  have h1 : cntAll (rPair rInt rInt) x.wr ≤ 16 * (x.wr.length + sizeAll (rPair rInt rInt) x.wr) := cntz_SlotS x.wr
  have h2 : cntAll (rPair rInt rInt) x.lv ≤ 16 * (x.lv.length + sizeAll (rPair rInt rInt) x.lv) := cntz_SlotS x.lv
  have h3 : cntAll rInt x.seen ≤ 16 * (x.seen.length + sizeAll rInt x.seen) := cntz_IntS x.seen
  rw [tcnt_Guest, size_Guest]; omega
theorem kopens_Guest : Opens Try.prog wG 67 := opens_via (fun _ => rfl) (opens_struct Try.underlying67 (by kernel_rfl) (fields_cons kopens_InsS rfl (by kernel_rfl) (fields_cons (opens_int Try.underlying3) rfl (by kernel_rfl) (fields_cons (opens_int Try.underlying3) rfl (by kernel_rfl) (fields_cons kopens_SlotS rfl (by kernel_rfl) (fields_cons kopens_SlotS rfl (by kernel_rfl) (fields_cons kopens_Ctl rfl (by kernel_rfl) (fields_cons (opens_int Try.underlying3) rfl (by kernel_rfl) (fields_cons kopens_Exit rfl (by kernel_rfl) (fields_cons (opens_bool Try.underlying4) rfl (by kernel_rfl) (fields_one kopens_IntS rfl (by kernel_rfl))))))))))))
theorem open_Guest {H : Type} {enc : TypeId × Value → H} {W : World} {base : Nat} {v : Value} {d : DataW H} {p : List MemPlace} (hval : Value.okWide Try.prog W .any base 67 v) (h : DataW.Trod enc Try.prog W 0 (fun _ => true) true 67 v d p) : ∃ (x : gT) (cs : List Value), v = .agg cs.toArray ∧ wG.wf x ∧ wG.rd W 0 W.heap.size x cs := open_struct Try.underlying67 kopens_Guest hval h
theorem capz_IntSS (x : (List (List Int))) (h : (rLsw (rLsw rInt)).size x ≤ 1048576) : (rLsw (rLsw rInt)).cap x := capz (r := (rLsw rInt)) capz_IntS h
theorem cntz_IntSS (x : (List (List Int))) : (rLsw (rLsw rInt)).cnt x ≤ 16 * (rLsw (rLsw rInt)).size x + 0 := cntz (r := (rLsw rInt)) cntz_IntS (by decide) x
theorem kopens_IntSS : Opens Try.prog (rLsw (rLsw rInt)) 22 := opens_lsw (by decide) Try.underlying22 (by kernel_rfl) kopens_IntS
theorem open_IntSS {H : Type} {enc : TypeId × Value → H} {W : World} {base : Nat} {v : Value} {d : DataW H} {p : List MemPlace} (hval : Value.okWide Try.prog W .any base 22 v) (h : DataW.Trod enc Try.prog W 0 (fun _ => true) true 22 v d p) : ∃ (x : (List (List Int))) (A : Option Addr) (c : Nat), v = .slice A x.length c ∧ (rLsw (rLsw rInt)).wf x ∧ rdLst (rLsw rInt) W 0 W.heap.size x [.slice A x.length c] := open_list Try.underlying22 kopens_IntSS hval h
theorem capz_InsSS (x : (List (List (Int × Int)))) (h : (rLsw (rLsw (rPair rInt rInt))).size x ≤ 1048576) : (rLsw (rLsw (rPair rInt rInt))).cap x := capz (r := (rLsw (rPair rInt rInt))) capz_InsS h
theorem cntz_InsSS (x : (List (List (Int × Int)))) : (rLsw (rLsw (rPair rInt rInt))).cnt x ≤ 16 * (rLsw (rLsw (rPair rInt rInt))).size x + 0 := cntz (r := (rLsw (rPair rInt rInt))) cntz_InsS (by decide) x

theorem capz_GuestS (x : (List gT)) (h : (rLsw wG).size x ≤ 1048576) : (rLsw wG).cap x := capz (r := wG) capz_Guest h
theorem cntz_GuestS (x : (List gT)) : (rLsw wG).cnt x ≤ 16 * (rLsw wG).size x + 0 := cntz (r := wG) cntz_Guest (by decide) x
theorem kopens_GuestS : Opens Try.prog (rLsw wG) 23 := opens_lsw (by decide) Try.underlying23 (by kernel_rfl) kopens_Guest
theorem open_GuestS {H : Type} {enc : TypeId × Value → H} {W : World} {base : Nat} {v : Value} {d : DataW H} {p : List MemPlace} (hval : Value.okWide Try.prog W .any base 23 v) (h : DataW.Trod enc Try.prog W 0 (fun _ => true) true 23 v d p) : ∃ (x : (List gT)) (A : Option Addr) (c : Nat), v = .slice A x.length c ∧ (rLsw wG).wf x ∧ rdLst wG W 0 W.heap.size x [.slice A x.length c] := open_list Try.underlying23 kopens_GuestS hval h
theorem capz_Bare (x : bT) (h : wB.size x ≤ 1048576) : wB.cap x := by
  rw [size_Bare] at h
  exact ⟨capz_IntSS x.mem (show x.mem.length + sizeAll (rLsw rInt) x.mem ≤ 1048576 by omega), capz_GuestS x.gs (show x.gs.length + sizeAll wG x.gs ≤ 1048576 by omega), capz_IntS x.outs (show x.outs.length + sizeAll rInt x.outs ≤ 1048576 by omega), trivial⟩
theorem cntz_Bare (x : bT) : wB.cnt x ≤ 16 * wB.size x + 1 := by
  have h0 : cntAll (rLsw rInt) x.mem ≤ 16 * (x.mem.length + sizeAll (rLsw rInt) x.mem) := cntz_IntSS x.mem
  have h1 : cntAll wG x.gs ≤ 16 * (x.gs.length + sizeAll wG x.gs) := cntz_GuestS x.gs
  have h2 : cntAll rInt x.outs ≤ 16 * (x.outs.length + sizeAll rInt x.outs) := cntz_IntS x.outs
  rw [cnt_Bare, size_Bare]; omega
theorem tcntz_Bare (x : bT) : wB.tcnt x ≤ 16 * wB.size x := by
  have h0 : cntAll (rLsw rInt) x.mem ≤ 16 * (x.mem.length + sizeAll (rLsw rInt) x.mem) := cntz_IntSS x.mem
  have h1 : cntAll wG x.gs ≤ 16 * (x.gs.length + sizeAll wG x.gs) := cntz_GuestS x.gs
  have h2 : cntAll rInt x.outs ≤ 16 * (x.outs.length + sizeAll rInt x.outs) := cntz_IntS x.outs
  rw [tcnt_Bare, size_Bare]; omega
theorem kopens_Bare : Opens Try.prog wB 26 := opens_via (fun _ => rfl) (opens_struct Try.underlying26 (by kernel_rfl) (fields_cons kopens_IntSS rfl (by kernel_rfl) (fields_cons kopens_GuestS rfl (by kernel_rfl) (fields_cons kopens_IntS rfl (by kernel_rfl) (fields_one (opens_int Try.underlying3) rfl (by kernel_rfl))))))
theorem open_Bare {H : Type} {enc : TypeId × Value → H} {W : World} {base : Nat} {v : Value} {d : DataW H} {p : List MemPlace} (hval : Value.okWide Try.prog W .any base 26 v) (h : DataW.Trod enc Try.prog W 0 (fun _ => true) true 26 v d p) : ∃ (x : bT) (cs : List Value), v = .agg cs.toArray ∧ wB.wf x ∧ wB.rd W 0 W.heap.size x cs := open_struct Try.underlying26 kopens_Bare hval h
end Go.Proofs.Ytmiokacihcpepaa.Kit
namespace Go.Proofs.Ytmiokacihcpepaa.Addrs
set_option maxRecDepth 100000
open Go.ChangeShapes Go.WideShapes Go.ChangeAt Go.RowKit
open Go.Proofs.Ytmiokacihcpepaa.Base
set_option linter.unusedVariables false

def addrP (x : Int) : Int := if x < 0 then -1 else x / 4
def addrC (x : Int) : Int := if x < 0 then -1 else x % 4
theorem range {x : Int} (h : (Lit.int .i64 x).wf = true) : -9223372036854775808 ≤ x ∧ x ≤ 9223372036854775807 := by
  have hm : IntKind.i64.min = -9223372036854775808 := by decide
  rw [← hm]; simpa [Lit.wf] using h

end Go.Proofs.Ytmiokacihcpepaa.Addrs
namespace Go.Proofs.Ytmiokacihcpepaa.Rights
set_option maxRecDepth 100000
open Go.ChangeShapes Go.WideShapes Go.ChangeAt Go.RowKit
open Go.Proofs.Ytmiokacihcpepaa.Base

theorem in_rok (r : Int) : inB r 0 3 = rok r := by
  rw [Bool.eq_iff_iff, inB_iff, rok_iff]

/-! ### RightsText -/
theorem infoStr : (Try.prog.info? 9).map (fun i => (i.zero, i.size, i.bytes)) = some (some (.string ⟨#[]⟩), 1, 16) := by kernel_rfl

theorem text_no {r : Int} (h : rok r = false) : text r = ⟨#[63]⟩ := by
  have := rok_false.1 h
  unfold text; rw [if_neg (by omega), if_neg (by omega), if_neg (by omega), if_neg (by omega)]

theorem blk_set {w : World} {g i : Nat} {cs : Array Value} {T : TypeId} {fr : Nat × Nat} (h : w.heap[g]? = some (.cells cs T fr)) (u : Value) : (w.setCell ⟨g, i, none⟩ u).heap[g]? = some (.cells (cs.setIfInBounds i u) T fr) := by
  simp [World.setCell, Array.getElem?_modify, h]
theorem cell_blk {w : World} {g i : Nat} {cs : Array Value} {T : TypeId} {fr : Nat × Nat} {v : Value} (h : w.heap[g]? = some (.cells cs T fr)) (hv : cs[i]? = some v) : w.cell? ⟨g, i, none⟩ = some v := by
  simp [World.cell?, h, hv]
theorem unfrozen_blk {w : World} {g i a b : Nat} {cs : Array Value} {T : TypeId} (h : w.heap[g]? = some (.cells cs T (a, b))) (hi : i < a) : w.frozen? ⟨g, i, none⟩ = false := by
  simp [World.frozen?, h]; omega

end Go.Proofs.Ytmiokacihcpepaa.Rights
namespace Go.Proofs.Ytmiokacihcpepaa.Inss
set_option maxRecDepth 100000
open Go.ChangeShapes Go.WideShapes Go.ChangeAt Go.RowKit
open Go.Proofs.Ytmiokacihcpepaa.Base Go.Proofs.Ytmiokacihcpepaa.Mem Go.Proofs.Ytmiokacihcpepaa.Data Go.Proofs.Ytmiokacihcpepaa.Addrs Go.Proofs.Ytmiokacihcpepaa.Rights
set_option linter.unusedVariables false
set_option linter.unusedSimpArgs false

def insOk (s : JT) : Bool :=
  if s.1 = 1 ∨ s.1 = 2 ∨ s.1 = 5 ∨ s.1 = 6 then inB s.2 0 99
  else if s.1 = 3 ∨ s.1 = 4 then inB s.2 0 15
  else if s.1 = 7 then s.2 == 0
  else if s.1 = 8 then inB s.2 0 11
  else false
def progOk (l : List JT) : Bool := l.all insOk && inB l.length 1 12
def haltJ : JT := (7, 0)
def insAt (l : List JT) (pc : Int) : JT := if inB pc 0 ((l.length : Int) - 1) then l.getD pc.toNat haltJ else haltJ
def opNames : List ByteArray := [⟨#[]⟩, ⟨#[115, 101, 116]⟩, ⟨#[97, 100, 100]⟩, ⟨#[108, 111, 97, 100]⟩, ⟨#[115, 116, 111, 114, 101]⟩, ⟨#[111, 117, 116]⟩, ⟨#[99, 97, 108, 108]⟩, ⟨#[104, 97, 108, 116]⟩, ⟨#[106, 117, 109, 112]⟩]
def opName (o : Int) : ByteArray := if inB o 1 8 then opNames.getD o.toNat ⟨#[]⟩ else ⟨#[63]⟩
def touches (s : JT) : Int × Int := if s.1 = 3 then (addrP s.2, need false) else if s.1 = 4 then (addrP s.2, need true) else (-1, 0)
theorem op_cases (o : Int) : o = 1 ∨ o = 2 ∨ o = 5 ∨ o = 6 ∨ o = 3 ∨ o = 4 ∨ o = 7 ∨ o = 8 ∨ ((o == 1) = false ∧ (o == 2) = false ∧ (o == 3) = false ∧ (o == 4) = false ∧ (o == 5) = false ∧ (o == 6) = false ∧ (o == 7) = false ∧ (o == 8) = false) := by
  simp only [beq_eq_false_iff_ne, ne_eq]
  omega
theorem insOk_else {o x : Int} (h : (o == 1) = false ∧ (o == 2) = false ∧ (o == 3) = false ∧ (o == 4) = false ∧ (o == 5) = false ∧ (o == 6) = false ∧ (o == 7) = false ∧ (o == 8) = false) : insOk (o, x) = false := by
  simp only [beq_eq_false_iff_ne, ne_eq] at h
  simp [insOk, h]
theorem touches_else {o x : Int} (h3 : (o == 3) = false) (h4 : (o == 4) = false) : touches (o, x) = (-1, 0) := by
  simp only [beq_eq_false_iff_ne, ne_eq] at h3 h4
  simp [touches, h3, h4]

theorem progOk_yes {l : List JT} (h : ∀ (j : Nat) (hj : j < l.length), insOk l[j] = true) : progOk l = inB l.length 1 12 := by
  unfold progOk
  rw [show l.all insOk = true from List.all_eq_true.2 (fun s hs => by obtain ⟨j, hj, rfl⟩ := List.getElem_of_mem hs; exact h j hj), Bool.true_and]
theorem progOk_no {l : List JT} {k : Nat} (hk : k < l.length) (h : insOk l[k] = false) : progOk l = false := by
  unfold progOk
  rw [show l.all insOk = false from List.all_eq_false.2 ⟨l[k], List.getElem_mem hk, by simp [h]⟩, Bool.false_and]

def OneIns (w : World) (s : JT) (e : Ending) (w' : World) : Prop := e = .returned (.agg #[.int .i64 s.1, .int .i64 s.2]) ∧ Below w.heap.size w w'
theorem insAt_in {l : List JT} {pc : Int} (h0 : 0 ≤ pc) (h1 : pc.toNat < l.length) : insAt l pc = l[pc.toNat] := by
  unfold insAt
  rw [if_pos (inB_iff.2 ⟨h0, by omega⟩), List.getD_eq_getElem?_getD, List.getElem?_eq_getElem h1]
  rfl
theorem insAt_out {l : List JT} {pc : Int} (h : pc < 0 ∨ (l.length : Int) - 1 < pc) : insAt l pc = haltJ := by
  unfold insAt
  rw [inB_false.2 h]; rfl

theorem opName_out {o : Int} (h : inB o 1 8 = false) : opName o = ⟨#[63]⟩ := by unfold opName; rw [h]; rfl

def TwoI (w : World) (s : Int × Int) (e : Ending) (w' : World) : Prop := e = .returned (.tuple #[.int .i64 s.1, .int .i64 s.2]) ∧ Below w.heap.size w w'

end Go.Proofs.Ytmiokacihcpepaa.Inss
namespace Go.Proofs.Ytmiokacihcpepaa.Slots
set_option maxRecDepth 100000
open Go.ChangeShapes Go.WideShapes Go.ChangeAt Go.RowKit
open Go.Proofs.Ytmiokacihcpepaa.Base Go.Proofs.Ytmiokacihcpepaa.Mem Go.Proofs.Ytmiokacihcpepaa.Ints
set_option linter.unusedVariables false

def okTab (l : List Sl) (size pages : Int) : Bool := okT l pages && decide ((l.length : Int) = size)
theorem okT_snoc (l : List Sl) (k : Nat) (h : k < l.length) (pages : Int) (ht : okT (l.take k) pages = true) : okT (l.take (k + 1)) pages = okS l[k].1 l[k].2 pages := by
  unfold okT at ht ⊢
  rw [List.take_succ_eq_append_getElem h, List.all_append, ht]
  simp
theorem okT_stop (l : List Sl) (k : Nat) (h : k < l.length) (pages : Int) (hs : okS l[k].1 l[k].2 pages = false) : okT l pages = false := by
  unfold okT
  rw [List.all_eq_false]
  exact ⟨l[k], List.getElem_mem h, by simpa using hs⟩

end Go.Proofs.Ytmiokacihcpepaa.Slots
namespace Go.Proofs.Ytmiokacihcpepaa.Inss
set_option maxRecDepth 100000
open Go.ChangeShapes Go.WideShapes Go.ChangeAt Go.RowKit
open Go.Proofs.Ytmiokacihcpepaa.Base Go.Proofs.Ytmiokacihcpepaa.Mem Go.Proofs.Ytmiokacihcpepaa.Data

def SamePost (w : World) (l m : List JT) (e : Ending) (w' : World) : Prop := e = .returned (.bool (decide (l = m))) ∧ ∃ q, w' = w.drewN q
theorem same_step {l m : List JT} {k : Nat} (hl : k < l.length) (hm : k < m.length) (h : l.take k = m.take k) :
    (l[k].1 = m[k].1 ∧ l[k].2 = m[k].2 → l.take (k + 1) = m.take (k + 1)) ∧ (¬ (l[k].1 = m[k].1 ∧ l[k].2 = m[k].2) → l ≠ m) := by
  refine ⟨fun e => ?_, fun e => ?_⟩
  · rw [List.take_succ_eq_append_getElem hl, List.take_succ_eq_append_getElem hm, h, Prod.ext e.1 e.2]
  · rintro rfl
    exact e ⟨rfl, rfl⟩
theorem same_no {w : World} {l m : List JT} (q : Nat) (h : l ≠ m) : SamePost w l m (.returned (.bool false)) (w.drewN q) := ⟨by rw [decide_eq_false h], q, rfl⟩
theorem same_no2 {w : World} {l m : List JT} (q r : Nat) (h : l ≠ m) : SamePost w l m (.returned (.bool false)) ((w.drewN q).drewN r) := ⟨by rw [decide_eq_false h], q + r, World.drewN_drewN ..⟩
theorem same_yes {w : World} {l m : List JT} {n : Nat} (q : Nat) (h : l.take n = m.take n) (hl : l.length = n) (hm : m.length = n) : SamePost w l m (.returned (.bool true)) (w.drewN q) := by
  rw [List.take_of_length_le (by omega), List.take_of_length_le (by omega)] at h
  exact ⟨by rw [decide_eq_true h], q, rfl⟩

end Go.Proofs.Ytmiokacihcpepaa.Inss
namespace Go.Proofs.Ytmiokacihcpepaa.Slots
set_option maxRecDepth 100000
open Go.ChangeShapes Go.WideShapes Go.ChangeAt Go.RowKit
open Go.Proofs.Ytmiokacihcpepaa.Base Go.Proofs.Ytmiokacihcpepaa.Mem Go.Proofs.Ytmiokacihcpepaa.Ints

def SamePost (w : World) (l m : List Sl) (e : Ending) (w' : World) : Prop := e = .returned (.bool (decide (l = m))) ∧ ∃ q, w' = w.drewN q
theorem same_step {l m : List Sl} {k : Nat} (hl : k < l.length) (hm : k < m.length) (h : l.take k = m.take k) :
    (l[k].1 = m[k].1 ∧ l[k].2 = m[k].2 → l.take (k + 1) = m.take (k + 1)) ∧ (¬ (l[k].1 = m[k].1 ∧ l[k].2 = m[k].2) → l ≠ m) := by
  refine ⟨fun e => ?_, fun e => ?_⟩
  · rw [List.take_succ_eq_append_getElem hl, List.take_succ_eq_append_getElem hm, h, Prod.ext e.1 e.2]
  · rintro rfl
    exact e ⟨rfl, rfl⟩
theorem same_no {w : World} {l m : List Sl} (q : Nat) (h : l ≠ m) : SamePost w l m (.returned (.bool false)) (w.drewN q) := ⟨by rw [decide_eq_false h], q, rfl⟩
theorem same_no2 {w : World} {l m : List Sl} (q r : Nat) (h : l ≠ m) : SamePost w l m (.returned (.bool false)) ((w.drewN q).drewN r) := ⟨by rw [decide_eq_false h], q + r, World.drewN_drewN ..⟩
theorem same_yes {w : World} {l m : List Sl} {n : Nat} (q : Nat) (h : l.take n = m.take n) (hl : l.length = n) (hm : m.length = n) : SamePost w l m (.returned (.bool true)) (w.drewN q) := by
  rw [List.take_of_length_le (by omega), List.take_of_length_le (by omega)] at h
  exact ⟨by rw [decide_eq_true h], q, rfl⟩

end Go.Proofs.Ytmiokacihcpepaa.Slots
namespace Go.Proofs.Ytmiokacihcpepaa.Grid
set_option maxRecDepth 100000
open Go.ChangeShapes Go.WideShapes Go.ChangeAt Go.RowKit
open Go.Proofs.Ytmiokacihcpepaa.Base Go.Proofs.Ytmiokacihcpepaa.Mem Go.Proofs.Ytmiokacihcpepaa.Ints
set_option linter.unusedVariables false

theorem all_snoc {α : Type} (p : α → Bool) (l : List α) (k : Nat) (h : k < l.length) (ht : (l.take k).all p = true) : (l.take (k + 1)).all p = p l[k] := by
  rw [List.take_succ_eq_append_getElem h, List.all_append, ht]
  simp
theorem all_stop {α : Type} (p : α → Bool) (l : List α) (k : Nat) (h : k < l.length) (hs : p l[k] = false) : l.all p = false := by
  rw [List.all_eq_false]
  exact ⟨l[k], List.getElem_mem h, by simpa using hs⟩

def cellB (v : Int) : Bool := inB v 0 99
def cellsB (l : List Int) : Bool := l.all cellB
def pageB (l : List Int) : Bool := cellsB l && decide ((l.length : Int) = 4)
def pagesB (M : List (List Int)) : Bool := M.all pageB
def memB (M : List (List Int)) (pages : Int) : Bool := pagesB M && decide ((M.length : Int) = pages)
def hasPB (n : Nat) (page : Int) : Bool := inB page 0 ((n : Int) - 1)
def hasCB (M : List (List Int)) (page cell : Int) : Bool := hasPB M.length page && hasPB (M.getD page.toNat []).length cell
def cellAt (M : List (List Int)) (page cell : Int) : Int := if hasCB M page cell = true then (M.getD page.toNat []).getD cell.toNat 0 else 0
def pageAt (M : List (List Int)) (page : Int) : List Int := if hasPB M.length page = true then M.getD page.toNat [] else [0, 0, 0, 0]
def withC (M : List (List Int)) (page cell v : Int) : List (List Int) := if hasCB M page cell = true ∧ cellB v = true then M.set page.toNat ((M.getD page.toNat []).set cell.toNat v) else M
def withP (M : List (List Int)) (page : Int) (l : List Int) : List (List Int) := if hasPB M.length page = true ∧ pageB l = true then M.set page.toNat l else M

theorem hasPB_yes {n : Nat} {page : Int} (h : hasPB n page = true) : ∃ k : Nat, page = (k : Int) ∧ k < n := by
  obtain ⟨h0, h1⟩ := inB_iff.1 h
  exact ⟨page.toNat, by omega, by omega⟩
theorem hasPB_no {n : Nat} {page : Int} (h : hasPB n page = false) : ¬ (0 ≤ page ∧ page < n) := by
  have := inB_false.1 h
  omega
theorem hasPB_mk {n k : Nat} (h : k < n) : hasPB n (k : Int) = true := inB_iff.2 ⟨by omega, by omega⟩
theorem hasPB_not {n : Nat} {page : Int} (h : ¬ (0 ≤ page ∧ page < n)) : hasPB n page = false := inB_false.2 (by omega)
theorem getD_at {M : List (List Int)} {k : Nat} (h : k < M.length) : M.getD (k : Int).toNat [] = M[k] := by
  rw [Int.toNat_natCast, List.getD_eq_getElem?_getD, List.getElem?_eq_getElem h]; rfl
theorem hasCB_yes {M : List (List Int)} {page cell : Int} (h : hasCB M page cell = true) : ∃ k j : Nat, page = (k : Int) ∧ cell = (j : Int) ∧ ∃ (hk : k < M.length), j < M[k].length := by
  simp only [hasCB, Bool.and_eq_true] at h
  obtain ⟨k, rfl, hk⟩ := hasPB_yes h.1
  obtain ⟨j, rfl, hj⟩ := hasPB_yes h.2
  rw [getD_at hk] at hj
  exact ⟨k, j, rfl, rfl, hk, hj⟩
theorem cellAt_yes {M : List (List Int)} {k j : Nat} (h : hasCB M (k : Int) (j : Int) = true) (hk : k < M.length) (hj : j < M[k].length) : cellAt M (k : Int) (j : Int) = M[k][j] := by
  rw [cellAt, if_pos h, getD_at hk, Int.toNat_natCast, List.getD_eq_getElem?_getD, List.getElem?_eq_getElem hj]; rfl
theorem cellAt_no {M : List (List Int)} {page cell : Int} (h : hasCB M page cell = false) : cellAt M page cell = 0 := by rw [cellAt, h]; rfl

end Go.Proofs.Ytmiokacihcpepaa.Grid
namespace Go.Proofs.Ytmiokacihcpepaa.Grid
set_option maxRecDepth 100000
open Go.ChangeShapes Go.WideShapes Go.ChangeAt Go.RowKit
open Go.Proofs.Ytmiokacihcpepaa.Base Go.Proofs.Ytmiokacihcpepaa.Mem Go.Proofs.Ytmiokacihcpepaa.Ints
set_option linter.unusedVariables false

section
variable {P : Program}
theorem run_append_nil0 (w : World) (t ty e : TypeId) (i : TypeInfo) (ht : P.underlying t = some (.slice e)) (hi : P.info? e = some i) (g0 c : Nat) :
    (Builtin.append_ #[t, t] ty #[.slice (some ⟨g0, 0, none⟩) 0 0, .slice none 0 c]).run P w = .ok (.slice (some ⟨g0, 0, none⟩) 0 0) w := by
  simp [Builtin.append_, run_underlying ht, sizeOf, typeInfo, hi, Builtin.lenOf, Builtin.firstCells, storeCells]

/-- 'append' onto an empty slice of one's own, from whatever source (nil, empty or not). -/
theorem run_append_fresh (w : World) (t ty base : TypeId) (e : TypeId) (i : TypeInfo) (z : Value) (size bytes : Nat) (ht : P.underlying t = some (.slice e)) (hi : P.info? e = some i) (hz : i.zero = some z)
    (hsize : i.size = size) (hby : i.bytes = bytes) (hzs : z.cells.size = size) (hsz : 0 < size) (g0 : Nat) (hown : w.ownsRow base e size (.slice (some ⟨g0, 0, none⟩) 0 0) 0 [])
    (A : Option Addr) (m c : Nat) (news : List Value) (hl : news.length = m * size) (hsrc : ∀ j u, news[j]? = some u → ∃ ad, A = some ad ∧ w.cell? (ad.add j) = some u) (h1 : ∀ u ∈ news, u.oneCell' = true)
    (h63 : m ≤ maxLen) (hbytes : m * bytes ≤ 140737488355328) (hbase : base ≤ w.heap.size) :
    ∃ g cap w', (Builtin.append_ #[t, t] ty #[.slice (some ⟨g0, 0, none⟩) 0 0, .slice A m c]).run P w = .ok (.slice (some ⟨g, 0, none⟩) m cap) w' ∧
      w'.ownsRow base e size (.slice (some ⟨g, 0, none⟩) m cap) m news ∧ w.grownBy w' (some g0) := by
  have hfree : ∀ j u, news[j]? = some u → A ≠ none := fun j u hu e => by
    obtain ⟨ad, h, _⟩ := hsrc j u hu
    rw [e] at h
    cases h
  rcases A with _ | ad
  · have hn : news = [] := by
      rcases news with _ | ⟨u, r⟩
      · rfl
      · exact absurd rfl (hfree 0 u rfl)
    subst hn
    have hm : m = 0 := by
      rcases Nat.eq_zero_or_pos m with h | h
      · exact h
      · have := Nat.mul_pos h hsz
        simp at hl
        omega
    subst hm
    exact ⟨g0, 0, w, run_append_nil0 w t ty e i ht hi g0 c, hown, World.grownBy.refl w _⟩
  · obtain ⟨v', w', hr, h2, h3, h4, _⟩ := run_append_own_at (P := P) w base t ty e i z size bytes ht hi hz hsize hby hzs hsz (.slice (some ⟨g0, 0, none⟩) 0 0) 0 [] hown ad m c news hl
      (fun j u hu => by
        obtain ⟨ad', h, hc⟩ := hsrc j u hu
        cases h
        exact hc) h1 (by omega) (by rw [Nat.zero_add]; exact hbytes) hbase
    rw [Nat.zero_add, List.nil_append] at h2
    rcases h2.2 with ⟨h, _⟩ | ⟨g, cap, cur, rfl, _⟩
    · have := (h4.1 h).1
      simp at this
    · exact ⟨g, cap, w', hr, h2, h3⟩

theorem wpList_append_fresh (w : World) {ops : Array Oper} {rest : List Oper} {o : Oper} {a : Act} {Q : Exit → Act → World → Prop} (hgd : o.guard = none) (s x : Operand) (t : TypeId)
    (ho : o.op = .call { callee := .builtin .append, args := #[s, x], argTypes := #[t, t] })
    (base : Nat) (e : TypeId) (i : TypeInfo) (z : Value) (size bytes : Nat) (ht : P.underlying t = some (.slice e)) (hi : P.info? e = some i) (hz : i.zero = some z)
    (hsize : i.size = size) (hby : i.bytes = bytes) (hzs : z.cells.size = size) (hsz : 0 < size) (g0 : Nat) (hs : a.eval s = .slice (some ⟨g0, 0, none⟩) 0 0) (hown : w.ownsRow base e size (.slice (some ⟨g0, 0, none⟩) 0 0) 0 [])
    (A : Option Addr) (m c : Nat) (news : List Value) (hx : a.eval x = .slice A m c) (hl : news.length = m * size) (hsrc : ∀ j u, news[j]? = some u → ∃ ad, A = some ad ∧ w.cell? (ad.add j) = some u) (h1 : ∀ u ∈ news, u.oneCell' = true)
    (h63 : m ≤ maxLen) (hbytes : m * bytes ≤ 140737488355328) (hbase : base ≤ w.heap.size)
    (h : ∀ g cap w', w'.ownsRow base e size (.slice (some ⟨g, 0, none⟩) m cap) m news → w.grownBy w' (some g0) → wpList P ops Q rest (a.put o.dst (.slice (some ⟨g, 0, none⟩) m cap)) w') : wpList P ops Q (o :: rest) a w := by
  refine wpList_plain hgd fun K hK => ?_
  obtain ⟨g, cap, w', hr, h2, h3⟩ := run_append_fresh (P := P) w t o.type base e i z size bytes ht hi hz hsize hby hzs hsz g0 hown A m c news hl hsrc h1 h63 hbytes hbase
  unfold Oper.wp execOp
  simp only [ho, resolve, invoke, builtin, Sem.run_bind, Sem.run_pure, Result.andThen_ok, List.map_toArray, List.map_cons, List.map_nil, hs, hx, hr]
  exact hK _ _ (h g cap w' h2 h3)
end

/-- A source's cells as an append asks for them. -/
theorem Lies.src {w : World} {lo hi : Nat} {A : Option Addr} {cs : List Value} (h : Lies w lo hi A cs) : ∀ j u, cs[j]? = some u → ∃ ad, A = some ad ∧ w.cell? (ad.add j) = some u := fun j u hu => by
  obtain ⟨b, off, e, _, _, z⟩ := h j u hu
  refine ⟨_, e, ?_⟩
  rw [Addr.add_lit]
  exact z
theorem ncells_one (l : List Int) : ∀ u ∈ ncells l, u.oneCell' = true := by
  intro u hu
  obtain ⟨b, _, rfl⟩ := List.mem_map.1 hu
  rfl
theorem ncells_set (l : List Int) (j : Nat) (v : Int) : (ncells l).set j (.int .i64 v) = ncells (l.set j v) := by
  simp [ncells, List.map_set]
theorem splice_all {α : Type} (L cs : List α) (h : cs.length = L.length) : splice L 0 cs = cs := by
  simp [splice, h]
theorem row_of_block {w : World} {base g n : Nat} {e : TypeId} {cs : List Value} (hg : w.heap[g]? = some (.cells cs.toArray e (0, 0))) (hb : base ≤ g) (hn : cs.length = n) (hm : n ≤ maxLen) : w.ownsRow base e 1 (.slice (some ⟨g, 0, none⟩) n n) n cs :=
  ⟨by omega, .inr ⟨g, n, cs.toArray, rfl, hb, hg, Nat.le_refl _, hm, by simp [hn], by rw [Nat.mul_one]; exact List.take_of_length_le (by simp [hn])⟩⟩
theorem block_of_row {w : World} {base g n : Nat} {e : TypeId} {cs : List Value} (h : w.ownsRow base e 1 (.slice (some ⟨g, 0, none⟩) n n) n cs) : ∃ cur : List Value, w.heap[g]? = some (.cells cur.toArray e (0, 0)) ∧ cur.length = n := by
  rcases h.2 with ⟨h', _⟩ | ⟨g', cap, cur, h', hb, hg, hnc, _, hcs, htake⟩
  · cases h'
  · injection h' with h1 h2 h3
    injection h1 with h1
    injection h1 with h1
    subst h1 h3
    exact ⟨cur.toList, by simpa using hg, by simpa using hcs⟩

end Go.Proofs.Ytmiokacihcpepaa.Grid
namespace Go.Proofs.Ytmiokacihcpepaa.Grid
set_option maxRecDepth 100000
open Go.ChangeShapes Go.WideShapes Go.ChangeAt Go.RowKit
open Go.Proofs.Ytmiokacihcpepaa.Base Go.Proofs.Ytmiokacihcpepaa.Mem Go.Proofs.Ytmiokacihcpepaa.Ints
set_option linter.unusedVariables false

/-- A new row out of an append onto an empty slice of one's own, as what the next append takes. -/
theorem fresh_page {w w1 : World} {T : TypeId} {l : List Int} {g cap n : Nat} (hown : w1.ownsRow w.heap.size T 1 (.slice (some ⟨g, 0, none⟩) n cap) n (ncells l)) (hg : (w.alloc (.cells #[] T)).grownBy w1 (some w.heap.size)) :
    Owned w1 w.heap.size w1.heap.size (some ⟨g, 0, none⟩) (ncells l) ∧ Below w.heap.size w w1 :=
  ⟨Owned.of_row hown, ((Below.refl _ _).alloc (Nat.le_refl _) _).grown hg (by simp) (fun j hj => by cases hj; exact Nat.le_refl _)⟩
theorem src_alloc {w : World} {lo : Nat} {A : Option Addr} {cs : List Value} (h : Lies w lo w.heap.size A cs) (o : Obj) : ∀ j u, cs[j]? = some u → ∃ ad, A = some ad ∧ (w.alloc o).cell? (ad.add j) = some u :=
  Lies.src (h.below ((Below.refl w.heap.size w).alloc (Nat.le_refl _) o) (Nat.le_refl _))

end Go.Proofs.Ytmiokacihcpepaa.Grid
namespace Go.Proofs.Ytmiokacihcpepaa.Grid
set_option maxRecDepth 100000
open Go.ChangeShapes Go.WideShapes Go.ChangeAt Go.RowKit
open Go.Proofs.Ytmiokacihcpepaa.BroughtW

end Go.Proofs.Ytmiokacihcpepaa.Grid
namespace Go.Proofs.Ytmiokacihcpepaa.Grid
set_option maxRecDepth 100000
open Go.ChangeShapes Go.WideShapes Go.ChangeAt Go.RowKit
open Go.Proofs.Ytmiokacihcpepaa.Base Go.Proofs.Ytmiokacihcpepaa.Mem Go.Proofs.Ytmiokacihcpepaa.Ints
set_option linter.unusedVariables false

def zero4 : List Int := [0, 0, 0, 0]
theorem made4 : (madeCells (Value.int .i64 0).cells (4 * 1)).toList = ncells zero4 := by kernel_rfl
/-- 'make([]int, 4)' in any world. -/
theorem make4 (w : World) : ∃ wm, (Instr.makeSlice 24 (.int .i64 4) (.int .i64 4)).run Try.prog w = .ok (.slice (some ⟨w.heap.size, 0, none⟩) 4 4) wm ∧
    Owned wm w.heap.size wm.heap.size (some ⟨w.heap.size, 0, none⟩) (ncells zero4) ∧ Below w.heap.size w wm := by
  obtain ⟨i0, hi0, hz0, hz1, hz2⟩ := info_parts Try.infoInt
  obtain ⟨wm, hmk, hown, hgm⟩ := run_make_full (P := Try.prog) w w.heap.size 24 3 i0 _ 1 Try.underlying24 hi0 hz0 hz1 .i64 .i64 4 (by rw [hz2]; omega) (by simp only [maxLen]; omega) (Nat.le_refl _)
  rw [made4] at hown
  exact ⟨wm, hmk, Owned.of_row hown, (Below.refl _ _).grown hgm (Nat.le_refl _) (fun _ h => by cases h)⟩

def newN (a : Int) : Nat := (BroughtW.brought a 0 24).toNat
theorem newN_le (a : Int) : newN a ≤ 24 := by unfold newN BroughtW.brought; split <;> (try split) <;> omega
theorem newN_eq (a : Int) : BroughtW.brought a 0 24 = (newN a : Int) := by unfold newN BroughtW.brought; split <;> (try split) <;> omega
def zeros (n : Nat) : List (List Int) := List.replicate n zero4
theorem zeros_len (n : Nat) : (zeros n).length = n := by simp [zeros]
theorem zeros_take (n k : Nat) (h : k < n) : (zeros n).take (k + 1) = (zeros n).take k ++ [zero4] := by
  rw [List.take_succ_eq_append_getElem (by rw [zeros_len]; exact h)]
  simp [zeros]
theorem zeros_snoc (k : Nat) : zeros (k + 1) = zeros k ++ [zero4] := by simp [zeros, List.replicate_succ']

end Go.Proofs.Ytmiokacihcpepaa.Grid
namespace Go.Proofs.Ytmiokacihcpepaa.Grid
set_option maxRecDepth 100000
open Go.ChangeShapes Go.WideShapes Go.ChangeAt Go.RowKit
open Go.Proofs.Ytmiokacihcpepaa.Base Go.Proofs.Ytmiokacihcpepaa.Mem Go.Proofs.Ytmiokacihcpepaa.Ints
set_option linter.unusedVariables false

theorem pageAt_no {M : List (List Int)} {page : Int} (h : hasPB M.length page = false) : pageAt M page = zero4 := by rw [pageAt, h]; rfl
theorem pageAt_yes {M : List (List Int)} {k : Nat} (hk : k < M.length) : pageAt M (k : Int) = M[k] := by rw [pageAt, if_pos (hasPB_mk hk), getD_at hk]

theorem withC_no {M : List (List Int)} {page cell v : Int} (h : hasCB M page cell = false ∨ cellB v = false) : withC M page cell v = M := by
  unfold withC
  rw [if_neg]
  rcases h with h | h <;> simp [h]
theorem withC_yes {M : List (List Int)} {k j : Nat} {v : Int} (h : hasCB M (k : Int) (j : Int) = true) (hv : cellB v = true) (hk : k < M.length) : withC M (k : Int) (j : Int) v = M.set k (M[k].set j v) := by
  unfold withC
  rw [if_pos ⟨h, hv⟩, getD_at hk, Int.toNat_natCast, Int.toNat_natCast]
theorem withP_no {M : List (List Int)} {page : Int} {l : List Int} (h : hasPB M.length page = false ∨ pageB l = false) : withP M page l = M := by
  unfold withP
  rw [if_neg]
  rcases h with h | h <;> simp [h]
theorem withP_yes {M : List (List Int)} {k : Nat} {l : List Int} (hk : k < M.length) (hv : pageB l = true) : withP M (k : Int) l = M.set k l := by
  unfold withP
  rw [if_pos ⟨hasPB_mk hk, hv⟩, Int.toNat_natCast]

/-- A cell of a memory of one's own is written. -/
theorem OG.cell {w : World} {lo hi : Nat} {A : Option Addr} {M : List (List Int)} {hs : List Hd} (h : OG w lo hi A M hs) (hh : hi ≤ w.heap.size) (k j : Nat) (hk : k < M.length) (hj : j < M[k].length) :
    ∃ b off b' off' c, A = some ⟨b, off, none⟩ ∧ b < hi ∧ w.cell? ⟨b, off + k, none⟩ = some (.slice (some ⟨b', off', none⟩) M[k].length c) ∧ (∃ u, w.cell? ⟨b', off' + j, none⟩ = some u) ∧ w.frozen? ⟨b', off' + j, none⟩ = false ∧
      ∀ v : Int, OG (w.setCell ⟨b', off' + j, none⟩ (.int .i64 v)) lo hi A (M.set k (M[k].set j v)) hs ∧ Turned lo hi w (w.setCell ⟨b', off' + j, none⟩ (.int .i64 v)) := by
  obtain ⟨b, off, B, c, lo', hi', e, hb, hc, ho, hn⟩ := h.write hh k hk
  obtain ⟨b', off', rfl, x, y, c2⟩ := int_at ho.1 j hj
  refine ⟨b, off, b', off', c, e, hb, hc, ⟨_, c2⟩, ho.2 _ _ rfl (by rw [ncells_len]; omega) _, fun v => ?_⟩
  have h1 := ho.set j (.int .i64 v)
  rw [ncells_set] at h1
  exact hn _ _ (by simp) h1 ((Turned.refl lo' hi' w).setCell x y _)

end Go.Proofs.Ytmiokacihcpepaa.Grid
namespace Go.Proofs.Ytmiokacihcpepaa.Grid
set_option maxRecDepth 100000
open Go.ChangeShapes Go.WideShapes Go.ChangeAt Go.RowKit
open Go.Proofs.Ytmiokacihcpepaa.Base Go.Proofs.Ytmiokacihcpepaa.Mem Go.Proofs.Ytmiokacihcpepaa.Ints
set_option linter.unusedVariables false

/-! ### Comparisons -/
def SameP {α : Type} [DecidableEq α] (w : World) (l m : List α) (e : Ending) (w' : World) : Prop := e = .returned (.bool (decide (l = m))) ∧ ∃ q, w' = w.drewN q
theorem same_step {α : Type} {l m : List α} {k : Nat} (hl : k < l.length) (hm : k < m.length) (h : l.take k = m.take k) :
    (l[k] = m[k] → l.take (k + 1) = m.take (k + 1)) ∧ (l[k] ≠ m[k] → l ≠ m) := by
  refine ⟨fun e => ?_, fun e => ?_⟩
  · rw [List.take_succ_eq_append_getElem hl, List.take_succ_eq_append_getElem hm, h, e]
  · rintro rfl
    exact e rfl
section
variable {α : Type} [DecidableEq α] {w : World} {l m : List α}
theorem SameP.yes {P : Program} {f : FuncId} {args : Array Value} {w0 : World} (h : Calls P f args w0 (SameP w l m)) (e : l = m) : Calls P f args w0 fun e w' => e = .returned (.bool true) ∧ ∃ q, w' = w.drewN q :=
  h.mono fun e1 w' ⟨h1, h2⟩ => ⟨by rw [h1, decide_eq_true e], h2⟩
theorem SameP.no {P : Program} {f : FuncId} {args : Array Value} {w0 : World} (h : Calls P f args w0 (SameP w l m)) (e : l ≠ m) : Calls P f args w0 fun e w' => e = .returned (.bool false) ∧ ∃ q, w' = w.drewN q :=
  h.mono fun e1 w' ⟨h1, h2⟩ => ⟨by rw [h1, decide_eq_false e], h2⟩
theorem same_no (q : Nat) (h : l ≠ m) : SameP w l m (.returned (.bool false)) (w.drewN q) := ⟨by rw [decide_eq_false h], q, rfl⟩
theorem same_no2 (q r : Nat) (h : l ≠ m) : SameP w l m (.returned (.bool false)) ((w.drewN q).drewN r) := ⟨by rw [decide_eq_false h], q + r, World.drewN_drewN ..⟩
theorem same_no3 {w' : World} (h : l ≠ m) (q : Nat) (e : w' = w.drewN q) : SameP w l m (.returned (.bool false)) w' := ⟨by rw [decide_eq_false h], q, e⟩
/-- The world has drawn, and nothing else. -/
def Drawn (w w' : World) : Prop := ∃ q, w' = w.drewN q
theorem Drawn.cell {w' : World} (h : Drawn w w') (p : Addr) : w'.cell? p = w.cell? p := by
  obtain ⟨q, rfl⟩ := h
  rfl
theorem Drawn.lies {w' : World} (h : Drawn w w') {lo hi : Nat} {A : Option Addr} {cs : List Value} (k : Lies w lo hi A cs) : Lies w' lo hi A cs := by
  obtain ⟨q, rfl⟩ := h
  exact k
theorem Drawn.more {w' : World} (h : Drawn w w') (r : Nat) : Drawn w (w'.drewN (1 + r)) := by
  obtain ⟨q, rfl⟩ := h
  exact ⟨q + (1 + r), World.drewN_drewN ..⟩
theorem same_yes2 {n : Nat} {w' : World} (hd : Drawn w w') (h : l.take n = m.take n) (hl : l.length = n) (hm : m.length = n) : SameP w l m (.returned (.bool true)) w' := by
  rw [List.take_of_length_le (by omega), List.take_of_length_le (by omega)] at h
  exact ⟨by rw [decide_eq_true h], hd⟩
theorem same_yes {n : Nat} (q : Nat) (h : l.take n = m.take n) (hl : l.length = n) (hm : m.length = n) : SameP w l m (.returned (.bool true)) (w.drewN q) := by
  rw [List.take_of_length_le (by omega), List.take_of_length_le (by omega)] at h
  exact ⟨by rw [decide_eq_true h], q, rfl⟩
end

end Go.Proofs.Ytmiokacihcpepaa.Grid
namespace Go.Proofs.Ytmiokacihcpepaa.Guests
set_option maxRecDepth 100000
open Go.ChangeShapes Go.WideShapes Go.ChangeAt Go.RowKit
open Go.Proofs.Ytmiokacihcpepaa.Base Go.Proofs.Ytmiokacihcpepaa.Mem Go.Proofs.Ytmiokacihcpepaa.Data Go.Proofs.Ytmiokacihcpepaa.Slots Go.Proofs.Ytmiokacihcpepaa.Ints Go.Proofs.Ytmiokacihcpepaa.Ctls Go.Proofs.Ytmiokacihcpepaa.Exits Go.Proofs.Ytmiokacihcpepaa.Stt Go.Proofs.Ytmiokacihcpepaa.Irqs Go.Proofs.Ytmiokacihcpepaa.Inss
set_option linter.unusedVariables false
set_option linter.unusedSimpArgs false
theorem eqv_Ctl_eql (a0 : Int) (a1 : Int) (a2 : Bool) (b0 : Int) (b1 : Int) (b2 : Bool) (W : World) : (binOp .eql 50 (.agg #[.int .i64 a0, .int .i64 a1, .bool a2]) (.agg #[.int .i64 b0, .int .i64 b1, .bool b2])).run Try.prog W = .ok (.bool (a0 == b0 && a1 == b1 && a2 == b2)) W := by
  have ku3 := Try.underlying3
  have ka3 := Try.isAgg3
  have kz3 := Try.sizeOf3
  have ku4 := Try.underlying4
  have ka4 := Try.isAgg4
  have kz4 := Try.sizeOf4
  have hS : Try.prog.underlying 50 = some (.struct (Try.prog.fieldsOf 50)) := by kernel_rfl
  have hp : Try.prog.stoodInHeld 50 = false := by kernel_rfl
  rw [run_eql_struct, show (10000 : Nat) = 9999 + 1 from rfl, run_equalIn_agg W 9999 50 _ _ hS hp]
  simp only [Program.fieldsOf, Try.underlying50]
  go_simp
  by_cases h0 : a0 = b0 <;> by_cases h1 : a1 = b1 <;> cases a2 <;> cases b2 <;> simp [h0, h1]
theorem eqv_Ctl_neq (a0 : Int) (a1 : Int) (a2 : Bool) (b0 : Int) (b1 : Int) (b2 : Bool) (W : World) : (binOp .neq 50 (.agg #[.int .i64 a0, .int .i64 a1, .bool a2]) (.agg #[.int .i64 b0, .int .i64 b1, .bool b2])).run Try.prog W = .ok (.bool (!(a0 == b0 && a1 == b1 && a2 == b2))) W := by
  have ku3 := Try.underlying3
  have ka3 := Try.isAgg3
  have kz3 := Try.sizeOf3
  have ku4 := Try.underlying4
  have ka4 := Try.isAgg4
  have kz4 := Try.sizeOf4
  have hS : Try.prog.underlying 50 = some (.struct (Try.prog.fieldsOf 50)) := by kernel_rfl
  have hp : Try.prog.stoodInHeld 50 = false := by kernel_rfl
  rw [run_neq_struct, show (10000 : Nat) = 9999 + 1 from rfl, run_equalIn_agg W 9999 50 _ _ hS hp]
  simp only [Program.fieldsOf, Try.underlying50]
  go_simp
  by_cases h0 : a0 = b0 <;> by_cases h1 : a1 = b1 <;> cases a2 <;> cases b2 <;> simp [h0, h1]
theorem eqv_Exit_eql (a0 : Int) (a1 : Int) (a2 : Bool) (a3 : Int) (b0 : Int) (b1 : Int) (b2 : Bool) (b3 : Int) (W : World) : (binOp .eql 41 (.agg #[.int .i64 a0, .int .i64 a1, .bool a2, .int .i64 a3]) (.agg #[.int .i64 b0, .int .i64 b1, .bool b2, .int .i64 b3])).run Try.prog W = .ok (.bool (a0 == b0 && a1 == b1 && a2 == b2 && a3 == b3)) W := by
  have ku3 := Try.underlying3
  have ka3 := Try.isAgg3
  have kz3 := Try.sizeOf3
  have ku4 := Try.underlying4
  have ka4 := Try.isAgg4
  have kz4 := Try.sizeOf4
  have hS : Try.prog.underlying 41 = some (.struct (Try.prog.fieldsOf 41)) := by kernel_rfl
  have hp : Try.prog.stoodInHeld 41 = false := by kernel_rfl
  rw [run_eql_struct, show (10000 : Nat) = 9999 + 1 from rfl, run_equalIn_agg W 9999 41 _ _ hS hp]
  simp only [Program.fieldsOf, Try.underlying41]
  go_simp
  by_cases h0 : a0 = b0 <;> by_cases h1 : a1 = b1 <;> cases a2 <;> cases b2 <;> by_cases h3 : a3 = b3 <;> simp [h0, h1, h3]
theorem eqv_Exit_neq (a0 : Int) (a1 : Int) (a2 : Bool) (a3 : Int) (b0 : Int) (b1 : Int) (b2 : Bool) (b3 : Int) (W : World) : (binOp .neq 41 (.agg #[.int .i64 a0, .int .i64 a1, .bool a2, .int .i64 a3]) (.agg #[.int .i64 b0, .int .i64 b1, .bool b2, .int .i64 b3])).run Try.prog W = .ok (.bool (!(a0 == b0 && a1 == b1 && a2 == b2 && a3 == b3))) W := by
  have ku3 := Try.underlying3
  have ka3 := Try.isAgg3
  have kz3 := Try.sizeOf3
  have ku4 := Try.underlying4
  have ka4 := Try.isAgg4
  have kz4 := Try.sizeOf4
  have hS : Try.prog.underlying 41 = some (.struct (Try.prog.fieldsOf 41)) := by kernel_rfl
  have hp : Try.prog.stoodInHeld 41 = false := by kernel_rfl
  rw [run_neq_struct, show (10000 : Nat) = 9999 + 1 from rfl, run_equalIn_agg W 9999 41 _ _ hS hp]
  simp only [Program.fieldsOf, Try.underlying41]
  go_simp
  by_cases h0 : a0 = b0 <;> by_cases h1 : a1 = b1 <;> cases a2 <;> cases b2 <;> by_cases h3 : a3 = b3 <;> simp [h0, h1, h3]
theorem drew_below {w w' : World} (h : ∃ q, w' = w.drewN q) : Below w.heap.size w w' := by
  obtain ⟨q, rfl⟩ := h
  exact below_drewN (Below.refl _ _) q
def guestOk (g : gT) : Bool := progOk g.prog && inB g.a 0 99 && inB g.pc 0 12 && okTab g.wr 4 8 && okTab g.lv 4 8 && ctlOk g.t && pend g.pd && exitOk g.x && decide ((g.seen.length : Int) ≤ 40)
def sameG (g k : gT) : Bool := decide (g.prog = k.prog) && (g.a == k.a) && (g.pc == k.pc) && decide (g.wr = k.wr) && decide (g.lv = k.lv) && ((g.t.1 == k.t.1) && (g.t.2.1 == k.t.2.1) && (g.t.2.2 == k.t.2.2)) && (g.pd == k.pd) && ((g.x.1 == k.x.1) && (g.x.2.1 == k.x.2.1) && (g.x.2.2.1 == k.x.2.2.1) && (g.x.2.2.2 == k.x.2.2.2)) && (g.hl == k.hl) && decide (g.seen = k.seen)
theorem sameG_refl (g : gT) : sameG g g = true := by simp [sameG]

end Go.Proofs.Ytmiokacihcpepaa.Guests
namespace Go.Proofs.Ytmiokacihcpepaa.Kit
set_option maxRecDepth 100000
open Go.ChangeShapes Go.WideShapes Go.ChangeAt Go.RowKit Go.Deep
open Go.Proofs.Ytmiokacihcpepaa.Base Go.Proofs.Ytmiokacihcpepaa.Mem Go.Proofs.Ytmiokacihcpepaa.Data Go.Proofs.Ytmiokacihcpepaa.Stt Go.Proofs.Ytmiokacihcpepaa.Guests Go.Proofs.Ytmiokacihcpepaa.Ctls Go.Proofs.Ytmiokacihcpepaa.Exits Go.Proofs.Ytmiokacihcpepaa.Irqs
set_option linter.unusedVariables false
set_option linter.unusedSimpArgs false

/-- The machine behind a value that is put out. -/
def putB (b : bT) (n : Int) : bT := if b.outs.length < 40 then { b with outs := b.outs ++ [n] } else b
/-- Is a machine valid? -/
def bareOk (b : bT) : Bool := b.gs.all guestOk && Grid.memB b.mem 8 && inB ((b.gs.length : Nat) : Int) 1 2 && decide (((b.outs.length : Nat) : Int) ≤ 40) && Irqs.pend b.pd
def zeroG : gT := { prog := [], a := 0, pc := 0, wr := [], lv := [], t := (0, 0, false), pd := 0, x := (0, 0, false, 0), hl := false, seen := [] }
/-- Guest g of a machine. -/
def guestAt (b : bT) (g : Int) : gT × Bool := if inB g 0 ((b.gs.length : Int) - 1) = true then (b.gs.getD g.toNat zeroG, true) else (zeroG, false)
def withG (b : bT) (g : Int) (x : gT) : bT := if inB g 0 ((b.gs.length : Int) - 1) = true then { b with gs := b.gs.set g.toNat x } else b
/-- A call hands back a value of its own and a truth value. -/
def Gives2 {α : Type} (r : Rp α) (w : World) (x : α × Bool) (e : Ending) (w' : World) : Prop := ∃ cs F, e = .returned (.tuple #[.agg (cs : List Value).toArray, .bool x.2]) ∧ r.own w' w.heap.size w'.heap.size x.1 cs F ∧ F.Nodup ∧ Below w.heap.size w w'
/-- A new machine. -/
def newB (progs : List (List (Int × Int))) : bT := { mem := List.replicate 8 ([0, 0, 0, 0] : List Int), gs := (progs.take 2).map newG, outs := [], pd := 0 }
theorem set_at {α : Type} {xs : List α} {j : Nat} {y : α} (h : j < xs.length) : xs.set j y = xs.take j ++ y :: xs.drop (j + 1) := by
  rw [List.set_eq_take_append_cons_drop, if_pos h]

set_option maxRecDepth 100000 in
set_option maxHeartbeats 4000000 in
theorem specx_gat (x : bT) (cs : List Value) (g : Int) (w : World) (hc : wB.cap x) (h : wB.rd w 0 w.heap.size x cs) : Calls Try.prog 32 #[.agg cs.toArray, .int .i64 g] w (Gives2 wG w (guestAt x g)) := by
  obtain ⟨hcap0, hcap1, hcap2, hcap3⟩ := hc
  have hgl : x.gs.length ≤ 1048576 := hcap1.1
  have hR := h
  obtain ⟨hP0, hP1, hP2, rfl, hf0, hf1, hf2⟩ := wB_rd h
  obtain ⟨hA0, hK0, he0, -⟩ := lst_val hf0
  subst he0
  obtain ⟨hA1, hK1, he1, -⟩ := lst_val hf1
  subst he1
  obtain ⟨hA2, hK2, he2, -⟩ := lst_val hf2
  subst he2
  refine Sx.enter (args := [.agg #[.slice hA0 x.mem.length hK0, .slice hA1 x.gs.length hK1, .slice hA2 x.outs.length hK2, .int .i64 x.pd], .int .i64 g]) Try.func32 rfl Try.ntmps32 rfl ?_
  refine Sx.C.seq (Sx.C.region ?_)
  refine Sx.G.b [.slice hA0 x.mem.length hK0, .slice hA1 x.gs.length hK1, .slice hA2 x.outs.length hK2, .int .i64 x.pd] (fun b1 => ?_)
  refine Sx.G.ar [.slice none 0 0, .int .i64 0, .int .i64 0, .slice none 0 0, .slice none 0 0, .int .i64 0, .int .i64 0, .bool false, .int .i64 0, .int .i64 0, .int .i64 0, .bool false, .int .i64 0, .bool false, .slice none 0 0] (fun b2 => ?_)
  refine Sx.G.p (.bool false) ?_
  refine Sx.G.nil (Sx.E.next (Sx.C.seq (Sx.C.seq (Sx.C.region ?_))))
  refine Sx.G.p (.int .i64 g) ?_
  refine Sx.G.p (.pointer (some ⟨b1, 1, none⟩)) ?_
  refine Sx.G.g (.slice hA1 x.gs.length hK1) .m1 .m1 ?_
  refine Sx.G.p (.int .i64 ((x.gs.length : Nat) : Int)) ?_
  refine Sx.G.q (.int .i64 (IntKind.i64.wrap (((x.gs.length : Nat) : Int) - 1))) (.int .i64 (((x.gs.length : Nat) : Int) - 1)) (congrArg (Value.int .i64) (by rw [IntKind.wrap_i64]; omega)) ?_
  refine Sx.G.cp 41 #[.int .i64 g, .int .i64 0, .int .i64 (((x.gs.length : Nat) : Int) - 1)] (.bool (inB g 0 (((x.gs.length : Nat) : Int) - 1))) (fun w S => by exact ((spec_in g 0 (((x.gs.length : Nat) : Int) - 1) _).mono fun e w' h => And.intro h.1 (Guests.below_same h.2))) ?_
  refine Sx.G.p (.bool (!(inB g 0 (((x.gs.length : Nat) : Int) - 1)))) ?_
  refine Sx.G.nil (Sx.E.next ?_)
  cases hc3 : (inB g 0 (((x.gs.length : Nat) : Int) - 1))
  · have hb3 := hc3
    refine Sx.C.yy ?_
    refine Sx.C.seq (Sx.C.region ?_)
    refine Sx.G.p (.agg #[.slice none 0 0, .int .i64 0, .int .i64 0, .slice none 0 0, .slice none 0 0, .int .i64 0, .int .i64 0, .bool false, .int .i64 0, .int .i64 0, .int .i64 0, .bool false, .int .i64 0, .bool false, .slice none 0 0]) ?_
    refine Sx.G.sw [.slice none 0 0, .int .i64 0, .int .i64 0, .slice none 0 0, .slice none 0 0, .int .i64 0, .int .i64 0, .bool false, .int .i64 0, .int .i64 0, .int .i64 0, .bool false, .int .i64 0, .bool false, .slice none 0 0] .a0 ?_
    refine Sx.G.p (.bool false) ?_
    refine Sx.G.nil (Sx.E.next (Sx.C.ret (Sx.E.then_ret ?_)))
    refine Sx.E.retg2 (.agg #[.slice none 0 0, .int .i64 0, .int .i64 0, .slice none 0 0, .slice none 0 0, .int .i64 0, .int .i64 0, .bool false, .int .i64 0, .int .i64 0, .int .i64 0, .bool false, .int .i64 0, .bool false, .slice none 0 0]) (.bool false) rfl (Sx.IsRes.row b2 0 [.slice none 0 0, .int .i64 0, .int .i64 0, .slice none 0 0, .slice none 0 0, .int .i64 0, .int .i64 0, .bool false, .int .i64 0, .int .i64 0, .int .i64 0, .bool false, .int .i64 0, .bool false, .slice none 0 0] (by kernel_rfl) rfl (by kernel_rfl) (by kernel_rfl)) (Sx.IsRes.slot (by kernel_rfl)) (fun w S => ?_)
    rw [show guestAt x g = (zeroG, false) from if_neg (by rw [hc3]; decide)]
    exact ⟨_, [], rfl, own_zero_Guest _ _ _, List.nodup_nil, S.below⟩
  · have hb3 := hc3
    have hin := inB_iff.1 hc3
    obtain ⟨j, hj⟩ : ∃ j : Nat, g = (j : Int) := ⟨g.toNat, by omega⟩
    subst hj
    have hjl : j < x.gs.length := by omega
    refine Sx.C.nn ?_
    refine Sx.C.skip (Sx.E.next (Sx.C.seq (Sx.C.region ?_)))
    refine Sx.G.p (.pointer (some ⟨b1, 1, none⟩)) ?_
    refine Sx.G.g (.slice hA1 x.gs.length hK1) .m1 .m1 ?_
    refine Sx.G.p (.int .i64 (j : Int)) ?_
    obtain ⟨b4, f4, es4, eA4, hr4, hl4, hm4⟩ := Sx.old_elem (by decide) hf1 j (by omega)
    subst eA4
    obtain ⟨x4, hx4⟩ : ∃ z_, z_ = (x.gs[j]'(by omega)) := ⟨_, rfl⟩
    rw [← hx4] at hr4
    have hR4 := hr4
    obtain ⟨P4_0, P4_1, P4_2, P4_3, rfl, hf4_0, hf4_1, hf4_2, hf4_3⟩ := wG_rd hr4
    obtain ⟨A4_0, c4_0, e4_0, -⟩ := lst_val hf4_0
    subst e4_0
    obtain ⟨A4_1, c4_1, e4_1, -⟩ := lst_val hf4_1
    subst e4_1
    obtain ⟨A4_2, c4_2, e4_2, -⟩ := lst_val hf4_2
    subst e4_2
    obtain ⟨A4_3, c4_3, e4_3, -⟩ := lst_val hf4_3
    subst e4_3
    refine Sx.G.elem 29 52 (.tmp 15) (.tmp 16) 15 184 b4 f4 x.gs.length hK1 j rfl (by kernel_rfl) (by kernel_rfl) (by kernel_rfl) (by kernel_rfl) (by omega) ?_
    refine Sx.G.ldr 52 (.tmp 17) b4 (f4 + j * 15) [.slice A4_0 x4.prog.length c4_0, .int .i64 x4.a, .int .i64 x4.pc, .slice A4_1 x4.wr.length c4_1, .slice A4_2 x4.lv.length c4_2, .int .i64 x4.t.1, .int .i64 x4.t.2.1, .bool x4.t.2.2, .int .i64 x4.pd, .int .i64 x4.x.1, .int .i64 x4.x.2.1, .bool x4.x.2.2.1, .int .i64 x4.x.2.2.2, .bool x4.hl, .slice A4_3 x4.seen.length c4_3] rfl (by kernel_rfl) (by kernel_rfl) (fun w S => hm4 w _ S) (by kernel_rfl) (by kernel_rfl) ?_
    refine Sx.G.c 42 #[.agg #[.slice A4_0 x4.prog.length c4_0, .int .i64 x4.a, .int .i64 x4.pc, .slice A4_1 x4.wr.length c4_1, .slice A4_2 x4.lv.length c4_2, .int .i64 x4.t.1, .int .i64 x4.t.2.1, .bool x4.t.2.2, .int .i64 x4.pd, .int .i64 x4.x.1, .int .i64 x4.x.2.1, .bool x4.x.2.2.1, .int .i64 x4.x.2.2.2, .bool x4.hl, .slice A4_3 x4.seen.length c4_3]] (fun w5 S => (((Guests.specx_copy x4 _ _ (cap_G (hcap1.2 _ (hx4 ▸ List.getElem_mem _))) (rd_G (St.old S hR4))).mono weak_G)).mono fun e w5' hp => ?_)
    obtain ⟨cs, F, rfl, ho, hF, hb⟩ := hp
    obtain ⟨P5_0, P5_1, P5_2, P5_3, rfl, f5_0, f5_1, f5_2, f5_3⟩ := wG_rd (wG.reads ho)
    obtain ⟨A5_0, c5_0, e5_0, -⟩ := lst_val f5_0
    subst e5_0
    obtain ⟨A5_1, c5_1, e5_1, -⟩ := lst_val f5_1
    subst e5_1
    obtain ⟨A5_2, c5_2, e5_2, -⟩ := lst_val f5_2
    subst e5_2
    obtain ⟨A5_3, c5_3, e5_3, -⟩ := lst_val f5_3
    subst e5_3
    generalize F = F5 at ho hF
    refine ⟨_, _, rfl, (St.got S hb ho hF), ?_⟩
    clear S hb ho hF f5_0 f5_1 f5_2 f5_3
    refine Sx.G.sw [.slice A5_0 x4.prog.length c5_0, .int .i64 x4.a, .int .i64 x4.pc, .slice A5_1 x4.wr.length c5_1, .slice A5_2 x4.lv.length c5_2, .int .i64 x4.t.1, .int .i64 x4.t.2.1, .bool x4.t.2.2, .int .i64 x4.pd, .int .i64 x4.x.1, .int .i64 x4.x.2.1, .bool x4.x.2.2.1, .int .i64 x4.x.2.2.2, .bool x4.hl, .slice A5_3 x4.seen.length c5_3] .a1 ?_
    refine Sx.G.p (.bool true) ?_
    refine Sx.G.nil (Sx.E.next (Sx.C.ret ?_))
    refine Sx.E.retg2 (.agg #[.slice A5_0 x4.prog.length c5_0, .int .i64 x4.a, .int .i64 x4.pc, .slice A5_1 x4.wr.length c5_1, .slice A5_2 x4.lv.length c5_2, .int .i64 x4.t.1, .int .i64 x4.t.2.1, .bool x4.t.2.2, .int .i64 x4.pd, .int .i64 x4.x.1, .int .i64 x4.x.2.1, .bool x4.x.2.2.1, .int .i64 x4.x.2.2.2, .bool x4.hl, .slice A5_3 x4.seen.length c5_3]) (.bool true) rfl (Sx.IsRes.row b2 1 [.slice A5_0 x4.prog.length c5_0, .int .i64 x4.a, .int .i64 x4.pc, .slice A5_1 x4.wr.length c5_1, .slice A5_2 x4.lv.length c5_2, .int .i64 x4.t.1, .int .i64 x4.t.2.1, .bool x4.t.2.2, .int .i64 x4.pd, .int .i64 x4.x.1, .int .i64 x4.x.2.1, .bool x4.x.2.2.1, .int .i64 x4.x.2.2.2, .bool x4.hl, .slice A5_3 x4.seen.length c5_3] (by kernel_rfl) rfl (by kernel_rfl) (by kernel_rfl)) (Sx.IsRes.slot (by kernel_rfl)) (fun w S => ?_)
    rw [show guestAt x (j : Int) = (x4, true) from by rw [hx4]; unfold guestAt; rw [hc3, if_pos rfl]; simp [List.getD_eq_getElem?_getD, hjl]]
    exact ⟨_, _, rfl, S.own 0 rfl, S.nodup 0 rfl, S.below⟩

end Go.Proofs.Ytmiokacihcpepaa.Kit
namespace Go.Proofs.Ytmiokacihcpepaa.Kit
set_option maxRecDepth 100000
open Go.ChangeShapes Go.WideShapes Go.ChangeAt Go.RowKit Go.Deep
open Go.Proofs.Ytmiokacihcpepaa.Base Go.Proofs.Ytmiokacihcpepaa.Mem Go.Proofs.Ytmiokacihcpepaa.Data Go.Proofs.Ytmiokacihcpepaa.Stt Go.Proofs.Ytmiokacihcpepaa.Guests Go.Proofs.Ytmiokacihcpepaa.Ctls Go.Proofs.Ytmiokacihcpepaa.Exits
set_option linter.unusedVariables false
set_option linter.unusedSimpArgs false
theorem size_new (p : List (Int × Int)) : wG.size (newG p) = p.length + 8 := by
  rw [size_Guest, sz0_Ins, sz0_Slot, sz0_Slot, sz0_Int]
  simp [newG, Slots.nosL]
theorem cap_new {p : List (Int × Int)} (h : p.length ≤ 1048576) : wG.cap (newG p) :=
  ⟨⟨h, fun _ _ => ⟨trivial, trivial⟩⟩, trivial, trivial, ⟨by simp [newG, Slots.nosL], fun _ _ => ⟨trivial, trivial⟩⟩, ⟨by simp [newG, Slots.nosL], fun _ _ => ⟨trivial, trivial⟩⟩, ⟨trivial, trivial, trivial⟩, trivial, ⟨trivial, trivial, trivial, trivial⟩, trivial, ⟨by simp [newG], fun _ _ => trivial⟩⟩
theorem cap_mem0 : (rLsw (rLsw rInt)).cap (List.replicate 8 ([0, 0, 0, 0] : List Int)) := ⟨by decide, fun x hx => by rw [(List.mem_replicate.1 hx).2]; exact ⟨by decide, fun _ _ => trivial⟩⟩
theorem cap_newB {xs : List (List (Int × Int))} (h : (rLsw (rLsw (rPair rInt rInt))).cap xs) : wB.cap (newB xs) := by
  refine ⟨cap_mem0, ⟨?_, fun g hg => ?_⟩, ⟨by simp [newB], fun _ _ => trivial⟩, trivial⟩
  · show ((xs.take 2).map newG).length ≤ _
    rw [List.length_map, List.length_take]; omega
  · obtain ⟨p, hp, rfl⟩ := List.mem_map.1 (show g ∈ (xs.take 2).map newG from hg)
    exact cap_new (h.2 p (List.mem_of_mem_take hp)).1
theorem size_newB (xs : List (List (Int × Int))) : wB.size (newB xs) ≤ (rLsw (rLsw (rPair rInt rInt))).size xs + 100 := by
  rw [size_Bare]
  show (8 + sizeAll (rLsw rInt) (List.replicate 8 ([0, 0, 0, 0] : List Int))) + (((xs.take 2).map newG).length + sizeAll wG ((xs.take 2).map newG)) + (0 + 0) ≤ (xs.length + sizeAll (rLsw (rPair rInt rInt)) xs) + 100
  have h1 : sizeAll (rLsw rInt) (List.replicate 8 ([0, 0, 0, 0] : List Int)) = 32 := by decide
  have h2 : ∀ p : List (Int × Int), (rLsw (rPair rInt rInt)).size p = p.length := fun p => by show p.length + sizeAll (rPair rInt rInt) p = _; rw [sz0_Ins]; omega
  rw [h1]
  rcases xs with _ | ⟨a, _ | ⟨b, r⟩⟩
  · simp [sizeAll]
  · simp [sizeAll, size_new, h2]; omega
  · simp [sizeAll, size_new, h2]; omega
theorem cap_putB {b : bT} (n : Int) (h : wB.cap b) : wB.cap (putB b n) := by
  unfold putB
  split
  · exact ⟨h.1, h.2.1, ⟨by show (b.outs ++ [n]).length ≤ _; rw [List.length_append, List.length_singleton]; omega, fun _ _ => trivial⟩, trivial⟩
  · exact h
theorem size_putB (b : bT) (n : Int) : wB.size (putB b n) ≤ wB.size b + 1 := by
  unfold putB
  split
  · rw [size_Bare, size_Bare, sz0_Int, sz0_Int]; simp; omega
  · omega
theorem sizeAll_set {α : Type} {r : Rp α} : ∀ (xs : List α) (j : Nat) (y : α), sizeAll r (xs.set j y) ≤ sizeAll r xs + r.size y
  | [], j, y => by simp [sizeAll]
  | x :: xs, 0, y => by rw [List.set_cons_zero, sizeAll, sizeAll]; omega
  | x :: xs, j + 1, y => by have := sizeAll_set (r := r) xs j y; rw [List.set_cons_succ, sizeAll, sizeAll]; omega
theorem cap_withG {b : bT} {y : gT} (g : Int) (h : wB.cap b) (hy : wG.cap y) : wB.cap (withG b g y) := by
  unfold withG
  split
  · refine ⟨h.1, ⟨by show (b.gs.set g.toNat y).length ≤ _; rw [List.length_set]; exact h.2.1.1, fun z hz => ?_⟩, h.2.2.1, trivial⟩
    rcases List.mem_or_eq_of_mem_set hz with hz | rfl
    · exact h.2.1.2 z hz
    · exact hy
  · exact h
theorem size_withG (b : bT) (g : Int) (y : gT) : wB.size (withG b g y) ≤ wB.size b + wG.size y := by
  unfold withG
  split
  · have := sizeAll_set (r := wG) b.gs g.toNat y
    rw [size_Bare, size_Bare]; simp only [List.length_set]; omega
  · omega
theorem cap_zeroG : wG.cap zeroG := ⟨⟨by decide, fun _ _ => ⟨trivial, trivial⟩⟩, trivial, trivial, ⟨by decide, fun _ _ => ⟨trivial, trivial⟩⟩, ⟨by decide, fun _ _ => ⟨trivial, trivial⟩⟩, ⟨trivial, trivial, trivial⟩, trivial, ⟨trivial, trivial, trivial, trivial⟩, trivial, ⟨by decide, fun _ _ => trivial⟩⟩
theorem at_facts {b : bT} {g : Int} (h : inB g 0 ((b.gs.length : Int) - 1) = true) : b.gs.getD g.toNat zeroG ∈ b.gs := by
  have hj := inB_iff.1 h
  have : g.toNat < b.gs.length := by omega
  rw [List.getD_eq_getElem?_getD, List.getElem?_eq_getElem this]
  exact List.getElem_mem _
theorem cap_guestAt {b : bT} (g : Int) (h : wB.cap b) : wG.cap (guestAt b g).1 := by
  unfold guestAt
  split
  · rename_i hi; exact h.2.1.2 _ (at_facts hi)
  · exact cap_zeroG
theorem size_guestAt (b : bT) (g : Int) : wG.size (guestAt b g).1 ≤ wB.size b := by
  unfold guestAt
  split
  · rename_i hi
    have := size_mem (r := wG) (at_facts hi)
    rw [size_Bare]; simp only; omega
  · have : wG.size zeroG = 0 := by decide
    show wG.size zeroG ≤ _
    omega
end Go.Proofs.Ytmiokacihcpepaa.Kit
namespace Go.Proofs.Ytmiokacihcpepaa.Kit
set_option maxRecDepth 100000
open Go.ChangeShapes Go.WideShapes Go.ChangeAt Go.RowKit Go.Deep
open Go.Proofs.Ytmiokacihcpepaa.Base Go.Proofs.Ytmiokacihcpepaa.Mem Go.Proofs.Ytmiokacihcpepaa.Data Go.Proofs.Ytmiokacihcpepaa.Stt Go.Proofs.Ytmiokacihcpepaa.Guests Go.Proofs.Ytmiokacihcpepaa.Ctls Go.Proofs.Ytmiokacihcpepaa.Exits Go.Proofs.Ytmiokacihcpepaa.Irqs Go.Proofs.Ytmiokacihcpepaa.Inss
set_option linter.unusedVariables false
set_option linter.unusedSimpArgs false
/-- Are they the same? -/
noncomputable def eqv {α : Type} (x y : α) : Bool := @decide (x = y) (Classical.propDecidable _)
theorem eqv_true {α : Type} {x y : α} (h : x = y) : eqv x y = true := @decide_eq_true _ (Classical.propDecidable _) h
theorem eqv_false {α : Type} {x y : α} (h : x ≠ y) : eqv x y = false := @decide_eq_false _ (Classical.propDecidable _) h
theorem eqv_iff {α : Type} {x y : α} : eqv x y = true ↔ x = y := ⟨fun h => @of_decide_eq_true _ (Classical.propDecidable _) h, eqv_true⟩
theorem ne_of_eqv {α : Type} {x y : α} (h : eqv x y = false) : x ≠ y := fun e => by rw [eqv_true e] at h; cases h
theorem sameG_eqv (x y : gT) : sameG x y = eqv x y := by
  rw [Bool.eq_iff_iff, eqv_iff]
  constructor
  · intro h
    unfold sameG at h
    simp only [Bool.and_eq_true, decide_eq_true_eq, beq_iff_eq] at h
    obtain ⟨x1, x2, x3, x4, x5, ⟨x61, x62, x63⟩, x7, ⟨x81, x82, x83, x84⟩, x9, x10⟩ := x
    obtain ⟨y1, y2, y3, y4, y5, ⟨y61, y62, y63⟩, y7, ⟨y81, y82, y83, y84⟩, y9, y10⟩ := y
    simp only at h
    simp only [h]
  · rintro rfl
    exact sameG_refl x
theorem take_ne {α : Type} {xs ys : List α} {i : Nat} (hi : i < xs.length) (hj : i < ys.length) (h : xs[i] ≠ ys[i]) : xs ≠ ys := fun e => by subst e; exact h rfl
theorem take_up {α : Type} {xs ys : List α} {i : Nat} (hi : i < xs.length) (hj : i < ys.length) (h : xs.take i = ys.take i) (h2 : xs[i] = ys[i]) : xs.take (i + 1) = ys.take (i + 1) := by rw [Kit.take_step hi, Kit.take_step hj, h, h2]
theorem eqv_B (x y : bT) : eqv x y = (eqv x.mem y.mem && eqv x.gs y.gs && eqv x.outs y.outs && (x.pd == y.pd)) := by
  rw [Bool.eq_iff_iff, eqv_iff]
  simp only [Bool.and_eq_true, eqv_iff, beq_iff_eq]
  obtain ⟨a, b, c, d⟩ := x
  obtain ⟨a', b', c', d'⟩ := y
  simp only [bT.mk.injEq, and_assoc]
theorem beq_dec (a b : Int) : (a == b) = decide (a = b) := rfl

end Go.Proofs.Ytmiokacihcpepaa.Kit
namespace Go.Proofs.Ytmiokacihcpepaa.Guests
set_option maxRecDepth 100000
open Go.ChangeShapes Go.WideShapes Go.ChangeAt Go.RowKit
open Go.Proofs.Ytmiokacihcpepaa.Base Go.Proofs.Ytmiokacihcpepaa.Mem Go.Proofs.Ytmiokacihcpepaa.Data Go.Proofs.Ytmiokacihcpepaa.Slots Go.Proofs.Ytmiokacihcpepaa.Ints Go.Proofs.Ytmiokacihcpepaa.Ctls Go.Proofs.Ytmiokacihcpepaa.Exits Go.Proofs.Ytmiokacihcpepaa.Stt Go.Proofs.Ytmiokacihcpepaa.Part
set_option linter.unusedVariables false
section
variable {w : World} {lo hi : Nat} {P : Value} {F : List Nat}
theorem icells_n (l : List Int) : icells l = ncells l := rfl
theorem so_p2 {l : List (Int × Int)} (h : SO w lo hi (pcells l) l.length P) : rdLst (rPair rInt rInt) w lo hi l [P] := by
  obtain ⟨A, c, rfl, hc, ho⟩ := h
  exact ⟨A, c, pcells l, rfl, hc, p2_all w lo hi l, ho.1⟩
theorem so_i1 {l : List Int} (h : SO w lo hi (ncells l) l.length P) : rdLst rInt w lo hi l [P] := by
  obtain ⟨A, c, rfl, hc, ho⟩ := h
  exact ⟨A, c, icells l, rfl, hc, i1_all w lo hi l, ho.1⟩
theorem bl_row {P : Value} {k : Nat} (hk : k ∈ bl P) : P.ownBlock = some k := by
  unfold bl at hk
  split at hk
  · split at hk
    · cases hk
    · simp at hk; subst hk; rfl
  · cases hk
theorem p2_so {e : TypeId} {l : List (Int × Int)} (h : (rLst e (rPair rInt rInt)).own w lo hi l [P] F) : SO w lo hi (pcells l) l.length P ∧ ∀ k ∈ bl P, k ∈ F := by
  obtain ⟨v, ds, F1, e1, rfl, h1, h2, h3⟩ := h
  cases e1
  obtain ⟨A, c, rfl, hc⟩ := row_form h2
  have hd := p2_cells (ownAll_reads h1)
  subst hd
  exact ⟨⟨A, c, rfl, hc, row_lies h2 h3⟩, fun k hk => by simp [bl_row hk]⟩
theorem i1_so {e : TypeId} {l : List Int} (h : (rLst e rInt).own w lo hi l [P] F) : SO w lo hi (ncells l) l.length P ∧ ∀ k ∈ bl P, k ∈ F := by
  obtain ⟨v, ds, F1, e1, rfl, h1, h2, h3⟩ := h
  cases e1
  obtain ⟨A, c, rfl, hc⟩ := row_form h2
  have hd := i1_cells (ownAll_reads h1)
  subst hd
  exact ⟨⟨A, c, rfl, hc, row_lies h2 h3⟩, fun k hk => by simp [bl_row hk]⟩
theorem p2_sow {l : List (Int × Int)} (h : (rLsw (rPair rInt rInt)).own w lo hi l [P] F) : SO w lo hi (pcells l) l.length P ∧ ∀ k ∈ bl P, k ∈ F := by
  obtain ⟨A, c, ds, F1, e1, hc, rfl, h1, h2⟩ := h
  cases e1
  have hd := p2_cells (ownAll_reads h1)
  subst hd
  refine ⟨⟨A, c, rfl, hc, h2⟩, fun k hk => ?_⟩
  unfold bl at hk
  split at hk
  · rename_i a n c' e
    cases e
    split at hk
    · cases hk
    · rename_i hn
      simp at hk
      have hl : l ≠ [] := fun e => hn (by rw [e]; rfl)
      have hp : pcells l ≠ [] := by
        cases l with
        | nil => exact absurd rfl hl
        | cons s l => simp [pcells]
      simp [blks, hp, hk]
  · cases hk
end
theorem gO.rg {w : World} {lo hi : Nat} {g : gT} {P0 P1 P2 P3 : Value} (h : gO w lo hi g P0 P1 P2 P3) : rG.rd w lo hi g (gV g P0 P1 P2 P3) :=
  rG_rd_mk (so_p2 (by rw [pcells_j]; exact h.r0)) (so_p2 (by rw [pcells_s]; exact h.r1)) (so_p2 (by rw [pcells_s]; exact h.r2)) (so_i1 h.r3)
theorem rG_gO {w : World} {lo hi : Nat} {g : gT} {cs : List Value} {F : List Nat} (h : rG.own w lo hi g cs F) (hF : F.Nodup) : ∃ P0 P1 P2 P3, cs = gV g P0 P1 P2 P3 ∧ gO w lo hi g P0 P1 P2 P3 := by
  obtain ⟨P0, P1, P2, P3, F0, F1, F2, F3, rfl, rfl, h0, h1, h2, h3⟩ := rG_own h
  obtain ⟨r0, b0⟩ := p2_so h0
  obtain ⟨r1, b1⟩ := p2_sow h1
  obtain ⟨r2, b2⟩ := p2_sow h2
  obtain ⟨r3, b3⟩ := i1_so h3
  obtain ⟨_, n0, d0⟩ := List.nodup_append.1 hF
  obtain ⟨_, n1, d1⟩ := List.nodup_append.1 n0
  obtain ⟨_, _, d2⟩ := List.nodup_append.1 n1
  rw [pcells_j] at r0
  rw [pcells_s] at r1 r2
  exact ⟨P0, P1, P2, P3, rfl, r0, r1, r2, r3, fun k h h' => d0 k (b0 k h) k (by simp [b1 k h']) rfl, fun k h h' => d0 k (b0 k h) k (by simp [b2 k h']) rfl, fun k h h' => d0 k (b0 k h) k (by simp [b3 k h']) rfl,
    fun k h h' => d1 k (b1 k h) k (by simp [b2 k h']) rfl, fun k h h' => d1 k (b1 k h) k (by simp [b3 k h']) rfl, fun k h h' => d2 k (b2 k h) k (b3 k h') rfl⟩
/-- What a call gives, as the laws' helpers take it. -/
theorem gives_gP {w : World} {g : gT} (e : Ending) (w' : World) (h : Gives rG w g e w') : gP w g e w' := by
  obtain ⟨cs, F, rfl, ho, hF, hb⟩ := h
  obtain ⟨P0, P1, P2, P3, rfl, h4⟩ := rG_gO ho hF
  exact ⟨P0, P1, P2, P3, rfl, h4, hb⟩
theorem gcap_rg {g : gT} (h : gcap g) : rG.cap g :=
  ⟨⟨h.1, fun _ _ => ⟨trivial, trivial⟩⟩, trivial, trivial, ⟨h.2.1, fun _ _ => ⟨trivial, trivial⟩⟩, ⟨h.2.2.1, fun _ _ => ⟨trivial, trivial⟩⟩, ⟨trivial, trivial, trivial⟩, trivial, ⟨trivial, trivial, trivial, trivial⟩, trivial, ⟨h.2.2.2, fun _ _ => trivial⟩⟩
/-- A guest as an object of a law: its memory is some of lo .. hi - 1. -/
def gI (lo hi : Nat) (g : gT) (P0 P1 P2 P3 : Value) : Res where
  says w := gO w lo hi g P0 P1 P2 P3
  foot k := lo ≤ k ∧ k < hi
  lo := lo
  hi := hi
  inn k h := h
  kept h hk := h.kept fun k h1 h2 => hk k ⟨h1, h2⟩
section
variable {w0 w w' : World} {L : List Res} {g : gT} {P0 P1 P2 P3 : Value}
theorem St.gotG (S : St w0 w L) (hb : Below w.heap.size w w') (h : gO w' w.heap.size w'.heap.size g P0 P1 P2 P3) : St w0 w' (gI w.heap.size w'.heap.size g P0 P1 P2 P3 :: L) :=
  S.add hb (gI w.heap.size w'.heap.size g P0 P1 P2 P3) h (Nat.le_refl _) (Nat.le_refl _)
theorem St.rgG (S : St w0 w L) (i : Nat) {lo hi : Nat} (h : L[i]? = some (gI lo hi g P0 P1 P2 P3)) : rG.rd w 0 w.heap.size g (gV g P0 P1 P2 P3) :=
  rG.wide (gO.rg (S.at_ i h)) (Nat.zero_le _) (S.hi i _ h)
theorem St.gRG (S : St w0 w L) (i : Nat) {lo hi : Nat} (h : L[i]? = some (gI lo hi g P0 P1 P2 P3)) : gR w lo hi g P0 P1 P2 P3 := (show gO w lo hi g P0 P1 P2 P3 from S.at_ i h).reads
theorem St.hiG (S : St w0 w L) (i : Nat) {lo hi : Nat} (h : L[i]? = some (gI lo hi g P0 P1 P2 P3)) : hi ≤ w.heap.size := S.hi i _ h
theorem St.markG {g' : gT} (S : St w0 w L) (i : Nat) {lo hi : Nat} (h : L[i]? = some (gI lo hi g P0 P1 P2 P3)) (ht : Turned lo hi w w') (ho : gO w' lo hi g' P0 P1 P2 P3) : St w0 w' (L.set i (gI lo hi g' P0 P1 P2 P3)) :=
  S.turn i h (gI lo hi g' P0 P1 P2 P3) (Only.of_turned ht fun k h1 h2 => ⟨h1, h2⟩) ho (fun k hk => .inl hk) (S.lo i (gI lo hi g P0 P1 P2 P3) h) (Nat.le_trans (S.hi i (gI lo hi g P0 P1 P2 P3) h) ht.size)
theorem St.oldG (S : St w0 w L) (h : gR w0 0 w0.heap.size g P0 P1 P2 P3) : gR w 0 w.heap.size g P0 P1 P2 P3 := (h.below S.below (Nat.le_refl _)).wide (Nat.le_refl _) S.below.size
end
end Go.Proofs.Ytmiokacihcpepaa.Guests
namespace Go.Proofs.Ytmiokacihcpepaa.Irqs
set_option maxRecDepth 100000
open Go.ChangeShapes Go.WideShapes Go.ChangeAt Go.RowKit
open Go.Proofs.Ytmiokacihcpepaa.Base Go.Proofs.Ytmiokacihcpepaa.Mem
set_option linter.unusedVariables false
set_option linter.unusedSimpArgs false
attribute [local go_sem] Oper.semAt_some

/-- The interrupts of p below k, the greatest first. -/
def descI (p : Int) : Nat → List Int
  | 0 => []
  | k + 1 => if bitN p k = 1 then (k : Int) :: descI p k else descI p k
def listI (p : Int) : List Int := if pend p = true then descI p 8 else []
theorem descI_succ (p : Int) (k : Nat) : descI p (k + 1) = if bitN p k = 1 then (k : Int) :: descI p k else descI p k := rfl
theorem descI_len (p : Int) : ∀ k : Nat, (descI p k).length ≤ k
  | 0 => Nat.le_refl _
  | k + 1 => by
    have h := descI_len p k
    unfold descI
    split <;> simp <;> omega
theorem listI_len (p : Int) : (listI p).length ≤ 8 := by
  unfold listI
  split
  · exact descI_len p 8
  · simp
theorem descI_top (p : Int) : ∀ k : Nat, topTo p k = (descI p k).headD (-1)
  | 0 => rfl
  | k + 1 => by
    have h := descI_top p k
    unfold descI topTo
    split
    · rfl
    · exact h
theorem listI_top (p : Int) : topI p = (listI p).headD (-1) := by
  unfold topI listI
  split
  · exact descI_top p 8
  · rfl
theorem descI_cnt {p : Int} (hp : pend p = true) : ∀ k : Nat, k ≤ 8 → cntTo p k = ((descI p k).length : Int)
  | 0, _ => rfl
  | k + 1, hk => by
    have h := descI_cnt hp k (by omega)
    have e : cntTo p (k + 1) = cntTo p k + bitN p k := rfl
    rw [e, h]
    rcases bitN_01 hp (show k < 8 by omega) with hb | hb
    · rw [hb, descI_succ, if_neg (by omega)]; simp
    · rw [descI_succ, if_pos hb, hb]; simp
theorem listI_cnt (p : Int) : cntI p = ((listI p).length : Int) := by
  unfold cntI listI
  split
  · rename_i h; exact descI_cnt h 8 (by omega)
  · rfl

section
variable (p n : Int) (w : World)

theorem andNot_all : ∀ x y : Fin 256, bits .andNot .i64 (x.val : Int) (y.val : Int) = bits .and .i64 (x.val : Int) (bits .xor .i64 255 (y.val : Int)) := by
  have in_255 : ∀ k : Fin 256, BitVec.ofInt 64 (k.val : Int) &&& BitVec.ofInt 64 255 = BitVec.ofInt 64 (k.val : Int) := by decide +kernel
  have xor_255 : ∀ k : Fin 256, BitVec.ofInt 64 (bits .xor .i64 255 (k.val : Int)) = BitVec.ofInt 64 255 &&& ~~~BitVec.ofInt 64 (k.val : Int) := by decide +kernel
  intro x y
  have h : BitVec.ofInt 64 (x.val : Int) &&& ~~~BitVec.ofInt 64 (y.val : Int) = BitVec.ofInt 64 (x.val : Int) &&& BitVec.ofInt 64 (bits .xor .i64 255 (y.val : Int)) := by
    rw [xor_255 y, ← BitVec.and_assoc, in_255 x]
  exact congrArg (fun z : BitVec 64 => IntKind.i64.wrap z.toNat) h

end

/-- What a round keeps: the cell in which p lies. -/
def KpI (Bn : Nat) (A B : World) : Prop := B.cell? ⟨Bn, 0, none⟩ = A.cell? ⟨Bn, 0, none⟩

theorem KpI_t {Bn : Nat} {A B C : World} (h : KpI Bn A B) (k : KpI Bn B C) : KpI Bn A C := k.trans h
theorem KpI_b {Bn : Nat} {w : World} (hn : Bn < w.heap.size) (W : World) (l : Nat) (o o' : Obj) (hl : w.heap.size ≤ l) (h : W.heap[l]? = some o) (k1 : o.isCells = false) (k2 : o.isWalk = false) : KpI Bn W (W.putObj l o') :=
  (belowK_b (n₀ := Bn + 1) (w := w) (by omega) W l o o' hl h k1 k2).cell (p := ⟨Bn, 0, none⟩) (by simp)
theorem cell_of_box_l {W : World} {B : Nat} {v : Value} {t : TypeId} (h : W.heap[B]? = some (.cells #[v] t (0, 0))) : W.cell? ⟨B, 0, none⟩ = some v ∧ W.frozen? ⟨B, 0, none⟩ = false := by
  constructor <;> simp [World.cell?, World.frozen?, h]
theorem cell_new_l (W : World) (v : Value) (t : TypeId) : (W.alloc (.cells #[v] t)).cell? ⟨W.heap.size, 0, none⟩ = some v ∧ (W.alloc (.cells #[v] t)).frozen? ⟨W.heap.size, 0, none⟩ = false :=
  cell_of_box_l (World.alloc_heap_new W _)
theorem cell_alloc_l {W : World} {a : Addr} {v : Value} (o : Obj) (h : W.cell? a = some v) : (W.alloc o).cell? a = some v := cell_kept h (World.grownBy_alloc W o none) (fun r e => by cases e)
theorem frozen_alloc_l {W : World} {a : Addr} {v : Value} (o : Obj) (h : W.cell? a = some v) (hf : W.frozen? a = false) : (W.alloc o).frozen? a = false := (frozen_kept h (World.grownBy_alloc W o none) (fun r e => by cases e)).trans hf

theorem andNot_pow : ∀ (x : Fin 256) (k : Fin 8), topI (x.val : Int) = (k.val : Int) → bits .andNot .i64 (x.val : Int) (2 ^ k.val) = (x.val : Int) - 2 ^ k.val := by decide +kernel

end Go.Proofs.Ytmiokacihcpepaa.Irqs
namespace Go.Proofs.Ytmiokacihcpepaa.Ctls
set_option maxRecDepth 100000
open Go.ChangeShapes Go.WideShapes Go.ChangeAt Go.RowKit
open Go.Proofs.Ytmiokacihcpepaa.Base Go.Proofs.Ytmiokacihcpepaa.Mem Go.Proofs.Ytmiokacihcpepaa.Data Go.Proofs.Ytmiokacihcpepaa.Ints Go.Proofs.Ytmiokacihcpepaa.Slots
set_option linter.unusedVariables false
set_option linter.unusedSimpArgs false

/-- The faults that four tests give, in their order. -/
def faultsL (p q r s : Bool) : List Int :=
  (if p = true then [1] else []) ++ ((if q = true then [2] else []) ++ ((if r = true then [3] else []) ++ (if s = true then [4] else [])))
/-- The first fault at or behind the number f. -/
def nextF (p q r s : Bool) (f : Int) : Int :=
  if f = 1 then (if p = true then 1 else if q = true then 2 else if r = true then 3 else if s = true then 4 else 0)
  else if f = 2 then (if q = true then 2 else if r = true then 3 else if s = true then 4 else 0)
  else if f = 3 then (if r = true then 3 else if s = true then 4 else 0)
  else if f = 4 then (if s = true then 4 else 0) else 0
def p1 (s : CT) : Bool := !inB s.1 0 3
def p2 (s : CT) : Bool := !inB s.2.1 0 255
def p3 (s : CT) : Bool := (s.2.1 != 0) && !s.2.2
def p4 (s : CT) : Bool := (s.2.1 != 0) && (s.1 == 2)
/-- How many elements a slice has. -/
def sliceLen : Value → Nat
  | .slice _ n _ => n
  | _ => 0
def nx (s : CT) (f : Int) : Int := nextF (p1 s) (p2 s) (p3 s) (p4 s) f
theorem ctlF_is (s : CT) : ctlF s = faultsL (p1 s) (p2 s) (p3 s) (p4 s) := by
  unfold ctlF faultsL p1 p2 p3 p4
  congr 1
  · cases inB s.1 0 3 <;> simp
  · congr 1
    · cases inB s.2.1 0 255 <;> simp
    · congr 1
      · by_cases h : s.2.1 = 0 <;> cases s.2.2 <;> simp [h]
      · by_cases h : s.2.1 = 0 <;> by_cases h2 : s.1 = 2 <;> simp [h, h2]
/-- The k-th fault, or 0 behind the last one. -/
def kth (p q r s : Bool) (k : Nat) : Int := (faultsL p q r s)[k]?.getD 0
theorem kth_zero : ∀ p q r s : Bool, nextF p q r s 1 = kth p q r s 0 := by decide +kernel
theorem kth_in : ∀ p q r s : Bool, ∀ k : Fin 4, k.val < (faultsL p q r s).length → (kth p q r s k.val = 1 ∨ kth p q r s k.val = 2 ∨ kth p q r s k.val = 3 ∨ kth p q r s k.val = 4) ∧ nextF p q r s (kth p q r s k.val + 1) = kth p q r s (k.val + 1) ∧ faultsL p q r s = faultsL p q r s ∧ (faultsL p q r s).take (k.val + 1) = (faultsL p q r s).take k.val ++ [kth p q r s k.val] := by decide +kernel
theorem kth_out : ∀ p q r s : Bool, kth p q r s (faultsL p q r s).length = 0 := by decide +kernel
theorem faultsL_le : ∀ p q r s : Bool, (faultsL p q r s).length ≤ 4 := by decide +kernel
theorem ok_next : ∀ p q r s : Bool, ((faultsL p q r s).length == 0) = (nextF p q r s 1 == 0) := by decide +kernel
theorem ctlOk_is (s : CT) : ctlOk s = (nx s 1 == 0) := by unfold ctlOk nx; rw [ctlF_is]; exact ok_next _ _ _ _

theorem posts_lo {s : CT} {n : Int} (h : n < 0) : posts s n = false := by unfold posts; rw [inB_false.2 (.inl h), Bool.and_false, Bool.false_and]
theorem posts_hi {s : CT} {n : Int} (h : 7 < n) : posts s n = false := by unfold posts; rw [inB_false.2 (.inr h), Bool.and_false, Bool.false_and]

end Go.Proofs.Ytmiokacihcpepaa.Ctls
namespace Go.Proofs.Ytmiokacihcpepaa.Inss
set_option maxRecDepth 100000
open Go.ChangeShapes Go.WideShapes Go.ChangeAt Go.RowKit
open Go.Proofs.Ytmiokacihcpepaa.Base Go.Proofs.Ytmiokacihcpepaa.Mem Go.Proofs.Ytmiokacihcpepaa.Data Go.Proofs.Ytmiokacihcpepaa.Addrs Go.Proofs.Ytmiokacihcpepaa.Rights
set_option linter.unusedVariables false
set_option linter.unusedSimpArgs false

/-- The largest X of an operation. -/
def topX (o : Int) : Int := if o = 1 ∨ o = 2 ∨ o = 5 ∨ o = 6 then 99 else if o = 3 ∨ o = 4 then 15 else if o = 7 then 0 else if o = 8 then 11 else -1
theorem insOk_top (o x : Int) : insOk (o, x) = (decide (0 ≤ x) && decide (x ≤ topX o)) := by
  unfold insOk topX
  dsimp only
  have hz : (x == 0) = (decide (0 ≤ x) && decide (x ≤ 0)) := by
    rw [Bool.eq_iff_iff, beq_iff_eq, Bool.and_eq_true, decide_eq_true_iff, decide_eq_true_iff]; omega
  have hb : ∀ k : Int, inB x 0 k = (decide (0 ≤ x) && decide (x ≤ k)) := fun k => by
    rw [Bool.eq_iff_iff, inB_iff, Bool.and_eq_true, decide_eq_true_iff, decide_eq_true_iff]
  have hn : false = (decide (0 ≤ x) && decide (x ≤ -1)) := by
    rw [eq_comm, Bool.and_eq_false_iff, decide_eq_false_iff_not, decide_eq_false_iff_not]; omega
  split
  · exact hb 99
  · split
    · exact hb 15
    · split
      · exact hz
      · split
        · exact hb 11
        · exact hn

theorem progOk_len {l : List JT} (h : l.length = 0 ∨ 12 < l.length) : progOk l = false := by
  unfold progOk
  rw [inB_false.2 (by omega), Bool.and_false]

theorem neq_pair (x y u v : Int) (W : World) : (binOp .neq 89 (.agg #[.int .i64 x, .int .i64 y]) (.agg #[.int .i64 u, .int .i64 v])).run Try.prog W = .ok (.bool (!(x == u && y == v))) W := by
  have u3 := Try.underlying3
  have a3 := Try.isAgg3
  have z3 := Try.sizeOf3
  have hS : Try.prog.underlying 89 = some (.struct (Try.prog.fieldsOf 89)) := by kernel_rfl
  have hp : Try.prog.stoodInHeld 89 = false := by kernel_rfl
  rw [run_neq_struct, show (10000 : Nat) = 9999 + 1 from rfl, run_equalIn_agg W 9999 89 _ _ hS hp]
  simp only [Program.fieldsOf, Try.underlying89]
  go_simp
  by_cases hx : x = u <;> by_cases hy : y = v <;> simp [hx, hy]

end Go.Proofs.Ytmiokacihcpepaa.Inss
namespace Go.Proofs.Ytmiokacihcpepaa.Guests
set_option maxRecDepth 100000
open Go.ChangeShapes Go.WideShapes Go.ChangeAt Go.RowKit
open Go.Proofs.Ytmiokacihcpepaa.Base Go.Proofs.Ytmiokacihcpepaa.Mem Go.Proofs.Ytmiokacihcpepaa.Data Go.Proofs.Ytmiokacihcpepaa.Slots Go.Proofs.Ytmiokacihcpepaa.Ints Go.Proofs.Ytmiokacihcpepaa.Ctls Go.Proofs.Ytmiokacihcpepaa.Exits Go.Proofs.Ytmiokacihcpepaa.Stt Go.Proofs.Ytmiokacihcpepaa.Irqs Go.Proofs.Ytmiokacihcpepaa.Inss
set_option linter.unusedVariables false
set_option linter.unusedSimpArgs false
/-- The numbers of a guest are of an int's range. -/
def gnum (g : gT) : Prop := wfGuest g
theorem gnum_pd {g : gT} (h : gnum g) : (Lit.int .i64 g.pd).wf = true := h.2.2.2.2.2.2.1
theorem gnum_t {g : gT} (h : gnum g) : wfC g.t := h.2.2.2.2.2.1
theorem gnum_x {g : gT} (h : gnum g) : wfQ g.x := h.2.2.2.2.2.2.2.1

set_option maxRecDepth 100000 in
set_option maxHeartbeats 4000000 in
theorem lib_cloneIns (xs : List (Int × Int)) (A : Option Addr) (c : Nat) (w : World) (hp : xs.length ≤ 1048576) (h : rdLst (rPair rInt rInt) w 0 w.heap.size xs [.slice A xs.length c]) : Calls Try.prog 60 #[.slice A xs.length c] w (Gives (rLst 89 (rPair rInt rInt)) w xs) := by
  rcases A with _ | ad
  · obtain rfl := Sx.p2_nothing h
    refine Sx.enter (args := [.slice none 0 c]) Try.func60 rfl Try.ntmps60 rfl ?_
    refine Sx.C.seq (Sx.C.region ?_)
    refine Sx.G.p (.slice none 0 0) ?_
    refine Sx.G.nil (Sx.E.next (Sx.C.seq (Sx.C.seq (Sx.C.region ?_))))
    refine Sx.G.p (.slice none 0 c) ?_
    refine Sx.G.p (.bool true) ?_
    refine Sx.G.nil (Sx.E.next ?_)
    refine Sx.C.yy ?_
    refine Sx.C.seq (Sx.C.region ?_)
    refine Sx.G.p (.slice none 0 0) ?_
    refine Sx.G.nil (Sx.E.next (Sx.C.ret (Sx.E.then_ret ?_)))
    refine Sx.E.ret1 (.slice none 0 0) rfl (by kernel_rfl) (fun w S => ?_)
    have S' := St.nil S 89 (rPair rInt rInt)
    exact ⟨[_], _, rfl, S'.own 0 rfl, S'.nodup 0 rfl, S.below⟩
  · refine Sx.enter (args := [.slice (some ad) xs.length c]) Try.func60 rfl Try.ntmps60 rfl ?_
    refine Sx.C.seq (Sx.C.region ?_)
    refine Sx.G.p (.slice none 0 0) ?_
    refine Sx.G.nil (Sx.E.next (Sx.C.seq (Sx.C.seq (Sx.C.region ?_))))
    refine Sx.G.p (.slice (some ad) xs.length c) ?_
    refine Sx.G.p (.bool false) ?_
    refine Sx.G.nil (Sx.E.next ?_)
    refine Sx.C.nn ?_
    refine Sx.C.skip (Sx.E.next (Sx.C.seq (Sx.C.region ?_)))
    refine Sx.G.fresh 89 (rPair rInt rInt) (by kernel_rfl) (fun w => by kernel_rfl) (fun b1 hi1 => ?_)
    refine Sx.G.p (.slice (some ad) xs.length c) ?_
    refine Sx.G.apps 0 rfl xs (fun w S => St.old (r := rLsw (rPair rInt rInt)) S h) (List.nil_append _) xs.length (by simp) flat_P2 (.tmp 5) (.tmp 6) 47 2 16 rfl rfl (by kernel_rfl) (by kernel_rfl) rfl (by kernel_rfl) (by kernel_rfl) (by simp only [maxLen, List.length_nil, List.length_cons]; omega) (by simp only [List.length_nil, List.length_cons]; omega) (fun A2 c2 F2 hi2 hm2 => ?_)
    refine Sx.G.p (.slice A2 xs.length c2) ?_
    refine Sx.G.nil (Sx.E.next (Sx.C.ret ?_))
    refine Sx.E.ret1 (.slice A2 xs.length c2) rfl (by kernel_rfl) (fun w S => ?_)
    exact ⟨[_], _, rfl, S.own 0 rfl, S.nodup 0 rfl, S.below⟩

set_option maxRecDepth 100000 in
set_option maxHeartbeats 4000000 in
theorem lib_cloneSlot (xs : List (Int × Int)) (A : Option Addr) (c : Nat) (w : World) (hp : xs.length ≤ 1048576) (h : rdLst (rPair rInt rInt) w 0 w.heap.size xs [.slice A xs.length c]) : Calls Try.prog 61 #[.slice A xs.length c] w (Gives (rLst 91 (rPair rInt rInt)) w xs) := by
  rcases A with _ | ad
  · obtain rfl := Sx.p2_nothing h
    refine Sx.enter (args := [.slice none 0 c]) Try.func61 rfl Try.ntmps61 rfl ?_
    refine Sx.C.seq (Sx.C.region ?_)
    refine Sx.G.p (.slice none 0 0) ?_
    refine Sx.G.nil (Sx.E.next (Sx.C.seq (Sx.C.seq (Sx.C.region ?_))))
    refine Sx.G.p (.slice none 0 c) ?_
    refine Sx.G.p (.bool true) ?_
    refine Sx.G.nil (Sx.E.next ?_)
    refine Sx.C.yy ?_
    refine Sx.C.seq (Sx.C.region ?_)
    refine Sx.G.p (.slice none 0 0) ?_
    refine Sx.G.nil (Sx.E.next (Sx.C.ret (Sx.E.then_ret ?_)))
    refine Sx.E.ret1 (.slice none 0 0) rfl (by kernel_rfl) (fun w S => ?_)
    have S' := St.nil S 91 (rPair rInt rInt)
    exact ⟨[_], _, rfl, S'.own 0 rfl, S'.nodup 0 rfl, S.below⟩
  · refine Sx.enter (args := [.slice (some ad) xs.length c]) Try.func61 rfl Try.ntmps61 rfl ?_
    refine Sx.C.seq (Sx.C.region ?_)
    refine Sx.G.p (.slice none 0 0) ?_
    refine Sx.G.nil (Sx.E.next (Sx.C.seq (Sx.C.seq (Sx.C.region ?_))))
    refine Sx.G.p (.slice (some ad) xs.length c) ?_
    refine Sx.G.p (.bool false) ?_
    refine Sx.G.nil (Sx.E.next ?_)
    refine Sx.C.nn ?_
    refine Sx.C.skip (Sx.E.next (Sx.C.seq (Sx.C.region ?_)))
    refine Sx.G.fresh 91 (rPair rInt rInt) (by kernel_rfl) (fun w => by kernel_rfl) (fun b1 hi1 => ?_)
    refine Sx.G.p (.slice (some ad) xs.length c) ?_
    refine Sx.G.apps 0 rfl xs (fun w S => St.old (r := rLsw (rPair rInt rInt)) S h) (List.nil_append _) xs.length (by simp) flat_P2 (.tmp 5) (.tmp 6) 48 2 16 rfl rfl (by kernel_rfl) (by kernel_rfl) rfl (by kernel_rfl) (by kernel_rfl) (by simp only [maxLen, List.length_nil, List.length_cons]; omega) (by simp only [List.length_nil, List.length_cons]; omega) (fun A2 c2 F2 hi2 hm2 => ?_)
    refine Sx.G.p (.slice A2 xs.length c2) ?_
    refine Sx.G.nil (Sx.E.next (Sx.C.ret ?_))
    refine Sx.E.ret1 (.slice A2 xs.length c2) rfl (by kernel_rfl) (fun w S => ?_)
    exact ⟨[_], _, rfl, S.own 0 rfl, S.nodup 0 rfl, S.below⟩

set_option maxRecDepth 100000 in
set_option maxHeartbeats 4000000 in
theorem lib_cloneInt (xs : List (Int)) (A : Option Addr) (c : Nat) (w : World) (hp : xs.length ≤ 1048576) (h : rdLst rInt w 0 w.heap.size xs [.slice A xs.length c]) : Calls Try.prog 62 #[.slice A xs.length c] w (Gives (rLst 3 rInt) w xs) := by
  rcases A with _ | ad
  · obtain rfl := Sx.i1_nothing h
    refine Sx.enter (args := [.slice none 0 c]) Try.func62 rfl Try.ntmps62 rfl ?_
    refine Sx.C.seq (Sx.C.region ?_)
    refine Sx.G.p (.slice none 0 0) ?_
    refine Sx.G.nil (Sx.E.next (Sx.C.seq (Sx.C.seq (Sx.C.region ?_))))
    refine Sx.G.p (.slice none 0 c) ?_
    refine Sx.G.p (.bool true) ?_
    refine Sx.G.nil (Sx.E.next ?_)
    refine Sx.C.yy ?_
    refine Sx.C.seq (Sx.C.region ?_)
    refine Sx.G.p (.slice none 0 0) ?_
    refine Sx.G.nil (Sx.E.next (Sx.C.ret (Sx.E.then_ret ?_)))
    refine Sx.E.ret1 (.slice none 0 0) rfl (by kernel_rfl) (fun w S => ?_)
    have S' := St.nil S 3 rInt
    exact ⟨[_], _, rfl, S'.own 0 rfl, S'.nodup 0 rfl, S.below⟩
  · refine Sx.enter (args := [.slice (some ad) xs.length c]) Try.func62 rfl Try.ntmps62 rfl ?_
    refine Sx.C.seq (Sx.C.region ?_)
    refine Sx.G.p (.slice none 0 0) ?_
    refine Sx.G.nil (Sx.E.next (Sx.C.seq (Sx.C.seq (Sx.C.region ?_))))
    refine Sx.G.p (.slice (some ad) xs.length c) ?_
    refine Sx.G.p (.bool false) ?_
    refine Sx.G.nil (Sx.E.next ?_)
    refine Sx.C.nn ?_
    refine Sx.C.skip (Sx.E.next (Sx.C.seq (Sx.C.region ?_)))
    refine Sx.G.fresh 3 rInt (by kernel_rfl) (fun w => by kernel_rfl) (fun b1 hi1 => ?_)
    refine Sx.G.p (.slice (some ad) xs.length c) ?_
    refine Sx.G.apps 0 rfl xs (fun w S => St.old (r := rLsw rInt) S h) (List.nil_append _) xs.length (by simp) flat_int (.tmp 5) (.tmp 6) 24 1 8 rfl rfl (by kernel_rfl) (by kernel_rfl) rfl (by kernel_rfl) (by kernel_rfl) (by simp only [maxLen, List.length_nil, List.length_cons]; omega) (by simp only [List.length_nil, List.length_cons]; omega) (fun A2 c2 F2 hi2 hm2 => ?_)
    refine Sx.G.p (.slice A2 xs.length c2) ?_
    refine Sx.G.nil (Sx.E.next (Sx.C.ret ?_))
    refine Sx.E.ret1 (.slice A2 xs.length c2) rfl (by kernel_rfl) (fun w S => ?_)
    exact ⟨[_], _, rfl, S.own 0 rfl, S.nodup 0 rfl, S.below⟩

set_option maxRecDepth 100000 in
set_option maxHeartbeats 4000000 in
theorem impl_regs (g : gT) (cs : List Value) (w : World) (h : rG.rd w 0 w.heap.size g cs) : Calls Try.prog 36 #[.agg cs.toArray] w (fun e w' => e = .returned (.agg #[.int .i64 g.a, .int .i64 g.pc, .int .i64 g.t.1, .int .i64 g.t.2.1, .bool g.t.2.2, .int .i64 g.pd, .int .i64 g.x.1, .int .i64 g.x.2.1, .bool g.x.2.2.1, .int .i64 g.x.2.2.2, .bool g.hl]) ∧ Below w.heap.size w w') := by
  have hr := h
  obtain ⟨P0, P1, P2, P3, rfl, h0, h1, h2, h3⟩ := rG_rd h
  obtain ⟨PA0, Pc0, e0, hP0⟩ := lst_val h0
  subst e0
  obtain ⟨PA1, Pc1, e1, hP1⟩ := lst_val h1
  subst e1
  obtain ⟨PA2, Pc2, e2, hP2⟩ := lst_val h2
  subst e2
  obtain ⟨PA3, Pc3, e3, hP3⟩ := lst_val h3
  subst e3
  refine Sx.enter (args := [.agg #[.slice PA0 g.prog.length Pc0, .int .i64 g.a, .int .i64 g.pc, .slice PA1 g.wr.length Pc1, .slice PA2 g.lv.length Pc2, .int .i64 g.t.1, .int .i64 g.t.2.1, .bool g.t.2.2, .int .i64 g.pd, .int .i64 g.x.1, .int .i64 g.x.2.1, .bool g.x.2.2.1, .int .i64 g.x.2.2.2, .bool g.hl, .slice PA3 g.seen.length Pc3]]) Try.func36 rfl Try.ntmps36 rfl ?_
  refine Sx.C.seq (Sx.C.region ?_)
  refine Sx.G.b [.slice PA0 g.prog.length Pc0, .int .i64 g.a, .int .i64 g.pc, .slice PA1 g.wr.length Pc1, .slice PA2 g.lv.length Pc2, .int .i64 g.t.1, .int .i64 g.t.2.1, .bool g.t.2.2, .int .i64 g.pd, .int .i64 g.x.1, .int .i64 g.x.2.1, .bool g.x.2.2.1, .int .i64 g.x.2.2.2, .bool g.hl, .slice PA3 g.seen.length Pc3] (fun b1 => ?_)
  refine Sx.G.ar [.int .i64 0, .int .i64 0, .int .i64 0, .int .i64 0, .bool false, .int .i64 0, .int .i64 0, .int .i64 0, .bool false, .int .i64 0, .bool false] (fun b2 => ?_)
  refine Sx.G.nil (Sx.E.next (Sx.C.seq (Sx.C.region ?_)))
  refine Sx.G.p (.pointer (some ⟨b1, 1, none⟩)) ?_
  refine Sx.G.g (.int .i64 g.a) .m1 .m1 ?_
  refine Sx.G.p (.pointer (some ⟨b1, 2, none⟩)) ?_
  refine Sx.G.g (.int .i64 g.pc) .m1 .m2 ?_
  refine Sx.G.p (.pointer (some ⟨b1, 5, none⟩)) ?_
  refine Sx.G.lp 5 [.int .i64 g.t.1, .int .i64 g.t.2.1, .bool g.t.2.2] .m1 ?_
  refine Sx.G.p (.pointer (some ⟨b1, 8, none⟩)) ?_
  refine Sx.G.g (.int .i64 g.pd) .m1 .m8 ?_
  refine Sx.G.p (.pointer (some ⟨b1, 9, none⟩)) ?_
  refine Sx.G.lp 9 [.int .i64 g.x.1, .int .i64 g.x.2.1, .bool g.x.2.2.1, .int .i64 g.x.2.2.2] .m1 ?_
  refine Sx.G.p (.pointer (some ⟨b1, 13, none⟩)) ?_
  refine Sx.G.g (.bool g.hl) .m1 .m13 ?_
  refine Sx.G.p (.agg #[.int .i64 g.a, .int .i64 g.pc, .int .i64 g.t.1, .int .i64 g.t.2.1, .bool g.t.2.2, .int .i64 g.pd, .int .i64 g.x.1, .int .i64 g.x.2.1, .bool g.x.2.2.1, .int .i64 g.x.2.2.2, .bool g.hl]) ?_
  refine Sx.G.sw [.int .i64 g.a, .int .i64 g.pc, .int .i64 g.t.1, .int .i64 g.t.2.1, .bool g.t.2.2, .int .i64 g.pd, .int .i64 g.x.1, .int .i64 g.x.2.1, .bool g.x.2.2.1, .int .i64 g.x.2.2.2, .bool g.hl] .a0 ?_
  refine Sx.G.nil (Sx.E.next (Sx.C.ret ?_))
  refine Sx.E.retc b2 0 [.int .i64 g.a, .int .i64 g.pc, .int .i64 g.t.1, .int .i64 g.t.2.1, .bool g.t.2.2, .int .i64 g.pd, .int .i64 g.x.1, .int .i64 g.x.2.1, .bool g.x.2.2.1, .int .i64 g.x.2.2.2, .bool g.hl] rfl (by kernel_rfl) rfl (by kernel_rfl) (by kernel_rfl) (fun w S => ?_)
  exact ⟨rfl, S.below⟩
def regOk (g : gT) : Bool := inB g.a 0 99 && decide (g.pc ≥ 0) && decide (g.pc ≤ 12) && ctlOk g.t && pend g.pd && exitOk g.x
theorem guestOk_reg (g : gT) : guestOk g = (progOk g.prog && regOk g && okTab g.wr 4 8 && okTab g.lv 4 8 && decide ((g.seen.length : Int) ≤ 40)) := by
  unfold guestOk regOk
  rw [show inB g.pc 0 12 = (decide (g.pc ≥ 0) && decide (g.pc ≤ 12)) from rfl]
  generalize progOk g.prog = a1; generalize inB g.a 0 99 = a2; generalize decide (g.pc ≥ 0) = a3; generalize decide (g.pc ≤ 12) = a4; generalize ctlOk g.t = a5; generalize pend g.pd = a6; generalize exitOk g.x = a7; generalize okTab g.wr 4 8 = a8; generalize okTab g.lv 4 8 = a9; generalize decide ((g.seen.length : Int) ≤ 40) = a0
  revert a0 a1 a2 a3 a4 a5 a6 a7 a8 a9; decide

set_option maxRecDepth 100000 in
set_option maxHeartbeats 4000000 in
theorem impl_regCan (g : gT) (w : World)  : Calls Try.prog 37 #[.agg #[.int .i64 g.a, .int .i64 g.pc, .int .i64 g.t.1, .int .i64 g.t.2.1, .bool g.t.2.2, .int .i64 g.pd, .int .i64 g.x.1, .int .i64 g.x.2.1, .bool g.x.2.2.1, .int .i64 g.x.2.2.2, .bool g.hl]] w fun e w' => e = .returned (.bool (canRun g)) ∧ Below w.heap.size w w' := by
  refine Sx.enter (args := [.agg #[.int .i64 g.a, .int .i64 g.pc, .int .i64 g.t.1, .int .i64 g.t.2.1, .bool g.t.2.2, .int .i64 g.pd, .int .i64 g.x.1, .int .i64 g.x.2.1, .bool g.x.2.2.1, .int .i64 g.x.2.2.2, .bool g.hl]]) Try.func37 rfl Try.ntmps37 rfl ?_
  refine Sx.C.seq (Sx.C.region ?_)
  refine Sx.G.b [.int .i64 g.a, .int .i64 g.pc, .int .i64 g.t.1, .int .i64 g.t.2.1, .bool g.t.2.2, .int .i64 g.pd, .int .i64 g.x.1, .int .i64 g.x.2.1, .bool g.x.2.2.1, .int .i64 g.x.2.2.2, .bool g.hl] (fun b1 => ?_)
  refine Sx.G.p (.bool false) ?_
  refine Sx.G.nil (Sx.E.next (Sx.C.seq (Sx.C.region ?_)))
  refine Sx.G.p (.pointer (some ⟨b1, 6, none⟩)) ?_
  refine Sx.G.lp 6 [.int .i64 g.x.1, .int .i64 g.x.2.1, .bool g.x.2.2.1, .int .i64 g.x.2.2.2] .m0 ?_
  refine Sx.G.p (.agg #[.int .i64 0, .int .i64 0, .bool false, .int .i64 0]) ?_
  refine Sx.G.pure (.bool ((g.x.1 == 0 && g.x.2.1 == 0 && g.x.2.2.1 == false && g.x.2.2.2 == 0))) (by kernel_rfl) (fun w => Sx.run_eqs rfl rfl rfl (by kernel_rfl) (fun w => eqv_Exit_eql g.x.1 g.x.2.1 g.x.2.2.1 g.x.2.2.2 0 0 false 0 w) w) ?_
  refine Sx.G.p (.bool ((g.x.1 == 0 && g.x.2.1 == 0 && g.x.2.2.1 == false && g.x.2.2.2 == 0))) ?_
  cases hc2 : ((g.x.1 == 0 && g.x.2.1 == 0 && g.x.2.2.1 == false && g.x.2.2.2 == 0))
  · have hb2 := hc2
    refine Sx.G.k ?_
    refine Sx.G.k ?_
    refine Sx.G.k ?_
    refine Sx.G.p (.bool false) ?_
    refine Sx.G.p (.bool false) ?_
    refine Sx.G.nil (Sx.E.next (Sx.C.ret ?_))
    refine Sx.E.ret1 (.bool false) rfl (by kernel_rfl) (fun w S => ?_)
    exact ⟨congrArg Ending.returned (congrArg Value.bool (by simp only [canRun, hb2, Bool.and_true, Bool.and_false, Bool.false_and, Bool.true_and])), S.below⟩
  · have hb2 := hc2
    refine Sx.G.p (.pointer (some ⟨b1, 10, none⟩)) ?_
    refine Sx.G.g (.bool g.hl) .m0 .m10 ?_
    refine Sx.G.p (.bool (!g.hl)) ?_
    refine Sx.G.p (.bool (!g.hl)) ?_
    refine Sx.G.p (.bool (!g.hl)) ?_
    refine Sx.G.nil (Sx.E.next (Sx.C.ret ?_))
    refine Sx.E.ret1 (.bool (!g.hl)) rfl (by kernel_rfl) (fun w S => ?_)
    exact ⟨congrArg Ending.returned (congrArg Value.bool (by simp only [canRun, hb2, Bool.and_true, Bool.and_false, Bool.false_and, Bool.true_and])), S.below⟩

set_option maxRecDepth 100000 in
set_option maxHeartbeats 4000000 in
theorem impl_copyM (g : gT) (cs : List Value) (w : World) (hc : rG.cap g) (h : rG.rd w 0 w.heap.size g cs) : Calls Try.prog 54 #[.agg cs.toArray] w (fun e w' => ∃ (b : Nat) (A0 : Option Addr) (c0 l0 h0 : Nat) (F0 : List Nat) (A1 : Option Addr) (c1 l1 h1 : Nat) (F1 : List Nat) (A2 : Option Addr) (c2 l2 h2 : Nat) (F2 : List Nat) (A3 : Option Addr) (c3 l3 h3 : Nat) (F3 : List Nat), e = .returned (.pointer (some ⟨b, 0, none⟩)) ∧ St w w' [vr b [.int .i64 g.a, .int .i64 g.pc, .int .i64 g.t.1, .int .i64 g.t.2.1, .bool g.t.2.2, .int .i64 g.pd, .int .i64 g.x.1, .int .i64 g.x.2.1, .bool g.x.2.2.1, .int .i64 g.x.2.2.2, .bool g.hl, .slice A0 g.prog.length c0, .slice A1 g.wr.length c1, .slice A2 g.lv.length c2, .slice A3 g.seen.length c3], ow (rLst 89 (rPair rInt rInt)) l0 h0 g.prog [.slice A0 g.prog.length c0] F0, ow (rLst 91 (rPair rInt rInt)) l1 h1 g.wr [.slice A1 g.wr.length c1] F1, ow (rLst 91 (rPair rInt rInt)) l2 h2 g.lv [.slice A2 g.lv.length c2] F2, ow (rLst 3 rInt) l3 h3 g.seen [.slice A3 g.seen.length c3] F3]) := by
  obtain ⟨q0, q1, q2, q3⟩ := rG_len hc
  have hr := h
  obtain ⟨P0, P1, P2, P3, rfl, h0, h1, h2, h3⟩ := rG_rd h
  obtain ⟨PA0, Pc0, e0, hP0⟩ := lst_val h0
  subst e0
  obtain ⟨PA1, Pc1, e1, hP1⟩ := lst_val h1
  subst e1
  obtain ⟨PA2, Pc2, e2, hP2⟩ := lst_val h2
  subst e2
  obtain ⟨PA3, Pc3, e3, hP3⟩ := lst_val h3
  subst e3
  refine Sx.enter (args := [.agg #[.slice PA0 g.prog.length Pc0, .int .i64 g.a, .int .i64 g.pc, .slice PA1 g.wr.length Pc1, .slice PA2 g.lv.length Pc2, .int .i64 g.t.1, .int .i64 g.t.2.1, .bool g.t.2.2, .int .i64 g.pd, .int .i64 g.x.1, .int .i64 g.x.2.1, .bool g.x.2.2.1, .int .i64 g.x.2.2.2, .bool g.hl, .slice PA3 g.seen.length Pc3]]) Try.func54 rfl Try.ntmps54 rfl ?_
  refine Sx.C.seq (Sx.C.region ?_)
  refine Sx.G.b [.slice PA0 g.prog.length Pc0, .int .i64 g.a, .int .i64 g.pc, .slice PA1 g.wr.length Pc1, .slice PA2 g.lv.length Pc2, .int .i64 g.t.1, .int .i64 g.t.2.1, .bool g.t.2.2, .int .i64 g.pd, .int .i64 g.x.1, .int .i64 g.x.2.1, .bool g.x.2.2.1, .int .i64 g.x.2.2.2, .bool g.hl, .slice PA3 g.seen.length Pc3] (fun b1 => ?_)
  refine Sx.G.p (.pointer none) ?_
  refine Sx.G.nil (Sx.E.next (Sx.C.seq ?_))
  refine Sx.C.draw (.take 0 (.take 2 (.take 3 (.take 5 (.take 6 (.take 8 (.take 9 (.take 11 (.take 12 (.alone 1 (.alone 4 (.alone 7 (.alone 10 (.alone 13 (.take 14 (.alone 15 (.take 16 .nil))))))))))))))))) [vr b1 [.slice PA0 g.prog.length Pc0, .int .i64 g.a, .int .i64 g.pc, .slice PA1 g.wr.length Pc1, .slice PA2 g.lv.length Pc2, .int .i64 g.t.1, .int .i64 g.t.2.1, .bool g.t.2.2, .int .i64 g.pd, .int .i64 g.x.1, .int .i64 g.x.2.1, .bool g.x.2.2.1, .int .i64 g.x.2.2.2, .bool g.hl, .slice PA3 g.seen.length Pc3]] (fun w S => St.pick S [0] _ rfl (by decide)) (by kernel_rfl) (by kernel_rfl) (by kernel_rfl) ?_
  refine Sx.GT.lw .m0 ?_
  refine Sx.GT.p (.pointer (some ⟨b1, 0, none⟩)) ?_
  refine Sx.GT.g (.slice PA0 g.prog.length Pc0) .m0 .m0 ?_
  refine Sx.GT.p (.pointer (some ⟨b1, 3, none⟩)) ?_
  refine Sx.GT.g (.slice PA1 g.wr.length Pc1) .m0 .m3 ?_
  refine Sx.GT.p (.pointer (some ⟨b1, 4, none⟩)) ?_
  refine Sx.GT.g (.slice PA2 g.lv.length Pc2) .m0 .m4 ?_
  refine Sx.GT.p (.pointer (some ⟨b1, 14, none⟩)) ?_
  refine Sx.GT.g (.slice PA3 g.seen.length Pc3) .m0 .m14 ?_
  refine Sx.GT.alone (Sx.Alone.cp 36 #[.agg #[.slice PA0 g.prog.length Pc0, .int .i64 g.a, .int .i64 g.pc, .slice PA1 g.wr.length Pc1, .slice PA2 g.lv.length Pc2, .int .i64 g.t.1, .int .i64 g.t.2.1, .bool g.t.2.2, .int .i64 g.pd, .int .i64 g.x.1, .int .i64 g.x.2.1, .bool g.x.2.2.1, .int .i64 g.x.2.2.2, .bool g.hl, .slice PA3 g.seen.length Pc3]] (.agg #[.int .i64 g.a, .int .i64 g.pc, .int .i64 g.t.1, .int .i64 g.t.2.1, .bool g.t.2.2, .int .i64 g.pd, .int .i64 g.x.1, .int .i64 g.x.2.1, .bool g.x.2.2.1, .int .i64 g.x.2.2.2, .bool g.hl]) (fun w S => by exact impl_regs g _ _ (St.old S hr)) (fun w S => St.pick S [0] _ rfl (by decide)) ?_)
  refine Sx.GT.alone (Sx.Alone.c 60 #[.slice PA0 g.prog.length Pc0] (fun w2 S => (lib_cloneIns g.prog PA0 Pc0 _ q0 (St.old S h0)).mono fun e w2' hp => ?_))
  obtain ⟨cs, F, rfl, ho, hF, hb⟩ := hp
  obtain ⟨u2, rfl⟩ := lst_own ho
  obtain ⟨A2, c2, e2, -⟩ := lst_val ((St.got S hb ho hF).reads 0 rfl)
  subst e2
  generalize F = F2 at ho hF
  refine ⟨_, _, rfl, (St.got S hb ho hF), (fun w S => St.pick S [1] _ rfl (by decide)), ?_⟩
  clear S hb ho hF
  refine Sx.GT.alone (Sx.Alone.c 61 #[.slice PA1 g.wr.length Pc1] (fun w3 S => (lib_cloneSlot g.wr PA1 Pc1 _ q1 (St.old S h1)).mono fun e w3' hp => ?_))
  obtain ⟨cs, F, rfl, ho, hF, hb⟩ := hp
  obtain ⟨u3, rfl⟩ := lst_own ho
  obtain ⟨A3, c3, e3, -⟩ := lst_val ((St.got S hb ho hF).reads 0 rfl)
  subst e3
  generalize F = F3 at ho hF
  refine ⟨_, _, rfl, (St.got S hb ho hF), (fun w S => St.pick S [2] _ rfl (by decide)), ?_⟩
  clear S hb ho hF
  refine Sx.GT.alone (Sx.Alone.c 61 #[.slice PA2 g.lv.length Pc2] (fun w4 S => (lib_cloneSlot g.lv PA2 Pc2 _ q2 (St.old S h2)).mono fun e w4' hp => ?_))
  obtain ⟨cs, F, rfl, ho, hF, hb⟩ := hp
  obtain ⟨u4, rfl⟩ := lst_own ho
  obtain ⟨A4, c4, e4, -⟩ := lst_val ((St.got S hb ho hF).reads 0 rfl)
  subst e4
  generalize F = F4 at ho hF
  refine ⟨_, _, rfl, (St.got S hb ho hF), (fun w S => St.pick S [3] _ rfl (by decide)), ?_⟩
  clear S hb ho hF
  refine Sx.GT.alone (Sx.Alone.c 62 #[.slice PA3 g.seen.length Pc3] (fun w5 S => (lib_cloneInt g.seen PA3 Pc3 _ q3 (St.old S h3)).mono fun e w5' hp => ?_))
  obtain ⟨cs, F, rfl, ho, hF, hb⟩ := hp
  obtain ⟨u5, rfl⟩ := lst_own ho
  obtain ⟨A5, c5, e5, -⟩ := lst_val ((St.got S hb ho hF).reads 0 rfl)
  subst e5
  generalize F = F5 at ho hF
  refine ⟨_, _, rfl, (St.got S hb ho hF), (fun w S => St.pick S [4] _ rfl (by decide)), ?_⟩
  clear S hb ho hF
  refine Sx.GT.p (.agg #[.int .i64 g.a, .int .i64 g.pc, .int .i64 g.t.1, .int .i64 g.t.2.1, .bool g.t.2.2, .int .i64 g.pd, .int .i64 g.x.1, .int .i64 g.x.2.1, .bool g.x.2.2.1, .int .i64 g.x.2.2.2, .bool g.hl, .slice A2 g.prog.length c2, .slice A3 g.wr.length c3, .slice A4 g.lv.length c4, .slice A5 g.seen.length c5]) ?_
  refine Sx.GT.alone (Sx.Alone.b [.int .i64 g.a, .int .i64 g.pc, .int .i64 g.t.1, .int .i64 g.t.2.1, .bool g.t.2.2, .int .i64 g.pd, .int .i64 g.x.1, .int .i64 g.x.2.1, .bool g.x.2.2.1, .int .i64 g.x.2.2.2, .bool g.hl, .slice A2 g.prog.length c2, .slice A3 g.wr.length c3, .slice A4 g.lv.length c4, .slice A5 g.seen.length c5] (fun w S => St.pick S [4] _ rfl (by decide)) (fun b6 => ?_))
  refine Sx.GT.p (.pointer (some ⟨b6, 0, none⟩)) ?_
  refine Sx.GT.nil (Sx.E.next (Sx.C.ret ?_))
  refine Sx.E.ret1 (.pointer (some ⟨b6, 0, none⟩)) rfl (by kernel_rfl) (fun w S => ?_)
  exact ⟨_, _, _, _, _, _, _, _, _, _, _, _, _, _, _, _, _, _, _, _, _, rfl, St.pick S [0, 4, 3, 2, 1] _ rfl (by decide)⟩

set_option maxRecDepth 100000 in
set_option maxHeartbeats 4000000 in
theorem impl_guestM {w0 w : World} {b : Nat} {R : List Res} {A0 A1 A2 A3 : Option Addr} {c0 c1 c2 c3 : Nat} (g : gT) (S : St w0 w (vr b [.int .i64 g.a, .int .i64 g.pc, .int .i64 g.t.1, .int .i64 g.t.2.1, .bool g.t.2.2, .int .i64 g.pd, .int .i64 g.x.1, .int .i64 g.x.2.1, .bool g.x.2.2.1, .int .i64 g.x.2.2.2, .bool g.hl, .slice A0 g.prog.length c0, .slice A1 g.wr.length c1, .slice A2 g.lv.length c2, .slice A3 g.seen.length c3] :: R)) : Calls Try.prog 55 #[.pointer (some ⟨b, 0, none⟩)] w fun e w' => e = .returned (.agg #[.slice A0 g.prog.length c0, .int .i64 g.a, .int .i64 g.pc, .slice A1 g.wr.length c1, .slice A2 g.lv.length c2, .int .i64 g.t.1, .int .i64 g.t.2.1, .bool g.t.2.2, .int .i64 g.pd, .int .i64 g.x.1, .int .i64 g.x.2.1, .bool g.x.2.2.1, .int .i64 g.x.2.2.2, .bool g.hl, .slice A3 g.seen.length c3]) ∧ St w0 w' (vr b [.int .i64 g.a, .int .i64 g.pc, .int .i64 g.t.1, .int .i64 g.t.2.1, .bool g.t.2.2, .int .i64 g.pd, .int .i64 g.x.1, .int .i64 g.x.2.1, .bool g.x.2.2.1, .int .i64 g.x.2.2.2, .bool g.hl, .slice A0 g.prog.length c0, .slice A1 g.wr.length c1, .slice A2 g.lv.length c2, .slice A3 g.seen.length c3] :: R) := by
  refine Sx.enterS (args := [.pointer (some ⟨b, 0, none⟩)]) S Try.func55 rfl Try.ntmps55 rfl ?_
  refine Sx.C.seq (Sx.C.region ?_)
  refine Sx.G.ar [.slice none 0 0, .int .i64 0, .int .i64 0, .slice none 0 0, .slice none 0 0, .int .i64 0, .int .i64 0, .bool false, .int .i64 0, .int .i64 0, .int .i64 0, .bool false, .int .i64 0, .bool false, .slice none 0 0] (fun b1 => ?_)
  refine Sx.G.nil (Sx.E.next (Sx.C.seq ?_))
  refine Sx.C.draw (.take 0 (.take 1 (.take 2 (.take 3 (.take 4 (.take 5 (.take 6 (.take 7 (.take 8 (.take 9 (.take 10 (.take 11 (.take 12 (.take 13 (.take 14 (.take 15 (.take 16 (.take 17 (.take 18 (.take 19 (.take 20 (.take 21 (.take 22 (.take 23 (.take 24 (.take 25 (.take 26 (.take 27 (.take 28 (.take 29 (.take 30 (.take 31 (.take 32 (.take 33 (.take 34 (.take 35 (.take 36 (.take 37 (.take 38 (.take 39 (.take 40 (.take 41 (.take 42 (.take 43 (.take 44 (.take 45 (.take 46 (.alone 47 .nil)))))))))))))))))))))))))))))))))))))))))))))))) [vr b [.int .i64 g.a, .int .i64 g.pc, .int .i64 g.t.1, .int .i64 g.t.2.1, .bool g.t.2.2, .int .i64 g.pd, .int .i64 g.x.1, .int .i64 g.x.2.1, .bool g.x.2.2.1, .int .i64 g.x.2.2.2, .bool g.hl, .slice A0 g.prog.length c0, .slice A1 g.wr.length c1, .slice A2 g.lv.length c2, .slice A3 g.seen.length c3]] (fun w S => St.pick S [1] _ rfl (by decide)) (by kernel_rfl) (by kernel_rfl) (by kernel_rfl) ?_
  refine Sx.GT.p (.pointer (some ⟨b, 0, none⟩)) ?_
  refine Sx.GT.p (.pointer (some ⟨b, 0, none⟩)) ?_
  refine Sx.GT.p (.pointer (some ⟨b, 11, none⟩)) ?_
  refine Sx.GT.g (.slice A0 g.prog.length c0) .m0 .m11 ?_
  refine Sx.GT.p (.pointer (some ⟨b, 0, none⟩)) ?_
  refine Sx.GT.p (.pointer (some ⟨b, 0, none⟩)) ?_
  refine Sx.GT.p (.pointer (some ⟨b, 0, none⟩)) ?_
  refine Sx.GT.p (.pointer (some ⟨b, 0, none⟩)) ?_
  refine Sx.GT.g (.int .i64 g.a) .m0 .m0 ?_
  refine Sx.GT.p (.pointer (some ⟨b, 0, none⟩)) ?_
  refine Sx.GT.p (.pointer (some ⟨b, 0, none⟩)) ?_
  refine Sx.GT.p (.pointer (some ⟨b, 0, none⟩)) ?_
  refine Sx.GT.p (.pointer (some ⟨b, 1, none⟩)) ?_
  refine Sx.GT.g (.int .i64 g.pc) .m0 .m1 ?_
  refine Sx.GT.p (.pointer (some ⟨b, 0, none⟩)) ?_
  refine Sx.GT.p (.pointer (some ⟨b, 0, none⟩)) ?_
  refine Sx.GT.p (.pointer (some ⟨b, 12, none⟩)) ?_
  refine Sx.GT.g (.slice A1 g.wr.length c1) .m0 .m12 ?_
  refine Sx.GT.p (.pointer (some ⟨b, 0, none⟩)) ?_
  refine Sx.GT.p (.pointer (some ⟨b, 0, none⟩)) ?_
  refine Sx.GT.p (.pointer (some ⟨b, 13, none⟩)) ?_
  refine Sx.GT.g (.slice A2 g.lv.length c2) .m0 .m13 ?_
  refine Sx.GT.p (.pointer (some ⟨b, 0, none⟩)) ?_
  refine Sx.GT.p (.pointer (some ⟨b, 0, none⟩)) ?_
  refine Sx.GT.p (.pointer (some ⟨b, 0, none⟩)) ?_
  refine Sx.GT.p (.pointer (some ⟨b, 2, none⟩)) ?_
  refine Sx.GT.lp 2 [.int .i64 g.t.1, .int .i64 g.t.2.1, .bool g.t.2.2] .m0 ?_
  refine Sx.GT.p (.pointer (some ⟨b, 0, none⟩)) ?_
  refine Sx.GT.p (.pointer (some ⟨b, 0, none⟩)) ?_
  refine Sx.GT.p (.pointer (some ⟨b, 0, none⟩)) ?_
  refine Sx.GT.p (.pointer (some ⟨b, 5, none⟩)) ?_
  refine Sx.GT.g (.int .i64 g.pd) .m0 .m5 ?_
  refine Sx.GT.p (.pointer (some ⟨b, 0, none⟩)) ?_
  refine Sx.GT.p (.pointer (some ⟨b, 0, none⟩)) ?_
  refine Sx.GT.p (.pointer (some ⟨b, 0, none⟩)) ?_
  refine Sx.GT.p (.pointer (some ⟨b, 6, none⟩)) ?_
  refine Sx.GT.lp 6 [.int .i64 g.x.1, .int .i64 g.x.2.1, .bool g.x.2.2.1, .int .i64 g.x.2.2.2] .m0 ?_
  refine Sx.GT.p (.pointer (some ⟨b, 0, none⟩)) ?_
  refine Sx.GT.p (.pointer (some ⟨b, 0, none⟩)) ?_
  refine Sx.GT.p (.pointer (some ⟨b, 0, none⟩)) ?_
  refine Sx.GT.p (.pointer (some ⟨b, 10, none⟩)) ?_
  refine Sx.GT.g (.bool g.hl) .m0 .m10 ?_
  refine Sx.GT.p (.pointer (some ⟨b, 0, none⟩)) ?_
  refine Sx.GT.p (.pointer (some ⟨b, 0, none⟩)) ?_
  refine Sx.GT.p (.pointer (some ⟨b, 14, none⟩)) ?_
  refine Sx.GT.g (.slice A3 g.seen.length c3) .m0 .m14 ?_
  refine Sx.GT.p (.agg #[.slice A0 g.prog.length c0, .int .i64 g.a, .int .i64 g.pc, .slice A1 g.wr.length c1, .slice A2 g.lv.length c2, .int .i64 g.t.1, .int .i64 g.t.2.1, .bool g.t.2.2, .int .i64 g.pd, .int .i64 g.x.1, .int .i64 g.x.2.1, .bool g.x.2.2.1, .int .i64 g.x.2.2.2, .bool g.hl, .slice A3 g.seen.length c3]) ?_
  refine Sx.GT.alone (Sx.Alone.sw [.slice A0 g.prog.length c0, .int .i64 g.a, .int .i64 g.pc, .slice A1 g.wr.length c1, .slice A2 g.lv.length c2, .int .i64 g.t.1, .int .i64 g.t.2.1, .bool g.t.2.2, .int .i64 g.pd, .int .i64 g.x.1, .int .i64 g.x.2.1, .bool g.x.2.2.1, .int .i64 g.x.2.2.2, .bool g.hl, .slice A3 g.seen.length c3] .a0 (fun w S => St.pick S [1] _ rfl (by decide)) ?_)
  refine Sx.GT.nil (Sx.E.next (Sx.C.ret ?_))
  refine Sx.E.retc b1 0 [.slice A0 g.prog.length c0, .int .i64 g.a, .int .i64 g.pc, .slice A1 g.wr.length c1, .slice A2 g.lv.length c2, .int .i64 g.t.1, .int .i64 g.t.2.1, .bool g.t.2.2, .int .i64 g.pd, .int .i64 g.x.1, .int .i64 g.x.2.1, .bool g.x.2.2.1, .int .i64 g.x.2.2.2, .bool g.hl, .slice A3 g.seen.length c3] rfl (by kernel_rfl) rfl (by kernel_rfl) (by kernel_rfl) (fun w S => ?_)
  replace S := Sx.St.tail S
  exact ⟨rfl, S⟩

set_option maxRecDepth 100000 in
set_option maxHeartbeats 4000000 in
theorem impl_canRun (g : gT) (cs : List Value) (w : World) (hn : gnum g) (hc : rG.cap g) (h : rG.rd w 0 w.heap.size g cs) : Calls Try.prog 27 #[.agg cs.toArray] w (fun e w' => e = .returned (.bool (canRun g)) ∧ Below w.heap.size w w') := by
  have hpd := gnum_pd hn
  have hr := h
  obtain ⟨P0, P1, P2, P3, rfl, h0, h1, h2, h3⟩ := rG_rd h
  obtain ⟨PA0, Pc0, e0, hP0⟩ := lst_val h0
  subst e0
  obtain ⟨PA1, Pc1, e1, hP1⟩ := lst_val h1
  subst e1
  obtain ⟨PA2, Pc2, e2, hP2⟩ := lst_val h2
  subst e2
  obtain ⟨PA3, Pc3, e3, hP3⟩ := lst_val h3
  subst e3
  refine Sx.enter (args := [.agg #[.slice PA0 g.prog.length Pc0, .int .i64 g.a, .int .i64 g.pc, .slice PA1 g.wr.length Pc1, .slice PA2 g.lv.length Pc2, .int .i64 g.t.1, .int .i64 g.t.2.1, .bool g.t.2.2, .int .i64 g.pd, .int .i64 g.x.1, .int .i64 g.x.2.1, .bool g.x.2.2.1, .int .i64 g.x.2.2.2, .bool g.hl, .slice PA3 g.seen.length Pc3]]) Try.func27 rfl Try.ntmps27 rfl ?_
  refine Sx.C.seq (Sx.C.region ?_)
  refine Sx.G.b [.slice PA0 g.prog.length Pc0, .int .i64 g.a, .int .i64 g.pc, .slice PA1 g.wr.length Pc1, .slice PA2 g.lv.length Pc2, .int .i64 g.t.1, .int .i64 g.t.2.1, .bool g.t.2.2, .int .i64 g.pd, .int .i64 g.x.1, .int .i64 g.x.2.1, .bool g.x.2.2.1, .int .i64 g.x.2.2.2, .bool g.hl, .slice PA3 g.seen.length Pc3] (fun b1 => ?_)
  refine Sx.G.p (.bool false) ?_
  refine Sx.G.nil (Sx.E.next (Sx.C.seq (Sx.C.region ?_)))
  refine Sx.G.lw .m0 ?_
  refine Sx.G.cp 36 #[.agg #[.slice PA0 g.prog.length Pc0, .int .i64 g.a, .int .i64 g.pc, .slice PA1 g.wr.length Pc1, .slice PA2 g.lv.length Pc2, .int .i64 g.t.1, .int .i64 g.t.2.1, .bool g.t.2.2, .int .i64 g.pd, .int .i64 g.x.1, .int .i64 g.x.2.1, .bool g.x.2.2.1, .int .i64 g.x.2.2.2, .bool g.hl, .slice PA3 g.seen.length Pc3]] (.agg #[.int .i64 g.a, .int .i64 g.pc, .int .i64 g.t.1, .int .i64 g.t.2.1, .bool g.t.2.2, .int .i64 g.pd, .int .i64 g.x.1, .int .i64 g.x.2.1, .bool g.x.2.2.1, .int .i64 g.x.2.2.2, .bool g.hl]) (fun w S => by exact impl_regs g _ _ (St.old S hr)) ?_
  refine Sx.G.cp 37 #[.agg #[.int .i64 g.a, .int .i64 g.pc, .int .i64 g.t.1, .int .i64 g.t.2.1, .bool g.t.2.2, .int .i64 g.pd, .int .i64 g.x.1, .int .i64 g.x.2.1, .bool g.x.2.2.1, .int .i64 g.x.2.2.2, .bool g.hl]] (.bool (canRun g)) (fun w S => by exact impl_regCan g _) ?_
  refine Sx.G.p (.bool (canRun g)) ?_
  refine Sx.G.nil (Sx.E.next (Sx.C.ret ?_))
  refine Sx.E.ret1 (.bool (canRun g)) rfl (by kernel_rfl) (fun w S => ?_)
  exact ⟨rfl, S.below⟩

theorem eqv_reg_eql (a0 : Int) (a1 : Int) (a2 : Int) (a3 : Int) (a4 : Bool) (a5 : Int) (a6 : Int) (a7 : Int) (a8 : Bool) (a9 : Int) (a10 : Bool) (b0 : Int) (b1 : Int) (b2 : Int) (b3 : Int) (b4 : Bool) (b5 : Int) (b6 : Int) (b7 : Int) (b8 : Bool) (b9 : Int) (b10 : Bool) (W : World) : (binOp .eql 70 (.agg #[.int .i64 a0, .int .i64 a1, .int .i64 a2, .int .i64 a3, .bool a4, .int .i64 a5, .int .i64 a6, .int .i64 a7, .bool a8, .int .i64 a9, .bool a10]) (.agg #[.int .i64 b0, .int .i64 b1, .int .i64 b2, .int .i64 b3, .bool b4, .int .i64 b5, .int .i64 b6, .int .i64 b7, .bool b8, .int .i64 b9, .bool b10])).run Try.prog W = .ok (.bool (a0 == b0 && a1 == b1 && a2 == b2 && a3 == b3 && a4 == b4 && a5 == b5 && a6 == b6 && a7 == b7 && a8 == b8 && a9 == b9 && a10 == b10)) W := by
  have ku0 := Try.underlying3
  have ka0 := Try.isAgg3
  have kz0 := Try.sizeOf3
  have ku1 := Try.underlying4
  have ka1 := Try.isAgg4
  have kz1 := Try.sizeOf4
  have ku2 := Try.underlying50
  have ka2 := Try.isAgg50
  have kz2 := Try.sizeOf50
  have ku3 := Try.underlying41
  have ka3 := Try.isAgg41
  have kz3 := Try.sizeOf41
  have hS : Try.prog.underlying 70 = some (.struct (Try.prog.fieldsOf 70)) := by kernel_rfl
  have hp : Try.prog.stoodInHeld 70 = false := by kernel_rfl
  rw [run_eql_struct, show (10000 : Nat) = 9999 + 1 from rfl, run_equalIn_agg W 9999 70 _ _ hS hp]
  simp only [Program.fieldsOf, Try.underlying70]
  go_simp
  clear ku0 ka0 kz0 ku1 ka1 kz1 ku2 ka2 kz2 ku3 ka3 kz3 hS hp
  (repeat' split) <;> simp_all
theorem sameG_reg (g k : gT) : sameG g k = ((g.a == k.a && g.pc == k.pc && g.t.1 == k.t.1 && g.t.2.1 == k.t.2.1 && g.t.2.2 == k.t.2.2 && g.pd == k.pd && g.x.1 == k.x.1 && g.x.2.1 == k.x.2.1 && g.x.2.2.1 == k.x.2.2.1 && g.x.2.2.2 == k.x.2.2.2 && g.hl == k.hl) && decide (g.prog = k.prog) && decide (g.wr = k.wr) && decide (g.lv = k.lv) && decide (g.seen = k.seen)) := by
  unfold sameG
  ac_rfl

end Go.Proofs.Ytmiokacihcpepaa.Guests
namespace Go.Proofs.Ytmiokacihcpepaa.Sx
set_option maxRecDepth 100000
open Go.ChangeShapes Go.WideShapes Go.ChangeAt Go.RowKit Go.Deep
open Go.Proofs.Ytmiokacihcpepaa.Base Go.Proofs.Ytmiokacihcpepaa.Mem Go.Proofs.Ytmiokacihcpepaa.Data Go.Proofs.Ytmiokacihcpepaa.Stt Go.Proofs.Ytmiokacihcpepaa.Draw
set_option linter.unusedVariables false
set_option linter.unusedSimpArgs false
/-- A value that is only read: it hangs on the blocks F. -/
def rRo {α : Type} (r : Rp α) : Rp α where
  sz := r.sz
  val := r.val
  rd := r.rd
  own w lo hi x cs F := (∀ k ∈ F, lo ≤ k ∧ k < hi) ∧ ∀ w' : World, (∀ k ∈ F, w'.heap[k]? = w.heap[k]?) → r.rd w' lo hi x cs
  wf := r.wf
  cap := r.cap
  size := r.size
  cnt := r.cnt
  mark := r.mark
  tcnt := r.tcnt
  top := r.top
  len := r.len
  kept := r.kept
  wide := r.wide
  reads h := h.2 _ fun _ _ => rfl
  okept h hk := ⟨h.1, fun w' hw => h.2 w' fun k hF => (hw k hF).trans (hk k hF)⟩
  owide h a b := ⟨fun k hk => ⟨Nat.le_trans a (h.1 k hk).1, Nat.lt_of_lt_of_le (h.1 k hk).2 b⟩, fun w' hw => r.wide (h.2 w' hw) a b⟩
  inF h := h.1
theorem rdAll_of {α : Type} {r q : Rp α} (h : ∀ (v : World) (a b : Nat) (y : α) (ds : List Value), r.rd v a b y ds → q.rd v a b y ds) {w : World} {lo hi : Nat} : ∀ {xs : List α} {ds : List Value}, rdAll r w lo hi xs ds → rdAll q w lo hi xs ds
  | [], _, k => k
  | _ :: _, _, k => by
    obtain ⟨c1, c2, e, h1, h2⟩ := k
    exact ⟨c1, c2, e, h _ _ _ _ _ h1, rdAll_of h h2⟩
theorem rdLst_of {α : Type} {r q : Rp α} (h : ∀ (v : World) (a b : Nat) (y : α) (ds : List Value), r.rd v a b y ds → q.rd v a b y ds) (hz : r.sz = q.sz) {w : World} {lo hi : Nat} {xs : List α} {cs : List Value} (k : rdLst r w lo hi xs cs) : rdLst q w lo hi xs cs := by
  obtain ⟨A, c, ds, e, hc, h1, h2⟩ := k
  exact ⟨A, c, ds, e, hc, rdAll_of h h1, h2⟩
section
variable {α β : Type} {r : Rp α} {P : Program} {n : Nat} {ops : Array Oper} {Q : Exit → Act → World → Prop} {Z : World → Prop} {w0 : World} {T : Tl} {L L' M : List Res} {rest : List Oper} {l : List Oper} {o : Oper} {t : Ord.Ot} {w : World} {x : α} {cs : List Value}
/-- The slots told anew. -/
theorem C.slots {T' : Tl} {c : Code} (h : ∀ a, Ag n T a → Ag n T' a) (k : C P n Q w0 T' L c) : C P n Q w0 T L c := fun a w hA S => k a w (h a hA) S
theorem St.toRo (S : St w0 w L) (i : Nat) {lo hi : Nat} {F : List Nat} (h : L[i]? = some (ow r lo hi x cs F)) : St w0 w (L.set i (ow (rRo r) lo hi x cs F)) :=
  S.turn i h (ow (rRo r) lo hi x cs F) (Only.refl _ _) ⟨⟨r.inF (S.at_ i h).1, fun w' hw => r.reads (r.okept (S.at_ i h).1 hw)⟩, (S.at_ i h).2⟩ (fun k hk => .inl hk) (S.lo i (ow r lo hi x cs F) h) (S.hi i (ow r lo hi x cs F) h)
theorem St.toRoQ {q : Rp α} (hq : ∀ (v : World) (a b : Nat) (y : α) (ds : List Value), r.rd v a b y ds → q.rd v a b y ds) (S : St w0 w L) (i : Nat) {lo hi : Nat} {F : List Nat} (h : L[i]? = some (ow r lo hi x cs F)) : St w0 w (L.set i (ow (rRo q) lo hi x cs F)) :=
  S.turn i h (ow (rRo q) lo hi x cs F) (Only.refl _ _) ⟨⟨r.inF (S.at_ i h).1, fun w' hw => hq _ _ _ _ _ (r.reads (r.okept (S.at_ i h).1 hw))⟩, (S.at_ i h).2⟩ (fun k hk => .inl hk) (S.lo i (ow r lo hi x cs F) h) (S.hi i (ow r lo hi x cs F) h)
open Classical in
/-- What several claims say together, as one that is only read. -/
theorem St.ro {rs : List Res} (S : St w0 w (rs ++ M)) (h : ∀ w' : World, (∀ s ∈ rs, s.says w') → r.rd w' w0.heap.size w.heap.size x cs) : ∃ F, St w0 w (ow (rRo r) w0.heap.size w.heap.size x cs F :: M) := by
  have key : ∀ s ∈ rs, ∃ i, (rs ++ M)[i]? = some s := fun s hs => by
    obtain ⟨i, hi⟩ := List.mem_iff_getElem?.1 hs
    exact ⟨i, by rw [List.getElem?_append_left (List.getElem?_eq_some_iff.1 hi).1]; exact hi⟩
  refine ⟨(List.range w.heap.size).filter (fun k => decide (∃ s ∈ rs, s.foot k)), St.merge (rs := rs) S _ ⟨⟨fun k hk => ?_, fun w' hw => h w' fun s hs => ?_⟩, (List.nodup_range).filter _⟩ (fun k hk => ?_) (Nat.le_refl _) (Nat.le_refl _)⟩
  · rw [List.mem_filter] at hk
    obtain ⟨s, hs, hf⟩ := of_decide_eq_true hk.2
    obtain ⟨i, hi⟩ := key s hs
    exact S.footlt hi hf
  · obtain ⟨i, hi⟩ := key s hs
    exact s.kept (S.says i s hi) fun k hk => hw k (List.mem_filter.2 ⟨List.mem_range.2 (S.footlt hi hk).2, decide_eq_true ⟨s, hs, hk⟩⟩)
  · obtain ⟨hk, -⟩ := hk
    rw [List.mem_filter] at hk
    exact of_decide_eq_true hk.2
/-- Two values of their own, one behind the other. -/
theorem St.pair {q : Rp β} {y : β} {ds : List Value} {lo hi lo2 hi2 : Nat} {F G : List Nat} (S : St w0 w (ow r lo hi x cs F :: ow q lo2 hi2 y ds G :: M)) : St w0 w (ow (rPair r q) w0.heap.size w.heap.size (x, y) (cs ++ ds) (F ++ G) :: M) := by
  have hFG := S.disj 0 1 rfl rfl (by decide)
  refine St.merge (rs := [_, _]) S _ ⟨⟨cs, ds, F, G, rfl, rfl, r.owide (S.at_ 0 rfl).1 (S.lo 0 _ rfl) (S.hi 0 _ rfl), q.owide (S.at_ 1 rfl).1 (S.lo 1 _ rfl) (S.hi 1 _ rfl)⟩, nodup_app (S.at_ 0 rfl).2 (S.at_ 1 rfl).2 hFG⟩ (fun k hk => ?_) (Nat.le_refl _) (Nat.le_refl _)
  obtain ⟨hk, -⟩ := hk
  rcases List.mem_append.1 hk with hk | hk
  · exact ⟨_, List.mem_cons_self, hk, r.inF (S.at_ 0 rfl).1 k hk⟩
  · exact ⟨_, List.mem_cons_of_mem _ List.mem_cons_self, hk, q.inF (S.at_ 1 rfl).1 k hk⟩
theorem pair_all {w : World} {lo hi : Nat} {y : α × α} {cs : List Value} {F : List Nat} (h : (rPair r r).own w lo hi y cs F) : ownAll r w lo hi [y.1, y.2] cs F := by
  obtain ⟨c1, c2, F1, F2, rfl, rfl, h1, h2⟩ := h
  exact ownAll_append (ownAll_one h1) (ownAll_one h2)
theorem appr2_run {e : TypeId} {ρ : Operand → Value} {lo hi lo2 hi2 : Nat} {xs : List α} {v : Value} {F F2 : List Nat} {y : α × α} {cs : List Value} {bn : Nat}
    (S : St w0 w (ow (rLst e r) lo hi xs [v] F :: ow (rPair r r) lo2 hi2 y cs F2 :: vr bn cs :: M)) (s x : Operand) (ty : TypeId) (ho : o.op = .call { callee := .builtin .append, args := #[s, x], argTypes := #[ty, ty] })
    (i : TypeInfo) (z : Value) (size bytes : Nat) (ht : P.underlying ty = some (.slice e)) (hi' : P.info? e = some i) (hz : i.zero = some z) (hsize : i.size = size) (hby : i.bytes = bytes) (hzs : z.cells.size = size) (hsz : 0 < size) (hr : r.sz = size)
    (hs : ρ s = v) (c : Nat) (hx : ρ x = .slice (some ⟨bn, 0, none⟩) 2 c) (h1 : cs.all (·.oneCell') = true) (h63 : xs.length + 2 ≤ maxLen) (hbytes : (xs.length + 2) * bytes ≤ 140737488355328) :
    ∃ A c F' w', xs.length + 2 ≤ c ∧ (execOp ρ o).run P w = .ok (.value (.slice A (xs.length + 2) c)) w' ∧ St w0 w' (ow (rLst e r) w0.heap.size w'.heap.size (xs ++ [y.1, y.2]) [.slice A (xs.length + 2) c] F' :: M) := by
  obtain ⟨⟨v', ds0, F1, e1, hF, hall, hrow, hhi⟩, hnd⟩ := S.at_ 0 rfl
  cases e1
  have hlo' : w0.heap.size ≤ lo := S.lo 0 _ rfl
  have hhi' : hi ≤ w.heap.size := S.hi 0 _ rfl
  have hlo2 : w0.heap.size ≤ lo2 := S.lo 1 _ rfl
  have hhi2 : hi2 ≤ w.heap.size := S.hi 1 _ rfl
  obtain ⟨hy, hG⟩ := S.at_ 1 rfl
  have hV := S.at_ 2 rfl
  have hlen : cs.length = 2 * r.sz := by rw [(rPair r r).len ((rPair r r).reads hy)]; show r.sz + r.sz = _; omega
  have hFG := S.disj 0 1 rfl rfl (by decide)
  subst hr
  obtain ⟨v', w', hrun, hown, hgr, hat⟩ := run_app (P := P) w w0.heap.size ty o.type e i z r.sz bytes ht hi' hz hsize hby hzs hsz v xs.length ds0 (ownsRow_low hrow hlo') (some ⟨bn, 0, none⟩) 2 c cs hlen (fun q u hu => ⟨_, rfl, by rw [Addr.add_lit, Nat.zero_add]; exact hV.cell q hu⟩) (fun u hu => List.all_eq_true.1 h1 u hu) h63 hbytes S.below.size
  have hx1 : (execOp ρ o).run P w = .ok (.value v') w' := by
    unfold execOp
    simp only [ho, resolve, invoke, builtin, Sem.run_bind, Sem.run_pure, Result.andThen_ok, List.map_toArray, List.map_cons, List.map_nil, hs, hx, hrun]
  have hcl := app_claim (b0 := w0.heap.size) hnd hlo' hhi' hF hall hrow (pair_all hy) hG hFG hlo2 hhi2 hown hgr hat
  obtain ⟨A', c', rfl, hc'⟩ := row_form hown
  have hfoot : ∀ q, v.ownBlock = some q → (ow (rLst e r) lo hi xs [v] F).foot q := fun q hq => ⟨by rw [hF]; simp [hq], (hrow.lt q hq).1, hhi q hq⟩
  let big : Res := ⟨fun _ => True, fun q => (ow (rLst e r) lo hi xs [v] F).foot q ∨ (ow (rPair r r) lo2 hi2 y cs F2).foot q, w0.heap.size, w.heap.size, fun q hq => by
    rcases hq with hq | hq
    · exact S.footlt (i := 0) rfl hq
    · exact S.footlt (i := 1) rfl hq, fun _ _ => trivial⟩
  have S1 : St w0 w (big :: vr bn cs :: M) := St.merge (rs := [_, _]) S big trivial (fun q hq => hq.elim (fun h => ⟨_, List.mem_cons_self, h⟩) (fun h => ⟨_, List.mem_cons_of_mem _ List.mem_cons_self, h⟩)) (Nat.le_refl _) (Nat.le_refl _)
  have S2 := S1.turn 0 rfl (ow (rLst e r) w0.heap.size w'.heap.size (xs ++ [y.1, y.2]) [.slice A' (xs.length + 2) c'] ((Value.slice A' (xs.length + 2) c').ownBlock.toList ++ (F1 ++ F2))) (Only.of_grown hgr fun q hq => .inl (hfoot q hq)) hcl (fun q hq => by
    obtain ⟨hq, _, hq2⟩ := hq
    rcases List.mem_append.1 hq with hq | hq
    · have hq' : (Value.slice A' (xs.length + 2) c').ownBlock = some q := by simpa using hq
      rcases hat with h5 | h5
      · exact .inl (.inl (hfoot q (h5.symm.trans hq')))
      · have h6 := h5.symm.trans hq'
        cases h6; right; exact Nat.le_refl _
    · rcases List.mem_append.1 hq with hq | hq
      · have := ownAll_inF hall q hq
        exact .inl (.inl ⟨by rw [hF]; simp [hq], this⟩)
      · have := (rPair r r).inF hy q hq
        exact .inl (.inr ⟨hq, this⟩)) (Nat.le_refl _) (Nat.le_refl _)
  exact ⟨A', c', _, w', hc', hx1, St.tail (St.front S2 1 rfl)⟩
theorem G.appr2 {e : TypeId} {lo hi lo2 hi2 : Nat} {xs : List α} {v : Value} {F F2 : List Nat} {y : α × α} {cs : List Value} {bn : Nat} (s x : Operand) (ty : TypeId) (size bytes c : Nat) (hop : o.op = .call { callee := .builtin .append, args := #[s, x], argTypes := #[ty, ty] })
    (hc : chk n T ops o = true) (he : elemB P ty e size bytes = true) (hr : r.sz = size) (hs : ev T s = v) (hx : ev T x = .slice (some ⟨bn, 0, none⟩) 2 c) (h1 : cs.all (·.oneCell') = true) (h63 : xs.length + 2 ≤ maxLen) (hbytes : (xs.length + 2) * bytes ≤ 140737488355328)
    (zs : List α) (hzz : xs ++ [y.1, y.2] = zs) (m : Nat) (hm : xs.length + 2 = m)
    (k : ∀ A c F' hi', m ≤ c → G P n ops Q w0 (up o.dst (.slice A m c) T) (ow (rLst e r) w0.heap.size hi' zs [.slice A m c] F' :: M) rest) :
    G P n ops Q w0 T (ow (rLst e r) lo hi xs [v] F :: ow (rPair r r) lo2 hi2 y cs F2 :: vr bn cs :: M) (o :: rest) :=
  G.turns hc fun w S => by
    subst hzz hm
    obtain ⟨ht, hsz, i, z, hi', hz, hsize, hby, hzs⟩ := elemB_spec he
    obtain ⟨A, c', F', w', h2, h3, h4⟩ := appr2_run (P := P) (o := o) (ρ := ev T) S s x ty hop i z size bytes ht hi' hz hsize hby hzs hsz hr hs c hx h1 h63 hbytes
    exact ⟨_, w', _, h3, h4, k A c' F' _ h2⟩
theorem Alone.appr2 {j : Nat} {e : TypeId} {lo hi lo2 hi2 : Nat} {xs : List α} {v : Value} {F F2 : List Nat} {y : α × α} {cs : List Value} {bn : Nat} (s x : Operand) (ty : TypeId) (size bytes c : Nat) (hj : l[j]? = some o) (hop : o.op = .call { callee := .builtin .append, args := #[s, x], argTypes := #[ty, ty] })
    (hc : chk n T l.toArray o = true) (he : elemB P ty e size bytes = true) (hr : r.sz = size) (hs : ev T s = v) (hx : ev T x = .slice (some ⟨bn, 0, none⟩) 2 c) (h1 : cs.all (·.oneCell') = true) (h63 : xs.length + 2 ≤ maxLen) (hbytes : (xs.length + 2) * bytes ≤ 140737488355328)
    (zs : List α) (hzz : xs ++ [y.1, y.2] = zs) (m : Nat) (hm : xs.length + 2 = m) (hZ : ∀ A c F' hi' w, St w0 w (ow (rLst e r) w0.heap.size hi' zs [.slice A m c] F' :: M) → Z w)
    (k : ∀ A c F' hi', m ≤ c → GT P n l.toArray Q Z w0 (up o.dst (.slice A m c) T) (ow (rLst e r) w0.heap.size hi' zs [.slice A m c] F' :: M) t) :
    Alone P n l.toArray Q Z w0 T (ow (rLst e r) lo hi xs [v] F :: ow (rPair r r) lo2 hi2 y cs F2 :: vr bn cs :: M) j t :=
  Alone.turns hj hc fun w S => by
    subst hzz hm
    obtain ⟨ht, hsz, i, z, hi', hz, hsize, hby, hzs⟩ := elemB_spec he
    obtain ⟨A, c', F', w', h2, h3, h4⟩ := appr2_run (P := P) (o := o) (ρ := ev T) S s x ty hop i z size bytes ht hi' hz hsize hby hzs hsz hr hs c hx h1 h63 hbytes
    exact ⟨_, w', _, h3, h4, fun w S => hZ A c' F' _ w S, k A c' F' _ h2⟩
theorem Fresh.rdIn {q : Rp β} {y : β} {ds : List Value} {lo hi : Nat} {G : List Nat} {w' : World} {rs : List Res} (H : Fresh w0 w w' rs) (i : Nat) (h : rs[i]? = some (ow q lo hi y ds G)) {v : World} (hv : ∀ s ∈ rs, s.says v) : q.rd v w0.heap.size w'.heap.size y ds :=
  q.wide (q.reads (hv _ (List.mem_of_getElem? h)).1) (H.lo i (ow q lo hi y ds G) h) (H.hi i (ow q lo hi y ds G) h)
theorem Fresh.rpIn {lo hi cap : Nat} {k : List (Int × Int)} {A : Option Addr} {w' : World} {rs : List Res} (H : Fresh w0 w w' rs) (i : Nat) (h : rs[i]? = some (rp lo hi k A cap)) {v : World} (hv : ∀ s ∈ rs, s.says v) : rdLst (rPair rInt rInt) v w0.heap.size w'.heap.size k [.slice A k.length cap] :=
  (Sx.rp_rd (hv _ (List.mem_of_getElem? h))).wide (H.lo i (rp lo hi k A cap) h) (H.hi i (rp lo hi k A cap) h)
theorem St.rdIn {q : Rp β} {y : β} {ds : List Value} {lo hi : Nat} {G : List Nat} {rs : List Res} (S : St w0 w (rs ++ M)) (i : Nat) (h : rs[i]? = some (ow q lo hi y ds G)) {v : World} (hv : ∀ s ∈ rs, s.says v) : q.rd v w0.heap.size w.heap.size y ds := by
  have h' : (rs ++ M)[i]? = some (ow q lo hi y ds G) := by rw [List.getElem?_append_left (List.getElem?_eq_some_iff.1 h).1]; exact h
  exact q.wide (q.reads (hv _ (List.mem_of_getElem? h)).1) (S.lo i (ow q lo hi y ds G) h') (S.hi i (ow q lo hi y ds G) h')
theorem rd_nil {q : Rp β} (v : World) (lo hi c : Nat) : rdLst q v lo hi [] [.slice none 0 c] := ⟨none, c, [], rfl, Nat.zero_le _, rfl, Lies.nil⟩
open Classical in
/-- What a draw has made, as one claim that is only read. -/
theorem Fresh.ro {w' : World} {rs : List Res} (H : Fresh w0 w w' rs) (h : ∀ v : World, (∀ s ∈ rs, s.says v) → r.rd v w0.heap.size w'.heap.size x cs) : ∃ F, Fresh w0 w w' [ow (rRo r) w0.heap.size w'.heap.size x cs F] := by
  have key : ∀ s ∈ rs, ∃ i, rs[i]? = some s := fun s hs => List.mem_iff_getElem?.1 hs
  have ft : ∀ s ∈ rs, ∀ k, s.foot k → w0.heap.size ≤ k ∧ k < w'.heap.size := fun s hs k hk => by
    obtain ⟨i, hi⟩ := key s hs
    have h1 := s.inn k hk
    have h2 := H.lo i s hi
    have h3 := H.hi i s hi
    omega
  have hm : ∀ k, k ∈ (List.range w'.heap.size).filter (fun k => decide (∃ s ∈ rs, s.foot k)) → ∃ s ∈ rs, s.foot k := fun k hk => of_decide_eq_true (List.mem_filter.1 hk).2
  refine ⟨(List.range w'.heap.size).filter (fun k => decide (∃ s ∈ rs, s.foot k)), fun i s hs => ?_, fun i s hs => ?_, fun i s hs => ?_, fun i s hs k hk => ?_, fun i j s t h1 h2 hne => ?_⟩
  · match i, hs with
    | 0, hs =>
      cases hs
      refine ⟨⟨fun k hk => ?_, fun v hv => h v fun s hs => ?_⟩, (List.nodup_range).filter _⟩
      · obtain ⟨s, hs, hf⟩ := hm k hk
        exact ft s hs k hf
      · obtain ⟨i, hi⟩ := key s hs
        exact s.kept (H.says i s hi) fun k hk => hv k (List.mem_filter.2 ⟨List.mem_range.2 (ft s hs k hk).2, decide_eq_true ⟨s, hs, hk⟩⟩)
    | i + 1, hs => simp at hs
  · match i, hs with
    | 0, hs => cases hs; exact Nat.le_refl _
    | i + 1, hs => simp at hs
  · match i, hs with
    | 0, hs => cases hs; exact Nat.le_refl _
    | i + 1, hs => simp at hs
  · match i, hs with
    | 0, hs =>
      cases hs
      obtain ⟨s, hs, hf⟩ := hm k hk.1
      obtain ⟨i, hi⟩ := key s hs
      exact H.new i s hi k hf
    | i + 1, hs => simp at hs
  · match i, j, h1, h2 with
    | 0, 0, _, _ => exact absurd rfl hne
    | 0, j + 1, _, h2 => simp at h2
    | i + 1, _, h1, _ => simp at h1

theorem Fresh.one {w' : World} (q : Res) (hs : q.says w') (h0 : w0.heap.size ≤ w.heap.size) (hl : w.heap.size ≤ q.lo) (hh : q.hi ≤ w'.heap.size) : Fresh w0 w w' [q] :=
  ⟨fun i r h => by
    match i, h with
    | 0, h => cases h; exact hs
    | i + 1, h => simp at h, fun i r h => by
    match i, h with
    | 0, h => cases h; exact Nat.le_trans h0 hl
    | i + 1, h => simp at h, fun i r h => by
    match i, h with
    | 0, h => cases h; exact hh
    | i + 1, h => simp at h, fun i r h k hk => by
    match i, h with
    | 0, h => cases h; exact Nat.le_trans hl (q.inn k hk).1
    | i + 1, h => simp at h, fun i j r s h1 h2 hne => by
    match i, j, h1, h2 with
    | 0, 0, _, _ => exact absurd rfl hne
    | 0, j + 1, _, h2 => simp at h2
    | i + 1, _, h1, _ => simp at h1⟩
theorem Fresh.nil (w0 w w' : World) : Fresh w0 w w' [] := ⟨fun i r h => by simp at h, fun i r h => by simp at h, fun i r h => by simp at h, fun i r h => by simp at h, fun i j r s h => by simp at h⟩

end
end Go.Proofs.Ytmiokacihcpepaa.Sx
namespace Go.Proofs.Ytmiokacihcpepaa.Kit
set_option maxRecDepth 100000
open Go.ChangeShapes Go.WideShapes Go.ChangeAt Go.RowKit Go.Deep
open Go.Proofs.Ytmiokacihcpepaa.Base Go.Proofs.Ytmiokacihcpepaa.Mem Go.Proofs.Ytmiokacihcpepaa.Data Go.Proofs.Ytmiokacihcpepaa.Stt Go.Proofs.Ytmiokacihcpepaa.Guests Go.Proofs.Ytmiokacihcpepaa.Ctls Go.Proofs.Ytmiokacihcpepaa.Exits
set_option linter.unusedVariables false
set_option linter.unusedSimpArgs false
theorem i1_own {w : World} {lo hi c : Nat} {A : Option Addr} {l : List Int} (hc : l.length ≤ c) (h : Owned w lo hi A (icells l)) : (rLsw rInt).own w lo hi l [.slice A l.length c] (blks A (icells l)) ∧ (blks A (icells l)).Nodup :=
  ⟨⟨A, c, icells l, [], rfl, hc, by simp, (show ∀ l : List Int, ownAll rInt w lo hi l (icells l) [] from fun l => by
    induction l with
    | nil => exact ⟨rfl, rfl⟩
    | cons s l ih => exact ⟨[.int .i64 s], icells l, [], [], rfl, rfl, ⟨rfl, rfl⟩, ih⟩) l, h⟩, by
    unfold blks
    split
    · simp
    · cases A <;> simp⟩

theorem decide_eqv {α : Type} [DecidableEq α] (x y : α) : decide (x = y) = eqv x y := by
  rcases Decidable.em (x = y) with h | h
  · rw [decide_eq_true h, eqv_true h]
  · rw [decide_eq_false h, eqv_false h]
theorem _root_.Go.Proofs.Ytmiokacihcpepaa.Sx.St.pickT {w0 w : World} {R : List Res} (L L' : List Res) (S : St w0 w (L ++ R)) (is : List Nat) (hL : is.map (fun i => L[i]?) = L'.map some) (hn : is.Nodup) : St w0 w (L' ++ R) := by
  have hlt : ∀ i ∈ is, i < L.length := fun i hi => by
    have h1 : L[i]? ∈ is.map (fun i => L[i]?) := List.mem_map.2 ⟨i, hi, rfl⟩
    rw [hL] at h1
    obtain ⟨s, _, hs⟩ := List.mem_map.1 h1
    exact (List.getElem?_eq_some_iff.1 hs.symm).1
  refine St.pick S (is ++ (List.range R.length).map (fun k => L.length + k)) (L' ++ R) ?_ ?_
  · rw [List.map_append, List.map_append, ← hL]
    congr 1
    · exact List.map_congr_left fun i hi => List.getElem?_append_left (hlt i hi)
    · rw [List.map_map]
      apply List.ext_getElem?
      intro k
      rw [List.getElem?_map, List.getElem?_map]
      rcases Nat.lt_or_ge k R.length with h | h
      · rw [List.getElem?_range h, List.getElem?_eq_getElem h]
        simp [List.getElem?_append_right, h]
      · rw [List.getElem?_eq_none (by simpa using h), List.getElem?_eq_none h]; rfl
  · rw [List.nodup_append]
    refine ⟨hn, ?_, ?_⟩
    · exact List.Pairwise.map (fun k => L.length + k) (fun a b h => by omega) List.nodup_range
    · intro a ha b hb
      obtain ⟨k, _, rfl⟩ := List.mem_map.1 hb
      have := hlt a ha
      omega

set_option maxRecDepth 100000 in
set_option maxHeartbeats 4000000 in
theorem implx_another_g (g : gT) (cs : List Value) (w : World) (hc : rG.cap g) (h : rG.rd w 0 w.heap.size g cs) : Calls Try.prog 44 #[.agg cs.toArray] w (Gives rG w g) := by
  obtain ⟨q0, q1, q2, q3⟩ := rG_len hc
  have hr := h
  obtain ⟨P0, P1, P2, P3, rfl, h0, h1, h2, h3⟩ := rG_rd h
  obtain ⟨PA0, Pc0, e0, hP0⟩ := lst_val h0
  subst e0
  obtain ⟨PA1, Pc1, e1, hP1⟩ := lst_val h1
  subst e1
  obtain ⟨PA2, Pc2, e2, hP2⟩ := lst_val h2
  subst e2
  obtain ⟨PA3, Pc3, e3, hP3⟩ := lst_val h3
  subst e3
  refine Sx.enter (args := [.agg #[.slice PA0 g.prog.length Pc0, .int .i64 g.a, .int .i64 g.pc, .slice PA1 g.wr.length Pc1, .slice PA2 g.lv.length Pc2, .int .i64 g.t.1, .int .i64 g.t.2.1, .bool g.t.2.2, .int .i64 g.pd, .int .i64 g.x.1, .int .i64 g.x.2.1, .bool g.x.2.2.1, .int .i64 g.x.2.2.2, .bool g.hl, .slice PA3 g.seen.length Pc3]]) Try.func44 rfl Try.ntmps44 rfl ?_
  refine Sx.C.seq (Sx.C.region ?_)
  refine Sx.G.b [.slice PA0 g.prog.length Pc0, .int .i64 g.a, .int .i64 g.pc, .slice PA1 g.wr.length Pc1, .slice PA2 g.lv.length Pc2, .int .i64 g.t.1, .int .i64 g.t.2.1, .bool g.t.2.2, .int .i64 g.pd, .int .i64 g.x.1, .int .i64 g.x.2.1, .bool g.x.2.2.1, .int .i64 g.x.2.2.2, .bool g.hl, .slice PA3 g.seen.length Pc3] (fun b1 => ?_)
  refine Sx.G.ar [.slice none 0 0, .int .i64 0, .int .i64 0, .slice none 0 0, .slice none 0 0, .int .i64 0, .int .i64 0, .bool false, .int .i64 0, .int .i64 0, .int .i64 0, .bool false, .int .i64 0, .bool false, .slice none 0 0] (fun b2 => ?_)
  refine Sx.G.nil (Sx.E.next (Sx.C.seq (Sx.C.region ?_)))
  refine Sx.G.lw .m1 ?_
  refine Sx.G.c 54 #[.agg #[.slice PA0 g.prog.length Pc0, .int .i64 g.a, .int .i64 g.pc, .slice PA1 g.wr.length Pc1, .slice PA2 g.lv.length Pc2, .int .i64 g.t.1, .int .i64 g.t.2.1, .bool g.t.2.2, .int .i64 g.pd, .int .i64 g.x.1, .int .i64 g.x.2.1, .bool g.x.2.2.1, .int .i64 g.x.2.2.2, .bool g.hl, .slice PA3 g.seen.length Pc3]] (fun w3 S => (impl_copyM g _ _ hc (St.old S hr)).mono fun e w3' hp => ?_)
  obtain ⟨b3, A3_0, c3_0, l3_0, h3_0, F3_0, A3_1, c3_1, l3_1, h3_1, F3_1, A3_2, c3_2, l3_2, h3_2, F3_2, A3_3, c3_3, l3_3, h3_3, F3_3, rfl, U⟩ := hp
  refine ⟨_, _, rfl, (Sx.St.join S U), ?_⟩
  clear S U
  refine Sx.G.c 55 #[.pointer (some ⟨b3, 0, none⟩)] (fun w4 S => (impl_guestM g S).mono fun e w4' hp => ?_)
  obtain ⟨rfl, S'⟩ := hp
  refine ⟨_, _, rfl, S', ?_⟩
  clear S S'
  refine Sx.G.sw [.slice A3_0 g.prog.length c3_0, .int .i64 g.a, .int .i64 g.pc, .slice A3_1 g.wr.length c3_1, .slice A3_2 g.lv.length c3_2, .int .i64 g.t.1, .int .i64 g.t.2.1, .bool g.t.2.2, .int .i64 g.pd, .int .i64 g.x.1, .int .i64 g.x.2.1, .bool g.x.2.2.1, .int .i64 g.x.2.2.2, .bool g.hl, .slice A3_3 g.seen.length c3_3] .a5 ?_
  refine Sx.G.nil (Sx.E.next (Sx.C.ret ?_))
  refine Sx.E.retc b2 5 [.slice A3_0 g.prog.length c3_0, .int .i64 g.a, .int .i64 g.pc, .slice A3_1 g.wr.length c3_1, .slice A3_2 g.lv.length c3_2, .int .i64 g.t.1, .int .i64 g.t.2.1, .bool g.t.2.2, .int .i64 g.pd, .int .i64 g.x.1, .int .i64 g.x.2.1, .bool g.x.2.2.1, .int .i64 g.x.2.2.2, .bool g.hl, .slice A3_3 g.seen.length c3_3] rfl (by kernel_rfl) rfl (by kernel_rfl) (by kernel_rfl) (fun w S => ?_)
  obtain ⟨GW2, S⟩ := S.weak 2 rfl
  obtain ⟨GW3, S⟩ := S.weak 3 rfl
  obtain ⟨ho, hF⟩ := rG_shut (g := g) S 1 rfl 2 rfl 3 rfl 4 rfl (by decide) (by decide) (by decide) (by decide) (by decide) (by decide)
  exact ⟨_, _, rfl, ho, hF, S.below⟩
theorem implx_another (g : gT) (cs : List Value) (w : World) (hc : wG.cap g) (h : wG.rd w 0 w.heap.size g cs) : Calls Try.prog 44 #[.agg cs.toArray] w (Gives wG w g) := (implx_another_g g cs w (cap_G hc) (rd_G h)).mono weak_G

/-- A bounded list behind an item that is added. -/
def addB {α : Type} (xs : List α) (m : Int) (x : α) : List α := if ((xs.length : Nat) : Int) < m then xs ++ [x] else xs
theorem addB_take {α : Type} (l : List α) (x : α) : addB (l.take 2) 2 x = (l ++ [x]).take 2 := by
  unfold addB
  rw [List.take_append, List.length_take]
  split
  · rw [show 2 - l.length = (1 - l.length) + 1 by omega, List.take_succ_cons]; simp
  · rw [show 2 - l.length = 0 by omega]; simp

def gsOk (xs : List gT) : Bool := inB ((xs.length : Nat) : Int) 1 2 && xs.all guestOk

theorem inB_dec (g n : Int) : inB g 0 (n - 1) = (decide (g ≥ 0) && decide (g < n)) := by
  rw [Bool.eq_iff_iff, inB_iff]; simp; omega

set_option maxRecDepth 100000 in
set_option maxHeartbeats 4000000 in
theorem implx_has (A : Option Addr) (n c : Nat) (g : Int) (w : World)  : Calls Try.prog 43 #[.slice A n c, .int .i64 g] w (fun e w' => e = .returned (.bool (inB g 0 (((n : Nat) : Int) - 1))) ∧ Below w.heap.size w w') := by
  refine Sx.enter (args := [.slice A n c, .int .i64 g]) Try.func43 rfl Try.ntmps43 rfl ?_
  refine Sx.C.seq (Sx.C.region ?_)
  refine Sx.G.p (.bool false) ?_
  refine Sx.G.nil (Sx.E.next (Sx.C.seq (Sx.C.region ?_)))
  refine Sx.G.p (.int .i64 g) ?_
  refine Sx.G.p (.bool (decide (g ≥ 0))) ?_
  refine Sx.G.p (.bool (decide (g ≥ 0))) ?_
  cases hc1 : (decide (g ≥ 0))
  · have hb1 := hc1
    replace hc1 := of_decide_eq_false hc1
    refine Sx.G.k ?_
    refine Sx.G.k ?_
    refine Sx.G.k ?_
    refine Sx.G.k ?_
    refine Sx.G.p (.bool false) ?_
    refine Sx.G.p (.bool false) ?_
    refine Sx.G.nil (Sx.E.next (Sx.C.ret ?_))
    refine Sx.E.ret1 (.bool false) rfl (by kernel_rfl) (fun w S => ?_)
    exact ⟨congrArg Ending.returned (congrArg Value.bool (by rw [inB_dec]; simp only [hb1, Bool.true_and, Bool.false_and])), S.below⟩
  · have hb1 := hc1
    replace hc1 := of_decide_eq_true hc1
    refine Sx.G.p (.int .i64 g) ?_
    refine Sx.G.p (.slice A n c) ?_
    refine Sx.G.p (.int .i64 ((n : Nat) : Int)) ?_
    refine Sx.G.p (.bool (decide (g < ((n : Nat) : Int)))) ?_
    refine Sx.G.p (.bool (decide (g < ((n : Nat) : Int)))) ?_
    refine Sx.G.p (.bool (decide (g < ((n : Nat) : Int)))) ?_
    refine Sx.G.nil (Sx.E.next (Sx.C.ret ?_))
    refine Sx.E.ret1 (.bool (decide (g < ((n : Nat) : Int)))) rfl (by kernel_rfl) (fun w S => ?_)
    exact ⟨congrArg Ending.returned (congrArg Value.bool (by rw [inB_dec]; simp only [hb1, Bool.true_and, Bool.false_and])), S.below⟩

set_option maxRecDepth 100000 in
set_option maxHeartbeats 4000000 in
theorem impl_gat (x : bT) (cs : List Value) (g : Int) (w : World) (hn : wB.wf x) (hc : wB.cap x) (h : wB.rd w 0 w.heap.size x cs) (hg : (Lit.int .i64 g).wf = true) : Calls Try.prog 33 #[.agg cs.toArray, .int .i64 g] w (Gives2 wG w (guestAt x g)) := by
  obtain ⟨hcap0, hcap1, hcap2, hcap3⟩ := hc
  have hgl : x.gs.length ≤ 1048576 := hcap1.1
  have hR := h
  obtain ⟨hP0, hP1, hP2, rfl, hf0, hf1, hf2⟩ := wB_rd h
  obtain ⟨hA0, hK0, he0, -⟩ := lst_val hf0
  subst he0
  obtain ⟨hA1, hK1, he1, -⟩ := lst_val hf1
  subst he1
  obtain ⟨hA2, hK2, he2, -⟩ := lst_val hf2
  subst he2
  refine Sx.enter (args := [.agg #[.slice hA0 x.mem.length hK0, .slice hA1 x.gs.length hK1, .slice hA2 x.outs.length hK2, .int .i64 x.pd], .int .i64 g]) Try.func33 rfl Try.ntmps33 rfl ?_
  refine Sx.C.seq (Sx.C.region ?_)
  refine Sx.G.b [.slice hA0 x.mem.length hK0, .slice hA1 x.gs.length hK1, .slice hA2 x.outs.length hK2, .int .i64 x.pd] (fun b1 => ?_)
  refine Sx.G.ar [.slice none 0 0, .int .i64 0, .int .i64 0, .slice none 0 0, .slice none 0 0, .int .i64 0, .int .i64 0, .bool false, .int .i64 0, .int .i64 0, .int .i64 0, .bool false, .int .i64 0, .bool false, .slice none 0 0] (fun b2 => ?_)
  refine Sx.G.p (.bool false) ?_
  refine Sx.G.nil (Sx.E.next (Sx.C.seq (Sx.C.seq (Sx.C.region ?_))))
  refine Sx.G.p (.pointer (some ⟨b1, 1, none⟩)) ?_
  refine Sx.G.g (.slice hA1 x.gs.length hK1) .m1 .m1 ?_
  refine Sx.G.p (.int .i64 g) ?_
  refine Sx.G.cp 43 #[.slice hA1 x.gs.length hK1, .int .i64 g] (.bool (inB g 0 (((x.gs.length : Nat) : Int) - 1))) (fun w S => by exact implx_has hA1 x.gs.length hK1 g _) ?_
  refine Sx.G.p (.bool (!(inB g 0 (((x.gs.length : Nat) : Int) - 1)))) ?_
  refine Sx.G.nil (Sx.E.next ?_)
  cases hc3 : (inB g 0 (((x.gs.length : Nat) : Int) - 1))
  · have hb3 := hc3
    refine Sx.C.yy ?_
    refine Sx.C.seq (Sx.C.region ?_)
    refine Sx.G.p (.agg #[.slice none 0 0, .int .i64 0, .int .i64 0, .slice none 0 0, .slice none 0 0, .int .i64 0, .int .i64 0, .bool false, .int .i64 0, .int .i64 0, .int .i64 0, .bool false, .int .i64 0, .bool false, .slice none 0 0]) ?_
    refine Sx.G.sw [.slice none 0 0, .int .i64 0, .int .i64 0, .slice none 0 0, .slice none 0 0, .int .i64 0, .int .i64 0, .bool false, .int .i64 0, .int .i64 0, .int .i64 0, .bool false, .int .i64 0, .bool false, .slice none 0 0] .a0 ?_
    refine Sx.G.p (.bool false) ?_
    refine Sx.G.nil (Sx.E.next (Sx.C.ret (Sx.E.then_ret ?_)))
    refine Sx.E.retg2 (.agg #[.slice none 0 0, .int .i64 0, .int .i64 0, .slice none 0 0, .slice none 0 0, .int .i64 0, .int .i64 0, .bool false, .int .i64 0, .int .i64 0, .int .i64 0, .bool false, .int .i64 0, .bool false, .slice none 0 0]) (.bool false) rfl (Sx.IsRes.row b2 0 [.slice none 0 0, .int .i64 0, .int .i64 0, .slice none 0 0, .slice none 0 0, .int .i64 0, .int .i64 0, .bool false, .int .i64 0, .int .i64 0, .int .i64 0, .bool false, .int .i64 0, .bool false, .slice none 0 0] (by kernel_rfl) rfl (by kernel_rfl) (by kernel_rfl)) (Sx.IsRes.slot (by kernel_rfl)) (fun w S => ?_)
    rw [show guestAt x g = (zeroG, false) from if_neg (by rw [hc3]; decide)]
    exact ⟨_, [], rfl, own_zero_Guest _ _ _, List.nodup_nil, S.below⟩
  · have hb3 := hc3
    have hin := inB_iff.1 hc3
    obtain ⟨j, hj⟩ : ∃ j : Nat, g = (j : Int) := ⟨g.toNat, by omega⟩
    subst hj
    have hjl : j < x.gs.length := by omega
    refine Sx.C.nn ?_
    refine Sx.C.skip (Sx.E.next (Sx.C.seq (Sx.C.region ?_)))
    refine Sx.G.p (.pointer (some ⟨b1, 1, none⟩)) ?_
    refine Sx.G.g (.slice hA1 x.gs.length hK1) .m1 .m1 ?_
    refine Sx.G.p (.int .i64 (j : Int)) ?_
    obtain ⟨b4, f4, es4, eA4, hr4, hl4, hm4⟩ := Sx.old_elem (by decide) hf1 j (by omega)
    subst eA4
    obtain ⟨x4, hx4⟩ : ∃ z_, z_ = (x.gs[j]'(by omega)) := ⟨_, rfl⟩
    rw [← hx4] at hr4
    have hR4 := hr4
    obtain ⟨P4_0, P4_1, P4_2, P4_3, rfl, hf4_0, hf4_1, hf4_2, hf4_3⟩ := wG_rd hr4
    obtain ⟨A4_0, c4_0, e4_0, -⟩ := lst_val hf4_0
    subst e4_0
    obtain ⟨A4_1, c4_1, e4_1, -⟩ := lst_val hf4_1
    subst e4_1
    obtain ⟨A4_2, c4_2, e4_2, -⟩ := lst_val hf4_2
    subst e4_2
    obtain ⟨A4_3, c4_3, e4_3, -⟩ := lst_val hf4_3
    subst e4_3
    refine Sx.G.elem 29 52 (.tmp 13) (.tmp 14) 15 184 b4 f4 x.gs.length hK1 j rfl (by kernel_rfl) (by kernel_rfl) (by kernel_rfl) (by kernel_rfl) (by omega) ?_
    refine Sx.G.ldr 52 (.tmp 15) b4 (f4 + j * 15) [.slice A4_0 x4.prog.length c4_0, .int .i64 x4.a, .int .i64 x4.pc, .slice A4_1 x4.wr.length c4_1, .slice A4_2 x4.lv.length c4_2, .int .i64 x4.t.1, .int .i64 x4.t.2.1, .bool x4.t.2.2, .int .i64 x4.pd, .int .i64 x4.x.1, .int .i64 x4.x.2.1, .bool x4.x.2.2.1, .int .i64 x4.x.2.2.2, .bool x4.hl, .slice A4_3 x4.seen.length c4_3] rfl (by kernel_rfl) (by kernel_rfl) (fun w S => hm4 w _ S) (by kernel_rfl) (by kernel_rfl) ?_
    refine Sx.G.c 44 #[.agg #[.slice A4_0 x4.prog.length c4_0, .int .i64 x4.a, .int .i64 x4.pc, .slice A4_1 x4.wr.length c4_1, .slice A4_2 x4.lv.length c4_2, .int .i64 x4.t.1, .int .i64 x4.t.2.1, .bool x4.t.2.2, .int .i64 x4.pd, .int .i64 x4.x.1, .int .i64 x4.x.2.1, .bool x4.x.2.2.1, .int .i64 x4.x.2.2.2, .bool x4.hl, .slice A4_3 x4.seen.length c4_3]] (fun w5 S => (implx_another x4 _ _ (hcap1.2 _ (hx4 ▸ List.getElem_mem _)) (St.old S hR4)).mono fun e w5' hp => ?_)
    obtain ⟨cs, F, rfl, ho, hF, hb⟩ := hp
    obtain ⟨P5_0, P5_1, P5_2, P5_3, rfl, f5_0, f5_1, f5_2, f5_3⟩ := wG_rd (wG.reads ho)
    obtain ⟨A5_0, c5_0, e5_0, -⟩ := lst_val f5_0
    subst e5_0
    obtain ⟨A5_1, c5_1, e5_1, -⟩ := lst_val f5_1
    subst e5_1
    obtain ⟨A5_2, c5_2, e5_2, -⟩ := lst_val f5_2
    subst e5_2
    obtain ⟨A5_3, c5_3, e5_3, -⟩ := lst_val f5_3
    subst e5_3
    generalize F = F5 at ho hF
    refine ⟨_, _, rfl, (St.got S hb ho hF), ?_⟩
    clear S hb ho hF f5_0 f5_1 f5_2 f5_3
    refine Sx.G.sw [.slice A5_0 x4.prog.length c5_0, .int .i64 x4.a, .int .i64 x4.pc, .slice A5_1 x4.wr.length c5_1, .slice A5_2 x4.lv.length c5_2, .int .i64 x4.t.1, .int .i64 x4.t.2.1, .bool x4.t.2.2, .int .i64 x4.pd, .int .i64 x4.x.1, .int .i64 x4.x.2.1, .bool x4.x.2.2.1, .int .i64 x4.x.2.2.2, .bool x4.hl, .slice A5_3 x4.seen.length c5_3] .a1 ?_
    refine Sx.G.p (.bool true) ?_
    refine Sx.G.nil (Sx.E.next (Sx.C.ret ?_))
    refine Sx.E.retg2 (.agg #[.slice A5_0 x4.prog.length c5_0, .int .i64 x4.a, .int .i64 x4.pc, .slice A5_1 x4.wr.length c5_1, .slice A5_2 x4.lv.length c5_2, .int .i64 x4.t.1, .int .i64 x4.t.2.1, .bool x4.t.2.2, .int .i64 x4.pd, .int .i64 x4.x.1, .int .i64 x4.x.2.1, .bool x4.x.2.2.1, .int .i64 x4.x.2.2.2, .bool x4.hl, .slice A5_3 x4.seen.length c5_3]) (.bool true) rfl (Sx.IsRes.row b2 1 [.slice A5_0 x4.prog.length c5_0, .int .i64 x4.a, .int .i64 x4.pc, .slice A5_1 x4.wr.length c5_1, .slice A5_2 x4.lv.length c5_2, .int .i64 x4.t.1, .int .i64 x4.t.2.1, .bool x4.t.2.2, .int .i64 x4.pd, .int .i64 x4.x.1, .int .i64 x4.x.2.1, .bool x4.x.2.2.1, .int .i64 x4.x.2.2.2, .bool x4.hl, .slice A5_3 x4.seen.length c5_3] (by kernel_rfl) rfl (by kernel_rfl) (by kernel_rfl)) (Sx.IsRes.slot (by kernel_rfl)) (fun w S => ?_)
    rw [show guestAt x (j : Int) = (x4, true) from by rw [hx4]; unfold guestAt; rw [hc3, if_pos rfl]; simp [List.getD_eq_getElem?_getD, hjl]]
    exact ⟨_, _, rfl, S.own 0 rfl, S.nodup 0 rfl, S.below⟩

end Go.Proofs.Ytmiokacihcpepaa.Kit
namespace Go.Proofs.Ytmiokacihcpepaa.Guests
set_option maxRecDepth 100000
open Go.ChangeShapes Go.WideShapes Go.ChangeAt Go.RowKit
open Go.Proofs.Ytmiokacihcpepaa.Base Go.Proofs.Ytmiokacihcpepaa.Mem Go.Proofs.Ytmiokacihcpepaa.Data Go.Proofs.Ytmiokacihcpepaa.Slots Go.Proofs.Ytmiokacihcpepaa.Ints Go.Proofs.Ytmiokacihcpepaa.Ctls Go.Proofs.Ytmiokacihcpepaa.Exits Go.Proofs.Ytmiokacihcpepaa.Stt Go.Proofs.Ytmiokacihcpepaa.Irqs Go.Proofs.Ytmiokacihcpepaa.Inss
set_option linter.unusedVariables false
set_option linter.unusedSimpArgs false
/-- What chapter 16 computes. -/
def opWant (o : Int) : Int := if (o == 3) = true then 3 else if (o == 4) = true then 4 else if (o == 5) = true then 5 else if (o == 6) = true then 6 else if (o == 7) = true then 7 else 2
def wantG (g : gT) : Int := if canRun g = true then (if takesI g = true then 1 else opWant (insAt g.prog g.pc).1) else 0
def movedG (g : gT) : gT := { g with pc := if decide (g.pc ≥ 12) = true then 12 else IntKind.i64.wrap (g.pc + 1) }
def plainG (g : gT) : gT :=
  if (wantG g != 2) = true then g
  else if (inB g.a 0 99 && inB (insAt g.prog g.pc).2 0 99 && ((insAt g.prog g.pc).1 == 1)) = true then movedG { g with a := (insAt g.prog g.pc).2 }
  else if (inB g.a 0 99 && inB (insAt g.prog g.pc).2 0 99 && ((insAt g.prog g.pc).1 == 2)) = true then movedG { g with a := (IntKind.i64.wrap (g.a + (insAt g.prog g.pc).2)).tmod 100 }
  else if (inB g.a 0 99 && inB (insAt g.prog g.pc).2 0 99 && ((insAt g.prog g.pc).1 == 8) && (g.a == 0)) = true then { g with pc := (insAt g.prog g.pc).2 }
  else movedG g
def loadedG (g : gT) (v : Int) : gT := movedG (sawG { g with a := v } v)
def heldG (g : gT) : gT := movedG { g with hl := true }
def addrG (g : gT) : Int := if ((wantG g != 3) && (wantG g != 4)) = true then -1 else (insAt g.prog g.pc).2

end Go.Proofs.Ytmiokacihcpepaa.Guests
namespace Go.Proofs.Ytmiokacihcpepaa.Kit
set_option maxRecDepth 100000
open Go.ChangeShapes Go.WideShapes Go.ChangeAt Go.RowKit Go.Deep
open Go.Proofs.Ytmiokacihcpepaa.Base Go.Proofs.Ytmiokacihcpepaa.Mem Go.Proofs.Ytmiokacihcpepaa.Data Go.Proofs.Ytmiokacihcpepaa.Stt Go.Proofs.Ytmiokacihcpepaa.Guests Go.Proofs.Ytmiokacihcpepaa.Ctls Go.Proofs.Ytmiokacihcpepaa.Exits Go.Proofs.Ytmiokacihcpepaa.Irqs Go.Proofs.Ytmiokacihcpepaa.Inss Go.Proofs.Ytmiokacihcpepaa.Slots
set_option linter.unusedVariables false
set_option linter.unusedSimpArgs false
/-- The guests that can run, by their numbers. -/
def runF : List gT → Nat → List Int
  | [], _ => []
  | g :: r, k => if canRun g = true then (k : Int) :: runF r (k + 1) else runF r (k + 1)
theorem runF_snoc (g : gT) : ∀ (a : List gT) (k : Nat), runF (a ++ [g]) k = runF a k ++ (if canRun g = true then [((k + a.length : Nat) : Int)] else [])
  | [], k => by simp only [List.nil_append, runF, List.length_nil, Nat.add_zero]
  | h :: a, k => by
    have e : k + 1 + a.length = k + (h :: a).length := by simp only [List.length_cons]; omega
    simp only [List.cons_append, runF, runF_snoc g a (k + 1), e]
    split <;> rfl
theorem runF_up {gs : List gT} {i : Nat} (h : i < gs.length) : runF (gs.take (i + 1)) 0 = runF (gs.take i) 0 ++ (if canRun gs[i] = true then [(i : Int)] else []) := by
  rw [Kit.take_step h, runF_snoc, List.length_take, Nat.min_eq_left (by omega), Nat.zero_add]
theorem runF_len : ∀ (a : List gT) (k : Nat), (runF a k).length ≤ a.length
  | [], k => Nat.le_refl _
  | h :: a, k => by
    have := runF_len a (k + 1)
    simp only [runF]
    split <;> simp only [List.length_cons] <;> omega
def runB (x : bT) : List Int := runF x.gs 0
theorem cap_runB {x : bT} (h : wB.cap x) : (rLsw rInt).cap (runB x) := ⟨Nat.le_trans (runF_len _ _) h.2.1.1, fun _ _ => trivial⟩
theorem size_runB (x : bT) : (rLsw rInt).size (runB x) ≤ wB.size x := by
  rw [size_Bare]
  show (runB x).length + sizeAll rInt (runB x) ≤ _
  have := runF_len x.gs 0
  rw [sz0_Int]
  unfold runB
  omega
def exitP (q : QT) (w : World) (e : Ending) (w' : World) : Prop := e = .returned (.agg #[.int .i64 q.1, .int .i64 q.2.1, .bool q.2.2.1, .int .i64 q.2.2.2]) ∧ Below w.heap.size w w'

set_option maxRecDepth 100000 in
set_option maxHeartbeats 4000000 in
theorem specx_run (x : bT) (cs : List Value) (w : World) (hc : wB.cap x) (h : wB.rd w 0 w.heap.size x cs) : Calls Try.prog 7 #[.agg cs.toArray] w (Gives (rLsw rInt) w (runB x)) := by
  have hgc : (rLsw wG).cap x.gs := hc.2.1
  have hgl : x.gs.length ≤ 1048576 := hgc.1
  have hR := h
  obtain ⟨hP0, hP1, hP2, rfl, hf0, hf1, hf2⟩ := wB_rd h
  obtain ⟨hA0, hK0, he0, -⟩ := lst_val hf0
  subst he0
  obtain ⟨hA1, hK1, he1, -⟩ := lst_val hf1
  subst he1
  obtain ⟨hA2, hK2, he2, -⟩ := lst_val hf2
  subst he2
  refine Sx.enter (args := [.agg #[.slice hA0 x.mem.length hK0, .slice hA1 x.gs.length hK1, .slice hA2 x.outs.length hK2, .int .i64 x.pd]]) Try.func7 rfl Try.ntmps7 rfl ?_
  refine Sx.C.seq (Sx.C.region ?_)
  refine Sx.G.b [.slice hA0 x.mem.length hK0, .slice hA1 x.gs.length hK1, .slice hA2 x.outs.length hK2, .int .i64 x.pd] (fun b1 => ?_)
  refine Sx.G.p (.slice none 0 0) ?_
  refine Sx.G.nil (Sx.E.next (Sx.C.seq (Sx.C.region ?_)))
  refine Sx.G.fresh 3 rInt (by kernel_rfl) (fun w => by kernel_rfl) (fun b2 hi2 => ?_)
  refine Sx.G.p (.slice (some ⟨b2, 0, none⟩) 0 0) ?_
  refine Sx.G.nil (Sx.E.next (Sx.C.seq (Sx.C.seq (Sx.C.region ?_))))
  refine Sx.G.p (.int .i64 0) ?_
  refine Sx.G.nil (Sx.E.next (Sx.C.block ?_))
  refine Sx.C.loop (α := Nat × List Int × Option Addr × Nat × Nat × Nat × List Nat) (fun x_ => x_.1 ≤ x.gs.length ∧ x_.2.1 = runF (x.gs.take x_.1) 0) (fun x_ => [(4, .int .i64 (x_.1 : Int)), (3, .slice x_.2.2.1 x_.2.1.length x_.2.2.2.1), (1, .pointer (some ⟨b1, 0, none⟩)), (2, .slice none 0 0)]) (fun x_ => [ow (rLst 3 rInt) x_.2.2.2.2.1 x_.2.2.2.2.2.1 x_.2.1 [.slice x_.2.2.1 x_.2.1.length x_.2.2.2.1] x_.2.2.2.2.2.2, vr b1 [.slice hA0 x.mem.length hK0, .slice hA1 x.gs.length hK1, .slice hA2 x.outs.length hK2, .int .i64 x.pd]]) (fun x_ => x.gs.length - x_.1) (0, [], (some ⟨b2, 0, none⟩), 0, b2, hi2, [b2]) ⟨Nat.zero_le _, rfl⟩ (fun a hA => (Sx.Ag.sub hA (by kernel_rfl))) (fun w S => St.pick S [0, 1] _ rfl (by decide)) (fun x_ hx => ?_)
  obtain ⟨i, t, tA, tc, tl, th, tF⟩ := x_
  dsimp only at hx
  obtain ⟨hi', ht⟩ := hx
  have htl : t.length ≤ 1048576 := by rw [ht]; exact Nat.le_trans (runF_len _ _) (by rw [List.length_take]; omega)
  refine Sx.C.seq (Sx.C.seq (Sx.C.region ?_))
  refine Sx.G.p (.int .i64 (i : Int)) ?_
  refine Sx.G.p (.pointer (some ⟨b1, 1, none⟩)) ?_
  refine Sx.G.g (.slice hA1 x.gs.length hK1) .m1 .m1 ?_
  refine Sx.G.p (.int .i64 ((x.gs.length : Nat) : Int)) ?_
  refine Sx.G.p (.bool (decide ((i : Int) < ((x.gs.length : Nat) : Int)))) ?_
  refine Sx.G.nil (Sx.E.next ?_)
  cases hc3 : (decide ((i : Int) < ((x.gs.length : Nat) : Int)))
  · have hb3 := hc3
    replace hc3 := of_decide_eq_false hc3
    refine Sx.C.nn (Sx.C.exit (Sx.E.then_exit (Sx.E.then_exit (Sx.E.block_hit (Sx.E.next (Sx.C.seq (Sx.C.region ?_)))))))
    refine Sx.G.p (.slice tA t.length tc) ?_
    refine Sx.G.p (.slice tA t.length tc) ?_
    refine Sx.G.nil (Sx.E.next (Sx.C.ret ?_))
    refine Sx.E.ret1 (.slice tA t.length tc) rfl (by kernel_rfl) (fun w S => ?_)
    have htk : x.gs.take i = x.gs := List.take_of_length_le (by omega)
    rw [htk] at ht
    subst ht
    obtain ⟨GW, S⟩ := S.weak 0 rfl
    exact ⟨[_], _, rfl, S.own 0 rfl, S.nodup 0 rfl, S.below⟩
  · have hb3 := hc3
    replace hc3 := of_decide_eq_true hc3
    refine Sx.C.yy (Sx.C.skip (Sx.E.next (Sx.C.seq (Sx.C.block (Sx.C.seq (Sx.C.region ?_))))))
    refine Sx.G.p (.pointer (some ⟨b1, 1, none⟩)) ?_
    refine Sx.G.g (.slice hA1 x.gs.length hK1) .m1 .m1 ?_
    refine Sx.G.p (.int .i64 (i : Int)) ?_
    obtain ⟨b4, f4, es4, eA4, hr4, hl4, hm4⟩ := Sx.old_elem (by decide) hf1 i (by omega)
    subst eA4
    obtain ⟨x4, hx4⟩ : ∃ z_, z_ = (x.gs[i]'(by omega)) := ⟨_, rfl⟩
    rw [← hx4] at hr4
    have hR4 := hr4
    obtain ⟨P4_0, P4_1, P4_2, P4_3, rfl, hf4_0, hf4_1, hf4_2, hf4_3⟩ := wG_rd hr4
    obtain ⟨A4_0, c4_0, e4_0, -⟩ := lst_val hf4_0
    subst e4_0
    obtain ⟨A4_1, c4_1, e4_1, -⟩ := lst_val hf4_1
    subst e4_1
    obtain ⟨A4_2, c4_2, e4_2, -⟩ := lst_val hf4_2
    subst e4_2
    obtain ⟨A4_3, c4_3, e4_3, -⟩ := lst_val hf4_3
    subst e4_3
    refine Sx.G.elem 29 52 (.tmp 14) (.tmp 15) 15 184 b4 f4 x.gs.length hK1 i rfl (by kernel_rfl) (by kernel_rfl) (by kernel_rfl) (by kernel_rfl) (by omega) ?_
    refine Sx.G.ldr 52 (.tmp 16) b4 (f4 + i * 15) [.slice A4_0 x4.prog.length c4_0, .int .i64 x4.a, .int .i64 x4.pc, .slice A4_1 x4.wr.length c4_1, .slice A4_2 x4.lv.length c4_2, .int .i64 x4.t.1, .int .i64 x4.t.2.1, .bool x4.t.2.2, .int .i64 x4.pd, .int .i64 x4.x.1, .int .i64 x4.x.2.1, .bool x4.x.2.2.1, .int .i64 x4.x.2.2.2, .bool x4.hl, .slice A4_3 x4.seen.length c4_3] rfl (by kernel_rfl) (by kernel_rfl) (fun w S => hm4 w _ S) (by kernel_rfl) (by kernel_rfl) ?_
    refine Sx.G.cp 23 #[.agg #[.slice A4_0 x4.prog.length c4_0, .int .i64 x4.a, .int .i64 x4.pc, .slice A4_1 x4.wr.length c4_1, .slice A4_2 x4.lv.length c4_2, .int .i64 x4.t.1, .int .i64 x4.t.2.1, .bool x4.t.2.2, .int .i64 x4.pd, .int .i64 x4.x.1, .int .i64 x4.x.2.1, .bool x4.x.2.2.1, .int .i64 x4.x.2.2.2, .bool x4.hl, .slice A4_3 x4.seen.length c4_3]] (.bool (canRun x4)) (fun w S => by exact Guests.spec_canRun x4 _ _ _ _ _) ?_
    refine Sx.G.nil (Sx.E.next ?_)
    cases hc5 : (canRun x4)
    · have hb5 := hc5
      refine Sx.C.nn (Sx.C.skip (Sx.E.block_normal (Sx.E.next ?_)))
      refine Sx.C.sl [(1, .pointer (some ⟨b1, 0, none⟩)), (2, .slice none 0 0), (3, .slice tA t.length tc), (4, .int .i64 (i : Int))] ?_
      refine Sx.C.region ?_
      refine Sx.G.p (.int .i64 (i : Int)) ?_
      refine Sx.G.q (.int .i64 (IntKind.i64.wrap ((i : Int) + 1))) (.int .i64 ((i + 1 : Nat) : Int)) (congrArg (Value.int .i64) (Sx.wrap_up i (by omega))) ?_
      refine Sx.G.p (.int .i64 ((i + 1 : Nat) : Int)) ?_
      refine Sx.G.nil ?_
      have HN : i + 1 ≤ x.gs.length ∧ t = runF (x.gs.take (i + 1)) 0 := by
        rw [runF_up (show i < x.gs.length by omega), ← ht, ← hx4, hb5]
        exact ⟨by omega, by simp⟩
      exact Sx.E.again (i + 1, t, tA, tc, tl, th, tF) HN (by show x.gs.length - (i + 1) < x.gs.length - i; omega) (fun a hA => (Sx.Ag.sub hA (by kernel_rfl))) (fun w S => St.pick S [0, 1] _ rfl (by decide))
    · have hb5 := hc5
      refine Sx.C.yy ?_
      refine Sx.C.sl [(1, .pointer (some ⟨b1, 0, none⟩)), (2, .slice none 0 0), (3, .slice tA t.length tc), (4, .int .i64 (i : Int))] ?_
      refine Sx.C.region ?_
      refine Sx.G.p (.slice tA t.length tc) ?_
      refine Sx.G.p (.int .i64 (i : Int)) ?_
      refine Sx.G.made 3 [.int .i64 (i : Int)] 1 (by kernel_rfl) (fun w => by kernel_rfl) (fun b6 => ?_)
      refine Sx.G.apps 1 rfl (t ++ [(i : Int)]) (fun w S => S.box (r := rInt) 0 rfl rfl 1 (Nat.le_refl _)) rfl ((t ++ [(i : Int)]).length) (by simp) flat_int (.tmp 19) (.tmp 21) 24 1 8 rfl rfl (by kernel_rfl) (by kernel_rfl) rfl (by kernel_rfl) (by kernel_rfl) (by simp only [maxLen, List.length_cons, List.length_nil]; omega) (by simp only [List.length_cons, List.length_nil]; omega) (fun A7 c7 F7 hi7 hm7 => ?_)
      refine Sx.G.p (.slice A7 ((t ++ [(i : Int)]).length) c7) ?_
      refine Sx.G.nil (Sx.E.block_normal (Sx.E.next (Sx.C.region ?_)))
      refine Sx.G.p (.int .i64 (i : Int)) ?_
      refine Sx.G.q (.int .i64 (IntKind.i64.wrap ((i : Int) + 1))) (.int .i64 ((i + 1 : Nat) : Int)) (congrArg (Value.int .i64) (Sx.wrap_up i (by omega))) ?_
      refine Sx.G.p (.int .i64 ((i + 1 : Nat) : Int)) ?_
      refine Sx.G.nil ?_
      have HN : i + 1 ≤ x.gs.length ∧ t ++ [(i : Int)] = runF (x.gs.take (i + 1)) 0 := by
        rw [runF_up (show i < x.gs.length by omega), ← ht, ← hx4, hb5]
        exact ⟨by omega, by simp⟩
      exact Sx.E.again (i + 1, t ++ [(i : Int)], A7, c7, w.heap.size, hi7, F7) HN (by show x.gs.length - (i + 1) < x.gs.length - i; omega) (fun a hA => (Sx.Ag.sub hA (by kernel_rfl))) (fun w S => St.pick S [1, 2] _ rfl (by decide))

set_option maxRecDepth 100000 in
set_option maxHeartbeats 4000000 in
theorem implx_run (x : bT) (cs : List Value) (w : World) (hc : wB.cap x) (h : wB.rd w 0 w.heap.size x cs) (hn : wB.wf x) : Calls Try.prog 9 #[.agg cs.toArray] w (Gives (rLsw rInt) w (runB x)) := by
  have hgc : (rLsw wG).cap x.gs := hc.2.1
  have hgl : x.gs.length ≤ 1048576 := hgc.1
  have hwe : ∀ z ∈ x.gs, wG.wf z := hn.2.1.2
  have hR := h
  obtain ⟨hP0, hP1, hP2, rfl, hf0, hf1, hf2⟩ := wB_rd h
  obtain ⟨hA0, hK0, he0, -⟩ := lst_val hf0
  subst he0
  obtain ⟨hA1, hK1, he1, -⟩ := lst_val hf1
  subst he1
  obtain ⟨hA2, hK2, he2, -⟩ := lst_val hf2
  subst he2
  refine Sx.enter (args := [.agg #[.slice hA0 x.mem.length hK0, .slice hA1 x.gs.length hK1, .slice hA2 x.outs.length hK2, .int .i64 x.pd]]) Try.func9 rfl Try.ntmps9 rfl ?_
  refine Sx.C.seq (Sx.C.region ?_)
  refine Sx.G.b [.slice hA0 x.mem.length hK0, .slice hA1 x.gs.length hK1, .slice hA2 x.outs.length hK2, .int .i64 x.pd] (fun b1 => ?_)
  refine Sx.G.p (.slice none 0 0) ?_
  refine Sx.G.nil (Sx.E.next (Sx.C.seq (Sx.C.region ?_)))
  refine Sx.G.fresh 3 rInt (by kernel_rfl) (fun w => by kernel_rfl) (fun b2 hi2 => ?_)
  refine Sx.G.p (.slice (some ⟨b2, 0, none⟩) 0 0) ?_
  refine Sx.G.nil (Sx.E.next (Sx.C.seq (Sx.C.seq (Sx.C.region ?_))))
  refine Sx.G.p (.pointer (some ⟨b1, 1, none⟩)) ?_
  refine Sx.G.g (.slice hA1 x.gs.length hK1) .m1 .m1 ?_
  refine Sx.G.p (.int .i64 ((x.gs.length : Nat) : Int)) ?_
  refine Sx.G.p (.int .i64 0) ?_
  refine Sx.G.nil (Sx.E.next (Sx.C.block ?_))
  refine Sx.C.loop (α := Nat × List Int × Option Addr × Nat × Nat × Nat × List Nat) (fun x_ => x_.1 ≤ x.gs.length ∧ x_.2.1 = runF (x.gs.take x_.1) 0) (fun x_ => [(10, .int .i64 (x_.1 : Int)), (3, .slice x_.2.2.1 x_.2.1.length x_.2.2.2.1), (2, .slice none 0 0), (8, .slice hA1 x.gs.length hK1), (9, .int .i64 ((x.gs.length : Nat) : Int))]) (fun x_ => [ow (rLst 3 rInt) x_.2.2.2.2.1 x_.2.2.2.2.2.1 x_.2.1 [.slice x_.2.2.1 x_.2.1.length x_.2.2.2.1] x_.2.2.2.2.2.2, vr b1 [.slice hA0 x.mem.length hK0, .slice hA1 x.gs.length hK1, .slice hA2 x.outs.length hK2, .int .i64 x.pd]]) (fun x_ => x.gs.length - x_.1) (0, [], (some ⟨b2, 0, none⟩), 0, b2, hi2, [b2]) ⟨Nat.zero_le _, rfl⟩ (fun a hA => (Sx.Ag.sub hA (by kernel_rfl))) (fun w S => St.pick S [0, 1] _ rfl (by decide)) (fun x_ hx => ?_)
  obtain ⟨i, t, tA, tc, tl, th, tF⟩ := x_
  dsimp only at hx
  obtain ⟨hi', ht⟩ := hx
  have htl : t.length ≤ 1048576 := by rw [ht]; exact Nat.le_trans (runF_len _ _) (by rw [List.length_take]; omega)
  refine Sx.C.seq (Sx.C.region ?_)
  refine Sx.G.p (.bool (decide ((i : Int) < ((x.gs.length : Nat) : Int)))) ?_
  refine Sx.G.nil (Sx.E.next (Sx.C.seq ?_))
  cases hc3 : (decide ((i : Int) < ((x.gs.length : Nat) : Int)))
  · have hb3 := hc3
    replace hc3 := of_decide_eq_false hc3
    refine Sx.C.nn (Sx.C.exit (Sx.E.then_exit (Sx.E.then_exit (Sx.E.block_hit (Sx.E.next (Sx.C.seq (Sx.C.region ?_)))))))
    refine Sx.G.p (.slice tA t.length tc) ?_
    refine Sx.G.p (.slice tA t.length tc) ?_
    refine Sx.G.nil (Sx.E.next (Sx.C.ret ?_))
    refine Sx.E.ret1 (.slice tA t.length tc) rfl (by kernel_rfl) (fun w S => ?_)
    have htk : x.gs.take i = x.gs := List.take_of_length_le (by omega)
    rw [htk] at ht
    subst ht
    obtain ⟨GW, S⟩ := S.weak 0 rfl
    exact ⟨[_], _, rfl, S.own 0 rfl, S.nodup 0 rfl, S.below⟩
  · have hb3 := hc3
    replace hc3 := of_decide_eq_true hc3
    refine Sx.C.yy (Sx.C.skip (Sx.E.next (Sx.C.seq (Sx.C.block (Sx.C.seq (Sx.C.region ?_))))))
    refine Sx.G.p (.int .i64 (i : Int)) ?_
    obtain ⟨b4, f4, es4, eA4, hr4, hl4, hm4⟩ := Sx.old_elem (by decide) hf1 i (by omega)
    subst eA4
    obtain ⟨x4, hx4⟩ : ∃ z_, z_ = (x.gs[i]'(by omega)) := ⟨_, rfl⟩
    rw [← hx4] at hr4
    have hR4 := hr4
    obtain ⟨P4_0, P4_1, P4_2, P4_3, rfl, hf4_0, hf4_1, hf4_2, hf4_3⟩ := wG_rd hr4
    obtain ⟨A4_0, c4_0, e4_0, -⟩ := lst_val hf4_0
    subst e4_0
    obtain ⟨A4_1, c4_1, e4_1, -⟩ := lst_val hf4_1
    subst e4_1
    obtain ⟨A4_2, c4_2, e4_2, -⟩ := lst_val hf4_2
    subst e4_2
    obtain ⟨A4_3, c4_3, e4_3, -⟩ := lst_val hf4_3
    subst e4_3
    refine Sx.G.elem 29 52 (.tmp 8) (.tmp 10) 15 184 b4 f4 x.gs.length hK1 i rfl (by kernel_rfl) (by kernel_rfl) (by kernel_rfl) (by kernel_rfl) (by omega) ?_
    refine Sx.G.ldr 52 (.tmp 13) b4 (f4 + i * 15) [.slice A4_0 x4.prog.length c4_0, .int .i64 x4.a, .int .i64 x4.pc, .slice A4_1 x4.wr.length c4_1, .slice A4_2 x4.lv.length c4_2, .int .i64 x4.t.1, .int .i64 x4.t.2.1, .bool x4.t.2.2, .int .i64 x4.pd, .int .i64 x4.x.1, .int .i64 x4.x.2.1, .bool x4.x.2.2.1, .int .i64 x4.x.2.2.2, .bool x4.hl, .slice A4_3 x4.seen.length c4_3] rfl (by kernel_rfl) (by kernel_rfl) (fun w S => hm4 w _ S) (by kernel_rfl) (by kernel_rfl) ?_
    refine Sx.G.ar [.slice none 0 0, .int .i64 0, .int .i64 0, .slice none 0 0, .slice none 0 0, .int .i64 0, .int .i64 0, .bool false, .int .i64 0, .int .i64 0, .int .i64 0, .bool false, .int .i64 0, .bool false, .slice none 0 0] (fun b5 => ?_)
    refine Sx.G.p (.int .i64 (i : Int)) ?_
    refine Sx.G.sw [.slice A4_0 x4.prog.length c4_0, .int .i64 x4.a, .int .i64 x4.pc, .slice A4_1 x4.wr.length c4_1, .slice A4_2 x4.lv.length c4_2, .int .i64 x4.t.1, .int .i64 x4.t.2.1, .bool x4.t.2.2, .int .i64 x4.pd, .int .i64 x4.x.1, .int .i64 x4.x.2.1, .bool x4.x.2.2.1, .int .i64 x4.x.2.2.2, .bool x4.hl, .slice A4_3 x4.seen.length c4_3] .a0 ?_
    refine Sx.G.nil (Sx.E.next (Sx.C.seq ?_))
    refine Sx.C.sl [(2, .slice none 0 0), (3, .slice tA t.length tc), (4, .int .i64 (i : Int)), (5, .pointer (some ⟨b5, 0, none⟩)), (8, .slice (some ⟨b4, f4, none⟩) x.gs.length hK1), (9, .int .i64 ((x.gs.length : Nat) : Int)), (10, .int .i64 (i : Int))] ?_
    refine Sx.C.region ?_
    refine Sx.G.lw .m0 ?_
    refine Sx.G.cp 27 #[.agg #[.slice A4_0 x4.prog.length c4_0, .int .i64 x4.a, .int .i64 x4.pc, .slice A4_1 x4.wr.length c4_1, .slice A4_2 x4.lv.length c4_2, .int .i64 x4.t.1, .int .i64 x4.t.2.1, .bool x4.t.2.2, .int .i64 x4.pd, .int .i64 x4.x.1, .int .i64 x4.x.2.1, .bool x4.x.2.2.1, .int .i64 x4.x.2.2.2, .bool x4.hl, .slice A4_3 x4.seen.length c4_3]] (.bool (canRun x4)) (fun w S => by exact Guests.impl_canRun x4 _ _ (hwe _ (hx4 ▸ List.getElem_mem _)) (cap_G (hgc.2 _ (hx4 ▸ List.getElem_mem _))) (rd_G (St.old S hR4))) ?_
    refine Sx.G.nil (Sx.E.next ?_)
    cases hc6 : (canRun x4)
    · have hb6 := hc6
      refine Sx.C.nn (Sx.C.skip (Sx.E.block_normal (Sx.E.next (Sx.C.region ?_))))
      refine Sx.G.q (.int .i64 (IntKind.i64.wrap ((i : Int) + 1))) (.int .i64 ((i + 1 : Nat) : Int)) (congrArg (Value.int .i64) (Sx.wrap_up i (by omega))) ?_
      refine Sx.G.p (.int .i64 ((i + 1 : Nat) : Int)) ?_
      refine Sx.G.nil ?_
      have HN : i + 1 ≤ x.gs.length ∧ t = runF (x.gs.take (i + 1)) 0 := by
        rw [runF_up (show i < x.gs.length by omega), ← ht, ← hx4, hb6]
        exact ⟨by omega, by simp⟩
      exact Sx.E.again (i + 1, t, tA, tc, tl, th, tF) HN (by show x.gs.length - (i + 1) < x.gs.length - i; omega) (fun a hA => (Sx.Ag.sub hA (by kernel_rfl))) (fun w S => St.pick S [1, 2] _ rfl (by decide))
    · have hb6 := hc6
      refine Sx.C.yy (Sx.C.region ?_)
      refine Sx.G.p (.slice tA t.length tc) ?_
      refine Sx.G.p (.int .i64 (i : Int)) ?_
      refine Sx.G.made 3 [.int .i64 (i : Int)] 1 (by kernel_rfl) (fun w => by kernel_rfl) (fun b7 => ?_)
      refine Sx.G.apps 2 rfl (t ++ [(i : Int)]) (fun w S => S.box (r := rInt) 0 rfl rfl 1 (Nat.le_refl _)) rfl ((t ++ [(i : Int)]).length) (by simp) flat_int (.tmp 17) (.tmp 19) 24 1 8 rfl rfl (by kernel_rfl) (by kernel_rfl) rfl (by kernel_rfl) (by kernel_rfl) (by simp only [maxLen, List.length_cons, List.length_nil]; omega) (by simp only [List.length_cons, List.length_nil]; omega) (fun A8 c8 F8 hi8 hm8 => ?_)
      refine Sx.G.p (.slice A8 ((t ++ [(i : Int)]).length) c8) ?_
      refine Sx.G.nil (Sx.E.block_normal (Sx.E.next (Sx.C.region ?_)))
      refine Sx.G.q (.int .i64 (IntKind.i64.wrap ((i : Int) + 1))) (.int .i64 ((i + 1 : Nat) : Int)) (congrArg (Value.int .i64) (Sx.wrap_up i (by omega))) ?_
      refine Sx.G.p (.int .i64 ((i + 1 : Nat) : Int)) ?_
      refine Sx.G.nil ?_
      have HN : i + 1 ≤ x.gs.length ∧ t ++ [(i : Int)] = runF (x.gs.take (i + 1)) 0 := by
        rw [runF_up (show i < x.gs.length by omega), ← ht, ← hx4, hb6]
        exact ⟨by omega, by simp⟩
      exact Sx.E.again (i + 1, t ++ [(i : Int)], A8, c8, w.heap.size, hi8, F8) HN (by show x.gs.length - (i + 1) < x.gs.length - i; omega) (fun a hA => (Sx.Ag.sub hA (by kernel_rfl))) (fun w S => St.pick S [2, 3] _ rfl (by decide))

set_option maxRecDepth 100000 in
set_option maxHeartbeats 4000000 in
theorem specx_seen (x : bT) (cs : List Value) (g : Int) (w : World) (hc : wB.cap x) (h : wB.rd w 0 w.heap.size x cs) : Calls Try.prog 15 #[.agg cs.toArray, .int .i64 g] w (Gives (rLsw rInt) w (guestAt x g).1.seen) := by
  obtain ⟨y, hy⟩ : ∃ z, z = (guestAt x g).1 := ⟨_, rfl⟩
  have hcy : wG.cap y := hy ▸ cap_guestAt g hc
  have hsl : y.seen.length ≤ 1048576 := hcy.2.2.2.2.2.2.2.2.2.1
  have hR := h
  obtain ⟨hP0, hP1, hP2, rfl, hf0, hf1, hf2⟩ := wB_rd h
  obtain ⟨hA0, hK0, he0, -⟩ := lst_val hf0
  subst he0
  obtain ⟨hA1, hK1, he1, -⟩ := lst_val hf1
  subst he1
  obtain ⟨hA2, hK2, he2, -⟩ := lst_val hf2
  subst he2
  refine Sx.enter (args := [.agg #[.slice hA0 x.mem.length hK0, .slice hA1 x.gs.length hK1, .slice hA2 x.outs.length hK2, .int .i64 x.pd], .int .i64 g]) Try.func15 rfl Try.ntmps15 rfl ?_
  refine Sx.C.seq (Sx.C.region ?_)
  refine Sx.G.b [.slice hA0 x.mem.length hK0, .slice hA1 x.gs.length hK1, .slice hA2 x.outs.length hK2, .int .i64 x.pd] (fun b1 => ?_)
  refine Sx.G.p (.slice none 0 0) ?_
  refine Sx.G.nil (Sx.E.next (Sx.C.seq (Sx.C.region ?_)))
  refine Sx.G.lw .m0 ?_
  refine Sx.G.p (.int .i64 g) ?_
  refine Sx.G.c 32 #[.agg #[.slice hA0 x.mem.length hK0, .slice hA1 x.gs.length hK1, .slice hA2 x.outs.length hK2, .int .i64 x.pd], .int .i64 g] (fun w2 S => (specx_gat x _ g _ hc (St.old S hR)).mono fun e w2' hp => ?_)
  obtain ⟨cs, F, rfl, ho, hF, hb⟩ := hp
  rw [← hy] at ho
  obtain ⟨P2_0, P2_1, P2_2, P2_3, G2_0, G2_1, G2_2, G2_3, rfl, -, S'⟩ := wG_open2 (St.got S hb ho hF)
  obtain ⟨A2_0, c2_0, e2_0, -⟩ := lst_val (S'.reads 0 rfl)
  subst e2_0
  obtain ⟨A2_1, c2_1, e2_1, -⟩ := lst_val (S'.reads 1 rfl)
  subst e2_1
  obtain ⟨A2_2, c2_2, e2_2, -⟩ := lst_val (S'.reads 2 rfl)
  subst e2_2
  obtain ⟨A2_3, c2_3, e2_3, -⟩ := lst_val (S'.reads 3 rfl)
  subst e2_3
  refine ⟨_, _, rfl, S', ?_⟩
  clear S S' ho hF hb
  refine Sx.G.p (.tuple #[.agg #[.slice A2_0 y.prog.length c2_0, .int .i64 y.a, .int .i64 y.pc, .slice A2_1 y.wr.length c2_1, .slice A2_2 y.lv.length c2_2, .int .i64 y.t.1, .int .i64 y.t.2.1, .bool y.t.2.2, .int .i64 y.pd, .int .i64 y.x.1, .int .i64 y.x.2.1, .bool y.x.2.2.1, .int .i64 y.x.2.2.2, .bool y.hl, .slice A2_3 y.seen.length c2_3], .bool (guestAt x g).2]) ?_
  refine Sx.G.p (.agg #[.slice A2_0 y.prog.length c2_0, .int .i64 y.a, .int .i64 y.pc, .slice A2_1 y.wr.length c2_1, .slice A2_2 y.lv.length c2_2, .int .i64 y.t.1, .int .i64 y.t.2.1, .bool y.t.2.2, .int .i64 y.pd, .int .i64 y.x.1, .int .i64 y.x.2.1, .bool y.x.2.2.1, .int .i64 y.x.2.2.2, .bool y.hl, .slice A2_3 y.seen.length c2_3]) ?_
  refine Sx.G.p (.bool ((guestAt x g).2)) ?_
  refine Sx.G.ar [.slice none 0 0, .int .i64 0, .int .i64 0, .slice none 0 0, .slice none 0 0, .int .i64 0, .int .i64 0, .bool false, .int .i64 0, .int .i64 0, .int .i64 0, .bool false, .int .i64 0, .bool false, .slice none 0 0] (fun b3 => ?_)
  refine Sx.G.sw [.slice A2_0 y.prog.length c2_0, .int .i64 y.a, .int .i64 y.pc, .slice A2_1 y.wr.length c2_1, .slice A2_2 y.lv.length c2_2, .int .i64 y.t.1, .int .i64 y.t.2.1, .bool y.t.2.2, .int .i64 y.pd, .int .i64 y.x.1, .int .i64 y.x.2.1, .bool y.x.2.2.1, .int .i64 y.x.2.2.2, .bool y.hl, .slice A2_3 y.seen.length c2_3] .a0 ?_
  refine Sx.G.p (.bool ((guestAt x g).2)) ?_
  refine Sx.G.nil (Sx.E.next (Sx.C.seq (Sx.C.region ?_)))
  refine Sx.G.fresh 3 rInt (by kernel_rfl) (fun w => by kernel_rfl) (fun b4 hi4 => ?_)
  refine Sx.G.p (.pointer (some ⟨b3, 14, none⟩)) ?_
  refine Sx.G.g (.slice A2_3 y.seen.length c2_3) .m1 .m14 ?_
  refine Sx.G.apps 0 rfl y.seen (fun w S => St.reads S 5 rfl) (List.nil_append _) y.seen.length (by simp) flat_int (.tmp 13) (.tmp 15) 24 1 8 rfl rfl (by kernel_rfl) (by kernel_rfl) rfl (by kernel_rfl) (by kernel_rfl) (by simp only [maxLen, List.length_nil]; omega) (by simp only [List.length_nil]; omega) (fun A5 c5 F5 hi5 hm5 => ?_)
  refine Sx.G.p (.slice A5 y.seen.length c5) ?_
  refine Sx.G.nil (Sx.E.next (Sx.C.ret ?_))
  refine Sx.E.ret1 (.slice A5 y.seen.length c5) rfl (by kernel_rfl) (fun w S => ?_)
  obtain ⟨GW, S⟩ := S.weak 0 rfl
  rw [← hy]
  exact ⟨[_], _, rfl, S.own 0 rfl, S.nodup 0 rfl, S.below⟩

set_option maxRecDepth 100000 in
set_option maxHeartbeats 4000000 in
theorem implx_seen (x : bT) (cs : List Value) (g : Int) (w : World) (hc : wB.cap x) (h : wB.rd w 0 w.heap.size x cs) (hn : wB.wf x) (hg : (Lit.int .i64 g).wf = true) : Calls Try.prog 16 #[.agg cs.toArray, .int .i64 g] w (Gives (rLsw rInt) w (guestAt x g).1.seen) := by
  obtain ⟨y, hy⟩ : ∃ z, z = (guestAt x g).1 := ⟨_, rfl⟩
  have hcy : wG.cap y := hy ▸ cap_guestAt g hc
  have hsl : y.seen.length ≤ 1048576 := hcy.2.2.2.2.2.2.2.2.2.1
  have hR := h
  obtain ⟨hP0, hP1, hP2, rfl, hf0, hf1, hf2⟩ := wB_rd h
  obtain ⟨hA0, hK0, he0, -⟩ := lst_val hf0
  subst he0
  obtain ⟨hA1, hK1, he1, -⟩ := lst_val hf1
  subst he1
  obtain ⟨hA2, hK2, he2, -⟩ := lst_val hf2
  subst he2
  refine Sx.enter (args := [.agg #[.slice hA0 x.mem.length hK0, .slice hA1 x.gs.length hK1, .slice hA2 x.outs.length hK2, .int .i64 x.pd], .int .i64 g]) Try.func16 rfl Try.ntmps16 rfl ?_
  refine Sx.C.seq (Sx.C.region ?_)
  refine Sx.G.b [.slice hA0 x.mem.length hK0, .slice hA1 x.gs.length hK1, .slice hA2 x.outs.length hK2, .int .i64 x.pd] (fun b1 => ?_)
  refine Sx.G.p (.slice none 0 0) ?_
  refine Sx.G.nil (Sx.E.next (Sx.C.seq (Sx.C.region ?_)))
  refine Sx.G.lw .m0 ?_
  refine Sx.G.p (.int .i64 g) ?_
  refine Sx.G.c 33 #[.agg #[.slice hA0 x.mem.length hK0, .slice hA1 x.gs.length hK1, .slice hA2 x.outs.length hK2, .int .i64 x.pd], .int .i64 g] (fun w2 S => (impl_gat x _ g _ hn hc (St.old S hR) hg).mono fun e w2' hp => ?_)
  obtain ⟨cs, F, rfl, ho, hF, hb⟩ := hp
  rw [← hy] at ho
  obtain ⟨P2_0, P2_1, P2_2, P2_3, G2_0, G2_1, G2_2, G2_3, rfl, -, S'⟩ := wG_open2 (St.got S hb ho hF)
  obtain ⟨A2_0, c2_0, e2_0, -⟩ := lst_val (S'.reads 0 rfl)
  subst e2_0
  obtain ⟨A2_1, c2_1, e2_1, -⟩ := lst_val (S'.reads 1 rfl)
  subst e2_1
  obtain ⟨A2_2, c2_2, e2_2, -⟩ := lst_val (S'.reads 2 rfl)
  subst e2_2
  obtain ⟨A2_3, c2_3, e2_3, -⟩ := lst_val (S'.reads 3 rfl)
  subst e2_3
  refine ⟨_, _, rfl, S', ?_⟩
  clear S S' ho hF hb
  refine Sx.G.p (.tuple #[.agg #[.slice A2_0 y.prog.length c2_0, .int .i64 y.a, .int .i64 y.pc, .slice A2_1 y.wr.length c2_1, .slice A2_2 y.lv.length c2_2, .int .i64 y.t.1, .int .i64 y.t.2.1, .bool y.t.2.2, .int .i64 y.pd, .int .i64 y.x.1, .int .i64 y.x.2.1, .bool y.x.2.2.1, .int .i64 y.x.2.2.2, .bool y.hl, .slice A2_3 y.seen.length c2_3], .bool (guestAt x g).2]) ?_
  refine Sx.G.p (.agg #[.slice A2_0 y.prog.length c2_0, .int .i64 y.a, .int .i64 y.pc, .slice A2_1 y.wr.length c2_1, .slice A2_2 y.lv.length c2_2, .int .i64 y.t.1, .int .i64 y.t.2.1, .bool y.t.2.2, .int .i64 y.pd, .int .i64 y.x.1, .int .i64 y.x.2.1, .bool y.x.2.2.1, .int .i64 y.x.2.2.2, .bool y.hl, .slice A2_3 y.seen.length c2_3]) ?_
  refine Sx.G.p (.bool ((guestAt x g).2)) ?_
  refine Sx.G.ar [.slice none 0 0, .int .i64 0, .int .i64 0, .slice none 0 0, .slice none 0 0, .int .i64 0, .int .i64 0, .bool false, .int .i64 0, .int .i64 0, .int .i64 0, .bool false, .int .i64 0, .bool false, .slice none 0 0] (fun b3 => ?_)
  refine Sx.G.sw [.slice A2_0 y.prog.length c2_0, .int .i64 y.a, .int .i64 y.pc, .slice A2_1 y.wr.length c2_1, .slice A2_2 y.lv.length c2_2, .int .i64 y.t.1, .int .i64 y.t.2.1, .bool y.t.2.2, .int .i64 y.pd, .int .i64 y.x.1, .int .i64 y.x.2.1, .bool y.x.2.2.1, .int .i64 y.x.2.2.2, .bool y.hl, .slice A2_3 y.seen.length c2_3] .a0 ?_
  refine Sx.G.p (.bool ((guestAt x g).2)) ?_
  refine Sx.G.nil (Sx.E.next (Sx.C.seq (Sx.C.region ?_)))
  refine Sx.G.p (.pointer (some ⟨b3, 14, none⟩)) ?_
  refine Sx.G.g (.slice A2_3 y.seen.length c2_3) .m0 .m14 ?_
  refine Sx.G.p (.slice A2_3 y.seen.length c2_3) ?_
  refine Sx.G.nil (Sx.E.next (Sx.C.ret ?_))
  refine Sx.E.ret1 (.slice A2_3 y.seen.length c2_3) rfl (by kernel_rfl) (fun w S => ?_)
  rw [← hy]
  exact ⟨[_], _, rfl, S.own 4 rfl, S.nodup 4 rfl, S.below⟩

set_option maxRecDepth 100000 in
set_option maxHeartbeats 4000000 in
theorem specx_exit (x : bT) (cs : List Value) (g : Int) (w : World) (hc : wB.cap x) (h : wB.rd w 0 w.heap.size x cs) : Calls Try.prog 17 #[.agg cs.toArray, .int .i64 g] w (exitP (guestAt x g).1.x w) := by
  obtain ⟨y, hy⟩ : ∃ z, z = (guestAt x g).1 := ⟨_, rfl⟩
  have hcy : wG.cap y := hy ▸ cap_guestAt g hc
  have hsl : y.seen.length ≤ 1048576 := hcy.2.2.2.2.2.2.2.2.2.1
  have hR := h
  obtain ⟨hP0, hP1, hP2, rfl, hf0, hf1, hf2⟩ := wB_rd h
  obtain ⟨hA0, hK0, he0, -⟩ := lst_val hf0
  subst he0
  obtain ⟨hA1, hK1, he1, -⟩ := lst_val hf1
  subst he1
  obtain ⟨hA2, hK2, he2, -⟩ := lst_val hf2
  subst he2
  refine Sx.enter (args := [.agg #[.slice hA0 x.mem.length hK0, .slice hA1 x.gs.length hK1, .slice hA2 x.outs.length hK2, .int .i64 x.pd], .int .i64 g]) Try.func17 rfl Try.ntmps17 rfl ?_
  refine Sx.C.seq (Sx.C.region ?_)
  refine Sx.G.b [.slice hA0 x.mem.length hK0, .slice hA1 x.gs.length hK1, .slice hA2 x.outs.length hK2, .int .i64 x.pd] (fun b1 => ?_)
  refine Sx.G.ar [.int .i64 0, .int .i64 0, .bool false, .int .i64 0] (fun b2 => ?_)
  refine Sx.G.nil (Sx.E.next (Sx.C.seq (Sx.C.region ?_)))
  refine Sx.G.lw .m1 ?_
  refine Sx.G.p (.int .i64 g) ?_
  refine Sx.G.c 32 #[.agg #[.slice hA0 x.mem.length hK0, .slice hA1 x.gs.length hK1, .slice hA2 x.outs.length hK2, .int .i64 x.pd], .int .i64 g] (fun w3 S => (specx_gat x _ g _ hc (St.old S hR)).mono fun e w3' hp => ?_)
  obtain ⟨cs, F, rfl, ho, hF, hb⟩ := hp
  rw [← hy] at ho
  obtain ⟨P3_0, P3_1, P3_2, P3_3, G3_0, G3_1, G3_2, G3_3, rfl, -, S'⟩ := wG_open2 (St.got S hb ho hF)
  obtain ⟨A3_0, c3_0, e3_0, -⟩ := lst_val (S'.reads 0 rfl)
  subst e3_0
  obtain ⟨A3_1, c3_1, e3_1, -⟩ := lst_val (S'.reads 1 rfl)
  subst e3_1
  obtain ⟨A3_2, c3_2, e3_2, -⟩ := lst_val (S'.reads 2 rfl)
  subst e3_2
  obtain ⟨A3_3, c3_3, e3_3, -⟩ := lst_val (S'.reads 3 rfl)
  subst e3_3
  refine ⟨_, _, rfl, S', ?_⟩
  clear S S' ho hF hb
  refine Sx.G.p (.tuple #[.agg #[.slice A3_0 y.prog.length c3_0, .int .i64 y.a, .int .i64 y.pc, .slice A3_1 y.wr.length c3_1, .slice A3_2 y.lv.length c3_2, .int .i64 y.t.1, .int .i64 y.t.2.1, .bool y.t.2.2, .int .i64 y.pd, .int .i64 y.x.1, .int .i64 y.x.2.1, .bool y.x.2.2.1, .int .i64 y.x.2.2.2, .bool y.hl, .slice A3_3 y.seen.length c3_3], .bool (guestAt x g).2]) ?_
  refine Sx.G.p (.agg #[.slice A3_0 y.prog.length c3_0, .int .i64 y.a, .int .i64 y.pc, .slice A3_1 y.wr.length c3_1, .slice A3_2 y.lv.length c3_2, .int .i64 y.t.1, .int .i64 y.t.2.1, .bool y.t.2.2, .int .i64 y.pd, .int .i64 y.x.1, .int .i64 y.x.2.1, .bool y.x.2.2.1, .int .i64 y.x.2.2.2, .bool y.hl, .slice A3_3 y.seen.length c3_3]) ?_
  refine Sx.G.p (.bool ((guestAt x g).2)) ?_
  refine Sx.G.ar [.slice none 0 0, .int .i64 0, .int .i64 0, .slice none 0 0, .slice none 0 0, .int .i64 0, .int .i64 0, .bool false, .int .i64 0, .int .i64 0, .int .i64 0, .bool false, .int .i64 0, .bool false, .slice none 0 0] (fun b4 => ?_)
  refine Sx.G.sw [.slice A3_0 y.prog.length c3_0, .int .i64 y.a, .int .i64 y.pc, .slice A3_1 y.wr.length c3_1, .slice A3_2 y.lv.length c3_2, .int .i64 y.t.1, .int .i64 y.t.2.1, .bool y.t.2.2, .int .i64 y.pd, .int .i64 y.x.1, .int .i64 y.x.2.1, .bool y.x.2.2.1, .int .i64 y.x.2.2.2, .bool y.hl, .slice A3_3 y.seen.length c3_3] .a0 ?_
  refine Sx.G.p (.bool ((guestAt x g).2)) ?_
  refine Sx.G.nil (Sx.E.next (Sx.C.seq (Sx.C.region ?_)))
  refine Sx.G.p (.pointer (some ⟨b4, 9, none⟩)) ?_
  refine Sx.G.lp 9 [.int .i64 y.x.1, .int .i64 y.x.2.1, .bool y.x.2.2.1, .int .i64 y.x.2.2.2] .m0 ?_
  refine Sx.G.sw [.int .i64 y.x.1, .int .i64 y.x.2.1, .bool y.x.2.2.1, .int .i64 y.x.2.2.2] .a5 ?_
  refine Sx.G.nil (Sx.E.next (Sx.C.ret ?_))
  refine Sx.E.retc b2 5 [.int .i64 y.x.1, .int .i64 y.x.2.1, .bool y.x.2.2.1, .int .i64 y.x.2.2.2] rfl (by kernel_rfl) rfl (by kernel_rfl) (by kernel_rfl) (fun w S => ?_)
  rw [← hy]
  exact ⟨rfl, S.below⟩

set_option maxRecDepth 100000 in
set_option maxHeartbeats 4000000 in
theorem implx_exit (x : bT) (cs : List Value) (g : Int) (w : World) (hc : wB.cap x) (h : wB.rd w 0 w.heap.size x cs) (hn : wB.wf x) (hg : (Lit.int .i64 g).wf = true) : Calls Try.prog 18 #[.agg cs.toArray, .int .i64 g] w (exitP (guestAt x g).1.x w) := by
  obtain ⟨y, hy⟩ : ∃ z, z = (guestAt x g).1 := ⟨_, rfl⟩
  have hcy : wG.cap y := hy ▸ cap_guestAt g hc
  have hsl : y.seen.length ≤ 1048576 := hcy.2.2.2.2.2.2.2.2.2.1
  have hR := h
  obtain ⟨hP0, hP1, hP2, rfl, hf0, hf1, hf2⟩ := wB_rd h
  obtain ⟨hA0, hK0, he0, -⟩ := lst_val hf0
  subst he0
  obtain ⟨hA1, hK1, he1, -⟩ := lst_val hf1
  subst he1
  obtain ⟨hA2, hK2, he2, -⟩ := lst_val hf2
  subst he2
  refine Sx.enter (args := [.agg #[.slice hA0 x.mem.length hK0, .slice hA1 x.gs.length hK1, .slice hA2 x.outs.length hK2, .int .i64 x.pd], .int .i64 g]) Try.func18 rfl Try.ntmps18 rfl ?_
  refine Sx.C.seq (Sx.C.region ?_)
  refine Sx.G.b [.slice hA0 x.mem.length hK0, .slice hA1 x.gs.length hK1, .slice hA2 x.outs.length hK2, .int .i64 x.pd] (fun b1 => ?_)
  refine Sx.G.ar [.int .i64 0, .int .i64 0, .bool false, .int .i64 0] (fun b2 => ?_)
  refine Sx.G.nil (Sx.E.next (Sx.C.seq (Sx.C.region ?_)))
  refine Sx.G.lw .m1 ?_
  refine Sx.G.p (.int .i64 g) ?_
  refine Sx.G.c 33 #[.agg #[.slice hA0 x.mem.length hK0, .slice hA1 x.gs.length hK1, .slice hA2 x.outs.length hK2, .int .i64 x.pd], .int .i64 g] (fun w3 S => (impl_gat x _ g _ hn hc (St.old S hR) hg).mono fun e w3' hp => ?_)
  obtain ⟨cs, F, rfl, ho, hF, hb⟩ := hp
  rw [← hy] at ho
  obtain ⟨P3_0, P3_1, P3_2, P3_3, G3_0, G3_1, G3_2, G3_3, rfl, -, S'⟩ := wG_open2 (St.got S hb ho hF)
  obtain ⟨A3_0, c3_0, e3_0, -⟩ := lst_val (S'.reads 0 rfl)
  subst e3_0
  obtain ⟨A3_1, c3_1, e3_1, -⟩ := lst_val (S'.reads 1 rfl)
  subst e3_1
  obtain ⟨A3_2, c3_2, e3_2, -⟩ := lst_val (S'.reads 2 rfl)
  subst e3_2
  obtain ⟨A3_3, c3_3, e3_3, -⟩ := lst_val (S'.reads 3 rfl)
  subst e3_3
  refine ⟨_, _, rfl, S', ?_⟩
  clear S S' ho hF hb
  refine Sx.G.p (.tuple #[.agg #[.slice A3_0 y.prog.length c3_0, .int .i64 y.a, .int .i64 y.pc, .slice A3_1 y.wr.length c3_1, .slice A3_2 y.lv.length c3_2, .int .i64 y.t.1, .int .i64 y.t.2.1, .bool y.t.2.2, .int .i64 y.pd, .int .i64 y.x.1, .int .i64 y.x.2.1, .bool y.x.2.2.1, .int .i64 y.x.2.2.2, .bool y.hl, .slice A3_3 y.seen.length c3_3], .bool (guestAt x g).2]) ?_
  refine Sx.G.p (.agg #[.slice A3_0 y.prog.length c3_0, .int .i64 y.a, .int .i64 y.pc, .slice A3_1 y.wr.length c3_1, .slice A3_2 y.lv.length c3_2, .int .i64 y.t.1, .int .i64 y.t.2.1, .bool y.t.2.2, .int .i64 y.pd, .int .i64 y.x.1, .int .i64 y.x.2.1, .bool y.x.2.2.1, .int .i64 y.x.2.2.2, .bool y.hl, .slice A3_3 y.seen.length c3_3]) ?_
  refine Sx.G.p (.bool ((guestAt x g).2)) ?_
  refine Sx.G.ar [.slice none 0 0, .int .i64 0, .int .i64 0, .slice none 0 0, .slice none 0 0, .int .i64 0, .int .i64 0, .bool false, .int .i64 0, .int .i64 0, .int .i64 0, .bool false, .int .i64 0, .bool false, .slice none 0 0] (fun b4 => ?_)
  refine Sx.G.sw [.slice A3_0 y.prog.length c3_0, .int .i64 y.a, .int .i64 y.pc, .slice A3_1 y.wr.length c3_1, .slice A3_2 y.lv.length c3_2, .int .i64 y.t.1, .int .i64 y.t.2.1, .bool y.t.2.2, .int .i64 y.pd, .int .i64 y.x.1, .int .i64 y.x.2.1, .bool y.x.2.2.1, .int .i64 y.x.2.2.2, .bool y.hl, .slice A3_3 y.seen.length c3_3] .a0 ?_
  refine Sx.G.p (.bool ((guestAt x g).2)) ?_
  refine Sx.G.nil (Sx.E.next (Sx.C.seq (Sx.C.region ?_)))
  refine Sx.G.p (.pointer (some ⟨b4, 9, none⟩)) ?_
  refine Sx.G.lp 9 [.int .i64 y.x.1, .int .i64 y.x.2.1, .bool y.x.2.2.1, .int .i64 y.x.2.2.2] .m0 ?_
  refine Sx.G.sw [.int .i64 y.x.1, .int .i64 y.x.2.1, .bool y.x.2.2.1, .int .i64 y.x.2.2.2] .a5 ?_
  refine Sx.G.nil (Sx.E.next (Sx.C.ret ?_))
  refine Sx.E.retc b2 5 [.int .i64 y.x.1, .int .i64 y.x.2.1, .bool y.x.2.2.1, .int .i64 y.x.2.2.2] rfl (by kernel_rfl) rfl (by kernel_rfl) (by kernel_rfl) (fun w S => ?_)
  rw [← hy]
  exact ⟨rfl, S.below⟩
end Go.Proofs.Ytmiokacihcpepaa.Kit
