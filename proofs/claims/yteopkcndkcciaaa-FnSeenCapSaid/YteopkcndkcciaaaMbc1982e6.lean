/-
  Texts that a law wants, merged: GuestR TabA With BroughtImpl TabN GuestX TabOk Page MemMake MemCopy BroughtSpec MemSet MemPut MemPutS SxEq GuestOkX GuestB SI SxCur Pick SlotDraw SlotTab SlotDraws InsDraws. No condition.
-/
import Derived.Test.YteopkcndkcciaaaStOp
import Derived.Test.YteopkcndkcciaaaGuestH
import Derived.Test.YteopkcndkcciaaaSlotOne
import Derived.Test.YteopkcndkcciaaaRows
import Derived.WalkKit
import Derived.ProofKit
import Derived.OpenShut
import Derived.Deep.MidRow
import Derived.Test.YteopkcndkcciaaaGuest
import Derived.Test.YteopkcndkcciaaaSx
import Derived.Test.YteopkcndkcciaaaSlotOneS
import Derived.Test.YteopkcndkcciaaaGridM
import Derived.Test.YteopkcndkcciaaaIn
import Derived.Laws.CopyOwn
import Derived.Maps.AppendAt
import Derived.Laws.StructEq
import Derived.Test.YteopkcndkcciaaaIns
import Derived.Test.YteopkcndkcciaaaInsSame
import Derived.Test.YteopkcndkcciaaaSame
import Derived.Test.YteopkcndkcciaaaDraw
import Derived.Test.YteopkcndkcciaaaInsH
import Derived.Test.YteopkcndkcciaaaVar
namespace Go.Proofs.Yteopkcndkcciaaa.Guests
set_option maxRecDepth 100000
open Go.ChangeShapes Go.WideShapes Go.ChangeAt Go.RowKit
open Go.Proofs.Yteopkcndkcciaaa.Base Go.Proofs.Yteopkcndkcciaaa.Mem Go.Proofs.Yteopkcndkcciaaa.Data Go.Proofs.Yteopkcndkcciaaa.Ctls Go.Proofs.Yteopkcndkcciaaa.Exits Go.Proofs.Yteopkcndkcciaaa.Stt
set_option linter.unusedVariables false
set_option linter.unusedSimpArgs false
/-- How a gT lies in memory. -/
def rG : Rp gT := rVia (rPair ((rLst 64 (rPair rInt rInt))) (rPair rInt (rPair rInt (rPair ((rLsw (rPair rInt rInt))) (rPair ((rLsw (rPair rInt rInt))) (rPair rCtl (rPair rInt (rPair rExit (rPair rBool ((rLst 3 rInt))))))))))) (fun g => (g.prog, g.a, g.pc, g.wr, g.lv, g.t, g.pd, g.x, g.hl, g.seen)) (fun k => ⟨k.1, k.2.1, k.2.2.1, k.2.2.2.1, k.2.2.2.2.1, k.2.2.2.2.2.1, k.2.2.2.2.2.2.1, k.2.2.2.2.2.2.2.1, k.2.2.2.2.2.2.2.2.1, k.2.2.2.2.2.2.2.2.2⟩)
theorem rG_len {g : gT} (h : rG.cap g) : g.prog.length ≤ 1048576 ∧ g.wr.length ≤ 1048576 ∧ g.lv.length ≤ 1048576 ∧ g.seen.length ≤ 1048576 := ⟨h.1.1, h.2.2.2.1.1, h.2.2.2.2.1.1, h.2.2.2.2.2.2.2.2.2.1⟩
theorem rG_rd {w : World} {lo hi : Nat} {g : gT} {cs : List Value} (h : rG.rd w lo hi g cs) : ∃ P0 P1 P2 P3, cs = [P0, .int .i64 g.a, .int .i64 g.pc, P1, P2, .int .i64 g.t.1, .int .i64 g.t.2.1, .bool g.t.2.2, .int .i64 g.pd, .int .i64 g.x.1, .int .i64 g.x.2.1, .bool g.x.2.2.1, .int .i64 g.x.2.2.2, .bool g.hl, P3] ∧ ((rLst 64 (rPair rInt rInt))).rd w lo hi g.prog [P0] ∧ ((rLsw (rPair rInt rInt))).rd w lo hi g.wr [P1] ∧ ((rLsw (rPair rInt rInt))).rd w lo hi g.lv [P2] ∧ ((rLst 3 rInt)).rd w lo hi g.seen [P3] := by
  obtain ⟨c0, s0, rfl, h0, g0⟩ := h
  obtain ⟨P0, rfl⟩ := lst_rd h0
  obtain ⟨c1, s1, rfl, h1, g1⟩ := g0
  obtain rfl := show _ = _ from h1
  obtain ⟨c2, s2, rfl, h2, g2⟩ := g1
  obtain rfl := show _ = _ from h2
  obtain ⟨c3, s3, rfl, h3, g3⟩ := g2
  obtain ⟨P1, rfl⟩ := lst_rd h3
  obtain ⟨c4, s4, rfl, h4, g4⟩ := g3
  obtain ⟨P2, rfl⟩ := lst_rd h4
  obtain ⟨c5, s5, rfl, h5, g5⟩ := g4
  obtain ⟨u5_0, v5_0, rfl, x5_0, q5_0⟩ := h5
  obtain rfl := show _ = _ from x5_0
  obtain ⟨u5_1, v5_1, rfl, x5_1, q5_1⟩ := q5_0
  obtain rfl := show _ = _ from x5_1
  obtain rfl := show _ = _ from q5_1
  obtain ⟨c6, s6, rfl, h6, g6⟩ := g5
  obtain rfl := show _ = _ from h6
  obtain ⟨c7, s7, rfl, h7, g7⟩ := g6
  obtain ⟨u7_0, v7_0, rfl, x7_0, q7_0⟩ := h7
  obtain rfl := show _ = _ from x7_0
  obtain ⟨u7_1, v7_1, rfl, x7_1, q7_1⟩ := q7_0
  obtain rfl := show _ = _ from x7_1
  obtain ⟨u7_2, v7_2, rfl, x7_2, q7_2⟩ := q7_1
  obtain rfl := show _ = _ from x7_2
  obtain rfl := show _ = _ from q7_2
  obtain ⟨c8, s8, rfl, h8, g8⟩ := g7
  obtain rfl := show _ = _ from h8
  obtain ⟨P3, rfl⟩ := lst_rd g8
  exact ⟨P0, P1, P2, P3, by simp, h0, h3, h4, g8⟩
theorem rG_own {w : World} {lo hi : Nat} {g : gT} {cs : List Value} {F : List Nat} (h : rG.own w lo hi g cs F) : ∃ P0 P1 P2 P3 F0 F1 F2 F3, cs = [P0, .int .i64 g.a, .int .i64 g.pc, P1, P2, .int .i64 g.t.1, .int .i64 g.t.2.1, .bool g.t.2.2, .int .i64 g.pd, .int .i64 g.x.1, .int .i64 g.x.2.1, .bool g.x.2.2.1, .int .i64 g.x.2.2.2, .bool g.hl, P3] ∧ F = F0 ++ (F1 ++ (F2 ++ F3)) ∧ ((rLst 64 (rPair rInt rInt))).own w lo hi g.prog [P0] F0 ∧ ((rLsw (rPair rInt rInt))).own w lo hi g.wr [P1] F1 ∧ ((rLsw (rPair rInt rInt))).own w lo hi g.lv [P2] F2 ∧ ((rLst 3 rInt)).own w lo hi g.seen [P3] F3 := by
  obtain ⟨c0, s0, G0, H0, rfl, rfl, h0, g0⟩ := h
  obtain ⟨P0, rfl⟩ := lst_own h0
  obtain ⟨c1, s1, G1, H1, rfl, rfl, h1, g1⟩ := g0
  obtain ⟨rfl, rfl⟩ := h1
  obtain ⟨c2, s2, G2, H2, rfl, rfl, h2, g2⟩ := g1
  obtain ⟨rfl, rfl⟩ := h2
  obtain ⟨c3, s3, G3, H3, rfl, rfl, h3, g3⟩ := g2
  obtain ⟨P1, rfl⟩ := lsw_own h3
  obtain ⟨c4, s4, G4, H4, rfl, rfl, h4, g4⟩ := g3
  obtain ⟨P2, rfl⟩ := lsw_own h4
  obtain ⟨c5, s5, G5, H5, rfl, rfl, h5, g5⟩ := g4
  obtain ⟨u5_0, v5_0, U5_0, V5_0, rfl, rfl, ⟨rfl, rfl⟩, q5_0⟩ := h5
  obtain ⟨u5_1, v5_1, U5_1, V5_1, rfl, rfl, ⟨rfl, rfl⟩, q5_1⟩ := q5_0
  obtain ⟨rfl, rfl⟩ := q5_1
  obtain ⟨c6, s6, G6, H6, rfl, rfl, h6, g6⟩ := g5
  obtain ⟨rfl, rfl⟩ := h6
  obtain ⟨c7, s7, G7, H7, rfl, rfl, h7, g7⟩ := g6
  obtain ⟨u7_0, v7_0, U7_0, V7_0, rfl, rfl, ⟨rfl, rfl⟩, q7_0⟩ := h7
  obtain ⟨u7_1, v7_1, U7_1, V7_1, rfl, rfl, ⟨rfl, rfl⟩, q7_1⟩ := q7_0
  obtain ⟨u7_2, v7_2, U7_2, V7_2, rfl, rfl, ⟨rfl, rfl⟩, q7_2⟩ := q7_1
  obtain ⟨rfl, rfl⟩ := q7_2
  obtain ⟨c8, s8, G8, H8, rfl, rfl, h8, g8⟩ := g7
  obtain ⟨rfl, rfl⟩ := h8
  obtain ⟨P3, rfl⟩ := lst_own g8
  exact ⟨P0, P1, P2, P3, G0, G3, G4, H8, by simp, by simp, h0, h3, h4, g8⟩
theorem rG_rd_mk {w : World} {lo hi : Nat} {g : gT} {P0 P1 P2 P3 : Value} (h0 : ((rLst 64 (rPair rInt rInt))).rd w lo hi g.prog [P0]) (h1 : ((rLsw (rPair rInt rInt))).rd w lo hi g.wr [P1]) (h2 : ((rLsw (rPair rInt rInt))).rd w lo hi g.lv [P2]) (h3 : ((rLst 3 rInt)).rd w lo hi g.seen [P3]) : rG.rd w lo hi g [P0, .int .i64 g.a, .int .i64 g.pc, P1, P2, .int .i64 g.t.1, .int .i64 g.t.2.1, .bool g.t.2.2, .int .i64 g.pd, .int .i64 g.x.1, .int .i64 g.x.2.1, .bool g.x.2.2.1, .int .i64 g.x.2.2.2, .bool g.hl, P3] :=
  ⟨[_], _, rfl, h0, ⟨[_], _, rfl, rfl, ⟨[_], _, rfl, rfl, ⟨[_], _, rfl, h1, ⟨[_], _, rfl, h2, ⟨[_, _, _], _, rfl, ⟨[_], _, rfl, rfl, ⟨[_], _, rfl, rfl, rfl⟩⟩, ⟨[_], _, rfl, rfl, ⟨[_, _, _, _], _, rfl, ⟨[_], _, rfl, rfl, ⟨[_], _, rfl, rfl, ⟨[_], _, rfl, rfl, rfl⟩⟩⟩, ⟨[_], _, rfl, rfl, h3⟩⟩⟩⟩⟩⟩⟩⟩⟩
theorem rG_own_mk {w : World} {lo hi : Nat} {g : gT} {P0 P1 P2 P3 : Value} {F0 F1 F2 F3 : List Nat} (h0 : ((rLst 64 (rPair rInt rInt))).own w lo hi g.prog [P0] F0) (h1 : ((rLsw (rPair rInt rInt))).own w lo hi g.wr [P1] F1) (h2 : ((rLsw (rPair rInt rInt))).own w lo hi g.lv [P2] F2) (h3 : ((rLst 3 rInt)).own w lo hi g.seen [P3] F3) : rG.own w lo hi g [P0, .int .i64 g.a, .int .i64 g.pc, P1, P2, .int .i64 g.t.1, .int .i64 g.t.2.1, .bool g.t.2.2, .int .i64 g.pd, .int .i64 g.x.1, .int .i64 g.x.2.1, .bool g.x.2.2.1, .int .i64 g.x.2.2.2, .bool g.hl, P3] (F0 ++ (F1 ++ (F2 ++ F3))) := by
  have h : rG.own w lo hi g [P0, .int .i64 g.a, .int .i64 g.pc, P1, P2, .int .i64 g.t.1, .int .i64 g.t.2.1, .bool g.t.2.2, .int .i64 g.pd, .int .i64 g.x.1, .int .i64 g.x.2.1, .bool g.x.2.2.1, .int .i64 g.x.2.2.2, .bool g.hl, P3] _ := ⟨[_], _, F0, _, rfl, rfl, h0, ⟨[_], _, [], _, rfl, rfl, ⟨rfl, rfl⟩, ⟨[_], _, [], _, rfl, rfl, ⟨rfl, rfl⟩, ⟨[_], _, F1, _, rfl, rfl, h1, ⟨[_], _, F2, _, rfl, rfl, h2, ⟨[_, _, _], _, [], _, rfl, rfl, ⟨[_], _, [], [], rfl, rfl, ⟨rfl, rfl⟩, ⟨[_], _, [], [], rfl, rfl, ⟨rfl, rfl⟩, ⟨rfl, rfl⟩⟩⟩, ⟨[_], _, [], _, rfl, rfl, ⟨rfl, rfl⟩, ⟨[_, _, _, _], _, [], _, rfl, rfl, ⟨[_], _, [], [], rfl, rfl, ⟨rfl, rfl⟩, ⟨[_], _, [], [], rfl, rfl, ⟨rfl, rfl⟩, ⟨[_], _, [], [], rfl, rfl, ⟨rfl, rfl⟩, ⟨rfl, rfl⟩⟩⟩⟩, ⟨[_], _, [], _, rfl, rfl, ⟨rfl, rfl⟩, h3⟩⟩⟩⟩⟩⟩⟩⟩⟩
  simpa using h
theorem rG_open {w0 w : World} {lo hi : Nat} {g : gT} {cs : List Value} {F : List Nat} {T : List Res} (S : St w0 w (ow rG lo hi g cs F :: T)) : ∃ P0 P1 P2 P3 F0 F1 F2 F3, cs = [P0, .int .i64 g.a, .int .i64 g.pc, P1, P2, .int .i64 g.t.1, .int .i64 g.t.2.1, .bool g.t.2.2, .int .i64 g.pd, .int .i64 g.x.1, .int .i64 g.x.2.1, .bool g.x.2.2.1, .int .i64 g.x.2.2.2, .bool g.hl, P3] ∧ St w0 w (ow (rLst 64 (rPair rInt rInt)) lo hi g.prog [P0] F0 :: ow (rLsw (rPair rInt rInt)) lo hi g.wr [P1] F1 :: ow (rLsw (rPair rInt rInt)) lo hi g.lv [P2] F2 :: ow (rLst 3 rInt) lo hi g.seen [P3] F3 :: T) := by
  obtain ⟨hown, hnd⟩ := S.at_ 0 rfl
  have hl := S.lo 0 _ rfl
  have hh := S.hi 0 _ rfl
  obtain ⟨P0, P1, P2, P3, F0, F1, F2, F3, rfl, rfl, q0, q1, q2, q3⟩ := rG_own hown
  obtain ⟨m0, n0, d0⟩ := List.nodup_append.1 hnd
  obtain ⟨m1, n1, d1⟩ := List.nodup_append.1 n0
  obtain ⟨m2, n2, d2⟩ := List.nodup_append.1 n1
  have m3 := n2
  refine ⟨P0, P1, P2, P3, F0, F1, F2, F3, rfl, S.parts [ow (rLst 64 (rPair rInt rInt)) lo hi g.prog [P0] F0, ow (rLsw (rPair rInt rInt)) lo hi g.wr [P1] F1, ow (rLsw (rPair rInt rInt)) lo hi g.lv [P2] F2, ow (rLst 3 rInt) lo hi g.seen [P3] F3] ?_ ?_⟩
  · intro s hs
    simp only [List.mem_cons, List.not_mem_nil, or_false] at hs
    rcases hs with rfl | rfl | rfl | rfl
    · exact ⟨⟨q0, m0⟩, fun k hk => ⟨by simp [hk.1], hk.2⟩, hl, hh⟩
    · exact ⟨⟨q1, m1⟩, fun k hk => ⟨by simp [hk.1], hk.2⟩, hl, hh⟩
    · exact ⟨⟨q2, m2⟩, fun k hk => ⟨by simp [hk.1], hk.2⟩, hl, hh⟩
    · exact ⟨⟨q3, m3⟩, fun k hk => ⟨by simp [hk.1], hk.2⟩, hl, hh⟩
  · simp only [List.pairwise_cons, List.mem_cons, List.not_mem_nil, or_false, forall_eq_or_imp, forall_eq, List.Pairwise.nil, and_true, false_implies, implies_true, ow]
    exact ⟨⟨(fun k hk hk' => d0 k hk.1 k (by simp [hk'.1]) rfl), (fun k hk hk' => d0 k hk.1 k (by simp [hk'.1]) rfl), (fun k hk hk' => d0 k hk.1 k (by simp [hk'.1]) rfl)⟩, ⟨(fun k hk hk' => d1 k hk.1 k (by simp [hk'.1]) rfl), (fun k hk hk' => d1 k hk.1 k (by simp [hk'.1]) rfl)⟩, (fun k hk hk' => d2 k hk.1 k (by simp [hk'.1]) rfl)⟩
theorem rG_shut {w0 w : World} {g : gT} {L : List Res} {P0 P1 P2 P3 : Value} {F0 F1 F2 F3 : List Nat} {l0 k0 l1 k1 l2 k2 l3 k3 : Nat} (S : St w0 w L) (i0 : Nat) (e0 : L[i0]? = some (ow (rLst 64 (rPair rInt rInt)) l0 k0 g.prog [P0] F0)) (i1 : Nat) (e1 : L[i1]? = some (ow (rLsw (rPair rInt rInt)) l1 k1 g.wr [P1] F1)) (i2 : Nat) (e2 : L[i2]? = some (ow (rLsw (rPair rInt rInt)) l2 k2 g.lv [P2] F2)) (i3 : Nat) (e3 : L[i3]? = some (ow (rLst 3 rInt) l3 k3 g.seen [P3] F3)) (n01 : i0 ≠ i1) (n02 : i0 ≠ i2) (n03 : i0 ≠ i3) (n12 : i1 ≠ i2) (n13 : i1 ≠ i3) (n23 : i2 ≠ i3) : rG.own w w0.heap.size w.heap.size g [P0, .int .i64 g.a, .int .i64 g.pc, P1, P2, .int .i64 g.t.1, .int .i64 g.t.2.1, .bool g.t.2.2, .int .i64 g.pd, .int .i64 g.x.1, .int .i64 g.x.2.1, .bool g.x.2.2.1, .int .i64 g.x.2.2.2, .bool g.hl, P3] (F0 ++ (F1 ++ (F2 ++ F3))) ∧ (F0 ++ (F1 ++ (F2 ++ F3))).Nodup := by
  refine ⟨rG_own_mk (S.own i0 e0) (S.own i1 e1) (S.own i2 e2) (S.own i3 e3), ?_⟩
  exact (nodup_app (S.nodup i0 e0) (nodup_app (S.nodup i1 e1) (nodup_app (S.nodup i2 e2) (S.nodup i3 e3) (fun k hk => (S.disj i2 i3 e2 e3 n23 k hk))) (fun k hk => (not_app (S.disj i1 i2 e1 e2 n12 k hk) (S.disj i1 i3 e1 e3 n13 k hk)))) (fun k hk => (not_app (S.disj i0 i1 e0 e1 n01 k hk) (not_app (S.disj i0 i2 e0 e2 n02 k hk) (S.disj i0 i3 e0 e3 n03 k hk)))))
end Go.Proofs.Yteopkcndkcciaaa.Guests
namespace Go.Proofs.Yteopkcndkcciaaa.Slots
set_option maxRecDepth 100000
open Go.ChangeShapes Go.WideShapes Go.ChangeAt Go.RowKit
open Go.Proofs.Yteopkcndkcciaaa.Base Go.Proofs.Yteopkcndkcciaaa.Mem Go.Proofs.Yteopkcndkcciaaa.Ints
set_option linter.unusedVariables false

theorem atS_no {l : List Sl} {page : Int} (h : ¬ (0 ≤ page ∧ page < l.length)) : atS l page = (-1, 0) := by
  unfold atS
  split
  · rw [List.getD_eq_getElem?_getD, List.getElem?_eq_none (by omega)]; rfl
  · rfl
theorem atS_yes {l : List Sl} {k : Nat} (h : k < l.length) : atS l k = l[k] := by
  unfold atS
  rw [if_pos (by omega), Int.toNat_natCast, List.getD_eq_getElem?_getD, List.getElem?_eq_getElem h]; rfl

/-- A block of two cells behind a call that left it alone. -/
theorem two_kept {w w1 : World} {u v : Value} {T : TypeId} (hb : Below (w.alloc (.cells #[u, v] T)).heap.size (w.alloc (.cells #[u, v] T)) w1) :
    w1.cell? ⟨w.heap.size, 0, none⟩ = some u ∧ w1.cell? ⟨w.heap.size, 1, none⟩ = some v ∧ w1.frozen? ⟨w.heap.size, 0, none⟩ = false ∧ w1.frozen? ⟨w.heap.size, 1, none⟩ = false ∧ Below w.heap.size w w1 := by
  obtain ⟨k0, k1, hW, hsz⟩ := boxed w u v T
  refine ⟨(hb.cell (p := ⟨w.heap.size, 0, none⟩) hsz).trans k0, (hb.cell (p := ⟨w.heap.size, 1, none⟩) hsz).trans k1, ?_, ?_, btr hW hb⟩
  · exact (hb.frozen (p := ⟨w.heap.size, 0, none⟩) hsz).trans (frozen_of_row _ _ _ _ _ (heap_alloc_new w _))
  · exact (hb.frozen (p := ⟨w.heap.size, 1, none⟩) hsz).trans (frozen_of_row _ _ _ _ _ (heap_alloc_new w _))

def AtPost (w : World) (s : Sl) (e : Ending) (w' : World) : Prop := e = .returned (.agg #[.int .i64 s.1, .int .i64 s.2]) ∧ Below w.heap.size w w'

theorem mapS_snoc (l : List Sl) (x y : Int) : mapS (l ++ [(x, y)]) = mapS l + if x = -1 then 0 else 1 := by
  unfold mapS
  rw [List.countP_append]
  by_cases h : x = -1 <;> simp [h]
theorem mapS_le (l : List Sl) : mapS l ≤ l.length := List.countP_le_length

end Go.Proofs.Yteopkcndkcciaaa.Slots
namespace Go.Proofs.Yteopkcndkcciaaa.Slots
set_option maxRecDepth 100000
open Go.ChangeShapes Go.WideShapes Go.ChangeAt Go.RowKit
open Go.Proofs.Yteopkcndkcciaaa.Base Go.Proofs.Yteopkcndkcciaaa.Mem Go.Proofs.Yteopkcndkcciaaa.Ints
set_option linter.unusedVariables false

theorem scells_set : ∀ (l : List Sl) (k : Nat) (_ : k < l.length) (x y : Int), scells (l.set k (x, y)) = ((scells l).set (k * 2) (.int .i64 x)).set (k * 2 + 1) (.int .i64 y)
  | p :: l, 0, _, x, y => by simp [scells]
  | p :: l, k + 1, h, x, y => by
    have := scells_set l k (by simpa using h) x y
    rw [show (k + 1) * 2 = k * 2 + 1 + 1 by omega]
    simp [scells, this]
theorem withS_no {l : List Sl} {page : Int} {s : Sl} (h : ¬ (0 ≤ page ∧ page < l.length)) : withS l page s = l := by
  unfold withS
  split
  · exact List.set_eq_of_length_le (by omega)
  · rfl
theorem withS_len (l : List Sl) (page : Int) (s : Sl) : (withS l page s).length = l.length := by
  unfold withS
  split <;> simp
theorem made2 (w : World) (o : Obj) (e : TypeId) : ((w.alloc o).alloc (.cells #[] e)).ownsRow w.heap.size e 2 (.slice (some ⟨w.heap.size + 1, 0, none⟩) 0 0) 0 [] := by
  have := World.ownsRow_made (base := w.heap.size) (e := e) (size := 2) (w.alloc o) #[] 0 (by simp) (Nat.zero_le _) rfl
  simpa using this
/-- The source's cells behind two new blocks. -/
theorem src_cells {w : World} {lo : Nat} {ad : Addr} {cs : List Value} (h : Lies w lo w.heap.size (some ad) cs) (o o' : Obj) : ∀ j u, cs[j]? = some u → ((w.alloc o).alloc o').cell? (ad.add j) = some u := by
  intro j u hu
  obtain ⟨b, off, e, _, hb, hc⟩ := h j u hu
  cases e
  rw [Addr.add_lit, World.cell?_alloc_lt _ _ _ (by simp; omega), World.cell?_alloc_lt _ _ _ (by simpa using hb)]
  exact hc
/-- What append left of a new slice. -/
theorem copied {w w1 : World} {o : Obj} {e : TypeId} {n : Nat} {v : Value} {cs : List Value} (hown : w1.ownsRow w.heap.size e 2 v (0 + n) ([] ++ cs))
    (hgrow : ((w.alloc o).alloc (.cells #[] e)).grownBy w1 (Value.slice (some ⟨w.heap.size + 1, 0, none⟩) 0 0).ownBlock) (hnil : v = .slice none 0 0 ↔ Value.slice (some ⟨w.heap.size + 1, 0, none⟩) 0 0 = .slice none 0 0 ∧ n = 0) :
    ∃ g cap, v = .slice (some ⟨g, 0, none⟩) n cap ∧ n ≤ cap ∧ w1.ownsRow w.heap.size e 2 (.slice (some ⟨g, 0, none⟩) n cap) n cs ∧ Below (w.alloc o).heap.size (w.alloc o) w1 := by
  rw [Nat.zero_add, List.nil_append] at hown
  rcases hown.2 with ⟨h, _⟩ | ⟨g, cap, cur, rfl, _, _, hnc, _⟩
  · have := (hnil.1 h).1
    simp at this
  · refine ⟨g, cap, rfl, hnc, hown, ?_⟩
    exact ((Below.refl _ _).alloc (Nat.le_refl _) _).grown hgrow (by simp) (fun k hk => by simp [Value.ownBlock] at hk; simp; omega)
theorem boxed_below {w w1 : World} {u v : Value} {T : TypeId} (hb : Below (w.alloc (.cells #[u, v] T)).heap.size (w.alloc (.cells #[u, v] T)) w1) :
    w1.cell? ⟨w.heap.size, 0, none⟩ = some u ∧ w1.cell? ⟨w.heap.size, 1, none⟩ = some v := by
  obtain ⟨a, b, _⟩ := two_kept hb
  exact ⟨a, b⟩
theorem with_yes {w : World} {base g n cap : Nat} {e : TypeId} {l : List Sl} {k : Nat} {x y : Int} (hl : l.length = n) (hk : k < n) (h : w.ownsRow base e 2 (.slice (some ⟨g, 0, none⟩) n cap) n (scells l)) :
    Owned ((w.setCell ⟨g, k * 2, none⟩ (.int .i64 x)).setCell ⟨g, k * 2 + 1, none⟩ (.int .i64 y)) base ((w.setCell ⟨g, k * 2, none⟩ (.int .i64 x)).setCell ⟨g, k * 2 + 1, none⟩ (.int .i64 y)).heap.size (some ⟨g, 0, none⟩) (scells (withS l (k : Int) (x, y))) := by
  have h2 := Owned.of_row (row_set2 h k (.int .i64 x) (.int .i64 y))
  have e1 : scells (withS l (k : Int) (x, y)) = ((scells l).set (k * 2) (.int .i64 x)).set (k * 2 + 1) (.int .i64 y) := by
    unfold withS
    rw [if_pos (by omega), Int.toNat_natCast]
    exact scells_set l k (by omega) x y
  rw [e1]
  exact h2
theorem with_below {w w1 : World} {g n cap : Nat} {e : TypeId} {o : Obj} {cs : List Value} (hb : Below (w.alloc o).heap.size (w.alloc o) w1) (h : w1.ownsRow w.heap.size e 2 (.slice (some ⟨g, 0, none⟩) n cap) n cs) (k : Nat) (x y : Int) :
    Below w.heap.size w ((w1.setCell ⟨g, k * 2, none⟩ (.int .i64 x)).setCell ⟨g, k * 2 + 1, none⟩ (.int .i64 y)) := by
  have hg := (h.lt g rfl).1
  exact ((btr ((Below.refl _ _).alloc (Nat.le_refl _) _) hb).setCell (p := ⟨g, k * 2, none⟩) hg _).setCell (p := ⟨g, k * 2 + 1, none⟩) hg _

end Go.Proofs.Yteopkcndkcciaaa.Slots
namespace Go.Proofs.Yteopkcndkcciaaa.BroughtW
set_option maxRecDepth 100000
open Go.ChangeShapes Go.WideShapes Go.ChangeAt Go.RowKit

/-- What both functions compute. -/
def brought (n l m : Int) : Int := if m < l ∨ n < l then l else if m < n then m else n

theorem ret_int {k : IntKind} {a b : Int} (h : a = b) : Ending.returned (.int k a) = .returned (.int k b) := by rw [h]

theorem impl_any (n l m : Int) (w : World) :
    Calls Try.prog 88 #[.int .i64 n, .int .i64 l, .int .i64 m] w fun e w' => e = .returned (.int .i64 (brought n l m)) ∧ w = w' := by
  go_enter Try.func88, Try.ntmps88
  go_wp2
  all_goals
    go_ret
    refine ⟨ret_int ?_, rfl⟩
    unfold brought
    repeat' split
    all_goals (repeat' split at *)
    all_goals omega

end Go.Proofs.Yteopkcndkcciaaa.BroughtW
namespace Go.Proofs.Yteopkcndkcciaaa.Slots
set_option maxRecDepth 100000
open Go.ChangeShapes Go.WideShapes Go.ChangeAt Go.RowKit
open Go.Proofs.Yteopkcndkcciaaa.Base Go.Proofs.Yteopkcndkcciaaa.Mem Go.Proofs.Yteopkcndkcciaaa.Ints
set_option linter.unusedVariables false

/-- A result that lies in a variable. -/
theorem results_cell {fn : Func} {P : Program} {w : World} {t : Tmp} {ty : TypeId} {tmps : Array Value} {ad : Addr} {v : Value} (h : fn.results = #[.cell t ty]) (hp : tmps.getD t undef = .pointer (some ad)) (hl : (loadVar ty ad).run P w = .ok v w) :
    (results fn tmps).run P w = .ok v w := by
  have hp' : tmps[t]?.getD undef = .pointer (some ad) := by simpa using hp
  simp [results, h, hp', asAddr, hl]
theorem bset {B b : Nat} {a : World} (hb : B ≤ b) : ∀ (vs : List Value) (o : Nat) (w : World), Below B a w → Below B a (w.setCells b o vs)
  | [], _, _, h => h
  | v :: r, o, w, h => bset hb r (o + 1) _ (h.setCell (p := ⟨b, o, none⟩) hb v)
theorem range_of_row {w : World} {base g n c size : Nat} {e : TypeId} {xs : List Value} (h : w.ownsRow base e size (.slice (some ⟨g, 0, none⟩) n c) n xs) : w.rangeAt g 0 xs := fun j v hv => by
  have := h.cells (g := g) rfl j v hv
  rw [Addr.add_lit] at this
  exact this
theorem there_of_row {w : World} {base g n c size : Nat} {e : TypeId} {xs : List Value} (h : w.ownsRow base e size (.slice (some ⟨g, 0, none⟩) n c) n xs) : w.there g 0 xs.length := fun j hj => by
  refine ⟨?_, by rw [Nat.zero_add]; exact h.frozenAt j⟩
  have := range_of_row h j _ (List.getElem?_eq_getElem hj)
  rw [this]; rfl

def zero48 : Array Value := (scells (List.replicate 24 (0, 0))).toArray
theorem nosL_take (k : Nat) (h : k ≤ 24) : (nosL 24).take k = nosL k := by unfold nosL; rw [List.take_replicate, Nat.min_eq_left h]
theorem nosL_len (k : Nat) : (nosL k).length = k := by simp [nosL]
theorem nosL_step (k : Nat) (h : k < 24) : (nosL 24).take (k + 1) = (nosL 24).take k ++ [(-1, 0)] := by
  rw [nosL_take _ h, nosL_take _ (by omega)]
  exact List.replicate_succ'
theorem infoArr : (Try.prog.info? 103).map (·.size) = some 48 := by kernel_rfl
theorem nos48 : (scells (nosL 24)).length = 48 := rfl

set_option maxRecDepth 100000 in
set_option maxHeartbeats 2000000 in
theorem empty_any (w : World) :
    Calls Try.prog 87 #[] w fun e w' => e = .returned (.agg (scells (nosL 24)).toArray) ∧ Below w.heap.size w w' := by
  have hr1 : ((w.alloc (.cells zero48 103)).alloc (.cells zero48 103)).ownsRow w.heap.size 103 2 (.slice (some ⟨w.heap.size + 1, 0, none⟩) 24 24) 24 zero48.toList := by
    have := World.ownsRow_lit (base := w.heap.size) (e := 103) (size := 2) (w.alloc (.cells zero48 103)) zero48 24 (by simp) (by decide) rfl
    simpa using this
  have hr0 : ((w.alloc (.cells zero48 103)).alloc (.cells zero48 103)).ownsRow w.heap.size 103 2 (.slice (some ⟨w.heap.size, 0, none⟩) 24 24) 24 zero48.toList :=
    (World.ownsRow_lit (base := w.heap.size) (e := 103) (size := 2) w zero48 24 (Nat.le_refl _) (by decide) rfl).alloc _
  have hb0 : Below w.heap.size w ((w.alloc (.cells zero48 103)).alloc (.cells zero48 103)) := ((Below.refl _ _).alloc (Nat.le_refl _) _).alloc (by simp) _
  have H0 := Lib.hid (And.intro hr0 (And.intro hr1 hb0))
  clear hr0 hr1 hb0
  go_enter Try.func87, Try.ntmps87
  go_wp2
  go_loopw [2, 3] (fun _ i wr => ∃ (k : Nat) (xs : List Value), k ≤ 24 ∧ i = .int .i64 k ∧ xs.take (k * 2) = scells ((nosL 24).take k) ∧ wr.ownsRow w.heap.size 103 2 (.slice (some ⟨w.heap.size + 1, 0, none⟩) 24 24) 24 xs ∧
    wr.ownsRow w.heap.size 103 2 (.slice (some ⟨w.heap.size, 0, none⟩) 24 24) 24 zero48.toList ∧ Below w.heap.size w wr) (fun _ i _ => 24 - (intOf i).toNat)
  case atStart => exact ⟨0, _, Nat.zero_le _, rfl, rfl, H0.out.2.1, H0.out.1, H0.out.2.2⟩
  case round =>
    obtain ⟨k, xs, hk, rfl, hxs, hown, hres, hb⟩ := hrel
    have HX := Lib.hid hxs
    clear hxs
    by_cases hlt : k < 24
    · have hi0 : (0 : Int) ≤ (k : Int) := Int.natCast_nonneg _
      have hi1 : (k : Int) < 24 := by omega
      go_wp2_with (go_at_call 107; refine (impl_no _).mono ?_; rintro e w1 ⟨rfl, hb1⟩; have hown1 := hown.kept (grown_of_below hb1 none) (.inr (by simp [Value.ownBlock])); obtain ⟨⟨u1, e1⟩, ⟨u2, e2⟩, f1, f2⟩ := row_two hown1 hlt)
      have hres1 := hres.kept (grown_of_below hb1 none) (.inr (by simp [Value.ownBlock]))
      have hrow := row_set2 hown1 k (.int .i64 (-1)) (.int .i64 0)
      have hres2 := ((hres1.kept (hown1.stored (k * 2) (.int .i64 (-1))).2 (.inr (by simp [Value.ownBlock]))).kept ((hown1.stored (k * 2) (.int .i64 (-1))).1.stored (k * 2 + 1) (.int .i64 0)).2 (.inr (by simp [Value.ownBlock])))
      have hbw2 : Below w.heap.size w ((w1.setCell ⟨w.heap.size + 1, k * 2, none⟩ (.int .i64 (-1))).setCell ⟨w.heap.size + 1, k * 2 + 1, none⟩ (.int .i64 0)) :=
        ((hb.trans (hb1.mono hb.size)).setCell (p := ⟨w.heap.size + 1, k * 2, none⟩) (Nat.le_succ _) _).setCell (p := ⟨w.heap.size + 1, k * 2 + 1, none⟩) (Nat.le_succ _) _
      have hts := take_set2 (x := -1) (y := 0) HX.out (by have := hown1.1; omega) (nosL_step k hlt)
      go_roundw
      case rel => exact ⟨k + 1, _, by omega, by go_num, hts, hrow, hres2, hbw2⟩
      case measure => simp [intOf]; omega
    · have hkn : k = 24 := by omega
      subst hkn
      have hx : xs = scells (nosL 24) := by
        have h1 := HX.out
        have h2 := hown.1
        rw [List.take_of_length_le (by omega), List.take_of_length_le (by rw [nosL_len]; exact Nat.le_refl _)] at h1
        exact h1
      subst hx
      have hr := range_of_row hown
      have ht : wr.there w.heap.size 0 48 := there_of_row hres
      have ht' : wr.there w.heap.size 0 48 := there_of_row hres
      have hone := all_oneCell_toArray (scells_one (nosL 24))
      have HR := Lib.hid (And.intro hr (And.intro ht (And.intro hone ht')))
      clear hr ht hone ht' hown hres
      go_wp2_with (first
        | (refine wpList_load_mid rfl 103 _ rfl (w.heap.size + 1) 0 rfl (scells (nosL 24)) _ HR.out.1 Try.underlying103 rfl infoArr ?_)
        | (refine wpList_store_mid rfl 103 _ _ rfl w.heap.size 0 (scells (nosL 24)).toArray rfl rfl HR.out.2.1 infoArr HR.out.2.2.1 ?_))
      exact bodyPost_ret (v := .agg (scells (nosL 24)).toArray) (results_cell rfl rfl (run_loadVar_mid _ w.heap.size 0 _ (scells (nosL 24)) _ (World.rangeAt_setCells_same _ _ _ _ HR.out.2.2.2) Try.underlying103 rfl infoArr)) rfl ⟨rfl, bset (Nat.le_refl _) _ _ _ hb⟩

theorem brought24 (n : Int) : ∃ m : Nat, m ≤ 24 ∧ BroughtW.brought n 0 24 = m := by
  unfold BroughtW.brought
  by_cases h : n < 0
  · exact ⟨0, by omega, by rw [if_pos (Or.inr h)]; rfl⟩
  · by_cases h2 : 24 < n
    · exact ⟨24, by omega, by rw [if_neg (by omega), if_pos h2]; rfl⟩
    · exact ⟨n.toNat, by omega, by rw [if_neg (by omega), if_neg h2]; omega⟩
def newN (n : Int) : Nat := (BroughtW.brought n 0 24).toNat
theorem newN_le (n : Int) : newN n ≤ 24 := by
  obtain ⟨m, h1, h2⟩ := brought24 n
  unfold newN
  rw [h2]; omega
theorem newN_eq (n : Int) : BroughtW.brought n 0 24 = (newN n : Int) := by
  obtain ⟨m, h1, h2⟩ := brought24 n
  unfold newN
  rw [h2]; omega

theorem scells_pre {l m : List Sl} {j : Nat} {u : Value} (h : (scells l)[j]? = some u) : (scells (l ++ m))[j]? = some u := by
  rw [scells_append, List.getElem?_append_left (List.getElem?_eq_some_iff.1 h).1]
  exact h
theorem arr_there (w : World) (cs : Array Value) (T : TypeId) (hcs : cs.size = 48) : (w.alloc (.cells cs T)).there w.heap.size 0 48 := fun j hj => by
  refine ⟨?_, by rw [Nat.zero_add]; exact frozen_of_row _ _ _ _ _ (heap_alloc_new w _)⟩
  rw [Nat.zero_add, cell_of_row _ _ j _ _ _ (heap_alloc_new w _), Array.getElem?_eq_getElem (by omega)]; rfl
theorem arr_owned {w : World} {m : Nat} (hm : m ≤ 24) (cs : Array Value) (T : TypeId) (hcs : cs.size = 48) :
    Owned ((w.alloc (.cells cs T)).setCells w.heap.size 0 (scells (nosL 24))) w.heap.size ((w.alloc (.cells cs T)).setCells w.heap.size 0 (scells (nosL 24))).heap.size (some ⟨w.heap.size, 0, none⟩) (scells (nosL m)) := by
  have ht : (w.alloc (.cells cs T)).there w.heap.size 0 (scells (nosL 24)).length := fun j hj => by
    rw [nos48] at hj
    refine ⟨?_, by rw [Nat.zero_add]; exact frozen_of_row _ _ _ _ _ (heap_alloc_new w _)⟩
    rw [Nat.zero_add, cell_of_row _ _ j _ _ _ (heap_alloc_new w _), Array.getElem?_eq_getElem (by omega)]; rfl
  have hr := World.rangeAt_setCells_same _ _ _ _ ht
  have hsz : w.heap.size < ((w.alloc (.cells cs T)).setCells w.heap.size 0 (scells (nosL 24))).heap.size := by
    have h1 := (bset (Nat.zero_le w.heap.size) (scells (nosL 24)) 0 (w.alloc (.cells cs T)) (Below.refl 0 (w.alloc (.cells cs T)))).size
    simp at h1
    omega
  have hpre : nosL 24 = nosL m ++ nosL (24 - m) := by
    unfold nosL
    rw [List.replicate_append_replicate]
    congr 1
    omega
  refine ⟨fun j u hu => ⟨w.heap.size, 0, rfl, Nat.le_refl _, hsz, hr j u (by rw [hpre]; exact scells_pre hu)⟩, fun b off e _ j => ?_⟩
  cases e
  rw [World.frozen?_setCells]
  exact frozen_of_row _ _ _ _ _ (heap_alloc_new w _)

/-- The array of empty slots, stored into a new variable. -/
theorem store_arr {ops : Array Oper} {rest : List Oper} {op : Oper} {a : Act} {w1 : World} {Q : Exit → Act → World → Prop} (hgd : op.guard = none) (x y : Operand) (ho : op.op = .store 103 x y) (cs0 : Array Value) (h0 : cs0.size = 48)
    (cs : List Value) (hcs : cs = scells (nosL 24)) (hx : a.eval x = .pointer (some ⟨w1.heap.size, 0, none⟩)) (hy : a.eval y = .agg cs.toArray)
    (h : ∀ W, (∀ m, m ≤ 24 → Owned W w1.heap.size W.heap.size (some ⟨w1.heap.size, 0, none⟩) (scells (nosL m))) → Below w1.heap.size w1 W → wpList Try.prog ops Q rest (a.put op.dst undef) W) :
    wpList Try.prog ops Q (op :: rest) a (w1.alloc (.cells cs0 103)) := by
  subst hcs
  refine wpList_store_mid hgd _ x y ho w1.heap.size 0 (scells (nosL 24)).toArray hx hy (arr_there _ _ _ h0) infoArr (all_oneCell_toArray (scells_one _)) ?_
  exact h _ (fun m hm => arr_owned hm cs0 _ h0) (bset (Nat.le_refl _) _ _ _ ((Below.refl _ _).alloc (Nat.le_refl _) _))

theorem empty_some (w : World) :
    Calls Try.prog 87 #[] w fun e w' => ∃ cs : List Value, Hid (cs = scells (nosL 24)) ∧ e = .returned (.agg cs.toArray) ∧ Below w.heap.size w w' :=
  (empty_any w).mono fun _ _ ⟨he, hb⟩ => ⟨_, rfl, he, hb⟩

set_option maxRecDepth 100000 in
set_option maxHeartbeats 2000000 in
theorem impl_new (n : Int) (w : World) : Calls Try.prog 43 #[.int .i64 n] w (RowPost w (newN n) (nosL (newN n))) := by
  have hK := fun V : World => BroughtW.impl_any n 0 24 V
  rw [newN_eq n] at hK
  have hm := newN_le n
  generalize newN n = m at hK hm ⊢
  have HK := Lib.hid hK
  clear hK
  go_enter Try.func43, Try.ntmps43
  go_wp2_with fail
  refine (empty_some _).mono ?_
  rintro e w1 ⟨cs, HCS, rfl, hb1⟩
  go_wp2_with ((with_reducible refine store_arr rfl _ _ rfl _ rfl cs HCS.out rfl rfl ?_); intro W hW hbW; have HW := Lib.hid (And.intro hW hbW); clear hW hbW)
  refine (HK.out _).mono ?_
  rintro e w' ⟨rfl, rfl⟩
  have hm0 : (0 : Int) ≤ (m : Int) := Int.natCast_nonneg _
  have hm1 : (m : Int) ≤ 24 := by omega
  go_wp2_with fail
  go_ret
  have ho : Owned W w.heap.size W.heap.size (some ⟨w1.heap.size, 0, none⟩) (scells (nosL m)) := (HW.out.1 m hm).wide hb1.size (Nat.le_refl _)
  exact ⟨⟨w1.heap.size, 0, none⟩, m, by simp, Nat.le_refl _, ho, btr hb1 HW.out.2⟩

theorem Try.infoSlot2 : (Try.prog.info? 102).map (fun i => (i.zero, i.size, i.bytes)) = some (some (.agg #[.int .i64 0, .int .i64 0]), 2, 16) := by kernel_rfl
theorem nosL_snoc (k : Nat) : nosL (k + 1) = nosL k ++ [(-1, 0)] := List.replicate_succ'

set_option maxHeartbeats 2000000 in
theorem spec_brought (n : Int) (w : World) :
    Calls Try.prog 91 #[.int .i64 n, .int .i64 0, .int .i64 24] w fun e w' => e = .returned (.int .i64 (BroughtW.brought n 0 24)) ∧ w = w' := by
  by_cases h2 : n < 0
  · have hb : BroughtW.brought n 0 24 = 0 := by unfold BroughtW.brought; rw [if_pos (Or.inr h2)]
    rw [hb]; clear hb
    go_enter Try.func91, Try.ntmps91
    go_wp2
    go_ret
    exact ⟨rfl, rfl⟩
  · by_cases h3 : 24 < n
    · have hb : BroughtW.brought n 0 24 = 24 := by unfold BroughtW.brought; rw [if_neg (by omega), if_pos h3]
      rw [hb]; clear hb
      go_enter Try.func91, Try.ntmps91
      go_wp2
      go_ret
      exact ⟨rfl, rfl⟩
    · have hb : BroughtW.brought n 0 24 = n := by unfold BroughtW.brought; rw [if_neg (by omega), if_neg h3]
      rw [hb]; clear hb
      go_enter Try.func91, Try.ntmps91
      go_wp2
      go_ret
      exact ⟨rfl, rfl⟩

set_option maxHeartbeats 2000000 in
theorem spec_new (n : Int) (w : World) : Calls Try.prog 47 #[.int .i64 n] w (RowPost w (newN n) (nosL (newN n))) := by
  obtain ⟨i0, hi0, hz0, hz1, hz2⟩ := info_parts Try.infoSlot2
  have hK := fun V : World => spec_brought n V
  rw [newN_eq n] at hK
  have hm := newN_le n
  generalize newN n = m at hK hm ⊢
  have HK := Lib.hid hK
  clear hK
  go_enter Try.func47, Try.ntmps47
  go_wp2_with fail
  refine (HK.out _).mono ?_
  rintro e w' ⟨rfl, rfl⟩
  go_wp2_with fail
  go_loopw [3, 4] (fun v i wr => ∃ (k g cap q : Nat), k + q = m ∧ i = .int .i64 q ∧ v = .slice (some ⟨g, 0, none⟩) k cap ∧ wr.ownsRow w.heap.size 102 2 (.slice (some ⟨g, 0, none⟩) k cap) k (scells (nosL k)) ∧ Below w.heap.size w wr) (fun _ i _ => (intOf i).toNat)
  case atStart => exact ⟨0, w.heap.size, 0, m, by omega, rfl, rfl, World.ownsRow_made w #[] 0 (Nat.le_refl _) (Nat.zero_le _) rfl, (Below.refl _ _).alloc (Nat.le_refl _) _⟩
  case round =>
    obtain ⟨k, g, cap, q, hkq, rfl, rfl, hown, hb⟩ := hrel
    have hk24 : k ≤ 24 := by omega
    have HQ := Lib.hid hkq
    clear hkq
    have hbs := hb.size
    by_cases h0 : 0 < q
    · have hq1 : (0 : Int) < (q : Int) := by omega
      have hq2 : q ≤ 24 := by have := HQ.out; omega
      go_wp2_with fail
      refine (spec_no _).mono ?_
      rintro e w1 ⟨rfl, hb1⟩
      have hown1 := hown.kept (grown_of_below hb1 none) (.inr (by simp [Value.ownBlock]))
      have hbw1 : Below w.heap.size w w1 := hb.trans (hb1.mono hb.size)
      have hbs1 := hbw1.size
      clear hb1
      go_wp2_with (at_builtin; refine wpList_append_lies _ rfl _ _ 27 rfl w.heap.size 102 i0 _ 2 16 Try.underlying27 hi0 hz0 hz1 hz2 rfl (by omega) (.slice (some ⟨g, 0, none⟩) k cap) k _ rfl (hown1.alloc _) ⟨w1.heap.size, 0, none⟩ 1 1 [.int .i64 (-1), .int .i64 0] rfl rfl (World.news_of_block (heap_alloc_new w1 _)) (by simp [Value.oneCell']) (by omega) (by simp only [maxLen]; omega) (by omega) (by simp; omega) (w1.heap.size + 1) (by simp) ?_; intro g' cap' w2 hown2 hgrow hat hg2)
      have hown3 : w2.ownsRow w.heap.size 102 2 (.slice (some ⟨g', 0, none⟩) (k + 1) cap') (k + 1) (scells (nosL (k + 1))) := by rw [nosL_snoc, scells_append]; exact hown2
      have hbw2 : Below w.heap.size w w2 := (hbw1.alloc (by first | omega | (simp; omega)) _).grown hgrow (by first | omega | (simp; omega)) (fun j hj => (hown1.lt j hj).1)
      have HF := Lib.hid (And.intro hown3 hbw2)
      clear hown2 hgrow hat hg2 hown3 hbw2
      go_roundw
      case rel => exact ⟨k + 1, g', cap', q - 1, by have := HQ.out; omega, by go_num, rfl, HF.out.1, HF.out.2⟩
      case measure => simp [intOf]; omega
    · have hq : q = 0 := by omega
      subst hq
      have hkm : k = m := HQ.out
      subst hkm
      go_wp2_with fail
      go_ret
      rcases hown.2 with ⟨h', _⟩ | ⟨g1, cap1, cur, h', _, _, hnc, _⟩
      · simp at h'
      · injection h' with h1 h2 h3
        subst h3
        exact ⟨_, _, rfl, hnc, Owned.of_row hown, hb⟩
end Go.Proofs.Yteopkcndkcciaaa.Slots
namespace Go.Proofs.Yteopkcndkcciaaa.Guests
set_option maxRecDepth 100000
open Go.ChangeShapes Go.WideShapes Go.ChangeAt Go.RowKit
open Go.Proofs.Yteopkcndkcciaaa.Base Go.Proofs.Yteopkcndkcciaaa.Mem Go.Proofs.Yteopkcndkcciaaa.Data Go.Proofs.Yteopkcndkcciaaa.Slots Go.Proofs.Yteopkcndkcciaaa.Ints Go.Proofs.Yteopkcndkcciaaa.Ctls Go.Proofs.Yteopkcndkcciaaa.Exits Go.Proofs.Yteopkcndkcciaaa.Stt Go.Proofs.Yteopkcndkcciaaa.Irqs
set_option linter.unusedVariables false
set_option linter.unusedSimpArgs false
theorem pcells_s : ∀ l : List (Int × Int), pcells l = Slots.scells l
  | [] => rfl
  | s :: l => by rw [Slots.scells, ← pcells_s l]; rfl
theorem pcells_j : ∀ l : List (Int × Int), pcells l = Inss.jcells l
  | [] => rfl
  | s :: l => by rw [Inss.jcells, ← pcells_j l]; rfl
theorem below_same {w w' : World} (h : w = w') : Below w.heap.size w w' := h ▸ Below.refl _ _
theorem takeI_lt (p : Int) : -1 ≤ (takeI p).2.1 ∧ (takeI p).2.1 ≤ 7 := by
  have := topI_range p
  unfold takeI
  split
  · exact ⟨Int.le_refl _, show (-1 : Int) ≤ 7 by decide⟩
  · exact this

set_option maxRecDepth 100000 in
set_option maxHeartbeats 4000000 in
theorem specx_copy (g : gT) (cs : List Value) (w : World) (hc : rG.cap g) (h : rG.rd w 0 w.heap.size g cs) : Calls Try.prog 75 #[.agg cs.toArray] w (Gives rG w g) := by
  obtain ⟨q0, q1, q2, q3⟩ := rG_len hc
  have hr := h
  obtain ⟨P0, P1, P2, P3, rfl, h0, h1, h2, h3⟩ := rG_rd h
  obtain ⟨PA0, Pc0, e0, hP0⟩ := lst_val h0
  subst e0
  obtain ⟨PA1, Pc1, e1, hP1⟩ := lst_val h1
  subst e1
  obtain ⟨PA2, Pc2, e2, hP2⟩ := lst_val h2
  subst e2
  obtain ⟨PA3, Pc3, e3, hP3⟩ := lst_val h3
  subst e3
  refine Sx.enter (args := [.agg #[.slice PA0 g.prog.length Pc0, .int .i64 g.a, .int .i64 g.pc, .slice PA1 g.wr.length Pc1, .slice PA2 g.lv.length Pc2, .int .i64 g.t.1, .int .i64 g.t.2.1, .bool g.t.2.2, .int .i64 g.pd, .int .i64 g.x.1, .int .i64 g.x.2.1, .bool g.x.2.2.1, .int .i64 g.x.2.2.2, .bool g.hl, .slice PA3 g.seen.length Pc3]]) Try.func75 rfl Try.ntmps75 rfl ?_
  refine Sx.C.seq ?_
  refine Sx.C.region ?_
  refine Sx.G.box 33 (.tmp 0) [.slice PA0 g.prog.length Pc0, .int .i64 g.a, .int .i64 g.pc, .slice PA1 g.wr.length Pc1, .slice PA2 g.lv.length Pc2, .int .i64 g.t.1, .int .i64 g.t.2.1, .bool g.t.2.2, .int .i64 g.pd, .int .i64 g.x.1, .int .i64 g.x.2.1, .bool g.x.2.2.1, .int .i64 g.x.2.2.2, .bool g.hl, .slice PA3 g.seen.length Pc3] rfl (by kernel_rfl) (by kernel_rfl) (fun b1 => ?_)
  refine Sx.G.alloc 33 (.agg #[.slice none 0 0, .int .i64 0, .int .i64 0, .slice none 0 0, .slice none 0 0, .int .i64 0, .int .i64 0, .bool false, .int .i64 0, .int .i64 0, .int .i64 0, .bool false, .int .i64 0, .bool false, .slice none 0 0]) [.slice none 0 0, .int .i64 0, .int .i64 0, .slice none 0 0, .slice none 0 0, .int .i64 0, .int .i64 0, .bool false, .int .i64 0, .int .i64 0, .int .i64 0, .bool false, .int .i64 0, .bool false, .slice none 0 0] rfl (by kernel_rfl) (fun w => by kernel_rfl) (by kernel_rfl) (fun b2 => ?_)
  refine Sx.G.nil ?_
  refine Sx.E.next ?_
  refine Sx.C.seq ?_
  refine Sx.C.region ?_
  refine Sx.G.fresh 64 (rPair rInt rInt) (by kernel_rfl) (fun w => by kernel_rfl) (fun b3 hi3 => ?_)
  refine Sx.G.pure (.pointer (some ⟨b1, 0, none⟩)) (by kernel_rfl) (fun w => by kernel_rfl) ?_
  refine Sx.G.ld1 26 (.tmp 4) b1 0 2 [.slice PA0 g.prog.length Pc0, .int .i64 g.a, .int .i64 g.pc, .slice PA1 g.wr.length Pc1, .slice PA2 g.lv.length Pc2, .int .i64 g.t.1, .int .i64 g.t.2.1, .bool g.t.2.2, .int .i64 g.pd, .int .i64 g.x.1, .int .i64 g.x.2.1, .bool g.x.2.2.1, .int .i64 g.x.2.2.2, .bool g.hl, .slice PA3 g.seen.length Pc3] (.slice PA0 g.prog.length Pc0) rfl (by kernel_rfl) (by kernel_rfl) rfl (by kernel_rfl) (by kernel_rfl) ?_
  refine Sx.G.apps 0 rfl g.prog (fun w S => St.old S h0) (List.nil_append _) g.prog.length (by simp) flat_P2 (.tmp 3) (.tmp 5) 26 2 16 rfl rfl (by kernel_rfl) (by kernel_rfl) rfl (by kernel_rfl) (by kernel_rfl) (by simp only [maxLen, List.length_nil, List.length_cons]; omega) (by simp only [List.length_nil, List.length_cons]; omega) (fun A4 c4 F4 hi4 hm4 => ?_)
  refine Sx.G.pure (.pointer (some ⟨b1, 0, none⟩)) (by kernel_rfl) (fun w => by kernel_rfl) ?_
  refine Sx.G.sto 26 (.tmp 7) (.tmp 6) b1 0 2 [.slice PA0 g.prog.length Pc0, .int .i64 g.a, .int .i64 g.pc, .slice PA1 g.wr.length Pc1, .slice PA2 g.lv.length Pc2, .int .i64 g.t.1, .int .i64 g.t.2.1, .bool g.t.2.2, .int .i64 g.pd, .int .i64 g.x.1, .int .i64 g.x.2.1, .bool g.x.2.2.1, .int .i64 g.x.2.2.2, .bool g.hl, .slice PA3 g.seen.length Pc3] [.slice A4 g.prog.length c4] [.slice A4 g.prog.length c4, .int .i64 g.a, .int .i64 g.pc, .slice PA1 g.wr.length Pc1, .slice PA2 g.lv.length Pc2, .int .i64 g.t.1, .int .i64 g.t.2.1, .bool g.t.2.2, .int .i64 g.pd, .int .i64 g.x.1, .int .i64 g.x.2.1, .bool g.x.2.2.1, .int .i64 g.x.2.2.2, .bool g.hl, .slice PA3 g.seen.length Pc3] [ow (rLst 64 (rPair rInt rInt)) w.heap.size hi4 g.prog [.slice A4 g.prog.length c4] F4, vr b2 [.slice none 0 0, .int .i64 0, .int .i64 0, .slice none 0 0, .slice none 0 0, .int .i64 0, .int .i64 0, .bool false, .int .i64 0, .int .i64 0, .int .i64 0, .bool false, .int .i64 0, .bool false, .slice none 0 0], vr b1 [.slice A4 g.prog.length c4, .int .i64 g.a, .int .i64 g.pc, .slice PA1 g.wr.length Pc1, .slice PA2 g.lv.length Pc2, .int .i64 g.t.1, .int .i64 g.t.2.1, .bool g.t.2.2, .int .i64 g.pd, .int .i64 g.x.1, .int .i64 g.x.2.1, .bool g.x.2.2.1, .int .i64 g.x.2.2.2, .bool g.hl, .slice PA3 g.seen.length Pc3]] rfl (by kernel_rfl) (by kernel_rfl) (by kernel_rfl) rfl (by kernel_rfl) rfl (by kernel_rfl) (by kernel_rfl) (by kernel_rfl) ?_
  refine Sx.G.nil ?_
  refine Sx.E.next ?_
  refine Sx.C.seq ?_
  refine Sx.C.region ?_
  refine Sx.G.fresh 102 (rPair rInt rInt) (by kernel_rfl) (fun w => by kernel_rfl) (fun b5 hi5 => ?_)
  refine Sx.G.pure (.pointer (some ⟨b1, 3, none⟩)) (by kernel_rfl) (fun w => by kernel_rfl) ?_
  refine Sx.G.ld1 27 (.tmp 9) b1 3 3 [.slice A4 g.prog.length c4, .int .i64 g.a, .int .i64 g.pc, .slice PA1 g.wr.length Pc1, .slice PA2 g.lv.length Pc2, .int .i64 g.t.1, .int .i64 g.t.2.1, .bool g.t.2.2, .int .i64 g.pd, .int .i64 g.x.1, .int .i64 g.x.2.1, .bool g.x.2.2.1, .int .i64 g.x.2.2.2, .bool g.hl, .slice PA3 g.seen.length Pc3] (.slice PA1 g.wr.length Pc1) rfl (by kernel_rfl) (by kernel_rfl) rfl (by kernel_rfl) (by kernel_rfl) ?_
  refine Sx.G.apps 0 rfl g.wr (fun w S => St.old S h1) (List.nil_append _) g.wr.length (by simp) flat_P2 (.tmp 8) (.tmp 10) 27 2 16 rfl rfl (by kernel_rfl) (by kernel_rfl) rfl (by kernel_rfl) (by kernel_rfl) (by simp only [maxLen, List.length_nil, List.length_cons]; omega) (by simp only [List.length_nil, List.length_cons]; omega) (fun A6 c6 F6 hi6 hm6 => ?_)
  refine Sx.G.pure (.pointer (some ⟨b1, 3, none⟩)) (by kernel_rfl) (fun w => by kernel_rfl) ?_
  refine Sx.G.sto 27 (.tmp 12) (.tmp 11) b1 3 3 [.slice A4 g.prog.length c4, .int .i64 g.a, .int .i64 g.pc, .slice PA1 g.wr.length Pc1, .slice PA2 g.lv.length Pc2, .int .i64 g.t.1, .int .i64 g.t.2.1, .bool g.t.2.2, .int .i64 g.pd, .int .i64 g.x.1, .int .i64 g.x.2.1, .bool g.x.2.2.1, .int .i64 g.x.2.2.2, .bool g.hl, .slice PA3 g.seen.length Pc3] [.slice A6 g.wr.length c6] [.slice A4 g.prog.length c4, .int .i64 g.a, .int .i64 g.pc, .slice A6 g.wr.length c6, .slice PA2 g.lv.length Pc2, .int .i64 g.t.1, .int .i64 g.t.2.1, .bool g.t.2.2, .int .i64 g.pd, .int .i64 g.x.1, .int .i64 g.x.2.1, .bool g.x.2.2.1, .int .i64 g.x.2.2.2, .bool g.hl, .slice PA3 g.seen.length Pc3] [ow (rLst 102 (rPair rInt rInt)) w.heap.size hi6 g.wr [.slice A6 g.wr.length c6] F6, ow (rLst 64 (rPair rInt rInt)) w.heap.size hi4 g.prog [.slice A4 g.prog.length c4] F4, vr b2 [.slice none 0 0, .int .i64 0, .int .i64 0, .slice none 0 0, .slice none 0 0, .int .i64 0, .int .i64 0, .bool false, .int .i64 0, .int .i64 0, .int .i64 0, .bool false, .int .i64 0, .bool false, .slice none 0 0], vr b1 [.slice A4 g.prog.length c4, .int .i64 g.a, .int .i64 g.pc, .slice A6 g.wr.length c6, .slice PA2 g.lv.length Pc2, .int .i64 g.t.1, .int .i64 g.t.2.1, .bool g.t.2.2, .int .i64 g.pd, .int .i64 g.x.1, .int .i64 g.x.2.1, .bool g.x.2.2.1, .int .i64 g.x.2.2.2, .bool g.hl, .slice PA3 g.seen.length Pc3]] rfl (by kernel_rfl) (by kernel_rfl) (by kernel_rfl) rfl (by kernel_rfl) rfl (by kernel_rfl) (by kernel_rfl) (by kernel_rfl) ?_
  refine Sx.G.nil ?_
  refine Sx.E.next ?_
  refine Sx.C.seq ?_
  refine Sx.C.region ?_
  refine Sx.G.fresh 102 (rPair rInt rInt) (by kernel_rfl) (fun w => by kernel_rfl) (fun b7 hi7 => ?_)
  refine Sx.G.pure (.pointer (some ⟨b1, 4, none⟩)) (by kernel_rfl) (fun w => by kernel_rfl) ?_
  refine Sx.G.ld1 27 (.tmp 14) b1 4 4 [.slice A4 g.prog.length c4, .int .i64 g.a, .int .i64 g.pc, .slice A6 g.wr.length c6, .slice PA2 g.lv.length Pc2, .int .i64 g.t.1, .int .i64 g.t.2.1, .bool g.t.2.2, .int .i64 g.pd, .int .i64 g.x.1, .int .i64 g.x.2.1, .bool g.x.2.2.1, .int .i64 g.x.2.2.2, .bool g.hl, .slice PA3 g.seen.length Pc3] (.slice PA2 g.lv.length Pc2) rfl (by kernel_rfl) (by kernel_rfl) rfl (by kernel_rfl) (by kernel_rfl) ?_
  refine Sx.G.apps 0 rfl g.lv (fun w S => St.old S h2) (List.nil_append _) g.lv.length (by simp) flat_P2 (.tmp 13) (.tmp 15) 27 2 16 rfl rfl (by kernel_rfl) (by kernel_rfl) rfl (by kernel_rfl) (by kernel_rfl) (by simp only [maxLen, List.length_nil, List.length_cons]; omega) (by simp only [List.length_nil, List.length_cons]; omega) (fun A8 c8 F8 hi8 hm8 => ?_)
  refine Sx.G.pure (.pointer (some ⟨b1, 4, none⟩)) (by kernel_rfl) (fun w => by kernel_rfl) ?_
  refine Sx.G.sto 27 (.tmp 17) (.tmp 16) b1 4 4 [.slice A4 g.prog.length c4, .int .i64 g.a, .int .i64 g.pc, .slice A6 g.wr.length c6, .slice PA2 g.lv.length Pc2, .int .i64 g.t.1, .int .i64 g.t.2.1, .bool g.t.2.2, .int .i64 g.pd, .int .i64 g.x.1, .int .i64 g.x.2.1, .bool g.x.2.2.1, .int .i64 g.x.2.2.2, .bool g.hl, .slice PA3 g.seen.length Pc3] [.slice A8 g.lv.length c8] [.slice A4 g.prog.length c4, .int .i64 g.a, .int .i64 g.pc, .slice A6 g.wr.length c6, .slice A8 g.lv.length c8, .int .i64 g.t.1, .int .i64 g.t.2.1, .bool g.t.2.2, .int .i64 g.pd, .int .i64 g.x.1, .int .i64 g.x.2.1, .bool g.x.2.2.1, .int .i64 g.x.2.2.2, .bool g.hl, .slice PA3 g.seen.length Pc3] [ow (rLst 102 (rPair rInt rInt)) w.heap.size hi8 g.lv [.slice A8 g.lv.length c8] F8, ow (rLst 102 (rPair rInt rInt)) w.heap.size hi6 g.wr [.slice A6 g.wr.length c6] F6, ow (rLst 64 (rPair rInt rInt)) w.heap.size hi4 g.prog [.slice A4 g.prog.length c4] F4, vr b2 [.slice none 0 0, .int .i64 0, .int .i64 0, .slice none 0 0, .slice none 0 0, .int .i64 0, .int .i64 0, .bool false, .int .i64 0, .int .i64 0, .int .i64 0, .bool false, .int .i64 0, .bool false, .slice none 0 0], vr b1 [.slice A4 g.prog.length c4, .int .i64 g.a, .int .i64 g.pc, .slice A6 g.wr.length c6, .slice A8 g.lv.length c8, .int .i64 g.t.1, .int .i64 g.t.2.1, .bool g.t.2.2, .int .i64 g.pd, .int .i64 g.x.1, .int .i64 g.x.2.1, .bool g.x.2.2.1, .int .i64 g.x.2.2.2, .bool g.hl, .slice PA3 g.seen.length Pc3]] rfl (by kernel_rfl) (by kernel_rfl) (by kernel_rfl) rfl (by kernel_rfl) rfl (by kernel_rfl) (by kernel_rfl) (by kernel_rfl) ?_
  refine Sx.G.nil ?_
  refine Sx.E.next ?_
  refine Sx.C.seq ?_
  refine Sx.C.region ?_
  refine Sx.G.fresh 3 rInt (by kernel_rfl) (fun w => by kernel_rfl) (fun b9 hi9 => ?_)
  refine Sx.G.pure (.pointer (some ⟨b1, 14, none⟩)) (by kernel_rfl) (fun w => by kernel_rfl) ?_
  refine Sx.G.ld1 24 (.tmp 19) b1 14 5 [.slice A4 g.prog.length c4, .int .i64 g.a, .int .i64 g.pc, .slice A6 g.wr.length c6, .slice A8 g.lv.length c8, .int .i64 g.t.1, .int .i64 g.t.2.1, .bool g.t.2.2, .int .i64 g.pd, .int .i64 g.x.1, .int .i64 g.x.2.1, .bool g.x.2.2.1, .int .i64 g.x.2.2.2, .bool g.hl, .slice PA3 g.seen.length Pc3] (.slice PA3 g.seen.length Pc3) rfl (by kernel_rfl) (by kernel_rfl) rfl (by kernel_rfl) (by kernel_rfl) ?_
  refine Sx.G.apps 0 rfl g.seen (fun w S => St.old S h3) (List.nil_append _) g.seen.length (by simp) flat_int (.tmp 18) (.tmp 20) 24 1 8 rfl rfl (by kernel_rfl) (by kernel_rfl) rfl (by kernel_rfl) (by kernel_rfl) (by simp only [maxLen, List.length_nil, List.length_cons]; omega) (by simp only [List.length_nil, List.length_cons]; omega) (fun A10 c10 F10 hi10 hm10 => ?_)
  refine Sx.G.pure (.pointer (some ⟨b1, 14, none⟩)) (by kernel_rfl) (fun w => by kernel_rfl) ?_
  refine Sx.G.sto 24 (.tmp 22) (.tmp 21) b1 14 5 [.slice A4 g.prog.length c4, .int .i64 g.a, .int .i64 g.pc, .slice A6 g.wr.length c6, .slice A8 g.lv.length c8, .int .i64 g.t.1, .int .i64 g.t.2.1, .bool g.t.2.2, .int .i64 g.pd, .int .i64 g.x.1, .int .i64 g.x.2.1, .bool g.x.2.2.1, .int .i64 g.x.2.2.2, .bool g.hl, .slice PA3 g.seen.length Pc3] [.slice A10 g.seen.length c10] [.slice A4 g.prog.length c4, .int .i64 g.a, .int .i64 g.pc, .slice A6 g.wr.length c6, .slice A8 g.lv.length c8, .int .i64 g.t.1, .int .i64 g.t.2.1, .bool g.t.2.2, .int .i64 g.pd, .int .i64 g.x.1, .int .i64 g.x.2.1, .bool g.x.2.2.1, .int .i64 g.x.2.2.2, .bool g.hl, .slice A10 g.seen.length c10] [ow (rLst 3 rInt) w.heap.size hi10 g.seen [.slice A10 g.seen.length c10] F10, ow (rLst 102 (rPair rInt rInt)) w.heap.size hi8 g.lv [.slice A8 g.lv.length c8] F8, ow (rLst 102 (rPair rInt rInt)) w.heap.size hi6 g.wr [.slice A6 g.wr.length c6] F6, ow (rLst 64 (rPair rInt rInt)) w.heap.size hi4 g.prog [.slice A4 g.prog.length c4] F4, vr b2 [.slice none 0 0, .int .i64 0, .int .i64 0, .slice none 0 0, .slice none 0 0, .int .i64 0, .int .i64 0, .bool false, .int .i64 0, .int .i64 0, .int .i64 0, .bool false, .int .i64 0, .bool false, .slice none 0 0], vr b1 [.slice A4 g.prog.length c4, .int .i64 g.a, .int .i64 g.pc, .slice A6 g.wr.length c6, .slice A8 g.lv.length c8, .int .i64 g.t.1, .int .i64 g.t.2.1, .bool g.t.2.2, .int .i64 g.pd, .int .i64 g.x.1, .int .i64 g.x.2.1, .bool g.x.2.2.1, .int .i64 g.x.2.2.2, .bool g.hl, .slice A10 g.seen.length c10]] rfl (by kernel_rfl) (by kernel_rfl) (by kernel_rfl) rfl (by kernel_rfl) rfl (by kernel_rfl) (by kernel_rfl) (by kernel_rfl) ?_
  refine Sx.G.nil ?_
  refine Sx.E.next ?_
  refine Sx.C.seq ?_
  refine Sx.C.region ?_
  refine Sx.G.ld 33 (.tmp 1) b1 0 5 [.slice A4 g.prog.length c4, .int .i64 g.a, .int .i64 g.pc, .slice A6 g.wr.length c6, .slice A8 g.lv.length c8, .int .i64 g.t.1, .int .i64 g.t.2.1, .bool g.t.2.2, .int .i64 g.pd, .int .i64 g.x.1, .int .i64 g.x.2.1, .bool g.x.2.2.1, .int .i64 g.x.2.2.2, .bool g.hl, .slice A10 g.seen.length c10] [.slice A4 g.prog.length c4, .int .i64 g.a, .int .i64 g.pc, .slice A6 g.wr.length c6, .slice A8 g.lv.length c8, .int .i64 g.t.1, .int .i64 g.t.2.1, .bool g.t.2.2, .int .i64 g.pd, .int .i64 g.x.1, .int .i64 g.x.2.1, .bool g.x.2.2.1, .int .i64 g.x.2.2.2, .bool g.hl, .slice A10 g.seen.length c10] rfl (by kernel_rfl) (by kernel_rfl) rfl (by kernel_rfl) (by kernel_rfl) (by kernel_rfl) ?_
  refine Sx.G.sto 33 (.tmp 2) (.tmp 23) b2 0 4 [.slice none 0 0, .int .i64 0, .int .i64 0, .slice none 0 0, .slice none 0 0, .int .i64 0, .int .i64 0, .bool false, .int .i64 0, .int .i64 0, .int .i64 0, .bool false, .int .i64 0, .bool false, .slice none 0 0] [.slice A4 g.prog.length c4, .int .i64 g.a, .int .i64 g.pc, .slice A6 g.wr.length c6, .slice A8 g.lv.length c8, .int .i64 g.t.1, .int .i64 g.t.2.1, .bool g.t.2.2, .int .i64 g.pd, .int .i64 g.x.1, .int .i64 g.x.2.1, .bool g.x.2.2.1, .int .i64 g.x.2.2.2, .bool g.hl, .slice A10 g.seen.length c10] [.slice A4 g.prog.length c4, .int .i64 g.a, .int .i64 g.pc, .slice A6 g.wr.length c6, .slice A8 g.lv.length c8, .int .i64 g.t.1, .int .i64 g.t.2.1, .bool g.t.2.2, .int .i64 g.pd, .int .i64 g.x.1, .int .i64 g.x.2.1, .bool g.x.2.2.1, .int .i64 g.x.2.2.2, .bool g.hl, .slice A10 g.seen.length c10] [ow (rLst 3 rInt) w.heap.size hi10 g.seen [.slice A10 g.seen.length c10] F10, ow (rLst 102 (rPair rInt rInt)) w.heap.size hi8 g.lv [.slice A8 g.lv.length c8] F8, ow (rLst 102 (rPair rInt rInt)) w.heap.size hi6 g.wr [.slice A6 g.wr.length c6] F6, ow (rLst 64 (rPair rInt rInt)) w.heap.size hi4 g.prog [.slice A4 g.prog.length c4] F4, vr b2 [.slice A4 g.prog.length c4, .int .i64 g.a, .int .i64 g.pc, .slice A6 g.wr.length c6, .slice A8 g.lv.length c8, .int .i64 g.t.1, .int .i64 g.t.2.1, .bool g.t.2.2, .int .i64 g.pd, .int .i64 g.x.1, .int .i64 g.x.2.1, .bool g.x.2.2.1, .int .i64 g.x.2.2.2, .bool g.hl, .slice A10 g.seen.length c10], vr b1 [.slice A4 g.prog.length c4, .int .i64 g.a, .int .i64 g.pc, .slice A6 g.wr.length c6, .slice A8 g.lv.length c8, .int .i64 g.t.1, .int .i64 g.t.2.1, .bool g.t.2.2, .int .i64 g.pd, .int .i64 g.x.1, .int .i64 g.x.2.1, .bool g.x.2.2.1, .int .i64 g.x.2.2.2, .bool g.hl, .slice A10 g.seen.length c10]] rfl (by kernel_rfl) (by kernel_rfl) (by kernel_rfl) rfl (by kernel_rfl) rfl (by kernel_rfl) (by kernel_rfl) (by kernel_rfl) ?_
  refine Sx.G.nil ?_
  refine Sx.E.next ?_
  refine Sx.C.ret ?_
  refine Sx.E.retc b2 4 [.slice A4 g.prog.length c4, .int .i64 g.a, .int .i64 g.pc, .slice A6 g.wr.length c6, .slice A8 g.lv.length c8, .int .i64 g.t.1, .int .i64 g.t.2.1, .bool g.t.2.2, .int .i64 g.pd, .int .i64 g.x.1, .int .i64 g.x.2.1, .bool g.x.2.2.1, .int .i64 g.x.2.2.2, .bool g.hl, .slice A10 g.seen.length c10] rfl (by kernel_rfl) rfl (by kernel_rfl) (by kernel_rfl) (fun w S => ?_)
  obtain ⟨GW2, S⟩ := S.weak 2 rfl
  obtain ⟨GW1, S⟩ := S.weak 1 rfl
  obtain ⟨ho, hF⟩ := rG_shut (g := g) S 3 rfl 2 rfl 1 rfl 0 rfl (by decide) (by decide) (by decide) (by decide) (by decide) (by decide)
  exact ⟨_, _, rfl, ho, hF, S.below⟩

set_option maxRecDepth 100000 in
set_option maxHeartbeats 4000000 in
theorem specx_stop (g : gT) (cs : List Value) (e : QT) (w : World) (hc : rG.cap g) (h : rG.rd w 0 w.heap.size g cs) : Calls Try.prog 35 #[.agg cs.toArray, .agg #[.int .i64 e.1, .int .i64 e.2.1, .bool e.2.2.1, .int .i64 e.2.2.2]] w (Gives rG w (stopG g e)) := by
  have hr := h
  obtain ⟨P0, P1, P2, P3, rfl, h0, h1, h2, h3⟩ := rG_rd h
  obtain ⟨PA0, Pc0, e0, hP0⟩ := lst_val h0
  subst e0
  obtain ⟨PA1, Pc1, e1, hP1⟩ := lst_val h1
  subst e1
  obtain ⟨PA2, Pc2, e2, hP2⟩ := lst_val h2
  subst e2
  obtain ⟨PA3, Pc3, e3, hP3⟩ := lst_val h3
  subst e3
  refine Sx.enter (args := [.agg #[.slice PA0 g.prog.length Pc0, .int .i64 g.a, .int .i64 g.pc, .slice PA1 g.wr.length Pc1, .slice PA2 g.lv.length Pc2, .int .i64 g.t.1, .int .i64 g.t.2.1, .bool g.t.2.2, .int .i64 g.pd, .int .i64 g.x.1, .int .i64 g.x.2.1, .bool g.x.2.2.1, .int .i64 g.x.2.2.2, .bool g.hl, .slice PA3 g.seen.length Pc3], .agg #[.int .i64 e.1, .int .i64 e.2.1, .bool e.2.2.1, .int .i64 e.2.2.2]]) Try.func35 rfl Try.ntmps35 rfl ?_
  refine Sx.C.seq ?_
  refine Sx.C.region ?_
  refine Sx.G.box 33 (.tmp 0) [.slice PA0 g.prog.length Pc0, .int .i64 g.a, .int .i64 g.pc, .slice PA1 g.wr.length Pc1, .slice PA2 g.lv.length Pc2, .int .i64 g.t.1, .int .i64 g.t.2.1, .bool g.t.2.2, .int .i64 g.pd, .int .i64 g.x.1, .int .i64 g.x.2.1, .bool g.x.2.2.1, .int .i64 g.x.2.2.2, .bool g.hl, .slice PA3 g.seen.length Pc3] rfl (by kernel_rfl) (by kernel_rfl) (fun b1 => ?_)
  refine Sx.G.box 31 (.tmp 1) [.int .i64 e.1, .int .i64 e.2.1, .bool e.2.2.1, .int .i64 e.2.2.2] rfl (by kernel_rfl) (by kernel_rfl) (fun b2 => ?_)
  refine Sx.G.alloc 33 (.agg #[.slice none 0 0, .int .i64 0, .int .i64 0, .slice none 0 0, .slice none 0 0, .int .i64 0, .int .i64 0, .bool false, .int .i64 0, .int .i64 0, .int .i64 0, .bool false, .int .i64 0, .bool false, .slice none 0 0]) [.slice none 0 0, .int .i64 0, .int .i64 0, .slice none 0 0, .slice none 0 0, .int .i64 0, .int .i64 0, .bool false, .int .i64 0, .int .i64 0, .int .i64 0, .bool false, .int .i64 0, .bool false, .slice none 0 0] rfl (by kernel_rfl) (fun w => by kernel_rfl) (by kernel_rfl) (fun b3 => ?_)
  refine Sx.G.nil ?_
  refine Sx.E.next ?_
  refine Sx.C.seq ?_
  refine Sx.C.region ?_
  refine Sx.G.ld 33 (.tmp 2) b1 0 2 [.slice PA0 g.prog.length Pc0, .int .i64 g.a, .int .i64 g.pc, .slice PA1 g.wr.length Pc1, .slice PA2 g.lv.length Pc2, .int .i64 g.t.1, .int .i64 g.t.2.1, .bool g.t.2.2, .int .i64 g.pd, .int .i64 g.x.1, .int .i64 g.x.2.1, .bool g.x.2.2.1, .int .i64 g.x.2.2.2, .bool g.hl, .slice PA3 g.seen.length Pc3] [.slice PA0 g.prog.length Pc0, .int .i64 g.a, .int .i64 g.pc, .slice PA1 g.wr.length Pc1, .slice PA2 g.lv.length Pc2, .int .i64 g.t.1, .int .i64 g.t.2.1, .bool g.t.2.2, .int .i64 g.pd, .int .i64 g.x.1, .int .i64 g.x.2.1, .bool g.x.2.2.1, .int .i64 g.x.2.2.2, .bool g.hl, .slice PA3 g.seen.length Pc3] rfl (by kernel_rfl) (by kernel_rfl) rfl (by kernel_rfl) (by kernel_rfl) (by kernel_rfl) ?_
  refine Sx.G.call 75 #[.agg #[.slice PA0 g.prog.length Pc0, .int .i64 g.a, .int .i64 g.pc, .slice PA1 g.wr.length Pc1, .slice PA2 g.lv.length Pc2, .int .i64 g.t.1, .int .i64 g.t.2.1, .bool g.t.2.2, .int .i64 g.pd, .int .i64 g.x.1, .int .i64 g.x.2.1, .bool g.x.2.2.1, .int .i64 g.x.2.2.2, .bool g.hl, .slice PA3 g.seen.length Pc3]] (by kernel_rfl) (fun w => by kernel_rfl) (fun w4 S => (specx_copy g _ _ (by exact hc) (St.old S hr)).mono fun e w4' hp => ?_)
  obtain ⟨cs, F, rfl, ho, hF, hb⟩ := hp
  obtain ⟨q4_0, q4_1, q4_2, q4_3, G4_0, G4_1, G4_2, G4_3, rfl, S'⟩ := rG_open (S.got hb ho hF)
  obtain ⟨q4A0, q4c0, e0, -⟩ := lst_val (S'.reads 0 rfl)
  subst e0
  obtain ⟨q4A1, q4c1, e1, -⟩ := lst_val (S'.reads 1 rfl)
  subst e1
  obtain ⟨q4A2, q4c2, e2, -⟩ := lst_val (S'.reads 2 rfl)
  subst e2
  obtain ⟨q4A3, q4c3, e3, -⟩ := lst_val (S'.reads 3 rfl)
  subst e3
  refine ⟨_, _, rfl, S', ?_⟩
  clear S S' ho hF hb
  refine Sx.G.sto 33 (.tmp 2) (.tmp 6) b1 0 6 [.slice PA0 g.prog.length Pc0, .int .i64 g.a, .int .i64 g.pc, .slice PA1 g.wr.length Pc1, .slice PA2 g.lv.length Pc2, .int .i64 g.t.1, .int .i64 g.t.2.1, .bool g.t.2.2, .int .i64 g.pd, .int .i64 g.x.1, .int .i64 g.x.2.1, .bool g.x.2.2.1, .int .i64 g.x.2.2.2, .bool g.hl, .slice PA3 g.seen.length Pc3] [.slice q4A0 g.prog.length q4c0, .int .i64 g.a, .int .i64 g.pc, .slice q4A1 g.wr.length q4c1, .slice q4A2 g.lv.length q4c2, .int .i64 g.t.1, .int .i64 g.t.2.1, .bool g.t.2.2, .int .i64 g.pd, .int .i64 g.x.1, .int .i64 g.x.2.1, .bool g.x.2.2.1, .int .i64 g.x.2.2.2, .bool g.hl, .slice q4A3 g.seen.length q4c3] [.slice q4A0 g.prog.length q4c0, .int .i64 g.a, .int .i64 g.pc, .slice q4A1 g.wr.length q4c1, .slice q4A2 g.lv.length q4c2, .int .i64 g.t.1, .int .i64 g.t.2.1, .bool g.t.2.2, .int .i64 g.pd, .int .i64 g.x.1, .int .i64 g.x.2.1, .bool g.x.2.2.1, .int .i64 g.x.2.2.2, .bool g.hl, .slice q4A3 g.seen.length q4c3] [ow (rLst 64 (rPair rInt rInt)) w4.heap.size (w4'.heap.size) g.prog [.slice q4A0 g.prog.length q4c0] G4_0, ow (rLsw (rPair rInt rInt)) w4.heap.size w4'.heap.size g.wr [.slice q4A1 g.wr.length q4c1] G4_1, ow (rLsw (rPair rInt rInt)) w4.heap.size w4'.heap.size g.lv [.slice q4A2 g.lv.length q4c2] G4_2, ow (rLst 3 rInt) w4.heap.size (w4'.heap.size) g.seen [.slice q4A3 g.seen.length q4c3] G4_3, vr b3 [.slice none 0 0, .int .i64 0, .int .i64 0, .slice none 0 0, .slice none 0 0, .int .i64 0, .int .i64 0, .bool false, .int .i64 0, .int .i64 0, .int .i64 0, .bool false, .int .i64 0, .bool false, .slice none 0 0], vr b2 [.int .i64 e.1, .int .i64 e.2.1, .bool e.2.2.1, .int .i64 e.2.2.2], vr b1 [.slice q4A0 g.prog.length q4c0, .int .i64 g.a, .int .i64 g.pc, .slice q4A1 g.wr.length q4c1, .slice q4A2 g.lv.length q4c2, .int .i64 g.t.1, .int .i64 g.t.2.1, .bool g.t.2.2, .int .i64 g.pd, .int .i64 g.x.1, .int .i64 g.x.2.1, .bool g.x.2.2.1, .int .i64 g.x.2.2.2, .bool g.hl, .slice q4A3 g.seen.length q4c3]] rfl (by kernel_rfl) (by kernel_rfl) (by kernel_rfl) rfl (by kernel_rfl) rfl (by kernel_rfl) (by kernel_rfl) (by kernel_rfl) ?_
  refine Sx.G.nil ?_
  refine Sx.E.next ?_
  refine Sx.C.seq ?_
  refine Sx.C.region ?_
  refine Sx.G.ld 31 (.tmp 3) b2 0 5 [.int .i64 e.1, .int .i64 e.2.1, .bool e.2.2.1, .int .i64 e.2.2.2] [.int .i64 e.1, .int .i64 e.2.1, .bool e.2.2.1, .int .i64 e.2.2.2] rfl (by kernel_rfl) (by kernel_rfl) rfl (by kernel_rfl) (by kernel_rfl) (by kernel_rfl) ?_
  refine Sx.G.pure (.pointer (some ⟨b1, 9, none⟩)) (by kernel_rfl) (fun w => by kernel_rfl) ?_
  refine Sx.G.sto 31 (.tmp 8) (.tmp 7) b1 9 6 [.slice q4A0 g.prog.length q4c0, .int .i64 g.a, .int .i64 g.pc, .slice q4A1 g.wr.length q4c1, .slice q4A2 g.lv.length q4c2, .int .i64 g.t.1, .int .i64 g.t.2.1, .bool g.t.2.2, .int .i64 g.pd, .int .i64 g.x.1, .int .i64 g.x.2.1, .bool g.x.2.2.1, .int .i64 g.x.2.2.2, .bool g.hl, .slice q4A3 g.seen.length q4c3] [.int .i64 e.1, .int .i64 e.2.1, .bool e.2.2.1, .int .i64 e.2.2.2] [.slice q4A0 g.prog.length q4c0, .int .i64 g.a, .int .i64 g.pc, .slice q4A1 g.wr.length q4c1, .slice q4A2 g.lv.length q4c2, .int .i64 g.t.1, .int .i64 g.t.2.1, .bool g.t.2.2, .int .i64 g.pd, .int .i64 e.1, .int .i64 e.2.1, .bool e.2.2.1, .int .i64 e.2.2.2, .bool g.hl, .slice q4A3 g.seen.length q4c3] [ow (rLst 64 (rPair rInt rInt)) w4.heap.size (w4'.heap.size) g.prog [.slice q4A0 g.prog.length q4c0] G4_0, ow (rLsw (rPair rInt rInt)) w4.heap.size w4'.heap.size g.wr [.slice q4A1 g.wr.length q4c1] G4_1, ow (rLsw (rPair rInt rInt)) w4.heap.size w4'.heap.size g.lv [.slice q4A2 g.lv.length q4c2] G4_2, ow (rLst 3 rInt) w4.heap.size (w4'.heap.size) g.seen [.slice q4A3 g.seen.length q4c3] G4_3, vr b3 [.slice none 0 0, .int .i64 0, .int .i64 0, .slice none 0 0, .slice none 0 0, .int .i64 0, .int .i64 0, .bool false, .int .i64 0, .int .i64 0, .int .i64 0, .bool false, .int .i64 0, .bool false, .slice none 0 0], vr b2 [.int .i64 e.1, .int .i64 e.2.1, .bool e.2.2.1, .int .i64 e.2.2.2], vr b1 [.slice q4A0 g.prog.length q4c0, .int .i64 g.a, .int .i64 g.pc, .slice q4A1 g.wr.length q4c1, .slice q4A2 g.lv.length q4c2, .int .i64 g.t.1, .int .i64 g.t.2.1, .bool g.t.2.2, .int .i64 g.pd, .int .i64 e.1, .int .i64 e.2.1, .bool e.2.2.1, .int .i64 e.2.2.2, .bool g.hl, .slice q4A3 g.seen.length q4c3]] rfl (by kernel_rfl) (by kernel_rfl) (by kernel_rfl) rfl (by kernel_rfl) rfl (by kernel_rfl) (by kernel_rfl) (by kernel_rfl) ?_
  refine Sx.G.nil ?_
  refine Sx.E.next ?_
  refine Sx.C.seq ?_
  refine Sx.C.region ?_
  refine Sx.G.ld 33 (.tmp 2) b1 0 6 [.slice q4A0 g.prog.length q4c0, .int .i64 g.a, .int .i64 g.pc, .slice q4A1 g.wr.length q4c1, .slice q4A2 g.lv.length q4c2, .int .i64 g.t.1, .int .i64 g.t.2.1, .bool g.t.2.2, .int .i64 g.pd, .int .i64 e.1, .int .i64 e.2.1, .bool e.2.2.1, .int .i64 e.2.2.2, .bool g.hl, .slice q4A3 g.seen.length q4c3] [.slice q4A0 g.prog.length q4c0, .int .i64 g.a, .int .i64 g.pc, .slice q4A1 g.wr.length q4c1, .slice q4A2 g.lv.length q4c2, .int .i64 g.t.1, .int .i64 g.t.2.1, .bool g.t.2.2, .int .i64 g.pd, .int .i64 e.1, .int .i64 e.2.1, .bool e.2.2.1, .int .i64 e.2.2.2, .bool g.hl, .slice q4A3 g.seen.length q4c3] rfl (by kernel_rfl) (by kernel_rfl) rfl (by kernel_rfl) (by kernel_rfl) (by kernel_rfl) ?_
  refine Sx.G.sto 33 (.tmp 4) (.tmp 9) b3 0 4 [.slice none 0 0, .int .i64 0, .int .i64 0, .slice none 0 0, .slice none 0 0, .int .i64 0, .int .i64 0, .bool false, .int .i64 0, .int .i64 0, .int .i64 0, .bool false, .int .i64 0, .bool false, .slice none 0 0] [.slice q4A0 g.prog.length q4c0, .int .i64 g.a, .int .i64 g.pc, .slice q4A1 g.wr.length q4c1, .slice q4A2 g.lv.length q4c2, .int .i64 g.t.1, .int .i64 g.t.2.1, .bool g.t.2.2, .int .i64 g.pd, .int .i64 e.1, .int .i64 e.2.1, .bool e.2.2.1, .int .i64 e.2.2.2, .bool g.hl, .slice q4A3 g.seen.length q4c3] [.slice q4A0 g.prog.length q4c0, .int .i64 g.a, .int .i64 g.pc, .slice q4A1 g.wr.length q4c1, .slice q4A2 g.lv.length q4c2, .int .i64 g.t.1, .int .i64 g.t.2.1, .bool g.t.2.2, .int .i64 g.pd, .int .i64 e.1, .int .i64 e.2.1, .bool e.2.2.1, .int .i64 e.2.2.2, .bool g.hl, .slice q4A3 g.seen.length q4c3] [ow (rLst 64 (rPair rInt rInt)) w4.heap.size (w4'.heap.size) g.prog [.slice q4A0 g.prog.length q4c0] G4_0, ow (rLsw (rPair rInt rInt)) w4.heap.size w4'.heap.size g.wr [.slice q4A1 g.wr.length q4c1] G4_1, ow (rLsw (rPair rInt rInt)) w4.heap.size w4'.heap.size g.lv [.slice q4A2 g.lv.length q4c2] G4_2, ow (rLst 3 rInt) w4.heap.size (w4'.heap.size) g.seen [.slice q4A3 g.seen.length q4c3] G4_3, vr b3 [.slice q4A0 g.prog.length q4c0, .int .i64 g.a, .int .i64 g.pc, .slice q4A1 g.wr.length q4c1, .slice q4A2 g.lv.length q4c2, .int .i64 g.t.1, .int .i64 g.t.2.1, .bool g.t.2.2, .int .i64 g.pd, .int .i64 e.1, .int .i64 e.2.1, .bool e.2.2.1, .int .i64 e.2.2.2, .bool g.hl, .slice q4A3 g.seen.length q4c3], vr b2 [.int .i64 e.1, .int .i64 e.2.1, .bool e.2.2.1, .int .i64 e.2.2.2], vr b1 [.slice q4A0 g.prog.length q4c0, .int .i64 g.a, .int .i64 g.pc, .slice q4A1 g.wr.length q4c1, .slice q4A2 g.lv.length q4c2, .int .i64 g.t.1, .int .i64 g.t.2.1, .bool g.t.2.2, .int .i64 g.pd, .int .i64 e.1, .int .i64 e.2.1, .bool e.2.2.1, .int .i64 e.2.2.2, .bool g.hl, .slice q4A3 g.seen.length q4c3]] rfl (by kernel_rfl) (by kernel_rfl) (by kernel_rfl) rfl (by kernel_rfl) rfl (by kernel_rfl) (by kernel_rfl) (by kernel_rfl) ?_
  refine Sx.G.nil ?_
  refine Sx.E.next ?_
  refine Sx.C.ret ?_
  refine Sx.E.retc b3 4 [.slice q4A0 g.prog.length q4c0, .int .i64 g.a, .int .i64 g.pc, .slice q4A1 g.wr.length q4c1, .slice q4A2 g.lv.length q4c2, .int .i64 g.t.1, .int .i64 g.t.2.1, .bool g.t.2.2, .int .i64 g.pd, .int .i64 e.1, .int .i64 e.2.1, .bool e.2.2.1, .int .i64 e.2.2.2, .bool g.hl, .slice q4A3 g.seen.length q4c3] rfl (by kernel_rfl) rfl (by kernel_rfl) (by kernel_rfl) (fun w S => ?_)
  obtain ⟨ho, hF⟩ := rG_shut (g := stopG g e) S 0 rfl 1 rfl 2 rfl 3 rfl (by decide) (by decide) (by decide) (by decide) (by decide) (by decide)
  exact ⟨_, _, rfl, ho, hF, S.below⟩

set_option maxRecDepth 100000 in
set_option maxHeartbeats 4000000 in
theorem specx_saw (g : gT) (cs : List Value) (n : Int) (w : World) (hc : rG.cap g) (h : rG.rd w 0 w.heap.size g cs) : Calls Try.prog 30 #[.agg cs.toArray, .int .i64 n] w (Gives rG w (sawG g n)) := by
  obtain ⟨q0, q1, q2, q3⟩ := rG_len hc
  have hr := h
  obtain ⟨P0, P1, P2, P3, rfl, h0, h1, h2, h3⟩ := rG_rd h
  obtain ⟨PA0, Pc0, e0, hP0⟩ := lst_val h0
  subst e0
  obtain ⟨PA1, Pc1, e1, hP1⟩ := lst_val h1
  subst e1
  obtain ⟨PA2, Pc2, e2, hP2⟩ := lst_val h2
  subst e2
  obtain ⟨PA3, Pc3, e3, hP3⟩ := lst_val h3
  subst e3
  refine Sx.enter (args := [.agg #[.slice PA0 g.prog.length Pc0, .int .i64 g.a, .int .i64 g.pc, .slice PA1 g.wr.length Pc1, .slice PA2 g.lv.length Pc2, .int .i64 g.t.1, .int .i64 g.t.2.1, .bool g.t.2.2, .int .i64 g.pd, .int .i64 g.x.1, .int .i64 g.x.2.1, .bool g.x.2.2.1, .int .i64 g.x.2.2.2, .bool g.hl, .slice PA3 g.seen.length Pc3], .int .i64 n]) Try.func30 rfl Try.ntmps30 rfl ?_
  refine Sx.C.seq ?_
  refine Sx.C.region ?_
  refine Sx.G.box 33 (.tmp 0) [.slice PA0 g.prog.length Pc0, .int .i64 g.a, .int .i64 g.pc, .slice PA1 g.wr.length Pc1, .slice PA2 g.lv.length Pc2, .int .i64 g.t.1, .int .i64 g.t.2.1, .bool g.t.2.2, .int .i64 g.pd, .int .i64 g.x.1, .int .i64 g.x.2.1, .bool g.x.2.2.1, .int .i64 g.x.2.2.2, .bool g.hl, .slice PA3 g.seen.length Pc3] rfl (by kernel_rfl) (by kernel_rfl) (fun b1 => ?_)
  refine Sx.G.alloc 33 (.agg #[.slice none 0 0, .int .i64 0, .int .i64 0, .slice none 0 0, .slice none 0 0, .int .i64 0, .int .i64 0, .bool false, .int .i64 0, .int .i64 0, .int .i64 0, .bool false, .int .i64 0, .bool false, .slice none 0 0]) [.slice none 0 0, .int .i64 0, .int .i64 0, .slice none 0 0, .slice none 0 0, .int .i64 0, .int .i64 0, .bool false, .int .i64 0, .int .i64 0, .int .i64 0, .bool false, .int .i64 0, .bool false, .slice none 0 0] rfl (by kernel_rfl) (fun w => by kernel_rfl) (by kernel_rfl) (fun b2 => ?_)
  refine Sx.G.nil ?_
  refine Sx.E.next ?_
  refine Sx.C.seq ?_
  refine Sx.C.region ?_
  refine Sx.G.ld 33 (.tmp 2) b1 0 1 [.slice PA0 g.prog.length Pc0, .int .i64 g.a, .int .i64 g.pc, .slice PA1 g.wr.length Pc1, .slice PA2 g.lv.length Pc2, .int .i64 g.t.1, .int .i64 g.t.2.1, .bool g.t.2.2, .int .i64 g.pd, .int .i64 g.x.1, .int .i64 g.x.2.1, .bool g.x.2.2.1, .int .i64 g.x.2.2.2, .bool g.hl, .slice PA3 g.seen.length Pc3] [.slice PA0 g.prog.length Pc0, .int .i64 g.a, .int .i64 g.pc, .slice PA1 g.wr.length Pc1, .slice PA2 g.lv.length Pc2, .int .i64 g.t.1, .int .i64 g.t.2.1, .bool g.t.2.2, .int .i64 g.pd, .int .i64 g.x.1, .int .i64 g.x.2.1, .bool g.x.2.2.1, .int .i64 g.x.2.2.2, .bool g.hl, .slice PA3 g.seen.length Pc3] rfl (by kernel_rfl) (by kernel_rfl) rfl (by kernel_rfl) (by kernel_rfl) (by kernel_rfl) ?_
  refine Sx.G.call 75 #[.agg #[.slice PA0 g.prog.length Pc0, .int .i64 g.a, .int .i64 g.pc, .slice PA1 g.wr.length Pc1, .slice PA2 g.lv.length Pc2, .int .i64 g.t.1, .int .i64 g.t.2.1, .bool g.t.2.2, .int .i64 g.pd, .int .i64 g.x.1, .int .i64 g.x.2.1, .bool g.x.2.2.1, .int .i64 g.x.2.2.2, .bool g.hl, .slice PA3 g.seen.length Pc3]] (by kernel_rfl) (fun w => by kernel_rfl) (fun w3 S => (specx_copy g _ _ (by exact hc) (St.old S hr)).mono fun e w3' hp => ?_)
  obtain ⟨cs, F, rfl, ho, hF, hb⟩ := hp
  obtain ⟨q3_0, q3_1, q3_2, q3_3, G3_0, G3_1, G3_2, G3_3, rfl, S'⟩ := rG_open (S.got hb ho hF)
  obtain ⟨q3A0, q3c0, e0, -⟩ := lst_val (S'.reads 0 rfl)
  subst e0
  obtain ⟨q3A1, q3c1, e1, -⟩ := lst_val (S'.reads 1 rfl)
  subst e1
  obtain ⟨q3A2, q3c2, e2, -⟩ := lst_val (S'.reads 2 rfl)
  subst e2
  obtain ⟨q3A3, q3c3, e3, -⟩ := lst_val (S'.reads 3 rfl)
  subst e3
  refine ⟨_, _, rfl, S', ?_⟩
  clear S S' ho hF hb
  refine Sx.G.sto 33 (.tmp 2) (.tmp 6) b1 0 5 [.slice PA0 g.prog.length Pc0, .int .i64 g.a, .int .i64 g.pc, .slice PA1 g.wr.length Pc1, .slice PA2 g.lv.length Pc2, .int .i64 g.t.1, .int .i64 g.t.2.1, .bool g.t.2.2, .int .i64 g.pd, .int .i64 g.x.1, .int .i64 g.x.2.1, .bool g.x.2.2.1, .int .i64 g.x.2.2.2, .bool g.hl, .slice PA3 g.seen.length Pc3] [.slice q3A0 g.prog.length q3c0, .int .i64 g.a, .int .i64 g.pc, .slice q3A1 g.wr.length q3c1, .slice q3A2 g.lv.length q3c2, .int .i64 g.t.1, .int .i64 g.t.2.1, .bool g.t.2.2, .int .i64 g.pd, .int .i64 g.x.1, .int .i64 g.x.2.1, .bool g.x.2.2.1, .int .i64 g.x.2.2.2, .bool g.hl, .slice q3A3 g.seen.length q3c3] [.slice q3A0 g.prog.length q3c0, .int .i64 g.a, .int .i64 g.pc, .slice q3A1 g.wr.length q3c1, .slice q3A2 g.lv.length q3c2, .int .i64 g.t.1, .int .i64 g.t.2.1, .bool g.t.2.2, .int .i64 g.pd, .int .i64 g.x.1, .int .i64 g.x.2.1, .bool g.x.2.2.1, .int .i64 g.x.2.2.2, .bool g.hl, .slice q3A3 g.seen.length q3c3] [ow (rLst 64 (rPair rInt rInt)) w3.heap.size (w3'.heap.size) g.prog [.slice q3A0 g.prog.length q3c0] G3_0, ow (rLsw (rPair rInt rInt)) w3.heap.size w3'.heap.size g.wr [.slice q3A1 g.wr.length q3c1] G3_1, ow (rLsw (rPair rInt rInt)) w3.heap.size w3'.heap.size g.lv [.slice q3A2 g.lv.length q3c2] G3_2, ow (rLst 3 rInt) w3.heap.size (w3'.heap.size) g.seen [.slice q3A3 g.seen.length q3c3] G3_3, vr b2 [.slice none 0 0, .int .i64 0, .int .i64 0, .slice none 0 0, .slice none 0 0, .int .i64 0, .int .i64 0, .bool false, .int .i64 0, .int .i64 0, .int .i64 0, .bool false, .int .i64 0, .bool false, .slice none 0 0], vr b1 [.slice q3A0 g.prog.length q3c0, .int .i64 g.a, .int .i64 g.pc, .slice q3A1 g.wr.length q3c1, .slice q3A2 g.lv.length q3c2, .int .i64 g.t.1, .int .i64 g.t.2.1, .bool g.t.2.2, .int .i64 g.pd, .int .i64 g.x.1, .int .i64 g.x.2.1, .bool g.x.2.2.1, .int .i64 g.x.2.2.2, .bool g.hl, .slice q3A3 g.seen.length q3c3]] rfl (by kernel_rfl) (by kernel_rfl) (by kernel_rfl) rfl (by kernel_rfl) rfl (by kernel_rfl) (by kernel_rfl) (by kernel_rfl) ?_
  refine Sx.G.nil ?_
  refine Sx.E.next ?_
  refine Sx.C.seq ?_
  refine Sx.C.seq ?_
  refine Sx.C.region ?_
  refine Sx.G.pure (.pointer (some ⟨b1, 14, none⟩)) (by kernel_rfl) (fun w => by kernel_rfl) ?_
  refine Sx.G.ld1 24 (.tmp 7) b1 14 5 [.slice q3A0 g.prog.length q3c0, .int .i64 g.a, .int .i64 g.pc, .slice q3A1 g.wr.length q3c1, .slice q3A2 g.lv.length q3c2, .int .i64 g.t.1, .int .i64 g.t.2.1, .bool g.t.2.2, .int .i64 g.pd, .int .i64 g.x.1, .int .i64 g.x.2.1, .bool g.x.2.2.1, .int .i64 g.x.2.2.2, .bool g.hl, .slice q3A3 g.seen.length q3c3] (.slice q3A3 g.seen.length q3c3) rfl (by kernel_rfl) (by kernel_rfl) rfl (by kernel_rfl) (by kernel_rfl) ?_
  refine Sx.G.pure (.int .i64 ((g.seen.length : Nat) : Int)) (by kernel_rfl) (fun w => by kernel_rfl) ?_
  refine Sx.G.pure (.bool (decide (((g.seen.length : Nat) : Int) < 40))) (by kernel_rfl) (fun w => by kernel_rfl) ?_
  refine Sx.G.nil ?_
  refine Sx.E.next ?_
  cases hc4 : (decide (((g.seen.length : Nat) : Int) < 40))
  · have hb4 := hc4
    replace hc4 := of_decide_eq_false hc4
    refine Sx.C.no (by kernel_rfl) (by kernel_rfl) ?_
    refine Sx.C.skip ?_
    refine Sx.E.next ?_
    refine Sx.C.seq ?_
    refine Sx.C.region ?_
    refine Sx.G.ld 33 (.tmp 2) b1 0 5 [.slice q3A0 g.prog.length q3c0, .int .i64 g.a, .int .i64 g.pc, .slice q3A1 g.wr.length q3c1, .slice q3A2 g.lv.length q3c2, .int .i64 g.t.1, .int .i64 g.t.2.1, .bool g.t.2.2, .int .i64 g.pd, .int .i64 g.x.1, .int .i64 g.x.2.1, .bool g.x.2.2.1, .int .i64 g.x.2.2.2, .bool g.hl, .slice q3A3 g.seen.length q3c3] [.slice q3A0 g.prog.length q3c0, .int .i64 g.a, .int .i64 g.pc, .slice q3A1 g.wr.length q3c1, .slice q3A2 g.lv.length q3c2, .int .i64 g.t.1, .int .i64 g.t.2.1, .bool g.t.2.2, .int .i64 g.pd, .int .i64 g.x.1, .int .i64 g.x.2.1, .bool g.x.2.2.1, .int .i64 g.x.2.2.2, .bool g.hl, .slice q3A3 g.seen.length q3c3] rfl (by kernel_rfl) (by kernel_rfl) rfl (by kernel_rfl) (by kernel_rfl) (by kernel_rfl) ?_
    refine Sx.G.sto 33 (.tmp 4) (.tmp 17) b2 0 4 [.slice none 0 0, .int .i64 0, .int .i64 0, .slice none 0 0, .slice none 0 0, .int .i64 0, .int .i64 0, .bool false, .int .i64 0, .int .i64 0, .int .i64 0, .bool false, .int .i64 0, .bool false, .slice none 0 0] [.slice q3A0 g.prog.length q3c0, .int .i64 g.a, .int .i64 g.pc, .slice q3A1 g.wr.length q3c1, .slice q3A2 g.lv.length q3c2, .int .i64 g.t.1, .int .i64 g.t.2.1, .bool g.t.2.2, .int .i64 g.pd, .int .i64 g.x.1, .int .i64 g.x.2.1, .bool g.x.2.2.1, .int .i64 g.x.2.2.2, .bool g.hl, .slice q3A3 g.seen.length q3c3] [.slice q3A0 g.prog.length q3c0, .int .i64 g.a, .int .i64 g.pc, .slice q3A1 g.wr.length q3c1, .slice q3A2 g.lv.length q3c2, .int .i64 g.t.1, .int .i64 g.t.2.1, .bool g.t.2.2, .int .i64 g.pd, .int .i64 g.x.1, .int .i64 g.x.2.1, .bool g.x.2.2.1, .int .i64 g.x.2.2.2, .bool g.hl, .slice q3A3 g.seen.length q3c3] [ow (rLst 64 (rPair rInt rInt)) w3.heap.size (w3'.heap.size) g.prog [.slice q3A0 g.prog.length q3c0] G3_0, ow (rLsw (rPair rInt rInt)) w3.heap.size w3'.heap.size g.wr [.slice q3A1 g.wr.length q3c1] G3_1, ow (rLsw (rPair rInt rInt)) w3.heap.size w3'.heap.size g.lv [.slice q3A2 g.lv.length q3c2] G3_2, ow (rLst 3 rInt) w3.heap.size (w3'.heap.size) g.seen [.slice q3A3 g.seen.length q3c3] G3_3, vr b2 [.slice q3A0 g.prog.length q3c0, .int .i64 g.a, .int .i64 g.pc, .slice q3A1 g.wr.length q3c1, .slice q3A2 g.lv.length q3c2, .int .i64 g.t.1, .int .i64 g.t.2.1, .bool g.t.2.2, .int .i64 g.pd, .int .i64 g.x.1, .int .i64 g.x.2.1, .bool g.x.2.2.1, .int .i64 g.x.2.2.2, .bool g.hl, .slice q3A3 g.seen.length q3c3], vr b1 [.slice q3A0 g.prog.length q3c0, .int .i64 g.a, .int .i64 g.pc, .slice q3A1 g.wr.length q3c1, .slice q3A2 g.lv.length q3c2, .int .i64 g.t.1, .int .i64 g.t.2.1, .bool g.t.2.2, .int .i64 g.pd, .int .i64 g.x.1, .int .i64 g.x.2.1, .bool g.x.2.2.1, .int .i64 g.x.2.2.2, .bool g.hl, .slice q3A3 g.seen.length q3c3]] rfl (by kernel_rfl) (by kernel_rfl) (by kernel_rfl) rfl (by kernel_rfl) rfl (by kernel_rfl) (by kernel_rfl) (by kernel_rfl) ?_
    refine Sx.G.nil ?_
    refine Sx.E.next ?_
    refine Sx.C.ret ?_
    refine Sx.E.retc b2 4 [.slice q3A0 g.prog.length q3c0, .int .i64 g.a, .int .i64 g.pc, .slice q3A1 g.wr.length q3c1, .slice q3A2 g.lv.length q3c2, .int .i64 g.t.1, .int .i64 g.t.2.1, .bool g.t.2.2, .int .i64 g.pd, .int .i64 g.x.1, .int .i64 g.x.2.1, .bool g.x.2.2.1, .int .i64 g.x.2.2.2, .bool g.hl, .slice q3A3 g.seen.length q3c3] rfl (by kernel_rfl) rfl (by kernel_rfl) (by kernel_rfl) (fun w S => ?_)
    obtain ⟨ho, hF⟩ := rG_shut (g := g) S 0 rfl 1 rfl 2 rfl 3 rfl (by decide) (by decide) (by decide) (by decide) (by decide) (by decide)
    rw [show sawG g n = g from if_neg (by omega)]; exact ⟨_, _, rfl, ho, hF, S.below⟩
  · have hb4 := hc4
    replace hc4 := of_decide_eq_true hc4
    refine Sx.C.yes (by kernel_rfl) (by kernel_rfl) ?_
    refine Sx.C.region ?_
    refine Sx.G.pure (.pointer (some ⟨b1, 14, none⟩)) (by kernel_rfl) (fun w => by kernel_rfl) ?_
    refine Sx.G.ld1 24 (.tmp 11) b1 14 5 [.slice q3A0 g.prog.length q3c0, .int .i64 g.a, .int .i64 g.pc, .slice q3A1 g.wr.length q3c1, .slice q3A2 g.lv.length q3c2, .int .i64 g.t.1, .int .i64 g.t.2.1, .bool g.t.2.2, .int .i64 g.pd, .int .i64 g.x.1, .int .i64 g.x.2.1, .bool g.x.2.2.1, .int .i64 g.x.2.2.2, .bool g.hl, .slice q3A3 g.seen.length q3c3] (.slice q3A3 g.seen.length q3c3) rfl (by kernel_rfl) (by kernel_rfl) rfl (by kernel_rfl) (by kernel_rfl) ?_
    refine Sx.G.pure (.int .i64 n) (by kernel_rfl) (fun w => by kernel_rfl) ?_
    refine Sx.G.made 3 [.int .i64 n] 1 (by kernel_rfl) (fun w => by kernel_rfl) (fun b5 => ?_)
    refine Sx.G.apps 4 rfl (g.seen ++ [n]) (fun w S => S.box 0 rfl rfl 1 (Nat.le_refl _)) rfl (g.seen.length + 1) (by simp) flat_int (.tmp 12) (.tmp 14) 24 1 8 rfl rfl (by kernel_rfl) (by kernel_rfl) rfl (by kernel_rfl) (by kernel_rfl) (by simp only [maxLen, List.length_nil, List.length_cons]; omega) (by simp only [List.length_nil, List.length_cons]; omega) (fun A6 c6 F6 hi6 hm6 => ?_)
    refine Sx.G.pure (.pointer (some ⟨b1, 14, none⟩)) (by kernel_rfl) (fun w => by kernel_rfl) ?_
    refine Sx.G.sto 24 (.tmp 16) (.tmp 15) b1 14 6 [.slice q3A0 g.prog.length q3c0, .int .i64 g.a, .int .i64 g.pc, .slice q3A1 g.wr.length q3c1, .slice q3A2 g.lv.length q3c2, .int .i64 g.t.1, .int .i64 g.t.2.1, .bool g.t.2.2, .int .i64 g.pd, .int .i64 g.x.1, .int .i64 g.x.2.1, .bool g.x.2.2.1, .int .i64 g.x.2.2.2, .bool g.hl, .slice q3A3 g.seen.length q3c3] [.slice A6 (g.seen.length + 1) c6] [.slice q3A0 g.prog.length q3c0, .int .i64 g.a, .int .i64 g.pc, .slice q3A1 g.wr.length q3c1, .slice q3A2 g.lv.length q3c2, .int .i64 g.t.1, .int .i64 g.t.2.1, .bool g.t.2.2, .int .i64 g.pd, .int .i64 g.x.1, .int .i64 g.x.2.1, .bool g.x.2.2.1, .int .i64 g.x.2.2.2, .bool g.hl, .slice A6 (g.seen.length + 1) c6] [vr b5 [.int .i64 n], ow (rLst 64 (rPair rInt rInt)) w3.heap.size (w3'.heap.size) g.prog [.slice q3A0 g.prog.length q3c0] G3_0, ow (rLsw (rPair rInt rInt)) w3.heap.size w3'.heap.size g.wr [.slice q3A1 g.wr.length q3c1] G3_1, ow (rLsw (rPair rInt rInt)) w3.heap.size w3'.heap.size g.lv [.slice q3A2 g.lv.length q3c2] G3_2, ow (rLst 3 rInt) w.heap.size hi6 (g.seen ++ [n]) [.slice A6 (g.seen.length + 1) c6] F6, vr b2 [.slice none 0 0, .int .i64 0, .int .i64 0, .slice none 0 0, .slice none 0 0, .int .i64 0, .int .i64 0, .bool false, .int .i64 0, .int .i64 0, .int .i64 0, .bool false, .int .i64 0, .bool false, .slice none 0 0], vr b1 [.slice q3A0 g.prog.length q3c0, .int .i64 g.a, .int .i64 g.pc, .slice q3A1 g.wr.length q3c1, .slice q3A2 g.lv.length q3c2, .int .i64 g.t.1, .int .i64 g.t.2.1, .bool g.t.2.2, .int .i64 g.pd, .int .i64 g.x.1, .int .i64 g.x.2.1, .bool g.x.2.2.1, .int .i64 g.x.2.2.2, .bool g.hl, .slice A6 (g.seen.length + 1) c6]] rfl (by kernel_rfl) (by kernel_rfl) (by kernel_rfl) rfl (by kernel_rfl) rfl (by kernel_rfl) (by kernel_rfl) (by kernel_rfl) ?_
    refine Sx.G.nil ?_
    refine Sx.E.next ?_
    refine Sx.C.seq ?_
    refine Sx.C.region ?_
    refine Sx.G.ld 33 (.tmp 2) b1 0 6 [.slice q3A0 g.prog.length q3c0, .int .i64 g.a, .int .i64 g.pc, .slice q3A1 g.wr.length q3c1, .slice q3A2 g.lv.length q3c2, .int .i64 g.t.1, .int .i64 g.t.2.1, .bool g.t.2.2, .int .i64 g.pd, .int .i64 g.x.1, .int .i64 g.x.2.1, .bool g.x.2.2.1, .int .i64 g.x.2.2.2, .bool g.hl, .slice A6 (g.seen.length + 1) c6] [.slice q3A0 g.prog.length q3c0, .int .i64 g.a, .int .i64 g.pc, .slice q3A1 g.wr.length q3c1, .slice q3A2 g.lv.length q3c2, .int .i64 g.t.1, .int .i64 g.t.2.1, .bool g.t.2.2, .int .i64 g.pd, .int .i64 g.x.1, .int .i64 g.x.2.1, .bool g.x.2.2.1, .int .i64 g.x.2.2.2, .bool g.hl, .slice A6 (g.seen.length + 1) c6] rfl (by kernel_rfl) (by kernel_rfl) rfl (by kernel_rfl) (by kernel_rfl) (by kernel_rfl) ?_
    refine Sx.G.sto 33 (.tmp 4) (.tmp 17) b2 0 5 [.slice none 0 0, .int .i64 0, .int .i64 0, .slice none 0 0, .slice none 0 0, .int .i64 0, .int .i64 0, .bool false, .int .i64 0, .int .i64 0, .int .i64 0, .bool false, .int .i64 0, .bool false, .slice none 0 0] [.slice q3A0 g.prog.length q3c0, .int .i64 g.a, .int .i64 g.pc, .slice q3A1 g.wr.length q3c1, .slice q3A2 g.lv.length q3c2, .int .i64 g.t.1, .int .i64 g.t.2.1, .bool g.t.2.2, .int .i64 g.pd, .int .i64 g.x.1, .int .i64 g.x.2.1, .bool g.x.2.2.1, .int .i64 g.x.2.2.2, .bool g.hl, .slice A6 (g.seen.length + 1) c6] [.slice q3A0 g.prog.length q3c0, .int .i64 g.a, .int .i64 g.pc, .slice q3A1 g.wr.length q3c1, .slice q3A2 g.lv.length q3c2, .int .i64 g.t.1, .int .i64 g.t.2.1, .bool g.t.2.2, .int .i64 g.pd, .int .i64 g.x.1, .int .i64 g.x.2.1, .bool g.x.2.2.1, .int .i64 g.x.2.2.2, .bool g.hl, .slice A6 (g.seen.length + 1) c6] [vr b5 [.int .i64 n], ow (rLst 64 (rPair rInt rInt)) w3.heap.size (w3'.heap.size) g.prog [.slice q3A0 g.prog.length q3c0] G3_0, ow (rLsw (rPair rInt rInt)) w3.heap.size w3'.heap.size g.wr [.slice q3A1 g.wr.length q3c1] G3_1, ow (rLsw (rPair rInt rInt)) w3.heap.size w3'.heap.size g.lv [.slice q3A2 g.lv.length q3c2] G3_2, ow (rLst 3 rInt) w.heap.size hi6 (g.seen ++ [n]) [.slice A6 (g.seen.length + 1) c6] F6, vr b2 [.slice q3A0 g.prog.length q3c0, .int .i64 g.a, .int .i64 g.pc, .slice q3A1 g.wr.length q3c1, .slice q3A2 g.lv.length q3c2, .int .i64 g.t.1, .int .i64 g.t.2.1, .bool g.t.2.2, .int .i64 g.pd, .int .i64 g.x.1, .int .i64 g.x.2.1, .bool g.x.2.2.1, .int .i64 g.x.2.2.2, .bool g.hl, .slice A6 (g.seen.length + 1) c6], vr b1 [.slice q3A0 g.prog.length q3c0, .int .i64 g.a, .int .i64 g.pc, .slice q3A1 g.wr.length q3c1, .slice q3A2 g.lv.length q3c2, .int .i64 g.t.1, .int .i64 g.t.2.1, .bool g.t.2.2, .int .i64 g.pd, .int .i64 g.x.1, .int .i64 g.x.2.1, .bool g.x.2.2.1, .int .i64 g.x.2.2.2, .bool g.hl, .slice A6 (g.seen.length + 1) c6]] rfl (by kernel_rfl) (by kernel_rfl) (by kernel_rfl) rfl (by kernel_rfl) rfl (by kernel_rfl) (by kernel_rfl) (by kernel_rfl) ?_
    refine Sx.G.nil ?_
    refine Sx.E.next ?_
    refine Sx.C.ret ?_
    refine Sx.E.retc b2 5 [.slice q3A0 g.prog.length q3c0, .int .i64 g.a, .int .i64 g.pc, .slice q3A1 g.wr.length q3c1, .slice q3A2 g.lv.length q3c2, .int .i64 g.t.1, .int .i64 g.t.2.1, .bool g.t.2.2, .int .i64 g.pd, .int .i64 g.x.1, .int .i64 g.x.2.1, .bool g.x.2.2.1, .int .i64 g.x.2.2.2, .bool g.hl, .slice A6 (g.seen.length + 1) c6] rfl (by kernel_rfl) rfl (by kernel_rfl) (by kernel_rfl) (fun w S => ?_)
    obtain ⟨ho, hF⟩ := rG_shut (g := { g with seen := g.seen ++ [n] }) S 1 rfl 2 rfl 3 rfl 4 rfl (by decide) (by decide) (by decide) (by decide) (by decide) (by decide)
    rw [show sawG g n = { g with seen := g.seen ++ [n] } from if_pos (by omega)]; exact ⟨_, _, rfl, ho, hF, S.below⟩

set_option maxRecDepth 100000 in
set_option maxHeartbeats 4000000 in
theorem specx_int (g : gT) (cs : List Value) (w : World) (hc : rG.cap g) (h : rG.rd w 0 w.heap.size g cs) : Calls Try.prog 33 #[.agg cs.toArray] w (Gives rG w (intG g)) := by
  have hr := h
  obtain ⟨P0, P1, P2, P3, rfl, h0, h1, h2, h3⟩ := rG_rd h
  obtain ⟨PA0, Pc0, e0, hP0⟩ := lst_val h0
  subst e0
  obtain ⟨PA1, Pc1, e1, hP1⟩ := lst_val h1
  subst e1
  obtain ⟨PA2, Pc2, e2, hP2⟩ := lst_val h2
  subst e2
  obtain ⟨PA3, Pc3, e3, hP3⟩ := lst_val h3
  subst e3
  refine Sx.enter (args := [.agg #[.slice PA0 g.prog.length Pc0, .int .i64 g.a, .int .i64 g.pc, .slice PA1 g.wr.length Pc1, .slice PA2 g.lv.length Pc2, .int .i64 g.t.1, .int .i64 g.t.2.1, .bool g.t.2.2, .int .i64 g.pd, .int .i64 g.x.1, .int .i64 g.x.2.1, .bool g.x.2.2.1, .int .i64 g.x.2.2.2, .bool g.hl, .slice PA3 g.seen.length Pc3]]) Try.func33 rfl Try.ntmps33 rfl ?_
  refine Sx.C.seq ?_
  refine Sx.C.region ?_
  refine Sx.G.box 33 (.tmp 0) [.slice PA0 g.prog.length Pc0, .int .i64 g.a, .int .i64 g.pc, .slice PA1 g.wr.length Pc1, .slice PA2 g.lv.length Pc2, .int .i64 g.t.1, .int .i64 g.t.2.1, .bool g.t.2.2, .int .i64 g.pd, .int .i64 g.x.1, .int .i64 g.x.2.1, .bool g.x.2.2.1, .int .i64 g.x.2.2.2, .bool g.hl, .slice PA3 g.seen.length Pc3] rfl (by kernel_rfl) (by kernel_rfl) (fun b1 => ?_)
  refine Sx.G.alloc 33 (.agg #[.slice none 0 0, .int .i64 0, .int .i64 0, .slice none 0 0, .slice none 0 0, .int .i64 0, .int .i64 0, .bool false, .int .i64 0, .int .i64 0, .int .i64 0, .bool false, .int .i64 0, .bool false, .slice none 0 0]) [.slice none 0 0, .int .i64 0, .int .i64 0, .slice none 0 0, .slice none 0 0, .int .i64 0, .int .i64 0, .bool false, .int .i64 0, .int .i64 0, .int .i64 0, .bool false, .int .i64 0, .bool false, .slice none 0 0] rfl (by kernel_rfl) (fun w => by kernel_rfl) (by kernel_rfl) (fun b2 => ?_)
  refine Sx.G.nil ?_
  refine Sx.E.next ?_
  refine Sx.C.seq ?_
  refine Sx.C.seq ?_
  refine Sx.C.region ?_
  refine Sx.G.ld 33 (.tmp 1) b1 0 1 [.slice PA0 g.prog.length Pc0, .int .i64 g.a, .int .i64 g.pc, .slice PA1 g.wr.length Pc1, .slice PA2 g.lv.length Pc2, .int .i64 g.t.1, .int .i64 g.t.2.1, .bool g.t.2.2, .int .i64 g.pd, .int .i64 g.x.1, .int .i64 g.x.2.1, .bool g.x.2.2.1, .int .i64 g.x.2.2.2, .bool g.hl, .slice PA3 g.seen.length Pc3] [.slice PA0 g.prog.length Pc0, .int .i64 g.a, .int .i64 g.pc, .slice PA1 g.wr.length Pc1, .slice PA2 g.lv.length Pc2, .int .i64 g.t.1, .int .i64 g.t.2.1, .bool g.t.2.2, .int .i64 g.pd, .int .i64 g.x.1, .int .i64 g.x.2.1, .bool g.x.2.2.1, .int .i64 g.x.2.2.2, .bool g.hl, .slice PA3 g.seen.length Pc3] rfl (by kernel_rfl) (by kernel_rfl) rfl (by kernel_rfl) (by kernel_rfl) (by kernel_rfl) ?_
  refine Sx.G.plain 31 #[.agg #[.slice PA0 g.prog.length Pc0, .int .i64 g.a, .int .i64 g.pc, .slice PA1 g.wr.length Pc1, .slice PA2 g.lv.length Pc2, .int .i64 g.t.1, .int .i64 g.t.2.1, .bool g.t.2.2, .int .i64 g.pd, .int .i64 g.x.1, .int .i64 g.x.2.1, .bool g.x.2.2.1, .int .i64 g.x.2.2.2, .bool g.hl, .slice PA3 g.seen.length Pc3]] (.bool (takesI g)) (by kernel_rfl) (fun w => by kernel_rfl) (fun w S => by exact spec_takes g (.slice PA0 g.prog.length Pc0) (.slice PA1 g.wr.length Pc1) (.slice PA2 g.lv.length Pc2) (.slice PA3 g.seen.length Pc3) _) ?_
  refine Sx.G.pure (.bool (!(takesI g))) (by kernel_rfl) (fun w => by kernel_rfl) ?_
  refine Sx.G.nil ?_
  refine Sx.E.next ?_
  cases hc3 : (takesI g)
  · have hb3 := hc3
    refine Sx.C.yes (by kernel_rfl) (by kernel_rfl) ?_
    refine Sx.C.seq ?_
    refine Sx.C.region ?_
    refine Sx.G.ld 33 (.tmp 1) b1 0 1 [.slice PA0 g.prog.length Pc0, .int .i64 g.a, .int .i64 g.pc, .slice PA1 g.wr.length Pc1, .slice PA2 g.lv.length Pc2, .int .i64 g.t.1, .int .i64 g.t.2.1, .bool g.t.2.2, .int .i64 g.pd, .int .i64 g.x.1, .int .i64 g.x.2.1, .bool g.x.2.2.1, .int .i64 g.x.2.2.2, .bool g.hl, .slice PA3 g.seen.length Pc3] [.slice PA0 g.prog.length Pc0, .int .i64 g.a, .int .i64 g.pc, .slice PA1 g.wr.length Pc1, .slice PA2 g.lv.length Pc2, .int .i64 g.t.1, .int .i64 g.t.2.1, .bool g.t.2.2, .int .i64 g.pd, .int .i64 g.x.1, .int .i64 g.x.2.1, .bool g.x.2.2.1, .int .i64 g.x.2.2.2, .bool g.hl, .slice PA3 g.seen.length Pc3] rfl (by kernel_rfl) (by kernel_rfl) rfl (by kernel_rfl) (by kernel_rfl) (by kernel_rfl) ?_
    refine Sx.G.call 75 #[.agg #[.slice PA0 g.prog.length Pc0, .int .i64 g.a, .int .i64 g.pc, .slice PA1 g.wr.length Pc1, .slice PA2 g.lv.length Pc2, .int .i64 g.t.1, .int .i64 g.t.2.1, .bool g.t.2.2, .int .i64 g.pd, .int .i64 g.x.1, .int .i64 g.x.2.1, .bool g.x.2.2.1, .int .i64 g.x.2.2.2, .bool g.hl, .slice PA3 g.seen.length Pc3]] (by kernel_rfl) (fun w => by kernel_rfl) (fun w4 S => (specx_copy g _ _ (by exact hc) (St.old S hr)).mono fun e w4' hp => ?_)
    obtain ⟨cs, F, rfl, ho, hF, hb⟩ := hp
    obtain ⟨q4_0, q4_1, q4_2, q4_3, G4_0, G4_1, G4_2, G4_3, rfl, S'⟩ := rG_open (S.got hb ho hF)
    obtain ⟨q4A0, q4c0, e0, -⟩ := lst_val (S'.reads 0 rfl)
    subst e0
    obtain ⟨q4A1, q4c1, e1, -⟩ := lst_val (S'.reads 1 rfl)
    subst e1
    obtain ⟨q4A2, q4c2, e2, -⟩ := lst_val (S'.reads 2 rfl)
    subst e2
    obtain ⟨q4A3, q4c3, e3, -⟩ := lst_val (S'.reads 3 rfl)
    subst e3
    refine ⟨_, _, rfl, S', ?_⟩
    clear S S' ho hF hb
    refine Sx.G.sto 33 (.tmp 2) (.tmp 10) b2 0 4 [.slice none 0 0, .int .i64 0, .int .i64 0, .slice none 0 0, .slice none 0 0, .int .i64 0, .int .i64 0, .bool false, .int .i64 0, .int .i64 0, .int .i64 0, .bool false, .int .i64 0, .bool false, .slice none 0 0] [.slice q4A0 g.prog.length q4c0, .int .i64 g.a, .int .i64 g.pc, .slice q4A1 g.wr.length q4c1, .slice q4A2 g.lv.length q4c2, .int .i64 g.t.1, .int .i64 g.t.2.1, .bool g.t.2.2, .int .i64 g.pd, .int .i64 g.x.1, .int .i64 g.x.2.1, .bool g.x.2.2.1, .int .i64 g.x.2.2.2, .bool g.hl, .slice q4A3 g.seen.length q4c3] [.slice q4A0 g.prog.length q4c0, .int .i64 g.a, .int .i64 g.pc, .slice q4A1 g.wr.length q4c1, .slice q4A2 g.lv.length q4c2, .int .i64 g.t.1, .int .i64 g.t.2.1, .bool g.t.2.2, .int .i64 g.pd, .int .i64 g.x.1, .int .i64 g.x.2.1, .bool g.x.2.2.1, .int .i64 g.x.2.2.2, .bool g.hl, .slice q4A3 g.seen.length q4c3] [ow (rLst 64 (rPair rInt rInt)) w4.heap.size (w4'.heap.size) g.prog [.slice q4A0 g.prog.length q4c0] G4_0, ow (rLsw (rPair rInt rInt)) w4.heap.size w4'.heap.size g.wr [.slice q4A1 g.wr.length q4c1] G4_1, ow (rLsw (rPair rInt rInt)) w4.heap.size w4'.heap.size g.lv [.slice q4A2 g.lv.length q4c2] G4_2, ow (rLst 3 rInt) w4.heap.size (w4'.heap.size) g.seen [.slice q4A3 g.seen.length q4c3] G4_3, vr b2 [.slice q4A0 g.prog.length q4c0, .int .i64 g.a, .int .i64 g.pc, .slice q4A1 g.wr.length q4c1, .slice q4A2 g.lv.length q4c2, .int .i64 g.t.1, .int .i64 g.t.2.1, .bool g.t.2.2, .int .i64 g.pd, .int .i64 g.x.1, .int .i64 g.x.2.1, .bool g.x.2.2.1, .int .i64 g.x.2.2.2, .bool g.hl, .slice q4A3 g.seen.length q4c3], vr b1 [.slice PA0 g.prog.length Pc0, .int .i64 g.a, .int .i64 g.pc, .slice PA1 g.wr.length Pc1, .slice PA2 g.lv.length Pc2, .int .i64 g.t.1, .int .i64 g.t.2.1, .bool g.t.2.2, .int .i64 g.pd, .int .i64 g.x.1, .int .i64 g.x.2.1, .bool g.x.2.2.1, .int .i64 g.x.2.2.2, .bool g.hl, .slice PA3 g.seen.length Pc3]] rfl (by kernel_rfl) (by kernel_rfl) (by kernel_rfl) rfl (by kernel_rfl) rfl (by kernel_rfl) (by kernel_rfl) (by kernel_rfl) ?_
    refine Sx.G.nil ?_
    refine Sx.E.next ?_
    refine Sx.C.ret ?_
    refine Sx.E.then_ret ?_
    refine Sx.E.retc b2 4 [.slice q4A0 g.prog.length q4c0, .int .i64 g.a, .int .i64 g.pc, .slice q4A1 g.wr.length q4c1, .slice q4A2 g.lv.length q4c2, .int .i64 g.t.1, .int .i64 g.t.2.1, .bool g.t.2.2, .int .i64 g.pd, .int .i64 g.x.1, .int .i64 g.x.2.1, .bool g.x.2.2.1, .int .i64 g.x.2.2.2, .bool g.hl, .slice q4A3 g.seen.length q4c3] rfl (by kernel_rfl) rfl (by kernel_rfl) (by kernel_rfl) (fun w S => ?_)
    have HW : intG g = g := by
      show (if takesI g = true then _ else _) = _
      rw [hb3]; rfl
    obtain ⟨ho, hF⟩ := rG_shut (g := g) S 0 rfl 1 rfl 2 rfl 3 rfl (by decide) (by decide) (by decide) (by decide) (by decide) (by decide)
    rw [HW]; exact ⟨_, _, rfl, ho, hF, S.below⟩
  · have hb3 := hc3
    refine Sx.C.no (by kernel_rfl) (by kernel_rfl) ?_
    refine Sx.C.skip ?_
    refine Sx.E.next ?_
    refine Sx.C.seq ?_
    refine Sx.C.region ?_
    refine Sx.G.pure (.pointer (some ⟨b1, 8, none⟩)) (by kernel_rfl) (fun w => by kernel_rfl) ?_
    refine Sx.G.ld1 3 (.tmp 12) b1 8 1 [.slice PA0 g.prog.length Pc0, .int .i64 g.a, .int .i64 g.pc, .slice PA1 g.wr.length Pc1, .slice PA2 g.lv.length Pc2, .int .i64 g.t.1, .int .i64 g.t.2.1, .bool g.t.2.2, .int .i64 g.pd, .int .i64 g.x.1, .int .i64 g.x.2.1, .bool g.x.2.2.1, .int .i64 g.x.2.2.2, .bool g.hl, .slice PA3 g.seen.length Pc3] (.int .i64 g.pd) rfl (by kernel_rfl) (by kernel_rfl) rfl (by kernel_rfl) (by kernel_rfl) ?_
    have htk := takeI_lt g.pd
    refine Sx.G.plain 78 #[.int .i64 g.pd] (.tuple #[.int .i64 (takeI g.pd).1, .int .i64 (takeI g.pd).2.1, .bool (takeI g.pd).2.2]) (by kernel_rfl) (fun w => by kernel_rfl) (fun w S => by exact ((spec_take g.pd _).mono fun e w' h => And.intro h.1 (below_same h.2))) ?_
    refine Sx.G.pure (.tuple #[.int .i64 (takeI g.pd).1, .int .i64 (takeI g.pd).2.1, .bool (takeI g.pd).2.2]) (by kernel_rfl) (fun w => by kernel_rfl) ?_
    refine Sx.G.pure (.int .i64 (takeI g.pd).1) (by kernel_rfl) (fun w => by kernel_rfl) ?_
    refine Sx.G.pure (.int .i64 (takeI g.pd).2.1) (by kernel_rfl) (fun w => by kernel_rfl) ?_
    refine Sx.G.pure (.bool ((takeI g.pd).2.2)) (by kernel_rfl) (fun w => by kernel_rfl) ?_
    refine Sx.G.pure (.int .i64 (takeI g.pd).1) (by kernel_rfl) (fun w => by kernel_rfl) ?_
    refine Sx.G.pure (.int .i64 (takeI g.pd).2.1) (by kernel_rfl) (fun w => by kernel_rfl) ?_
    refine Sx.G.pure (.bool ((takeI g.pd).2.2)) (by kernel_rfl) (fun w => by kernel_rfl) ?_
    refine Sx.G.nil ?_
    refine Sx.E.next ?_
    refine Sx.C.seq ?_
    refine Sx.C.region ?_
    refine Sx.G.pure (.int .i64 (takeI g.pd).1) (by kernel_rfl) (fun w => by kernel_rfl) ?_
    refine Sx.G.pure (.pointer (some ⟨b1, 8, none⟩)) (by kernel_rfl) (fun w => by kernel_rfl) ?_
    refine Sx.G.sto 3 (.tmp 19) (.tmp 18) b1 8 1 [.slice PA0 g.prog.length Pc0, .int .i64 g.a, .int .i64 g.pc, .slice PA1 g.wr.length Pc1, .slice PA2 g.lv.length Pc2, .int .i64 g.t.1, .int .i64 g.t.2.1, .bool g.t.2.2, .int .i64 g.pd, .int .i64 g.x.1, .int .i64 g.x.2.1, .bool g.x.2.2.1, .int .i64 g.x.2.2.2, .bool g.hl, .slice PA3 g.seen.length Pc3] [.int .i64 (takeI g.pd).1] [.slice PA0 g.prog.length Pc0, .int .i64 g.a, .int .i64 g.pc, .slice PA1 g.wr.length Pc1, .slice PA2 g.lv.length Pc2, .int .i64 g.t.1, .int .i64 g.t.2.1, .bool g.t.2.2, .int .i64 (takeI g.pd).1, .int .i64 g.x.1, .int .i64 g.x.2.1, .bool g.x.2.2.1, .int .i64 g.x.2.2.2, .bool g.hl, .slice PA3 g.seen.length Pc3] [vr b2 [.slice none 0 0, .int .i64 0, .int .i64 0, .slice none 0 0, .slice none 0 0, .int .i64 0, .int .i64 0, .bool false, .int .i64 0, .int .i64 0, .int .i64 0, .bool false, .int .i64 0, .bool false, .slice none 0 0], vr b1 [.slice PA0 g.prog.length Pc0, .int .i64 g.a, .int .i64 g.pc, .slice PA1 g.wr.length Pc1, .slice PA2 g.lv.length Pc2, .int .i64 g.t.1, .int .i64 g.t.2.1, .bool g.t.2.2, .int .i64 (takeI g.pd).1, .int .i64 g.x.1, .int .i64 g.x.2.1, .bool g.x.2.2.1, .int .i64 g.x.2.2.2, .bool g.hl, .slice PA3 g.seen.length Pc3]] rfl (by kernel_rfl) (by kernel_rfl) (by kernel_rfl) rfl (by kernel_rfl) rfl (by kernel_rfl) (by kernel_rfl) (by kernel_rfl) ?_
    refine Sx.G.nil ?_
    refine Sx.E.next ?_
    refine Sx.C.seq ?_
    refine Sx.C.region ?_
    refine Sx.G.ld 33 (.tmp 1) b1 0 1 [.slice PA0 g.prog.length Pc0, .int .i64 g.a, .int .i64 g.pc, .slice PA1 g.wr.length Pc1, .slice PA2 g.lv.length Pc2, .int .i64 g.t.1, .int .i64 g.t.2.1, .bool g.t.2.2, .int .i64 (takeI g.pd).1, .int .i64 g.x.1, .int .i64 g.x.2.1, .bool g.x.2.2.1, .int .i64 g.x.2.2.2, .bool g.hl, .slice PA3 g.seen.length Pc3] [.slice PA0 g.prog.length Pc0, .int .i64 g.a, .int .i64 g.pc, .slice PA1 g.wr.length Pc1, .slice PA2 g.lv.length Pc2, .int .i64 g.t.1, .int .i64 g.t.2.1, .bool g.t.2.2, .int .i64 (takeI g.pd).1, .int .i64 g.x.1, .int .i64 g.x.2.1, .bool g.x.2.2.1, .int .i64 g.x.2.2.2, .bool g.hl, .slice PA3 g.seen.length Pc3] rfl (by kernel_rfl) (by kernel_rfl) rfl (by kernel_rfl) (by kernel_rfl) (by kernel_rfl) ?_
    refine Sx.G.pure (.int .i64 (takeI g.pd).2.1) (by kernel_rfl) (fun w => by kernel_rfl) ?_
    refine Sx.G.pureq (.int .i64 (IntKind.i64.wrap (100 + (takeI g.pd).2.1))) (.int .i64 (100 + (takeI g.pd).2.1)) (by kernel_rfl) (fun w => by kernel_rfl) (congrArg (Value.int .i64) (by rw [IntKind.wrap_i64]; omega)) ?_
    refine Sx.G.call 30 #[.agg #[.slice PA0 g.prog.length Pc0, .int .i64 g.a, .int .i64 g.pc, .slice PA1 g.wr.length Pc1, .slice PA2 g.lv.length Pc2, .int .i64 g.t.1, .int .i64 g.t.2.1, .bool g.t.2.2, .int .i64 (takeI g.pd).1, .int .i64 g.x.1, .int .i64 g.x.2.1, .bool g.x.2.2.1, .int .i64 g.x.2.2.2, .bool g.hl, .slice PA3 g.seen.length Pc3], .int .i64 (100 + (takeI g.pd).2.1)] (by kernel_rfl) (fun w => by kernel_rfl) (fun w5 S => (specx_saw ({ g with pd := (takeI g.pd).1 }) _ ((100 + (takeI g.pd).2.1)) _ (by exact hc) (rG_rd_mk (g := { g with pd := (takeI g.pd).1 }) (St.old S h0) (St.old S h1) (St.old S h2) (St.old S h3))).mono fun e w5' hp => ?_)
    obtain ⟨cs, F, rfl, ho, hF, hb⟩ := hp
    obtain ⟨q5_0, q5_1, q5_2, q5_3, G5_0, G5_1, G5_2, G5_3, rfl, S'⟩ := rG_open (S.got hb ho hF)
    obtain ⟨q5A0, q5c0, e0, -⟩ := lst_val (S'.reads 0 rfl)
    subst e0
    obtain ⟨q5A1, q5c1, e1, -⟩ := lst_val (S'.reads 1 rfl)
    subst e1
    obtain ⟨q5A2, q5c2, e2, -⟩ := lst_val (S'.reads 2 rfl)
    subst e2
    obtain ⟨q5A3, q5c3, e3, -⟩ := lst_val (S'.reads 3 rfl)
    subst e3
    refine ⟨_, _, rfl, S', ?_⟩
    clear S S' ho hF hb
    refine Sx.G.sto 33 (.tmp 2) (.tmp 23) b2 0 4 [.slice none 0 0, .int .i64 0, .int .i64 0, .slice none 0 0, .slice none 0 0, .int .i64 0, .int .i64 0, .bool false, .int .i64 0, .int .i64 0, .int .i64 0, .bool false, .int .i64 0, .bool false, .slice none 0 0] [.slice q5A0 (sawG ({ g with pd := (takeI g.pd).1 }) ((100 + (takeI g.pd).2.1))).prog.length q5c0, .int .i64 (sawG ({ g with pd := (takeI g.pd).1 }) ((100 + (takeI g.pd).2.1))).a, .int .i64 (sawG ({ g with pd := (takeI g.pd).1 }) ((100 + (takeI g.pd).2.1))).pc, .slice q5A1 (sawG ({ g with pd := (takeI g.pd).1 }) ((100 + (takeI g.pd).2.1))).wr.length q5c1, .slice q5A2 (sawG ({ g with pd := (takeI g.pd).1 }) ((100 + (takeI g.pd).2.1))).lv.length q5c2, .int .i64 (sawG ({ g with pd := (takeI g.pd).1 }) ((100 + (takeI g.pd).2.1))).t.1, .int .i64 (sawG ({ g with pd := (takeI g.pd).1 }) ((100 + (takeI g.pd).2.1))).t.2.1, .bool (sawG ({ g with pd := (takeI g.pd).1 }) ((100 + (takeI g.pd).2.1))).t.2.2, .int .i64 (sawG ({ g with pd := (takeI g.pd).1 }) ((100 + (takeI g.pd).2.1))).pd, .int .i64 (sawG ({ g with pd := (takeI g.pd).1 }) ((100 + (takeI g.pd).2.1))).x.1, .int .i64 (sawG ({ g with pd := (takeI g.pd).1 }) ((100 + (takeI g.pd).2.1))).x.2.1, .bool (sawG ({ g with pd := (takeI g.pd).1 }) ((100 + (takeI g.pd).2.1))).x.2.2.1, .int .i64 (sawG ({ g with pd := (takeI g.pd).1 }) ((100 + (takeI g.pd).2.1))).x.2.2.2, .bool (sawG ({ g with pd := (takeI g.pd).1 }) ((100 + (takeI g.pd).2.1))).hl, .slice q5A3 (sawG ({ g with pd := (takeI g.pd).1 }) ((100 + (takeI g.pd).2.1))).seen.length q5c3] [.slice q5A0 (sawG ({ g with pd := (takeI g.pd).1 }) ((100 + (takeI g.pd).2.1))).prog.length q5c0, .int .i64 (sawG ({ g with pd := (takeI g.pd).1 }) ((100 + (takeI g.pd).2.1))).a, .int .i64 (sawG ({ g with pd := (takeI g.pd).1 }) ((100 + (takeI g.pd).2.1))).pc, .slice q5A1 (sawG ({ g with pd := (takeI g.pd).1 }) ((100 + (takeI g.pd).2.1))).wr.length q5c1, .slice q5A2 (sawG ({ g with pd := (takeI g.pd).1 }) ((100 + (takeI g.pd).2.1))).lv.length q5c2, .int .i64 (sawG ({ g with pd := (takeI g.pd).1 }) ((100 + (takeI g.pd).2.1))).t.1, .int .i64 (sawG ({ g with pd := (takeI g.pd).1 }) ((100 + (takeI g.pd).2.1))).t.2.1, .bool (sawG ({ g with pd := (takeI g.pd).1 }) ((100 + (takeI g.pd).2.1))).t.2.2, .int .i64 (sawG ({ g with pd := (takeI g.pd).1 }) ((100 + (takeI g.pd).2.1))).pd, .int .i64 (sawG ({ g with pd := (takeI g.pd).1 }) ((100 + (takeI g.pd).2.1))).x.1, .int .i64 (sawG ({ g with pd := (takeI g.pd).1 }) ((100 + (takeI g.pd).2.1))).x.2.1, .bool (sawG ({ g with pd := (takeI g.pd).1 }) ((100 + (takeI g.pd).2.1))).x.2.2.1, .int .i64 (sawG ({ g with pd := (takeI g.pd).1 }) ((100 + (takeI g.pd).2.1))).x.2.2.2, .bool (sawG ({ g with pd := (takeI g.pd).1 }) ((100 + (takeI g.pd).2.1))).hl, .slice q5A3 (sawG ({ g with pd := (takeI g.pd).1 }) ((100 + (takeI g.pd).2.1))).seen.length q5c3] [ow (rLst 64 (rPair rInt rInt)) w5.heap.size (w5'.heap.size) ((sawG ({ g with pd := (takeI g.pd).1 }) ((100 + (takeI g.pd).2.1))).prog) [.slice q5A0 (sawG ({ g with pd := (takeI g.pd).1 }) ((100 + (takeI g.pd).2.1))).prog.length q5c0] G5_0, ow (rLsw (rPair rInt rInt)) w5.heap.size w5'.heap.size (sawG ({ g with pd := (takeI g.pd).1 }) ((100 + (takeI g.pd).2.1))).wr [.slice q5A1 (sawG ({ g with pd := (takeI g.pd).1 }) ((100 + (takeI g.pd).2.1))).wr.length q5c1] G5_1, ow (rLsw (rPair rInt rInt)) w5.heap.size w5'.heap.size (sawG ({ g with pd := (takeI g.pd).1 }) ((100 + (takeI g.pd).2.1))).lv [.slice q5A2 (sawG ({ g with pd := (takeI g.pd).1 }) ((100 + (takeI g.pd).2.1))).lv.length q5c2] G5_2, ow (rLst 3 rInt) w5.heap.size (w5'.heap.size) ((sawG ({ g with pd := (takeI g.pd).1 }) ((100 + (takeI g.pd).2.1))).seen) [.slice q5A3 (sawG ({ g with pd := (takeI g.pd).1 }) ((100 + (takeI g.pd).2.1))).seen.length q5c3] G5_3, vr b2 [.slice q5A0 (sawG ({ g with pd := (takeI g.pd).1 }) ((100 + (takeI g.pd).2.1))).prog.length q5c0, .int .i64 (sawG ({ g with pd := (takeI g.pd).1 }) ((100 + (takeI g.pd).2.1))).a, .int .i64 (sawG ({ g with pd := (takeI g.pd).1 }) ((100 + (takeI g.pd).2.1))).pc, .slice q5A1 (sawG ({ g with pd := (takeI g.pd).1 }) ((100 + (takeI g.pd).2.1))).wr.length q5c1, .slice q5A2 (sawG ({ g with pd := (takeI g.pd).1 }) ((100 + (takeI g.pd).2.1))).lv.length q5c2, .int .i64 (sawG ({ g with pd := (takeI g.pd).1 }) ((100 + (takeI g.pd).2.1))).t.1, .int .i64 (sawG ({ g with pd := (takeI g.pd).1 }) ((100 + (takeI g.pd).2.1))).t.2.1, .bool (sawG ({ g with pd := (takeI g.pd).1 }) ((100 + (takeI g.pd).2.1))).t.2.2, .int .i64 (sawG ({ g with pd := (takeI g.pd).1 }) ((100 + (takeI g.pd).2.1))).pd, .int .i64 (sawG ({ g with pd := (takeI g.pd).1 }) ((100 + (takeI g.pd).2.1))).x.1, .int .i64 (sawG ({ g with pd := (takeI g.pd).1 }) ((100 + (takeI g.pd).2.1))).x.2.1, .bool (sawG ({ g with pd := (takeI g.pd).1 }) ((100 + (takeI g.pd).2.1))).x.2.2.1, .int .i64 (sawG ({ g with pd := (takeI g.pd).1 }) ((100 + (takeI g.pd).2.1))).x.2.2.2, .bool (sawG ({ g with pd := (takeI g.pd).1 }) ((100 + (takeI g.pd).2.1))).hl, .slice q5A3 (sawG ({ g with pd := (takeI g.pd).1 }) ((100 + (takeI g.pd).2.1))).seen.length q5c3], vr b1 [.slice PA0 g.prog.length Pc0, .int .i64 g.a, .int .i64 g.pc, .slice PA1 g.wr.length Pc1, .slice PA2 g.lv.length Pc2, .int .i64 g.t.1, .int .i64 g.t.2.1, .bool g.t.2.2, .int .i64 (takeI g.pd).1, .int .i64 g.x.1, .int .i64 g.x.2.1, .bool g.x.2.2.1, .int .i64 g.x.2.2.2, .bool g.hl, .slice PA3 g.seen.length Pc3]] rfl (by kernel_rfl) (by kernel_rfl) (by kernel_rfl) rfl (by kernel_rfl) rfl (by kernel_rfl) (by kernel_rfl) (by kernel_rfl) ?_
    refine Sx.G.nil ?_
    refine Sx.E.next ?_
    refine Sx.C.ret ?_
    refine Sx.E.retc b2 4 [.slice q5A0 (sawG ({ g with pd := (takeI g.pd).1 }) ((100 + (takeI g.pd).2.1))).prog.length q5c0, .int .i64 (sawG ({ g with pd := (takeI g.pd).1 }) ((100 + (takeI g.pd).2.1))).a, .int .i64 (sawG ({ g with pd := (takeI g.pd).1 }) ((100 + (takeI g.pd).2.1))).pc, .slice q5A1 (sawG ({ g with pd := (takeI g.pd).1 }) ((100 + (takeI g.pd).2.1))).wr.length q5c1, .slice q5A2 (sawG ({ g with pd := (takeI g.pd).1 }) ((100 + (takeI g.pd).2.1))).lv.length q5c2, .int .i64 (sawG ({ g with pd := (takeI g.pd).1 }) ((100 + (takeI g.pd).2.1))).t.1, .int .i64 (sawG ({ g with pd := (takeI g.pd).1 }) ((100 + (takeI g.pd).2.1))).t.2.1, .bool (sawG ({ g with pd := (takeI g.pd).1 }) ((100 + (takeI g.pd).2.1))).t.2.2, .int .i64 (sawG ({ g with pd := (takeI g.pd).1 }) ((100 + (takeI g.pd).2.1))).pd, .int .i64 (sawG ({ g with pd := (takeI g.pd).1 }) ((100 + (takeI g.pd).2.1))).x.1, .int .i64 (sawG ({ g with pd := (takeI g.pd).1 }) ((100 + (takeI g.pd).2.1))).x.2.1, .bool (sawG ({ g with pd := (takeI g.pd).1 }) ((100 + (takeI g.pd).2.1))).x.2.2.1, .int .i64 (sawG ({ g with pd := (takeI g.pd).1 }) ((100 + (takeI g.pd).2.1))).x.2.2.2, .bool (sawG ({ g with pd := (takeI g.pd).1 }) ((100 + (takeI g.pd).2.1))).hl, .slice q5A3 (sawG ({ g with pd := (takeI g.pd).1 }) ((100 + (takeI g.pd).2.1))).seen.length q5c3] rfl (by kernel_rfl) rfl (by kernel_rfl) (by kernel_rfl) (fun w S => ?_)
    have HW : intG g = { (sawG ({ g with pd := (takeI g.pd).1 }) ((100 + (takeI g.pd).2.1))) with prog := (sawG ({ g with pd := (takeI g.pd).1 }) ((100 + (takeI g.pd).2.1))).prog, wr := (sawG ({ g with pd := (takeI g.pd).1 }) ((100 + (takeI g.pd).2.1))).wr, lv := (sawG ({ g with pd := (takeI g.pd).1 }) ((100 + (takeI g.pd).2.1))).lv, seen := (sawG ({ g with pd := (takeI g.pd).1 }) ((100 + (takeI g.pd).2.1))).seen } := by
      show (if takesI g = true then _ else _) = _
      rw [hb3]; rfl
    obtain ⟨ho, hF⟩ := rG_shut (g := { (sawG ({ g with pd := (takeI g.pd).1 }) ((100 + (takeI g.pd).2.1))) with prog := (sawG ({ g with pd := (takeI g.pd).1 }) ((100 + (takeI g.pd).2.1))).prog, wr := (sawG ({ g with pd := (takeI g.pd).1 }) ((100 + (takeI g.pd).2.1))).wr, lv := (sawG ({ g with pd := (takeI g.pd).1 }) ((100 + (takeI g.pd).2.1))).lv, seen := (sawG ({ g with pd := (takeI g.pd).1 }) ((100 + (takeI g.pd).2.1))).seen }) S 0 rfl 1 rfl 2 rfl 3 rfl (by decide) (by decide) (by decide) (by decide) (by decide) (by decide)
    rw [HW]; exact ⟨_, _, rfl, ho, hF, S.below⟩
/-- A new guest. -/
def newG (p : List (Int × Int)) : gT := { prog := p, a := 0, pc := 0, wr := Slots.nosL 4, lv := Slots.nosL 4, t := (0, 0, false), pd := 0, x := (0, 0, false, 0), hl := false, seen := [] }

set_option maxRecDepth 100000 in
set_option maxHeartbeats 4000000 in
theorem specx_new (p : List (Int × Int)) (A : Option Addr) (c : Nat) (w : World) (hp : p.length ≤ 1048576) (h : rdLst (rPair rInt rInt) w 0 w.heap.size p [.slice A p.length c]) : Calls Try.prog 17 #[.slice A p.length c] w (Gives rG w (newG p)) := by
  refine Sx.enter (args := [.slice A p.length c]) Try.func17 rfl Try.ntmps17 rfl ?_
  refine Sx.C.seq ?_
  refine Sx.C.region ?_
  refine Sx.G.alloc 33 (.agg #[.slice none 0 0, .int .i64 0, .int .i64 0, .slice none 0 0, .slice none 0 0, .int .i64 0, .int .i64 0, .bool false, .int .i64 0, .int .i64 0, .int .i64 0, .bool false, .int .i64 0, .bool false, .slice none 0 0]) [.slice none 0 0, .int .i64 0, .int .i64 0, .slice none 0 0, .slice none 0 0, .int .i64 0, .int .i64 0, .bool false, .int .i64 0, .int .i64 0, .int .i64 0, .bool false, .int .i64 0, .bool false, .slice none 0 0] rfl (by kernel_rfl) (fun w => by kernel_rfl) (by kernel_rfl) (fun b1 => ?_)
  refine Sx.G.nil ?_
  refine Sx.E.next ?_
  refine Sx.C.seq ?_
  refine Sx.C.region ?_
  refine Sx.G.fresh 64 (rPair rInt rInt) (by kernel_rfl) (fun w => by kernel_rfl) (fun b2 hi2 => ?_)
  refine Sx.G.pure (.slice A p.length c) (by kernel_rfl) (fun w => by kernel_rfl) ?_
  refine Sx.G.apps 0 rfl p (fun w S => St.old (r := rLsw (rPair rInt rInt)) S h) (List.nil_append _) p.length (by simp) flat_P2 (.tmp 3) (.tmp 4) 26 2 16 rfl rfl (by kernel_rfl) (by kernel_rfl) rfl (by kernel_rfl) (by kernel_rfl) (by simp only [maxLen, List.length_nil, List.length_cons]; omega) (by simp only [List.length_nil, List.length_cons]; omega) (fun A3 c3 F3 hi3 hm3 => ?_)
  refine Sx.G.call 47 #[.int .i64 4] (by kernel_rfl) (fun w => by kernel_rfl) (fun w4 S => (Slots.spec_new 4 _).mono fun e w4' hp => ?_)
  obtain ⟨ad4, tc4, rfl, hc4, ho, hb⟩ := hp
  rw [← pcells_s] at ho
  refine ⟨_, _, rfl, (S.gotp (l := (Slots.nosL 4)) hb hc4 ho), ?_⟩
  clear S ho hb
  refine Sx.G.call 47 #[.int .i64 4] (by kernel_rfl) (fun w => by kernel_rfl) (fun w5 S => (Slots.spec_new 4 _).mono fun e w5' hp => ?_)
  obtain ⟨ad5, tc5, rfl, hc5, ho, hb⟩ := hp
  rw [← pcells_s] at ho
  refine ⟨_, _, rfl, (S.gotp (l := (Slots.nosL 4)) hb hc5 ho), ?_⟩
  clear S ho hb
  refine Sx.G.pure (.agg #[.slice A3 p.length c3, .int .i64 0, .int .i64 0, .slice (some ad4) 4 tc4, .slice (some ad5) 4 tc5, .int .i64 0, .int .i64 0, .bool false, .int .i64 0, .int .i64 0, .int .i64 0, .bool false, .int .i64 0, .bool false, .slice none 0 0]) (by kernel_rfl) (fun w => by kernel_rfl) ?_
  refine Sx.G.sto 33 (.tmp 2) (.tmp 8) b1 0 3 [.slice none 0 0, .int .i64 0, .int .i64 0, .slice none 0 0, .slice none 0 0, .int .i64 0, .int .i64 0, .bool false, .int .i64 0, .int .i64 0, .int .i64 0, .bool false, .int .i64 0, .bool false, .slice none 0 0] [.slice A3 p.length c3, .int .i64 0, .int .i64 0, .slice (some ad4) 4 tc4, .slice (some ad5) 4 tc5, .int .i64 0, .int .i64 0, .bool false, .int .i64 0, .int .i64 0, .int .i64 0, .bool false, .int .i64 0, .bool false, .slice none 0 0] [.slice A3 p.length c3, .int .i64 0, .int .i64 0, .slice (some ad4) 4 tc4, .slice (some ad5) 4 tc5, .int .i64 0, .int .i64 0, .bool false, .int .i64 0, .int .i64 0, .int .i64 0, .bool false, .int .i64 0, .bool false, .slice none 0 0] [ow (rLsw (rPair rInt rInt)) w5.heap.size w5'.heap.size (Slots.nosL 4) [.slice (some ad5) 4 tc5] (blks (some ad5) (pcells (Slots.nosL 4))), ow (rLsw (rPair rInt rInt)) w4.heap.size w4'.heap.size (Slots.nosL 4) [.slice (some ad4) 4 tc4] (blks (some ad4) (pcells (Slots.nosL 4))), ow (rLst 64 (rPair rInt rInt)) w.heap.size hi3 p [.slice A3 p.length c3] F3, vr b1 [.slice A3 p.length c3, .int .i64 0, .int .i64 0, .slice (some ad4) 4 tc4, .slice (some ad5) 4 tc5, .int .i64 0, .int .i64 0, .bool false, .int .i64 0, .int .i64 0, .int .i64 0, .bool false, .int .i64 0, .bool false, .slice none 0 0]] rfl (by kernel_rfl) (by kernel_rfl) (by kernel_rfl) rfl (by kernel_rfl) rfl (by kernel_rfl) (by kernel_rfl) (by kernel_rfl) ?_
  refine Sx.G.nil ?_
  refine Sx.E.next ?_
  refine Sx.C.ret ?_
  refine Sx.E.retc b1 3 [.slice A3 p.length c3, .int .i64 0, .int .i64 0, .slice (some ad4) 4 tc4, .slice (some ad5) 4 tc5, .int .i64 0, .int .i64 0, .bool false, .int .i64 0, .int .i64 0, .int .i64 0, .bool false, .int .i64 0, .bool false, .slice none 0 0] rfl (by kernel_rfl) rfl (by kernel_rfl) (by kernel_rfl) (fun w S => ?_)
  replace S := St.nil S 3 rInt
  obtain ⟨ho, hF⟩ := rG_shut (g := newG p) S 3 rfl 2 rfl 1 rfl 0 rfl (by decide) (by decide) (by decide) (by decide) (by decide) (by decide)
  exact ⟨_, _, rfl, ho, hF, S.below⟩
end Go.Proofs.Yteopkcndkcciaaa.Guests
namespace Go.Proofs.Yteopkcndkcciaaa.Slots
set_option maxRecDepth 100000
open Go.ChangeShapes Go.WideShapes Go.ChangeAt Go.RowKit
open Go.Proofs.Yteopkcndkcciaaa.Base Go.Proofs.Yteopkcndkcciaaa.Mem Go.Proofs.Yteopkcndkcciaaa.Ints
set_option linter.unusedVariables false

def okTab (l : List Sl) (size pages : Int) : Bool := okT l pages && decide ((l.length : Int) = size)
theorem okT_snoc (l : List Sl) (k : Nat) (h : k < l.length) (pages : Int) (ht : okT (l.take k) pages = true) : okT (l.take (k + 1)) pages = okS l[k].1 l[k].2 pages := by
  unfold okT at ht ⊢
  rw [List.take_succ_eq_append_getElem h, List.all_append, ht]
  simp
theorem okT_stop (l : List Sl) (k : Nat) (h : k < l.length) (pages : Int) (hs : okS l[k].1 l[k].2 pages = false) : okT l pages = false := by
  unfold okT
  rw [List.all_eq_false]
  exact ⟨l[k], List.getElem_mem h, by simpa using hs⟩

set_option maxHeartbeats 2000000 in
theorem impl_tabOk (A : Option Addr) (n c lo : Nat) (size pages : Int) (l : List Sl) (w : World) (hn : n ≤ 1048576) (hl : l.length = n) (hw : wfL l) (h1 : Lies w lo w.heap.size A (scells l)) :
    Calls Try.prog 73 #[.slice A n c, .int .i64 size, .int .i64 pages] w (OkPost w (okTab l size pages)) := by
  have H1 := Lib.hid h1
  have HL := Lib.hid hl
  have HW := Lib.hid hw
  clear h1 hl hw
  by_cases hsz : (n : Int) = size
  · subst hsz
    go_enter Try.func73, Try.ntmps73
    go_wp2
    go_loopw [8, 15] (fun _ i wr => ∃ (k : Nat), k ≤ n ∧ i = .int .i64 k ∧ okT (l.take k) pages = true ∧ Below w.heap.size w wr) (fun _ i _ => n - (intOf i).toNat)
    case atStart => exact ⟨0, Nat.zero_le _, rfl, rfl, Below.refl _ _⟩
    case round =>
      obtain ⟨k, hk, rfl, ht, hb⟩ := hrel
      have HT := Lib.hid ht
      clear ht
      by_cases hlt : k < n
      · have hkl : k < l.length := by have := HL.out; omega
        obtain ⟨b, off, rfl, _, hbw, c1, c2⟩ := slot_at H1.out k hkl
        have d1 : wr.cell? ⟨b, off + k * 2, none⟩ = some (.int .i64 l[k].1) := (hb.cell hbw).trans c1
        have d2 : wr.cell? ⟨b, off + k * 2 + 1, none⟩ = some (.int .i64 l[k].2) := (hb.cell hbw).trans c2
        have hi0 : (0 : Int) ≤ (k : Int) := Int.natCast_nonneg _
        have hi1 : (k : Int) < (n : Int) := by omega
        have hK := fun V : World => impl_okS l[k].1 l[k].2 pages V (HW.out l[k] (List.getElem_mem hkl)).2
        have hs := okT_snoc l k hkl pages HT.out
        have hf := okT_stop l k hkl pages
        have hbs := hb.size
        generalize l[k].1 = x at d1 hK hs hf
        generalize l[k].2 = y at d2 hK hs hf
        have HB := Lib.hid hb
        clear c1 c2 hb
        cases hv : okS x y pages
        · rw [hv] at hK
          have HK := Lib.hid hK
          have HF := Lib.hid (hf hv)
          clear hK hf hs hv
          go_wp2_with fail
          refine (HK.out _).mono ?_
          rintro e w1 ⟨rfl, hb1⟩
          have hbw1 : Below w.heap.size w w1 := (HB.out.alloc hbs _).trans (hb1.mono (by simp; omega))
          clear hb1
          go_wp2_with fail
          go_ret
          exact ⟨by rw [okTab, HF.out]; rfl, hbw1⟩
        · rw [hv] at hK hs
          have HK := Lib.hid hK
          have HS := Lib.hid hs
          clear hK hf hs hv
          go_wp2_with fail
          refine (HK.out _).mono ?_
          rintro e w1 ⟨rfl, hb1⟩
          have hbw1 : Below w.heap.size w w1 := (HB.out.alloc hbs _).trans (hb1.mono (by simp; omega))
          clear hb1
          go_wp2_with fail
          go_roundw
          case rel => exact ⟨k + 1, by omega, by go_num, HS.out, hbw1⟩
          case measure => simp [intOf]; omega
      · have hkn : k = n := by omega
        subst hkn
        have ht := HT.out
        rw [List.take_of_length_le (by have := HL.out; omega)] at ht
        have HT := Lib.hid ht
        clear ht
        go_wp2_with fail
        go_ret
        exact ⟨by rw [okTab, HT.out, HL.out]; simp, hb⟩
  · have hd : ((n : Int) == size) = false := by simpa using hsz
    have hd' : ((n : Int) != size) = true := by simpa using hsz
    go_enter Try.func73, Try.ntmps73
    go_wp2
    go_ret
    exact ⟨by rw [okTab, HL.out, decide_eq_false hsz, Bool.and_false]; rfl, Below.refl _ _⟩

set_option maxHeartbeats 2000000 in
theorem spec_tabOk (A : Option Addr) (n c lo : Nat) (size pages : Int) (l : List Sl) (w : World) (hn : n ≤ 1048576) (hl : l.length = n) (hp : (Lit.int .i64 pages).wf = true) (h1 : Lies w lo w.heap.size A (scells l)) :
    Calls Try.prog 63 #[.slice A n c, .int .i64 size, .int .i64 pages] w (OkPost w (okTab l size pages)) := by
  have H1 := Lib.hid h1
  have HL := Lib.hid hl
  have HP := Lib.hid hp
  clear h1 hl hp
  go_enter Try.func63, Try.ntmps63
  go_wp2
  go_loopw [7] (fun i wr => ∃ (k : Nat), k ≤ n ∧ i = .int .i64 k ∧ okT (l.take k) pages = true ∧ Below w.heap.size w wr) (fun i _ => n - (intOf i).toNat)
  case atStart => exact ⟨0, Nat.zero_le _, rfl, rfl, Below.refl _ _⟩
  case round =>
    obtain ⟨k, hk, rfl, ht, hb⟩ := hrel
    have HT := Lib.hid ht
    clear ht
    by_cases hlt : k < n
    · have hkl : k < l.length := by have := HL.out; omega
      obtain ⟨b, off, rfl, _, hbw, c1, c2⟩ := slot_at H1.out k hkl
      have d1 : wr.cell? ⟨b, off + k * 2, none⟩ = some (.int .i64 l[k].1) := (hb.cell hbw).trans c1
      have d2 : wr.cell? ⟨b, off + k * 2 + 1, none⟩ = some (.int .i64 l[k].2) := (hb.cell hbw).trans c2
      have hi0 : (0 : Int) ≤ (k : Int) := Int.natCast_nonneg _
      have hi1 : (k : Int) < (n : Int) := by omega
      have hK := fun V : World => spec_okS l[k].1 l[k].2 pages V HP.out
      have hs := okT_snoc l k hkl pages HT.out
      have hf := okT_stop l k hkl pages
      have hbs := hb.size
      generalize l[k].1 = x at d1 hK hs hf
      generalize l[k].2 = y at d2 hK hs hf
      have HB := Lib.hid hb
      clear c1 c2 hb
      cases hv : okS x y pages
      · rw [hv] at hK
        have HK := Lib.hid hK
        have HF := Lib.hid (hf hv)
        clear hK hf hs hv
        go_wp2_with fail
        refine (HK.out _).mono ?_
        rintro e w1 ⟨rfl, hb1⟩
        have hbw1 : Below w.heap.size w w1 := HB.out.trans (hb1.mono hbs)
        clear hb1
        go_wp2_with fail
        go_ret
        exact ⟨by rw [okTab, HF.out]; rfl, hbw1⟩
      · rw [hv] at hK hs
        have HK := Lib.hid hK
        have HS := Lib.hid hs
        clear hK hf hs hv
        go_wp2_with fail
        refine (HK.out _).mono ?_
        rintro e w1 ⟨rfl, hb1⟩
        have hbw1 : Below w.heap.size w w1 := HB.out.trans (hb1.mono hbs)
        clear hb1
        go_wp2_with fail
        go_roundw
        case rel => exact ⟨k + 1, by omega, by go_num, HS.out, hbw1⟩
        case measure => simp [intOf]; omega
    · have hkn : k = n := by omega
      subst hkn
      have ht := HT.out
      rw [List.take_of_length_le (by have := HL.out; omega)] at ht
      have HT := Lib.hid ht
      clear ht
      go_wp2_with fail
      go_ret
      exact ⟨by rw [okTab, HT.out, HL.out, Bool.true_and]; rfl, hb⟩
end Go.Proofs.Yteopkcndkcciaaa.Slots
namespace Go.Proofs.Yteopkcndkcciaaa.Grid
set_option maxRecDepth 100000
open Go.ChangeShapes Go.WideShapes Go.ChangeAt Go.RowKit
open Go.Proofs.Yteopkcndkcciaaa.Base Go.Proofs.Yteopkcndkcciaaa.Mem Go.Proofs.Yteopkcndkcciaaa.Ints
set_option linter.unusedVariables false

theorem all_snoc {α : Type} (p : α → Bool) (l : List α) (k : Nat) (h : k < l.length) (ht : (l.take k).all p = true) : (l.take (k + 1)).all p = p l[k] := by
  rw [List.take_succ_eq_append_getElem h, List.all_append, ht]
  simp
theorem all_stop {α : Type} (p : α → Bool) (l : List α) (k : Nat) (h : k < l.length) (hs : p l[k] = false) : l.all p = false := by
  rw [List.all_eq_false]
  exact ⟨l[k], List.getElem_mem h, by simpa using hs⟩

def cellB (v : Int) : Bool := inB v 0 99
def cellsB (l : List Int) : Bool := l.all cellB
def pageB (l : List Int) : Bool := cellsB l && decide ((l.length : Int) = 4)
def pagesB (M : List (List Int)) : Bool := M.all pageB
def memB (M : List (List Int)) (pages : Int) : Bool := pagesB M && decide ((M.length : Int) = pages)
def hasPB (n : Nat) (page : Int) : Bool := inB page 0 ((n : Int) - 1)
def hasCB (M : List (List Int)) (page cell : Int) : Bool := hasPB M.length page && hasPB (M.getD page.toNat []).length cell
def cellAt (M : List (List Int)) (page cell : Int) : Int := if hasCB M page cell = true then (M.getD page.toNat []).getD cell.toNat 0 else 0
def pageAt (M : List (List Int)) (page : Int) : List Int := if hasPB M.length page = true then M.getD page.toNat [] else [0, 0, 0, 0]
def withC (M : List (List Int)) (page cell v : Int) : List (List Int) := if hasCB M page cell = true ∧ cellB v = true then M.set page.toNat ((M.getD page.toNat []).set cell.toNat v) else M
def withP (M : List (List Int)) (page : Int) (l : List Int) : List (List Int) := if hasPB M.length page = true ∧ pageB l = true then M.set page.toNat l else M

theorem hasPB_yes {n : Nat} {page : Int} (h : hasPB n page = true) : ∃ k : Nat, page = (k : Int) ∧ k < n := by
  obtain ⟨h0, h1⟩ := inB_iff.1 h
  exact ⟨page.toNat, by omega, by omega⟩
theorem hasPB_no {n : Nat} {page : Int} (h : hasPB n page = false) : ¬ (0 ≤ page ∧ page < n) := by
  have := inB_false.1 h
  omega
theorem hasPB_mk {n k : Nat} (h : k < n) : hasPB n (k : Int) = true := inB_iff.2 ⟨by omega, by omega⟩
theorem hasPB_not {n : Nat} {page : Int} (h : ¬ (0 ≤ page ∧ page < n)) : hasPB n page = false := inB_false.2 (by omega)
theorem getD_at {M : List (List Int)} {k : Nat} (h : k < M.length) : M.getD (k : Int).toNat [] = M[k] := by
  rw [Int.toNat_natCast, List.getD_eq_getElem?_getD, List.getElem?_eq_getElem h]; rfl
theorem hasCB_yes {M : List (List Int)} {page cell : Int} (h : hasCB M page cell = true) : ∃ k j : Nat, page = (k : Int) ∧ cell = (j : Int) ∧ ∃ (hk : k < M.length), j < M[k].length := by
  simp only [hasCB, Bool.and_eq_true] at h
  obtain ⟨k, rfl, hk⟩ := hasPB_yes h.1
  obtain ⟨j, rfl, hj⟩ := hasPB_yes h.2
  rw [getD_at hk] at hj
  exact ⟨k, j, rfl, rfl, hk, hj⟩
theorem cellAt_yes {M : List (List Int)} {k j : Nat} (h : hasCB M (k : Int) (j : Int) = true) (hk : k < M.length) (hj : j < M[k].length) : cellAt M (k : Int) (j : Int) = M[k][j] := by
  rw [cellAt, if_pos h, getD_at hk, Int.toNat_natCast, List.getD_eq_getElem?_getD, List.getElem?_eq_getElem hj]; rfl
theorem cellAt_no {M : List (List Int)} {page cell : Int} (h : hasCB M page cell = false) : cellAt M page cell = 0 := by rw [cellAt, h]; rfl

theorem impl_cellOk (v : Int) (w : World) :
    Calls Try.prog 99 #[.int .i64 v] w fun e w' => e = .returned (.bool (cellB v)) ∧ w = w' := by
  cases h1 : decide (0 ≤ v)
  all_goals
    cases h2 : decide (v ≤ 99)
    all_goals
      have hv : cellB v = (decide (0 ≤ v) && decide (v ≤ 99)) := rfl
      rw [h1, h2] at hv
      simp only [Bool.and_false, Bool.and_true] at hv
      rw [hv]; clear hv
      go_enter Try.func99, Try.ntmps99
      go_wp2
      go_ret
      exact ⟨rfl, rfl⟩

end Go.Proofs.Yteopkcndkcciaaa.Grid
namespace Go.Proofs.Yteopkcndkcciaaa.Grid
set_option maxRecDepth 100000
open Go.ChangeShapes Go.WideShapes Go.ChangeAt Go.RowKit
open Go.Proofs.Yteopkcndkcciaaa.Base Go.Proofs.Yteopkcndkcciaaa.Mem Go.Proofs.Yteopkcndkcciaaa.Ints
set_option linter.unusedVariables false

section
variable {P : Program}
theorem run_append_nil0 (w : World) (t ty e : TypeId) (i : TypeInfo) (ht : P.underlying t = some (.slice e)) (hi : P.info? e = some i) (g0 c : Nat) :
    (Builtin.append_ #[t, t] ty #[.slice (some ⟨g0, 0, none⟩) 0 0, .slice none 0 c]).run P w = .ok (.slice (some ⟨g0, 0, none⟩) 0 0) w := by
  simp [Builtin.append_, run_underlying ht, sizeOf, typeInfo, hi, Builtin.lenOf, Builtin.firstCells, storeCells]

/-- 'append' onto an empty slice of one's own, from whatever source (nil, empty or not). -/
theorem run_append_fresh (w : World) (t ty base : TypeId) (e : TypeId) (i : TypeInfo) (z : Value) (size bytes : Nat) (ht : P.underlying t = some (.slice e)) (hi : P.info? e = some i) (hz : i.zero = some z)
    (hsize : i.size = size) (hby : i.bytes = bytes) (hzs : z.cells.size = size) (hsz : 0 < size) (g0 : Nat) (hown : w.ownsRow base e size (.slice (some ⟨g0, 0, none⟩) 0 0) 0 [])
    (A : Option Addr) (m c : Nat) (news : List Value) (hl : news.length = m * size) (hsrc : ∀ j u, news[j]? = some u → ∃ ad, A = some ad ∧ w.cell? (ad.add j) = some u) (h1 : ∀ u ∈ news, u.oneCell' = true)
    (h63 : m ≤ maxLen) (hbytes : m * bytes ≤ 140737488355328) (hbase : base ≤ w.heap.size) :
    ∃ g cap w', (Builtin.append_ #[t, t] ty #[.slice (some ⟨g0, 0, none⟩) 0 0, .slice A m c]).run P w = .ok (.slice (some ⟨g, 0, none⟩) m cap) w' ∧
      w'.ownsRow base e size (.slice (some ⟨g, 0, none⟩) m cap) m news ∧ w.grownBy w' (some g0) := by
  have hfree : ∀ j u, news[j]? = some u → A ≠ none := fun j u hu e => by
    obtain ⟨ad, h, _⟩ := hsrc j u hu
    rw [e] at h
    cases h
  rcases A with _ | ad
  · have hn : news = [] := by
      rcases news with _ | ⟨u, r⟩
      · rfl
      · exact absurd rfl (hfree 0 u rfl)
    subst hn
    have hm : m = 0 := by
      rcases Nat.eq_zero_or_pos m with h | h
      · exact h
      · have := Nat.mul_pos h hsz
        simp at hl
        omega
    subst hm
    exact ⟨g0, 0, w, run_append_nil0 w t ty e i ht hi g0 c, hown, World.grownBy.refl w _⟩
  · obtain ⟨v', w', hr, h2, h3, h4, _⟩ := run_append_own_at (P := P) w base t ty e i z size bytes ht hi hz hsize hby hzs hsz (.slice (some ⟨g0, 0, none⟩) 0 0) 0 [] hown ad m c news hl
      (fun j u hu => by
        obtain ⟨ad', h, hc⟩ := hsrc j u hu
        cases h
        exact hc) h1 (by omega) (by rw [Nat.zero_add]; exact hbytes) hbase
    rw [Nat.zero_add, List.nil_append] at h2
    rcases h2.2 with ⟨h, _⟩ | ⟨g, cap, cur, rfl, _⟩
    · have := (h4.1 h).1
      simp at this
    · exact ⟨g, cap, w', hr, h2, h3⟩

theorem wpList_append_fresh (w : World) {ops : Array Oper} {rest : List Oper} {o : Oper} {a : Act} {Q : Exit → Act → World → Prop} (hgd : o.guard = none) (s x : Operand) (t : TypeId)
    (ho : o.op = .call { callee := .builtin .append, args := #[s, x], argTypes := #[t, t] })
    (base : Nat) (e : TypeId) (i : TypeInfo) (z : Value) (size bytes : Nat) (ht : P.underlying t = some (.slice e)) (hi : P.info? e = some i) (hz : i.zero = some z)
    (hsize : i.size = size) (hby : i.bytes = bytes) (hzs : z.cells.size = size) (hsz : 0 < size) (g0 : Nat) (hs : a.eval s = .slice (some ⟨g0, 0, none⟩) 0 0) (hown : w.ownsRow base e size (.slice (some ⟨g0, 0, none⟩) 0 0) 0 [])
    (A : Option Addr) (m c : Nat) (news : List Value) (hx : a.eval x = .slice A m c) (hl : news.length = m * size) (hsrc : ∀ j u, news[j]? = some u → ∃ ad, A = some ad ∧ w.cell? (ad.add j) = some u) (h1 : ∀ u ∈ news, u.oneCell' = true)
    (h63 : m ≤ maxLen) (hbytes : m * bytes ≤ 140737488355328) (hbase : base ≤ w.heap.size)
    (h : ∀ g cap w', w'.ownsRow base e size (.slice (some ⟨g, 0, none⟩) m cap) m news → w.grownBy w' (some g0) → wpList P ops Q rest (a.put o.dst (.slice (some ⟨g, 0, none⟩) m cap)) w') : wpList P ops Q (o :: rest) a w := by
  refine wpList_plain hgd fun K hK => ?_
  obtain ⟨g, cap, w', hr, h2, h3⟩ := run_append_fresh (P := P) w t o.type base e i z size bytes ht hi hz hsize hby hzs hsz g0 hown A m c news hl hsrc h1 h63 hbytes hbase
  unfold Oper.wp execOp
  simp only [ho, resolve, invoke, builtin, Sem.run_bind, Sem.run_pure, Result.andThen_ok, List.map_toArray, List.map_cons, List.map_nil, hs, hx, hr]
  exact hK _ _ (h g cap w' h2 h3)
end

/-- A source's cells as an append asks for them. -/
theorem Lies.src {w : World} {lo hi : Nat} {A : Option Addr} {cs : List Value} (h : Lies w lo hi A cs) : ∀ j u, cs[j]? = some u → ∃ ad, A = some ad ∧ w.cell? (ad.add j) = some u := fun j u hu => by
  obtain ⟨b, off, e, _, _, z⟩ := h j u hu
  refine ⟨_, e, ?_⟩
  rw [Addr.add_lit]
  exact z
theorem ncells_one (l : List Int) : ∀ u ∈ ncells l, u.oneCell' = true := by
  intro u hu
  obtain ⟨b, _, rfl⟩ := List.mem_map.1 hu
  rfl
theorem ncells_set (l : List Int) (j : Nat) (v : Int) : (ncells l).set j (.int .i64 v) = ncells (l.set j v) := by
  simp [ncells, List.map_set]
theorem splice_all {α : Type} (L cs : List α) (h : cs.length = L.length) : splice L 0 cs = cs := by
  simp [splice, h]
theorem row_of_block {w : World} {base g n : Nat} {e : TypeId} {cs : List Value} (hg : w.heap[g]? = some (.cells cs.toArray e (0, 0))) (hb : base ≤ g) (hn : cs.length = n) (hm : n ≤ maxLen) : w.ownsRow base e 1 (.slice (some ⟨g, 0, none⟩) n n) n cs :=
  ⟨by omega, .inr ⟨g, n, cs.toArray, rfl, hb, hg, Nat.le_refl _, hm, by simp [hn], by rw [Nat.mul_one]; exact List.take_of_length_le (by simp [hn])⟩⟩
theorem block_of_row {w : World} {base g n : Nat} {e : TypeId} {cs : List Value} (h : w.ownsRow base e 1 (.slice (some ⟨g, 0, none⟩) n n) n cs) : ∃ cur : List Value, w.heap[g]? = some (.cells cur.toArray e (0, 0)) ∧ cur.length = n := by
  rcases h.2 with ⟨h', _⟩ | ⟨g', cap, cur, h', hb, hg, hnc, _, hcs, htake⟩
  · cases h'
  · injection h' with h1 h2 h3
    injection h1 with h1
    injection h1 with h1
    subst h1 h3
    exact ⟨cur.toList, by simpa using hg, by simpa using hcs⟩

end Go.Proofs.Yteopkcndkcciaaa.Grid
namespace Go.Proofs.Yteopkcndkcciaaa.Grid
set_option maxRecDepth 100000
open Go.ChangeShapes Go.WideShapes Go.ChangeAt Go.RowKit
open Go.Proofs.Yteopkcndkcciaaa.Base Go.Proofs.Yteopkcndkcciaaa.Mem Go.Proofs.Yteopkcndkcciaaa.Ints
set_option linter.unusedVariables false

/-- A new row out of an append onto an empty slice of one's own, as what the next append takes. -/
theorem fresh_page {w w1 : World} {T : TypeId} {l : List Int} {g cap n : Nat} (hown : w1.ownsRow w.heap.size T 1 (.slice (some ⟨g, 0, none⟩) n cap) n (ncells l)) (hg : (w.alloc (.cells #[] T)).grownBy w1 (some w.heap.size)) :
    Owned w1 w.heap.size w1.heap.size (some ⟨g, 0, none⟩) (ncells l) ∧ Below w.heap.size w w1 :=
  ⟨Owned.of_row hown, ((Below.refl _ _).alloc (Nat.le_refl _) _).grown hg (by simp) (fun j hj => by cases hj; exact Nat.le_refl _)⟩
theorem src_alloc {w : World} {lo : Nat} {A : Option Addr} {cs : List Value} (h : Lies w lo w.heap.size A cs) (o : Obj) : ∀ j u, cs[j]? = some u → ∃ ad, A = some ad ∧ (w.alloc o).cell? (ad.add j) = some u :=
  Lies.src (h.below ((Below.refl w.heap.size w).alloc (Nat.le_refl _) o) (Nat.le_refl _))

end Go.Proofs.Yteopkcndkcciaaa.Grid
namespace Go.Proofs.Yteopkcndkcciaaa.Grid
set_option maxRecDepth 100000
open Go.ChangeShapes Go.WideShapes Go.ChangeAt Go.RowKit
open Go.Proofs.Yteopkcndkcciaaa.BroughtW
theorem spec_brought (n l m : Int) (w : World) :
    Calls Try.prog 91 #[.int .i64 n, .int .i64 l, .int .i64 m] w fun e w' => e = .returned (.int .i64 (brought n l m)) ∧ w = w' := by
  by_cases h1 : m < l
  · have hb : brought n l m = l := by unfold brought; rw [if_pos (Or.inl h1)]
    rw [hb]; clear hb
    go_enter Try.func91, Try.ntmps91
    go_wp2
    go_ret
    exact ⟨rfl, rfl⟩
  · by_cases h2 : n < l
    · have hb : brought n l m = l := by unfold brought; rw [if_pos (Or.inr h2)]
      rw [hb]; clear hb
      go_enter Try.func91, Try.ntmps91
      go_wp2
      go_ret
      exact ⟨rfl, rfl⟩
    · by_cases h3 : m < n
      · have hb : brought n l m = m := by unfold brought; rw [if_neg (by omega), if_pos h3]
        rw [hb]; clear hb
        go_enter Try.func91, Try.ntmps91
        go_wp2
        go_ret
        exact ⟨rfl, rfl⟩
      · have hb : brought n l m = n := by unfold brought; rw [if_neg (by omega), if_neg h3]
        rw [hb]; clear hb
        go_enter Try.func91, Try.ntmps91
        go_wp2
        go_ret
        exact ⟨rfl, rfl⟩
end Go.Proofs.Yteopkcndkcciaaa.Grid
namespace Go.Proofs.Yteopkcndkcciaaa.Grid
set_option maxRecDepth 100000
open Go.ChangeShapes Go.WideShapes Go.ChangeAt Go.RowKit
open Go.Proofs.Yteopkcndkcciaaa.Base Go.Proofs.Yteopkcndkcciaaa.Mem Go.Proofs.Yteopkcndkcciaaa.Ints
set_option linter.unusedVariables false

def zero4 : List Int := [0, 0, 0, 0]
theorem made4 : (madeCells (Value.int .i64 0).cells (4 * 1)).toList = ncells zero4 := by kernel_rfl
/-- 'make([]int, 4)' in any world. -/
theorem make4 (w : World) : ∃ wm, (Instr.makeSlice 24 (.int .i64 4) (.int .i64 4)).run Try.prog w = .ok (.slice (some ⟨w.heap.size, 0, none⟩) 4 4) wm ∧
    Owned wm w.heap.size wm.heap.size (some ⟨w.heap.size, 0, none⟩) (ncells zero4) ∧ Below w.heap.size w wm := by
  obtain ⟨i0, hi0, hz0, hz1, hz2⟩ := info_parts Try.infoInt
  obtain ⟨wm, hmk, hown, hgm⟩ := run_make_full (P := Try.prog) w w.heap.size 24 3 i0 _ 1 Try.underlying24 hi0 hz0 hz1 .i64 .i64 4 (by rw [hz2]; omega) (by simp only [maxLen]; omega) (Nat.le_refl _)
  rw [made4] at hown
  exact ⟨wm, hmk, Owned.of_row hown, (Below.refl _ _).grown hgm (Nat.le_refl _) (fun _ h => by cases h)⟩

def newN (a : Int) : Nat := (BroughtW.brought a 0 24).toNat
theorem newN_le (a : Int) : newN a ≤ 24 := by unfold newN BroughtW.brought; split <;> (try split) <;> omega
theorem newN_eq (a : Int) : BroughtW.brought a 0 24 = (newN a : Int) := by unfold newN BroughtW.brought; split <;> (try split) <;> omega
def zeros (n : Nat) : List (List Int) := List.replicate n zero4
theorem zeros_len (n : Nat) : (zeros n).length = n := by simp [zeros]
theorem zeros_take (n k : Nat) (h : k < n) : (zeros n).take (k + 1) = (zeros n).take k ++ [zero4] := by
  rw [List.take_succ_eq_append_getElem (by rw [zeros_len]; exact h)]
  simp [zeros]
theorem zeros_snoc (k : Nat) : zeros (k + 1) = zeros k ++ [zero4] := by simp [zeros, List.replicate_succ']

end Go.Proofs.Yteopkcndkcciaaa.Grid
namespace Go.Proofs.Yteopkcndkcciaaa.Grid
set_option maxRecDepth 100000
open Go.ChangeShapes Go.WideShapes Go.ChangeAt Go.RowKit
open Go.Proofs.Yteopkcndkcciaaa.Base Go.Proofs.Yteopkcndkcciaaa.Mem Go.Proofs.Yteopkcndkcciaaa.Ints
set_option linter.unusedVariables false

theorem pageAt_no {M : List (List Int)} {page : Int} (h : hasPB M.length page = false) : pageAt M page = zero4 := by rw [pageAt, h]; rfl
theorem pageAt_yes {M : List (List Int)} {k : Nat} (hk : k < M.length) : pageAt M (k : Int) = M[k] := by rw [pageAt, if_pos (hasPB_mk hk), getD_at hk]

theorem withC_no {M : List (List Int)} {page cell v : Int} (h : hasCB M page cell = false ∨ cellB v = false) : withC M page cell v = M := by
  unfold withC
  rw [if_neg]
  rcases h with h | h <;> simp [h]
theorem withC_yes {M : List (List Int)} {k j : Nat} {v : Int} (h : hasCB M (k : Int) (j : Int) = true) (hv : cellB v = true) (hk : k < M.length) : withC M (k : Int) (j : Int) v = M.set k (M[k].set j v) := by
  unfold withC
  rw [if_pos ⟨h, hv⟩, getD_at hk, Int.toNat_natCast, Int.toNat_natCast]
theorem withP_no {M : List (List Int)} {page : Int} {l : List Int} (h : hasPB M.length page = false ∨ pageB l = false) : withP M page l = M := by
  unfold withP
  rw [if_neg]
  rcases h with h | h <;> simp [h]
theorem withP_yes {M : List (List Int)} {k : Nat} {l : List Int} (hk : k < M.length) (hv : pageB l = true) : withP M (k : Int) l = M.set k l := by
  unfold withP
  rw [if_pos ⟨hasPB_mk hk, hv⟩, Int.toNat_natCast]

/-- A cell of a memory of one's own is written. -/
theorem OG.cell {w : World} {lo hi : Nat} {A : Option Addr} {M : List (List Int)} {hs : List Hd} (h : OG w lo hi A M hs) (hh : hi ≤ w.heap.size) (k j : Nat) (hk : k < M.length) (hj : j < M[k].length) :
    ∃ b off b' off' c, A = some ⟨b, off, none⟩ ∧ b < hi ∧ w.cell? ⟨b, off + k, none⟩ = some (.slice (some ⟨b', off', none⟩) M[k].length c) ∧ (∃ u, w.cell? ⟨b', off' + j, none⟩ = some u) ∧ w.frozen? ⟨b', off' + j, none⟩ = false ∧
      ∀ v : Int, OG (w.setCell ⟨b', off' + j, none⟩ (.int .i64 v)) lo hi A (M.set k (M[k].set j v)) hs ∧ Turned lo hi w (w.setCell ⟨b', off' + j, none⟩ (.int .i64 v)) := by
  obtain ⟨b, off, B, c, lo', hi', e, hb, hc, ho, hn⟩ := h.write hh k hk
  obtain ⟨b', off', rfl, x, y, c2⟩ := int_at ho.1 j hj
  refine ⟨b, off, b', off', c, e, hb, hc, ⟨_, c2⟩, ho.2 _ _ rfl (by rw [ncells_len]; omega) _, fun v => ?_⟩
  have h1 := ho.set j (.int .i64 v)
  rw [ncells_set] at h1
  exact hn _ _ (by simp) h1 ((Turned.refl lo' hi' w).setCell x y _)

end Go.Proofs.Yteopkcndkcciaaa.Grid
namespace Go.Proofs.Yteopkcndkcciaaa.Grid
set_option maxRecDepth 100000
open Go.ChangeShapes Go.WideShapes Go.ChangeAt Go.RowKit
open Go.Proofs.Yteopkcndkcciaaa.Base Go.Proofs.Yteopkcndkcciaaa.Mem Go.Proofs.Yteopkcndkcciaaa.Ints
set_option linter.unusedVariables false

/-! ### Comparisons -/
def SameP {α : Type} [DecidableEq α] (w : World) (l m : List α) (e : Ending) (w' : World) : Prop := e = .returned (.bool (decide (l = m))) ∧ ∃ q, w' = w.drewN q
theorem same_step {α : Type} {l m : List α} {k : Nat} (hl : k < l.length) (hm : k < m.length) (h : l.take k = m.take k) :
    (l[k] = m[k] → l.take (k + 1) = m.take (k + 1)) ∧ (l[k] ≠ m[k] → l ≠ m) := by
  refine ⟨fun e => ?_, fun e => ?_⟩
  · rw [List.take_succ_eq_append_getElem hl, List.take_succ_eq_append_getElem hm, h, e]
  · rintro rfl
    exact e rfl
section
variable {α : Type} [DecidableEq α] {w : World} {l m : List α}
theorem SameP.yes {P : Program} {f : FuncId} {args : Array Value} {w0 : World} (h : Calls P f args w0 (SameP w l m)) (e : l = m) : Calls P f args w0 fun e w' => e = .returned (.bool true) ∧ ∃ q, w' = w.drewN q :=
  h.mono fun e1 w' ⟨h1, h2⟩ => ⟨by rw [h1, decide_eq_true e], h2⟩
theorem SameP.no {P : Program} {f : FuncId} {args : Array Value} {w0 : World} (h : Calls P f args w0 (SameP w l m)) (e : l ≠ m) : Calls P f args w0 fun e w' => e = .returned (.bool false) ∧ ∃ q, w' = w.drewN q :=
  h.mono fun e1 w' ⟨h1, h2⟩ => ⟨by rw [h1, decide_eq_false e], h2⟩
theorem same_no (q : Nat) (h : l ≠ m) : SameP w l m (.returned (.bool false)) (w.drewN q) := ⟨by rw [decide_eq_false h], q, rfl⟩
theorem same_no2 (q r : Nat) (h : l ≠ m) : SameP w l m (.returned (.bool false)) ((w.drewN q).drewN r) := ⟨by rw [decide_eq_false h], q + r, World.drewN_drewN ..⟩
theorem same_no3 {w' : World} (h : l ≠ m) (q : Nat) (e : w' = w.drewN q) : SameP w l m (.returned (.bool false)) w' := ⟨by rw [decide_eq_false h], q, e⟩
/-- The world has drawn, and nothing else. -/
def Drawn (w w' : World) : Prop := ∃ q, w' = w.drewN q
theorem Drawn.cell {w' : World} (h : Drawn w w') (p : Addr) : w'.cell? p = w.cell? p := by
  obtain ⟨q, rfl⟩ := h
  rfl
theorem Drawn.lies {w' : World} (h : Drawn w w') {lo hi : Nat} {A : Option Addr} {cs : List Value} (k : Lies w lo hi A cs) : Lies w' lo hi A cs := by
  obtain ⟨q, rfl⟩ := h
  exact k
theorem Drawn.more {w' : World} (h : Drawn w w') (r : Nat) : Drawn w (w'.drewN (1 + r)) := by
  obtain ⟨q, rfl⟩ := h
  exact ⟨q + (1 + r), World.drewN_drewN ..⟩
theorem same_yes2 {n : Nat} {w' : World} (hd : Drawn w w') (h : l.take n = m.take n) (hl : l.length = n) (hm : m.length = n) : SameP w l m (.returned (.bool true)) w' := by
  rw [List.take_of_length_le (by omega), List.take_of_length_le (by omega)] at h
  exact ⟨by rw [decide_eq_true h], hd⟩
theorem same_yes {n : Nat} (q : Nat) (h : l.take n = m.take n) (hl : l.length = n) (hm : m.length = n) : SameP w l m (.returned (.bool true)) (w.drewN q) := by
  rw [List.take_of_length_le (by omega), List.take_of_length_le (by omega)] at h
  exact ⟨by rw [decide_eq_true h], q, rfl⟩
end

set_option maxHeartbeats 1000000 in
theorem lib_equal (A B : Option Addr) (n n' c d lo lo' hi hi' : Nat) (l m : List Int) (w : World) (hn : n ≤ 1048576) (hn' : n' ≤ 1048576) (hl : l.length = n) (hm : m.length = n')
    (h1 : Lies w lo hi A (ncells l)) (h2 : Lies w lo' hi' B (ncells m)) :
    Calls Try.prog 85 #[.slice A n c, .slice B n' d] w (SameP w l m) := by
  have H1 := Lib.hid h1
  have H2 := Lib.hid h2
  have HL := Lib.hid hl
  have HM := Lib.hid hm
  clear h1 h2 hl hm
  by_cases hnn : n = n'
  · subst hnn
    go_enter Try.func85, Try.ntmps85
    go_wp2
    go_loopw [5, 13] (fun _ i wr => ∃ (k q : Nat), k ≤ n ∧ i = .int .i64 k ∧ l.take k = m.take k ∧ wr = w.drewN q) (fun _ i _ => n - (intOf i).toNat)
    case atStart => exact ⟨0, 0, Nat.zero_le _, rfl, rfl, rfl⟩
    case round =>
      obtain ⟨k, q, hk, rfl, ht, rfl⟩ := hrel
      have HT := Lib.hid ht
      clear ht
      by_cases hlt : k < n
      · have hkl : k < l.length := by have := HL.out; omega
        have hkm : k < m.length := by have := HM.out; omega
        obtain ⟨b, off, rfl, _, hbw, c1⟩ := int_at H1.out k hkl
        obtain ⟨b', off', rfl, _, hbw', c2⟩ := int_at H2.out k hkm
        have hi0 : (0 : Int) ≤ (k : Int) := Int.natCast_nonneg _
        have hi1 : (k : Int) < (n : Int) := by omega
        have HP := Lib.hid (same_step hkl hkm HT.out)
        generalize l[k] = x at c1 HP
        generalize m[k] = y at c2 HP
        by_cases hx : x = y
        · subst hx
          go_wp2
          go_quiet (fail)
          go_wp2
          go_roundw
          case rel => exact ⟨k + 1, _, by omega, by go_num, HP.out.1 (by simp), rfl⟩
          case measure => simp [intOf]; omega
        · have hx' : (x == y) = false := by simpa using hx
          have hx2 : (x != y) = true := by simpa using hx
          go_wp2
          go_quiet (fail)
          go_wp2
          go_ret
          exact same_no2 _ _ (HP.out.2 hx)
      · have hkn : k = n := by omega
        subst hkn
        go_wp2
        go_ret
        exact same_yes _ HT.out HL.out HM.out
  · have hd : (n == n') = false := by simpa using hnn
    have hd' : ((n : Int) == (n' : Int)) = false := by simp; omega
    go_enter Try.func85, Try.ntmps85
    go_wp2
    go_ret
    exact same_no 0 (fun e => hnn (by rw [← HL.out, ← HM.out, e]))

set_option maxHeartbeats 1000000 in
theorem spec_ints (A B : Option Addr) (n n' c d lo lo' hi hi' : Nat) (l m : List Int) (w : World) (hn : n ≤ 1048576) (hn' : n' ≤ 1048576) (hl : l.length = n) (hm : m.length = n')
    (h1 : Lies w lo hi A (ncells l)) (h2 : Lies w lo' hi' B (ncells m)) :
    Calls Try.prog 82 #[.slice A n c, .slice B n' d] w (SameP w l m) := by
  have H1 := Lib.hid h1
  have H2 := Lib.hid h2
  have HL := Lib.hid hl
  have HM := Lib.hid hm
  clear h1 h2 hl hm
  by_cases hnn : n = n'
  · subst hnn
    go_enter Try.func82, Try.ntmps82
    go_wp2
    go_loopw [5] (fun  i wr => ∃ (k q : Nat), k ≤ n ∧ i = .int .i64 k ∧ l.take k = m.take k ∧ wr = w.drewN q) (fun  i _ => n - (intOf i).toNat)
    case atStart => exact ⟨0, 0, Nat.zero_le _, rfl, rfl, rfl⟩
    case round =>
      obtain ⟨k, q, hk, rfl, ht, rfl⟩ := hrel
      have HT := Lib.hid ht
      clear ht
      by_cases hlt : k < n
      · have hkl : k < l.length := by have := HL.out; omega
        have hkm : k < m.length := by have := HM.out; omega
        obtain ⟨b, off, rfl, _, hbw, c1⟩ := int_at H1.out k hkl
        obtain ⟨b', off', rfl, _, hbw', c2⟩ := int_at H2.out k hkm
        have hi0 : (0 : Int) ≤ (k : Int) := Int.natCast_nonneg _
        have hi1 : (k : Int) < (n : Int) := by omega
        have HP := Lib.hid (same_step hkl hkm HT.out)
        generalize l[k] = x at c1 HP
        generalize m[k] = y at c2 HP
        by_cases hx : x = y
        · subst hx
          go_wp2
          go_quiet (fail)
          go_wp2
          go_roundw
          case rel => exact ⟨k + 1, _, by omega, by go_num, HP.out.1 (by simp), rfl⟩
          case measure => simp [intOf]; omega
        · have hx' : (x == y) = false := by simpa using hx
          have hx2 : (x != y) = true := by simpa using hx
          go_wp2
          go_quiet (fail)
          go_wp2
          go_ret
          exact same_no2 _ _ (HP.out.2 hx)
      · have hkn : k = n := by omega
        subst hkn
        go_wp2
        go_ret
        exact same_yes _ HT.out HL.out HM.out
  · have hd : (n == n') = false := by simpa using hnn
    have hd' : ((n : Int) == (n' : Int)) = false := by simp; omega
    go_enter Try.func82, Try.ntmps82
    go_wp2
    go_ret
    exact same_no 0 (fun e => hnn (by rw [← HL.out, ← HM.out, e]))

end Go.Proofs.Yteopkcndkcciaaa.Grid
namespace Go.Proofs.Yteopkcndkcciaaa.Sx
set_option maxRecDepth 100000
open Go.ChangeShapes Go.WideShapes Go.ChangeAt Go.RowKit Go.Deep
set_option linter.unusedVariables false

theorem run_eqs {P : Program} {ρ : Operand → Value} {o : Oper} {op : BinOp} {t t' : TypeId} {x y : Operand} {xs ys : Array Value} {v : Value} (hop : o.op = .binOp op t x y t') (hx : ρ x = .agg xs) (hy : ρ y = .agg ys) (hm : P.eqGuardType P.depth t = false)
    (he : ∀ w, (binOp op t (.agg xs) (.agg ys)).run P w = .ok v w) (w : World) : (execOp ρ o).run P w = .ok (.value v) w := by
  unfold execOp
  simp only [hop, hx, hy, Sem.run_bind, run_eqGuard_agg _ _ _ _ _ _ _ hm, he, Sem.run_pure, Result.andThen_ok]
end Go.Proofs.Yteopkcndkcciaaa.Sx
namespace Go.Proofs.Yteopkcndkcciaaa.Guests
set_option maxRecDepth 100000
open Go.ChangeShapes Go.WideShapes Go.ChangeAt Go.RowKit
open Go.Proofs.Yteopkcndkcciaaa.Base Go.Proofs.Yteopkcndkcciaaa.Mem Go.Proofs.Yteopkcndkcciaaa.Data Go.Proofs.Yteopkcndkcciaaa.Slots Go.Proofs.Yteopkcndkcciaaa.Ints Go.Proofs.Yteopkcndkcciaaa.Ctls Go.Proofs.Yteopkcndkcciaaa.Exits Go.Proofs.Yteopkcndkcciaaa.Stt Go.Proofs.Yteopkcndkcciaaa.Irqs Go.Proofs.Yteopkcndkcciaaa.Inss
set_option linter.unusedVariables false
set_option linter.unusedSimpArgs false
theorem eqv_Ctl_eql (a0 : Int) (a1 : Int) (a2 : Bool) (b0 : Int) (b1 : Int) (b2 : Bool) (W : World) : (binOp .eql 29 (.agg #[.int .i64 a0, .int .i64 a1, .bool a2]) (.agg #[.int .i64 b0, .int .i64 b1, .bool b2])).run Try.prog W = .ok (.bool (a0 == b0 && a1 == b1 && a2 == b2)) W := by
  have ku3 := Try.underlying3
  have ka3 := Try.isAgg3
  have kz3 := Try.sizeOf3
  have ku4 := Try.underlying4
  have ka4 := Try.isAgg4
  have kz4 := Try.sizeOf4
  have hS : Try.prog.underlying 29 = some (.struct (Try.prog.fieldsOf 29)) := by kernel_rfl
  have hp : Try.prog.stoodInHeld 29 = false := by kernel_rfl
  rw [run_eql_struct, show (10000 : Nat) = 9999 + 1 from rfl, run_equalIn_agg W 9999 29 _ _ hS hp]
  simp only [Program.fieldsOf, Try.underlying29]
  go_simp
  by_cases h0 : a0 = b0 <;> by_cases h1 : a1 = b1 <;> cases a2 <;> cases b2 <;> simp [h0, h1]
theorem eqv_Ctl_neq (a0 : Int) (a1 : Int) (a2 : Bool) (b0 : Int) (b1 : Int) (b2 : Bool) (W : World) : (binOp .neq 29 (.agg #[.int .i64 a0, .int .i64 a1, .bool a2]) (.agg #[.int .i64 b0, .int .i64 b1, .bool b2])).run Try.prog W = .ok (.bool (!(a0 == b0 && a1 == b1 && a2 == b2))) W := by
  have ku3 := Try.underlying3
  have ka3 := Try.isAgg3
  have kz3 := Try.sizeOf3
  have ku4 := Try.underlying4
  have ka4 := Try.isAgg4
  have kz4 := Try.sizeOf4
  have hS : Try.prog.underlying 29 = some (.struct (Try.prog.fieldsOf 29)) := by kernel_rfl
  have hp : Try.prog.stoodInHeld 29 = false := by kernel_rfl
  rw [run_neq_struct, show (10000 : Nat) = 9999 + 1 from rfl, run_equalIn_agg W 9999 29 _ _ hS hp]
  simp only [Program.fieldsOf, Try.underlying29]
  go_simp
  by_cases h0 : a0 = b0 <;> by_cases h1 : a1 = b1 <;> cases a2 <;> cases b2 <;> simp [h0, h1]
theorem eqv_Exit_eql (a0 : Int) (a1 : Int) (a2 : Bool) (a3 : Int) (b0 : Int) (b1 : Int) (b2 : Bool) (b3 : Int) (W : World) : (binOp .eql 31 (.agg #[.int .i64 a0, .int .i64 a1, .bool a2, .int .i64 a3]) (.agg #[.int .i64 b0, .int .i64 b1, .bool b2, .int .i64 b3])).run Try.prog W = .ok (.bool (a0 == b0 && a1 == b1 && a2 == b2 && a3 == b3)) W := by
  have ku3 := Try.underlying3
  have ka3 := Try.isAgg3
  have kz3 := Try.sizeOf3
  have ku4 := Try.underlying4
  have ka4 := Try.isAgg4
  have kz4 := Try.sizeOf4
  have hS : Try.prog.underlying 31 = some (.struct (Try.prog.fieldsOf 31)) := by kernel_rfl
  have hp : Try.prog.stoodInHeld 31 = false := by kernel_rfl
  rw [run_eql_struct, show (10000 : Nat) = 9999 + 1 from rfl, run_equalIn_agg W 9999 31 _ _ hS hp]
  simp only [Program.fieldsOf, Try.underlying31]
  go_simp
  by_cases h0 : a0 = b0 <;> by_cases h1 : a1 = b1 <;> cases a2 <;> cases b2 <;> by_cases h3 : a3 = b3 <;> simp [h0, h1, h3]
theorem eqv_Exit_neq (a0 : Int) (a1 : Int) (a2 : Bool) (a3 : Int) (b0 : Int) (b1 : Int) (b2 : Bool) (b3 : Int) (W : World) : (binOp .neq 31 (.agg #[.int .i64 a0, .int .i64 a1, .bool a2, .int .i64 a3]) (.agg #[.int .i64 b0, .int .i64 b1, .bool b2, .int .i64 b3])).run Try.prog W = .ok (.bool (!(a0 == b0 && a1 == b1 && a2 == b2 && a3 == b3))) W := by
  have ku3 := Try.underlying3
  have ka3 := Try.isAgg3
  have kz3 := Try.sizeOf3
  have ku4 := Try.underlying4
  have ka4 := Try.isAgg4
  have kz4 := Try.sizeOf4
  have hS : Try.prog.underlying 31 = some (.struct (Try.prog.fieldsOf 31)) := by kernel_rfl
  have hp : Try.prog.stoodInHeld 31 = false := by kernel_rfl
  rw [run_neq_struct, show (10000 : Nat) = 9999 + 1 from rfl, run_equalIn_agg W 9999 31 _ _ hS hp]
  simp only [Program.fieldsOf, Try.underlying31]
  go_simp
  by_cases h0 : a0 = b0 <;> by_cases h1 : a1 = b1 <;> cases a2 <;> cases b2 <;> by_cases h3 : a3 = b3 <;> simp [h0, h1, h3]
theorem drew_below {w w' : World} (h : ∃ q, w' = w.drewN q) : Below w.heap.size w w' := by
  obtain ⟨q, rfl⟩ := h
  exact below_drewN (Below.refl _ _) q
def guestOk (g : gT) : Bool := progOk g.prog && inB g.a 0 99 && inB g.pc 0 12 && okTab g.wr 4 8 && okTab g.lv 4 8 && ctlOk g.t && pend g.pd && exitOk g.x && decide ((g.seen.length : Int) ≤ 40)
def sameG (g k : gT) : Bool := decide (g.prog = k.prog) && (g.a == k.a) && (g.pc == k.pc) && decide (g.wr = k.wr) && decide (g.lv = k.lv) && ((g.t.1 == k.t.1) && (g.t.2.1 == k.t.2.1) && (g.t.2.2 == k.t.2.2)) && (g.pd == k.pd) && ((g.x.1 == k.x.1) && (g.x.2.1 == k.x.2.1) && (g.x.2.2.1 == k.x.2.2.1) && (g.x.2.2.2 == k.x.2.2.2)) && (g.hl == k.hl) && decide (g.seen = k.seen)
theorem sameG_refl (g : gT) : sameG g g = true := by simp [sameG]

set_option maxRecDepth 100000 in
set_option maxHeartbeats 4000000 in
theorem specx_ok (g : gT) (cs : List Value) (w : World) (hc : rG.cap g) (h : rG.rd w 0 w.heap.size g cs) : Calls Try.prog 25 #[.agg cs.toArray] w (fun e w' => e = .returned (.bool (guestOk g)) ∧ Below w.heap.size w w') := by
  obtain ⟨q0, q1, q2, q3⟩ := rG_len hc
  have hr := h
  obtain ⟨P0, P1, P2, P3, rfl, h0, h1, h2, h3⟩ := rG_rd h
  obtain ⟨PA0, Pc0, e0, hP0⟩ := lst_val h0
  subst e0
  obtain ⟨PA1, Pc1, e1, hP1⟩ := lst_val h1
  subst e1
  obtain ⟨PA2, Pc2, e2, hP2⟩ := lst_val h2
  subst e2
  obtain ⟨PA3, Pc3, e3, hP3⟩ := lst_val h3
  subst e3
  refine Sx.enter (args := [.agg #[.slice PA0 g.prog.length Pc0, .int .i64 g.a, .int .i64 g.pc, .slice PA1 g.wr.length Pc1, .slice PA2 g.lv.length Pc2, .int .i64 g.t.1, .int .i64 g.t.2.1, .bool g.t.2.2, .int .i64 g.pd, .int .i64 g.x.1, .int .i64 g.x.2.1, .bool g.x.2.2.1, .int .i64 g.x.2.2.2, .bool g.hl, .slice PA3 g.seen.length Pc3]]) Try.func25 rfl Try.ntmps25 rfl ?_
  refine Sx.C.seq ?_
  refine Sx.C.region ?_
  refine Sx.G.box 33 (.tmp 0) [.slice PA0 g.prog.length Pc0, .int .i64 g.a, .int .i64 g.pc, .slice PA1 g.wr.length Pc1, .slice PA2 g.lv.length Pc2, .int .i64 g.t.1, .int .i64 g.t.2.1, .bool g.t.2.2, .int .i64 g.pd, .int .i64 g.x.1, .int .i64 g.x.2.1, .bool g.x.2.2.1, .int .i64 g.x.2.2.2, .bool g.hl, .slice PA3 g.seen.length Pc3] rfl (by kernel_rfl) (by kernel_rfl) (fun b1 => ?_)
  refine Sx.G.pure (.bool false) (by kernel_rfl) (fun w => by kernel_rfl) ?_
  refine Sx.G.nil ?_
  refine Sx.E.next ?_
  refine Sx.C.seq ?_
  refine Sx.C.region ?_
  refine Sx.G.pure (.pointer (some ⟨b1, 0, none⟩)) (by kernel_rfl) (fun w => by kernel_rfl) ?_
  refine Sx.G.ld1 26 (.tmp 3) b1 0 0 [.slice PA0 g.prog.length Pc0, .int .i64 g.a, .int .i64 g.pc, .slice PA1 g.wr.length Pc1, .slice PA2 g.lv.length Pc2, .int .i64 g.t.1, .int .i64 g.t.2.1, .bool g.t.2.2, .int .i64 g.pd, .int .i64 g.x.1, .int .i64 g.x.2.1, .bool g.x.2.2.1, .int .i64 g.x.2.2.2, .bool g.hl, .slice PA3 g.seen.length Pc3] (.slice PA0 g.prog.length Pc0) rfl (by kernel_rfl) (by kernel_rfl) rfl (by kernel_rfl) (by kernel_rfl) ?_
  refine Sx.G.plain 61 #[.slice PA0 g.prog.length Pc0] (.bool (progOk g.prog)) (by kernel_rfl) (fun w => by kernel_rfl) (fun w S => by exact spec_progOk PA0 g.prog.length Pc0 0 g.prog _ q0 rfl (by rw [← pcells_j]; exact p2_lies (St.old S h0))) ?_
  refine Sx.G.pure (.bool (progOk g.prog)) (by kernel_rfl) (fun w => by kernel_rfl) ?_
  cases hc2 : (progOk g.prog)
  · have hb2 := hc2
    refine Sx.G.skip (by kernel_rfl) ?_
    refine Sx.G.skip (by kernel_rfl) ?_
    refine Sx.G.skip (by kernel_rfl) ?_
    refine Sx.G.pure (.bool false) (by kernel_rfl) (fun w => by kernel_rfl) ?_
    refine Sx.G.pure (.bool false) (by kernel_rfl) (fun w => by kernel_rfl) ?_
    refine Sx.G.skip (by kernel_rfl) ?_
    refine Sx.G.skip (by kernel_rfl) ?_
    refine Sx.G.skip (by kernel_rfl) ?_
    refine Sx.G.pure (.bool false) (by kernel_rfl) (fun w => by kernel_rfl) ?_
    refine Sx.G.pure (.bool false) (by kernel_rfl) (fun w => by kernel_rfl) ?_
    refine Sx.G.skip (by kernel_rfl) ?_
    refine Sx.G.skip (by kernel_rfl) ?_
    refine Sx.G.skip (by kernel_rfl) ?_
    refine Sx.G.pure (.bool false) (by kernel_rfl) (fun w => by kernel_rfl) ?_
    refine Sx.G.pure (.bool false) (by kernel_rfl) (fun w => by kernel_rfl) ?_
    refine Sx.G.skip (by kernel_rfl) ?_
    refine Sx.G.skip (by kernel_rfl) ?_
    refine Sx.G.skip (by kernel_rfl) ?_
    refine Sx.G.pure (.bool false) (by kernel_rfl) (fun w => by kernel_rfl) ?_
    refine Sx.G.pure (.bool false) (by kernel_rfl) (fun w => by kernel_rfl) ?_
    refine Sx.G.skip (by kernel_rfl) ?_
    refine Sx.G.skip (by kernel_rfl) ?_
    refine Sx.G.skip (by kernel_rfl) ?_
    refine Sx.G.pure (.bool false) (by kernel_rfl) (fun w => by kernel_rfl) ?_
    refine Sx.G.pure (.bool false) (by kernel_rfl) (fun w => by kernel_rfl) ?_
    refine Sx.G.skip (by kernel_rfl) ?_
    refine Sx.G.skip (by kernel_rfl) ?_
    refine Sx.G.skip (by kernel_rfl) ?_
    refine Sx.G.pure (.bool false) (by kernel_rfl) (fun w => by kernel_rfl) ?_
    refine Sx.G.pure (.bool false) (by kernel_rfl) (fun w => by kernel_rfl) ?_
    refine Sx.G.skip (by kernel_rfl) ?_
    refine Sx.G.skip (by kernel_rfl) ?_
    refine Sx.G.skip (by kernel_rfl) ?_
    refine Sx.G.pure (.bool false) (by kernel_rfl) (fun w => by kernel_rfl) ?_
    refine Sx.G.pure (.bool false) (by kernel_rfl) (fun w => by kernel_rfl) ?_
    refine Sx.G.skip (by kernel_rfl) ?_
    refine Sx.G.skip (by kernel_rfl) ?_
    refine Sx.G.skip (by kernel_rfl) ?_
    refine Sx.G.skip (by kernel_rfl) ?_
    refine Sx.G.pure (.bool false) (by kernel_rfl) (fun w => by kernel_rfl) ?_
    refine Sx.G.pure (.bool false) (by kernel_rfl) (fun w => by kernel_rfl) ?_
    refine Sx.G.nil ?_
    refine Sx.E.next ?_
    refine Sx.C.ret ?_
    refine Sx.E.ret1 (.bool false) rfl (by kernel_rfl) (fun w S => ?_)
    exact ⟨congrArg Ending.returned (congrArg Value.bool (by simp only [guestOk, hb2, Bool.and_true, Bool.and_false, Bool.false_and, Bool.true_and])), S.below⟩
  · have hb2 := hc2
    refine Sx.G.pure (.pointer (some ⟨b1, 1, none⟩)) (by kernel_rfl) (fun w => by kernel_rfl) ?_
    refine Sx.G.ld1 3 (.tmp 7) b1 1 0 [.slice PA0 g.prog.length Pc0, .int .i64 g.a, .int .i64 g.pc, .slice PA1 g.wr.length Pc1, .slice PA2 g.lv.length Pc2, .int .i64 g.t.1, .int .i64 g.t.2.1, .bool g.t.2.2, .int .i64 g.pd, .int .i64 g.x.1, .int .i64 g.x.2.1, .bool g.x.2.2.1, .int .i64 g.x.2.2.2, .bool g.hl, .slice PA3 g.seen.length Pc3] (.int .i64 g.a) rfl (by kernel_rfl) (by kernel_rfl) rfl (by kernel_rfl) (by kernel_rfl) ?_
    refine Sx.G.plain 62 #[.int .i64 g.a, .int .i64 0, .int .i64 99] (.bool (inB g.a 0 99)) (by kernel_rfl) (fun w => by kernel_rfl) (fun w S => by exact ((spec_in g.a 0 99 _).mono fun e w' h => And.intro h.1 (below_same h.2))) ?_
    refine Sx.G.pure (.bool (inB g.a 0 99)) (by kernel_rfl) (fun w => by kernel_rfl) ?_
    refine Sx.G.pure (.bool (inB g.a 0 99)) (by kernel_rfl) (fun w => by kernel_rfl) ?_
    cases hc3 : (inB g.a 0 99)
    · have hb3 := hc3
      refine Sx.G.skip (by kernel_rfl) ?_
      refine Sx.G.skip (by kernel_rfl) ?_
      refine Sx.G.skip (by kernel_rfl) ?_
      refine Sx.G.pure (.bool false) (by kernel_rfl) (fun w => by kernel_rfl) ?_
      refine Sx.G.pure (.bool false) (by kernel_rfl) (fun w => by kernel_rfl) ?_
      refine Sx.G.skip (by kernel_rfl) ?_
      refine Sx.G.skip (by kernel_rfl) ?_
      refine Sx.G.skip (by kernel_rfl) ?_
      refine Sx.G.pure (.bool false) (by kernel_rfl) (fun w => by kernel_rfl) ?_
      refine Sx.G.pure (.bool false) (by kernel_rfl) (fun w => by kernel_rfl) ?_
      refine Sx.G.skip (by kernel_rfl) ?_
      refine Sx.G.skip (by kernel_rfl) ?_
      refine Sx.G.skip (by kernel_rfl) ?_
      refine Sx.G.pure (.bool false) (by kernel_rfl) (fun w => by kernel_rfl) ?_
      refine Sx.G.pure (.bool false) (by kernel_rfl) (fun w => by kernel_rfl) ?_
      refine Sx.G.skip (by kernel_rfl) ?_
      refine Sx.G.skip (by kernel_rfl) ?_
      refine Sx.G.skip (by kernel_rfl) ?_
      refine Sx.G.pure (.bool false) (by kernel_rfl) (fun w => by kernel_rfl) ?_
      refine Sx.G.pure (.bool false) (by kernel_rfl) (fun w => by kernel_rfl) ?_
      refine Sx.G.skip (by kernel_rfl) ?_
      refine Sx.G.skip (by kernel_rfl) ?_
      refine Sx.G.skip (by kernel_rfl) ?_
      refine Sx.G.pure (.bool false) (by kernel_rfl) (fun w => by kernel_rfl) ?_
      refine Sx.G.pure (.bool false) (by kernel_rfl) (fun w => by kernel_rfl) ?_
      refine Sx.G.skip (by kernel_rfl) ?_
      refine Sx.G.skip (by kernel_rfl) ?_
      refine Sx.G.skip (by kernel_rfl) ?_
      refine Sx.G.pure (.bool false) (by kernel_rfl) (fun w => by kernel_rfl) ?_
      refine Sx.G.pure (.bool false) (by kernel_rfl) (fun w => by kernel_rfl) ?_
      refine Sx.G.skip (by kernel_rfl) ?_
      refine Sx.G.skip (by kernel_rfl) ?_
      refine Sx.G.skip (by kernel_rfl) ?_
      refine Sx.G.skip (by kernel_rfl) ?_
      refine Sx.G.pure (.bool false) (by kernel_rfl) (fun w => by kernel_rfl) ?_
      refine Sx.G.pure (.bool false) (by kernel_rfl) (fun w => by kernel_rfl) ?_
      refine Sx.G.nil ?_
      refine Sx.E.next ?_
      refine Sx.C.ret ?_
      refine Sx.E.ret1 (.bool false) rfl (by kernel_rfl) (fun w S => ?_)
      exact ⟨congrArg Ending.returned (congrArg Value.bool (by simp only [guestOk, hb2, hb3, Bool.and_true, Bool.and_false, Bool.false_and, Bool.true_and])), S.below⟩
    · have hb3 := hc3
      refine Sx.G.pure (.pointer (some ⟨b1, 2, none⟩)) (by kernel_rfl) (fun w => by kernel_rfl) ?_
      refine Sx.G.ld1 3 (.tmp 12) b1 2 0 [.slice PA0 g.prog.length Pc0, .int .i64 g.a, .int .i64 g.pc, .slice PA1 g.wr.length Pc1, .slice PA2 g.lv.length Pc2, .int .i64 g.t.1, .int .i64 g.t.2.1, .bool g.t.2.2, .int .i64 g.pd, .int .i64 g.x.1, .int .i64 g.x.2.1, .bool g.x.2.2.1, .int .i64 g.x.2.2.2, .bool g.hl, .slice PA3 g.seen.length Pc3] (.int .i64 g.pc) rfl (by kernel_rfl) (by kernel_rfl) rfl (by kernel_rfl) (by kernel_rfl) ?_
      refine Sx.G.plain 62 #[.int .i64 g.pc, .int .i64 0, .int .i64 12] (.bool (inB g.pc 0 12)) (by kernel_rfl) (fun w => by kernel_rfl) (fun w S => by exact ((spec_in g.pc 0 12 _).mono fun e w' h => And.intro h.1 (below_same h.2))) ?_
      refine Sx.G.pure (.bool (inB g.pc 0 12)) (by kernel_rfl) (fun w => by kernel_rfl) ?_
      refine Sx.G.pure (.bool (inB g.pc 0 12)) (by kernel_rfl) (fun w => by kernel_rfl) ?_
      cases hc4 : (inB g.pc 0 12)
      · have hb4 := hc4
        refine Sx.G.skip (by kernel_rfl) ?_
        refine Sx.G.skip (by kernel_rfl) ?_
        refine Sx.G.skip (by kernel_rfl) ?_
        refine Sx.G.pure (.bool false) (by kernel_rfl) (fun w => by kernel_rfl) ?_
        refine Sx.G.pure (.bool false) (by kernel_rfl) (fun w => by kernel_rfl) ?_
        refine Sx.G.skip (by kernel_rfl) ?_
        refine Sx.G.skip (by kernel_rfl) ?_
        refine Sx.G.skip (by kernel_rfl) ?_
        refine Sx.G.pure (.bool false) (by kernel_rfl) (fun w => by kernel_rfl) ?_
        refine Sx.G.pure (.bool false) (by kernel_rfl) (fun w => by kernel_rfl) ?_
        refine Sx.G.skip (by kernel_rfl) ?_
        refine Sx.G.skip (by kernel_rfl) ?_
        refine Sx.G.skip (by kernel_rfl) ?_
        refine Sx.G.pure (.bool false) (by kernel_rfl) (fun w => by kernel_rfl) ?_
        refine Sx.G.pure (.bool false) (by kernel_rfl) (fun w => by kernel_rfl) ?_
        refine Sx.G.skip (by kernel_rfl) ?_
        refine Sx.G.skip (by kernel_rfl) ?_
        refine Sx.G.skip (by kernel_rfl) ?_
        refine Sx.G.pure (.bool false) (by kernel_rfl) (fun w => by kernel_rfl) ?_
        refine Sx.G.pure (.bool false) (by kernel_rfl) (fun w => by kernel_rfl) ?_
        refine Sx.G.skip (by kernel_rfl) ?_
        refine Sx.G.skip (by kernel_rfl) ?_
        refine Sx.G.skip (by kernel_rfl) ?_
        refine Sx.G.pure (.bool false) (by kernel_rfl) (fun w => by kernel_rfl) ?_
        refine Sx.G.pure (.bool false) (by kernel_rfl) (fun w => by kernel_rfl) ?_
        refine Sx.G.skip (by kernel_rfl) ?_
        refine Sx.G.skip (by kernel_rfl) ?_
        refine Sx.G.skip (by kernel_rfl) ?_
        refine Sx.G.skip (by kernel_rfl) ?_
        refine Sx.G.pure (.bool false) (by kernel_rfl) (fun w => by kernel_rfl) ?_
        refine Sx.G.pure (.bool false) (by kernel_rfl) (fun w => by kernel_rfl) ?_
        refine Sx.G.nil ?_
        refine Sx.E.next ?_
        refine Sx.C.ret ?_
        refine Sx.E.ret1 (.bool false) rfl (by kernel_rfl) (fun w S => ?_)
        exact ⟨congrArg Ending.returned (congrArg Value.bool (by simp only [guestOk, hb2, hb3, hb4, Bool.and_true, Bool.and_false, Bool.false_and, Bool.true_and])), S.below⟩
      · have hb4 := hc4
        refine Sx.G.pure (.pointer (some ⟨b1, 3, none⟩)) (by kernel_rfl) (fun w => by kernel_rfl) ?_
        refine Sx.G.ld1 27 (.tmp 17) b1 3 0 [.slice PA0 g.prog.length Pc0, .int .i64 g.a, .int .i64 g.pc, .slice PA1 g.wr.length Pc1, .slice PA2 g.lv.length Pc2, .int .i64 g.t.1, .int .i64 g.t.2.1, .bool g.t.2.2, .int .i64 g.pd, .int .i64 g.x.1, .int .i64 g.x.2.1, .bool g.x.2.2.1, .int .i64 g.x.2.2.2, .bool g.hl, .slice PA3 g.seen.length Pc3] (.slice PA1 g.wr.length Pc1) rfl (by kernel_rfl) (by kernel_rfl) rfl (by kernel_rfl) (by kernel_rfl) ?_
        refine Sx.G.plain 63 #[.slice PA1 g.wr.length Pc1, .int .i64 4, .int .i64 8] (.bool (okTab g.wr 4 8)) (by kernel_rfl) (fun w => by kernel_rfl) (fun w S => by exact spec_tabOk PA1 g.wr.length Pc1 0 4 8 g.wr _ q1 rfl (by decide) (by rw [← pcells_s]; exact p2_lies (St.old S h1))) ?_
        refine Sx.G.pure (.bool (okTab g.wr 4 8)) (by kernel_rfl) (fun w => by kernel_rfl) ?_
        refine Sx.G.pure (.bool (okTab g.wr 4 8)) (by kernel_rfl) (fun w => by kernel_rfl) ?_
        cases hc5 : (okTab g.wr 4 8)
        · have hb5 := hc5
          refine Sx.G.skip (by kernel_rfl) ?_
          refine Sx.G.skip (by kernel_rfl) ?_
          refine Sx.G.skip (by kernel_rfl) ?_
          refine Sx.G.pure (.bool false) (by kernel_rfl) (fun w => by kernel_rfl) ?_
          refine Sx.G.pure (.bool false) (by kernel_rfl) (fun w => by kernel_rfl) ?_
          refine Sx.G.skip (by kernel_rfl) ?_
          refine Sx.G.skip (by kernel_rfl) ?_
          refine Sx.G.skip (by kernel_rfl) ?_
          refine Sx.G.pure (.bool false) (by kernel_rfl) (fun w => by kernel_rfl) ?_
          refine Sx.G.pure (.bool false) (by kernel_rfl) (fun w => by kernel_rfl) ?_
          refine Sx.G.skip (by kernel_rfl) ?_
          refine Sx.G.skip (by kernel_rfl) ?_
          refine Sx.G.skip (by kernel_rfl) ?_
          refine Sx.G.pure (.bool false) (by kernel_rfl) (fun w => by kernel_rfl) ?_
          refine Sx.G.pure (.bool false) (by kernel_rfl) (fun w => by kernel_rfl) ?_
          refine Sx.G.skip (by kernel_rfl) ?_
          refine Sx.G.skip (by kernel_rfl) ?_
          refine Sx.G.skip (by kernel_rfl) ?_
          refine Sx.G.pure (.bool false) (by kernel_rfl) (fun w => by kernel_rfl) ?_
          refine Sx.G.pure (.bool false) (by kernel_rfl) (fun w => by kernel_rfl) ?_
          refine Sx.G.skip (by kernel_rfl) ?_
          refine Sx.G.skip (by kernel_rfl) ?_
          refine Sx.G.skip (by kernel_rfl) ?_
          refine Sx.G.skip (by kernel_rfl) ?_
          refine Sx.G.pure (.bool false) (by kernel_rfl) (fun w => by kernel_rfl) ?_
          refine Sx.G.pure (.bool false) (by kernel_rfl) (fun w => by kernel_rfl) ?_
          refine Sx.G.nil ?_
          refine Sx.E.next ?_
          refine Sx.C.ret ?_
          refine Sx.E.ret1 (.bool false) rfl (by kernel_rfl) (fun w S => ?_)
          exact ⟨congrArg Ending.returned (congrArg Value.bool (by simp only [guestOk, hb2, hb3, hb4, hb5, Bool.and_true, Bool.and_false, Bool.false_and, Bool.true_and])), S.below⟩
        · have hb5 := hc5
          refine Sx.G.pure (.pointer (some ⟨b1, 4, none⟩)) (by kernel_rfl) (fun w => by kernel_rfl) ?_
          refine Sx.G.ld1 27 (.tmp 22) b1 4 0 [.slice PA0 g.prog.length Pc0, .int .i64 g.a, .int .i64 g.pc, .slice PA1 g.wr.length Pc1, .slice PA2 g.lv.length Pc2, .int .i64 g.t.1, .int .i64 g.t.2.1, .bool g.t.2.2, .int .i64 g.pd, .int .i64 g.x.1, .int .i64 g.x.2.1, .bool g.x.2.2.1, .int .i64 g.x.2.2.2, .bool g.hl, .slice PA3 g.seen.length Pc3] (.slice PA2 g.lv.length Pc2) rfl (by kernel_rfl) (by kernel_rfl) rfl (by kernel_rfl) (by kernel_rfl) ?_
          refine Sx.G.plain 63 #[.slice PA2 g.lv.length Pc2, .int .i64 4, .int .i64 8] (.bool (okTab g.lv 4 8)) (by kernel_rfl) (fun w => by kernel_rfl) (fun w S => by exact spec_tabOk PA2 g.lv.length Pc2 0 4 8 g.lv _ q2 rfl (by decide) (by rw [← pcells_s]; exact p2_lies (St.old S h2))) ?_
          refine Sx.G.pure (.bool (okTab g.lv 4 8)) (by kernel_rfl) (fun w => by kernel_rfl) ?_
          refine Sx.G.pure (.bool (okTab g.lv 4 8)) (by kernel_rfl) (fun w => by kernel_rfl) ?_
          cases hc6 : (okTab g.lv 4 8)
          · have hb6 := hc6
            refine Sx.G.skip (by kernel_rfl) ?_
            refine Sx.G.skip (by kernel_rfl) ?_
            refine Sx.G.skip (by kernel_rfl) ?_
            refine Sx.G.pure (.bool false) (by kernel_rfl) (fun w => by kernel_rfl) ?_
            refine Sx.G.pure (.bool false) (by kernel_rfl) (fun w => by kernel_rfl) ?_
            refine Sx.G.skip (by kernel_rfl) ?_
            refine Sx.G.skip (by kernel_rfl) ?_
            refine Sx.G.skip (by kernel_rfl) ?_
            refine Sx.G.pure (.bool false) (by kernel_rfl) (fun w => by kernel_rfl) ?_
            refine Sx.G.pure (.bool false) (by kernel_rfl) (fun w => by kernel_rfl) ?_
            refine Sx.G.skip (by kernel_rfl) ?_
            refine Sx.G.skip (by kernel_rfl) ?_
            refine Sx.G.skip (by kernel_rfl) ?_
            refine Sx.G.pure (.bool false) (by kernel_rfl) (fun w => by kernel_rfl) ?_
            refine Sx.G.pure (.bool false) (by kernel_rfl) (fun w => by kernel_rfl) ?_
            refine Sx.G.skip (by kernel_rfl) ?_
            refine Sx.G.skip (by kernel_rfl) ?_
            refine Sx.G.skip (by kernel_rfl) ?_
            refine Sx.G.skip (by kernel_rfl) ?_
            refine Sx.G.pure (.bool false) (by kernel_rfl) (fun w => by kernel_rfl) ?_
            refine Sx.G.pure (.bool false) (by kernel_rfl) (fun w => by kernel_rfl) ?_
            refine Sx.G.nil ?_
            refine Sx.E.next ?_
            refine Sx.C.ret ?_
            refine Sx.E.ret1 (.bool false) rfl (by kernel_rfl) (fun w S => ?_)
            exact ⟨congrArg Ending.returned (congrArg Value.bool (by simp only [guestOk, hb2, hb3, hb4, hb5, hb6, Bool.and_true, Bool.and_false, Bool.false_and, Bool.true_and])), S.below⟩
          · have hb6 := hc6
            refine Sx.G.pure (.pointer (some ⟨b1, 5, none⟩)) (by kernel_rfl) (fun w => by kernel_rfl) ?_
            refine Sx.G.ld 29 (.tmp 27) b1 5 0 [.slice PA0 g.prog.length Pc0, .int .i64 g.a, .int .i64 g.pc, .slice PA1 g.wr.length Pc1, .slice PA2 g.lv.length Pc2, .int .i64 g.t.1, .int .i64 g.t.2.1, .bool g.t.2.2, .int .i64 g.pd, .int .i64 g.x.1, .int .i64 g.x.2.1, .bool g.x.2.2.1, .int .i64 g.x.2.2.2, .bool g.hl, .slice PA3 g.seen.length Pc3] [.int .i64 g.t.1, .int .i64 g.t.2.1, .bool g.t.2.2] rfl (by kernel_rfl) (by kernel_rfl) rfl (by kernel_rfl) (by kernel_rfl) (by kernel_rfl) ?_
            refine Sx.G.plain 64 #[.agg #[.int .i64 g.t.1, .int .i64 g.t.2.1, .bool g.t.2.2]] (.bool (ctlOk (g.t.1, g.t.2.1, g.t.2.2))) (by kernel_rfl) (fun w => by kernel_rfl) (fun w S => by exact spec_ctlOk g.t.1 g.t.2.1 g.t.2.2 _) ?_
            refine Sx.G.pure (.bool (ctlOk (g.t.1, g.t.2.1, g.t.2.2))) (by kernel_rfl) (fun w => by kernel_rfl) ?_
            refine Sx.G.pure (.bool (ctlOk (g.t.1, g.t.2.1, g.t.2.2))) (by kernel_rfl) (fun w => by kernel_rfl) ?_
            cases hc7 : (ctlOk (g.t.1, g.t.2.1, g.t.2.2))
            · have hb7 := hc7
              refine Sx.G.skip (by kernel_rfl) ?_
              refine Sx.G.skip (by kernel_rfl) ?_
              refine Sx.G.skip (by kernel_rfl) ?_
              refine Sx.G.pure (.bool false) (by kernel_rfl) (fun w => by kernel_rfl) ?_
              refine Sx.G.pure (.bool false) (by kernel_rfl) (fun w => by kernel_rfl) ?_
              refine Sx.G.skip (by kernel_rfl) ?_
              refine Sx.G.skip (by kernel_rfl) ?_
              refine Sx.G.skip (by kernel_rfl) ?_
              refine Sx.G.pure (.bool false) (by kernel_rfl) (fun w => by kernel_rfl) ?_
              refine Sx.G.pure (.bool false) (by kernel_rfl) (fun w => by kernel_rfl) ?_
              refine Sx.G.skip (by kernel_rfl) ?_
              refine Sx.G.skip (by kernel_rfl) ?_
              refine Sx.G.skip (by kernel_rfl) ?_
              refine Sx.G.skip (by kernel_rfl) ?_
              refine Sx.G.pure (.bool false) (by kernel_rfl) (fun w => by kernel_rfl) ?_
              refine Sx.G.pure (.bool false) (by kernel_rfl) (fun w => by kernel_rfl) ?_
              refine Sx.G.nil ?_
              refine Sx.E.next ?_
              refine Sx.C.ret ?_
              refine Sx.E.ret1 (.bool false) rfl (by kernel_rfl) (fun w S => ?_)
              exact ⟨congrArg Ending.returned (congrArg Value.bool (by simp only [guestOk, hb2, hb3, hb4, hb5, hb6, hb7, Bool.and_true, Bool.and_false, Bool.false_and, Bool.true_and])), S.below⟩
            · have hb7 := hc7
              refine Sx.G.pure (.pointer (some ⟨b1, 8, none⟩)) (by kernel_rfl) (fun w => by kernel_rfl) ?_
              refine Sx.G.ld1 3 (.tmp 32) b1 8 0 [.slice PA0 g.prog.length Pc0, .int .i64 g.a, .int .i64 g.pc, .slice PA1 g.wr.length Pc1, .slice PA2 g.lv.length Pc2, .int .i64 g.t.1, .int .i64 g.t.2.1, .bool g.t.2.2, .int .i64 g.pd, .int .i64 g.x.1, .int .i64 g.x.2.1, .bool g.x.2.2.1, .int .i64 g.x.2.2.2, .bool g.hl, .slice PA3 g.seen.length Pc3] (.int .i64 g.pd) rfl (by kernel_rfl) (by kernel_rfl) rfl (by kernel_rfl) (by kernel_rfl) ?_
              refine Sx.G.plain 65 #[.int .i64 g.pd] (.bool (pend g.pd)) (by kernel_rfl) (fun w => by kernel_rfl) (fun w S => by exact ((spec_pend g.pd _).mono fun e w' h => And.intro h.1 (below_same h.2))) ?_
              refine Sx.G.pure (.bool (pend g.pd)) (by kernel_rfl) (fun w => by kernel_rfl) ?_
              refine Sx.G.pure (.bool (pend g.pd)) (by kernel_rfl) (fun w => by kernel_rfl) ?_
              cases hc8 : (pend g.pd)
              · have hb8 := hc8
                refine Sx.G.skip (by kernel_rfl) ?_
                refine Sx.G.skip (by kernel_rfl) ?_
                refine Sx.G.skip (by kernel_rfl) ?_
                refine Sx.G.pure (.bool false) (by kernel_rfl) (fun w => by kernel_rfl) ?_
                refine Sx.G.pure (.bool false) (by kernel_rfl) (fun w => by kernel_rfl) ?_
                refine Sx.G.skip (by kernel_rfl) ?_
                refine Sx.G.skip (by kernel_rfl) ?_
                refine Sx.G.skip (by kernel_rfl) ?_
                refine Sx.G.skip (by kernel_rfl) ?_
                refine Sx.G.pure (.bool false) (by kernel_rfl) (fun w => by kernel_rfl) ?_
                refine Sx.G.pure (.bool false) (by kernel_rfl) (fun w => by kernel_rfl) ?_
                refine Sx.G.nil ?_
                refine Sx.E.next ?_
                refine Sx.C.ret ?_
                refine Sx.E.ret1 (.bool false) rfl (by kernel_rfl) (fun w S => ?_)
                exact ⟨congrArg Ending.returned (congrArg Value.bool (by simp only [guestOk, hb2, hb3, hb4, hb5, hb6, hb7, hb8, Bool.and_true, Bool.and_false, Bool.false_and, Bool.true_and])), S.below⟩
              · have hb8 := hc8
                refine Sx.G.pure (.pointer (some ⟨b1, 9, none⟩)) (by kernel_rfl) (fun w => by kernel_rfl) ?_
                refine Sx.G.ld 31 (.tmp 37) b1 9 0 [.slice PA0 g.prog.length Pc0, .int .i64 g.a, .int .i64 g.pc, .slice PA1 g.wr.length Pc1, .slice PA2 g.lv.length Pc2, .int .i64 g.t.1, .int .i64 g.t.2.1, .bool g.t.2.2, .int .i64 g.pd, .int .i64 g.x.1, .int .i64 g.x.2.1, .bool g.x.2.2.1, .int .i64 g.x.2.2.2, .bool g.hl, .slice PA3 g.seen.length Pc3] [.int .i64 g.x.1, .int .i64 g.x.2.1, .bool g.x.2.2.1, .int .i64 g.x.2.2.2] rfl (by kernel_rfl) (by kernel_rfl) rfl (by kernel_rfl) (by kernel_rfl) (by kernel_rfl) ?_
                refine Sx.G.plain 66 #[.agg #[.int .i64 g.x.1, .int .i64 g.x.2.1, .bool g.x.2.2.1, .int .i64 g.x.2.2.2]] (.bool (exitOk (g.x.1, g.x.2.1, g.x.2.2.1, g.x.2.2.2))) (by kernel_rfl) (fun w => by kernel_rfl) (fun w S => by exact spec_exitOk g.x.1 g.x.2.1 g.x.2.2.1 g.x.2.2.2 _) ?_
                refine Sx.G.pure (.bool (exitOk (g.x.1, g.x.2.1, g.x.2.2.1, g.x.2.2.2))) (by kernel_rfl) (fun w => by kernel_rfl) ?_
                refine Sx.G.pure (.bool (exitOk (g.x.1, g.x.2.1, g.x.2.2.1, g.x.2.2.2))) (by kernel_rfl) (fun w => by kernel_rfl) ?_
                cases hc9 : (exitOk (g.x.1, g.x.2.1, g.x.2.2.1, g.x.2.2.2))
                · have hb9 := hc9
                  refine Sx.G.skip (by kernel_rfl) ?_
                  refine Sx.G.skip (by kernel_rfl) ?_
                  refine Sx.G.skip (by kernel_rfl) ?_
                  refine Sx.G.skip (by kernel_rfl) ?_
                  refine Sx.G.pure (.bool false) (by kernel_rfl) (fun w => by kernel_rfl) ?_
                  refine Sx.G.pure (.bool false) (by kernel_rfl) (fun w => by kernel_rfl) ?_
                  refine Sx.G.nil ?_
                  refine Sx.E.next ?_
                  refine Sx.C.ret ?_
                  refine Sx.E.ret1 (.bool false) rfl (by kernel_rfl) (fun w S => ?_)
                  exact ⟨congrArg Ending.returned (congrArg Value.bool (by simp only [guestOk, hb2, hb3, hb4, hb5, hb6, hb7, hb8, hb9, Bool.and_true, Bool.and_false, Bool.false_and, Bool.true_and])), S.below⟩
                · have hb9 := hc9
                  refine Sx.G.pure (.pointer (some ⟨b1, 14, none⟩)) (by kernel_rfl) (fun w => by kernel_rfl) ?_
                  refine Sx.G.ld1 24 (.tmp 42) b1 14 0 [.slice PA0 g.prog.length Pc0, .int .i64 g.a, .int .i64 g.pc, .slice PA1 g.wr.length Pc1, .slice PA2 g.lv.length Pc2, .int .i64 g.t.1, .int .i64 g.t.2.1, .bool g.t.2.2, .int .i64 g.pd, .int .i64 g.x.1, .int .i64 g.x.2.1, .bool g.x.2.2.1, .int .i64 g.x.2.2.2, .bool g.hl, .slice PA3 g.seen.length Pc3] (.slice PA3 g.seen.length Pc3) rfl (by kernel_rfl) (by kernel_rfl) rfl (by kernel_rfl) (by kernel_rfl) ?_
                  refine Sx.G.pure (.int .i64 ((g.seen.length : Nat) : Int)) (by kernel_rfl) (fun w => by kernel_rfl) ?_
                  refine Sx.G.pure (.bool (decide (((g.seen.length : Nat) : Int) ≤ 40))) (by kernel_rfl) (fun w => by kernel_rfl) ?_
                  refine Sx.G.pure (.bool (decide (((g.seen.length : Nat) : Int) ≤ 40))) (by kernel_rfl) (fun w => by kernel_rfl) ?_
                  refine Sx.G.pure (.bool (decide (((g.seen.length : Nat) : Int) ≤ 40))) (by kernel_rfl) (fun w => by kernel_rfl) ?_
                  refine Sx.G.nil ?_
                  refine Sx.E.next ?_
                  refine Sx.C.ret ?_
                  refine Sx.E.ret1 (.bool (decide (((g.seen.length : Nat) : Int) ≤ 40))) rfl (by kernel_rfl) (fun w S => ?_)
                  exact ⟨congrArg Ending.returned (congrArg Value.bool (by simp only [guestOk, hb2, hb3, hb4, hb5, hb6, hb7, hb8, hb9, Bool.and_true, Bool.and_false, Bool.false_and, Bool.true_and])), S.below⟩

set_option maxRecDepth 100000 in
set_option maxHeartbeats 4000000 in
theorem specx_same (g k : gT) (cs ds : List Value) (w : World) (hc : rG.cap g) (hd : rG.cap k) (h : rG.rd w 0 w.heap.size g cs) (j : rG.rd w 0 w.heap.size k ds) : Calls Try.prog 38 #[.agg cs.toArray, .agg ds.toArray] w (fun e w' => e = .returned (.bool (sameG g k)) ∧ Below w.heap.size w w') := by
  obtain ⟨q0, q1, q2, q3⟩ := rG_len hc
  obtain ⟨p0, p1, p2, p3⟩ := rG_len hd
  have hr := h
  obtain ⟨P0, P1, P2, P3, rfl, h0, h1, h2, h3⟩ := rG_rd h
  obtain ⟨PA0, Pc0, e0, hP0⟩ := lst_val h0
  subst e0
  obtain ⟨PA1, Pc1, e1, hP1⟩ := lst_val h1
  subst e1
  obtain ⟨PA2, Pc2, e2, hP2⟩ := lst_val h2
  subst e2
  obtain ⟨PA3, Pc3, e3, hP3⟩ := lst_val h3
  subst e3
  have jr := j
  obtain ⟨R0, R1, R2, R3, rfl, j0, j1, j2, j3⟩ := rG_rd j
  obtain ⟨RA0, Rc0, e0, hR0⟩ := lst_val j0
  subst e0
  obtain ⟨RA1, Rc1, e1, hR1⟩ := lst_val j1
  subst e1
  obtain ⟨RA2, Rc2, e2, hR2⟩ := lst_val j2
  subst e2
  obtain ⟨RA3, Rc3, e3, hR3⟩ := lst_val j3
  subst e3
  refine Sx.enter (args := [.agg #[.slice PA0 g.prog.length Pc0, .int .i64 g.a, .int .i64 g.pc, .slice PA1 g.wr.length Pc1, .slice PA2 g.lv.length Pc2, .int .i64 g.t.1, .int .i64 g.t.2.1, .bool g.t.2.2, .int .i64 g.pd, .int .i64 g.x.1, .int .i64 g.x.2.1, .bool g.x.2.2.1, .int .i64 g.x.2.2.2, .bool g.hl, .slice PA3 g.seen.length Pc3], .agg #[.slice RA0 k.prog.length Rc0, .int .i64 k.a, .int .i64 k.pc, .slice RA1 k.wr.length Rc1, .slice RA2 k.lv.length Rc2, .int .i64 k.t.1, .int .i64 k.t.2.1, .bool k.t.2.2, .int .i64 k.pd, .int .i64 k.x.1, .int .i64 k.x.2.1, .bool k.x.2.2.1, .int .i64 k.x.2.2.2, .bool k.hl, .slice RA3 k.seen.length Rc3]]) Try.func38 rfl Try.ntmps38 rfl ?_
  refine Sx.C.seq ?_
  refine Sx.C.region ?_
  refine Sx.G.box 33 (.tmp 0) [.slice PA0 g.prog.length Pc0, .int .i64 g.a, .int .i64 g.pc, .slice PA1 g.wr.length Pc1, .slice PA2 g.lv.length Pc2, .int .i64 g.t.1, .int .i64 g.t.2.1, .bool g.t.2.2, .int .i64 g.pd, .int .i64 g.x.1, .int .i64 g.x.2.1, .bool g.x.2.2.1, .int .i64 g.x.2.2.2, .bool g.hl, .slice PA3 g.seen.length Pc3] rfl (by kernel_rfl) (by kernel_rfl) (fun b1 => ?_)
  refine Sx.G.box 33 (.tmp 1) [.slice RA0 k.prog.length Rc0, .int .i64 k.a, .int .i64 k.pc, .slice RA1 k.wr.length Rc1, .slice RA2 k.lv.length Rc2, .int .i64 k.t.1, .int .i64 k.t.2.1, .bool k.t.2.2, .int .i64 k.pd, .int .i64 k.x.1, .int .i64 k.x.2.1, .bool k.x.2.2.1, .int .i64 k.x.2.2.2, .bool k.hl, .slice RA3 k.seen.length Rc3] rfl (by kernel_rfl) (by kernel_rfl) (fun b2 => ?_)
  refine Sx.G.pure (.bool false) (by kernel_rfl) (fun w => by kernel_rfl) ?_
  refine Sx.G.nil ?_
  refine Sx.E.next ?_
  refine Sx.C.seq ?_
  refine Sx.C.region ?_
  refine Sx.G.pure (.pointer (some ⟨b1, 0, none⟩)) (by kernel_rfl) (fun w => by kernel_rfl) ?_
  refine Sx.G.ld1 26 (.tmp 5) b1 0 1 [.slice PA0 g.prog.length Pc0, .int .i64 g.a, .int .i64 g.pc, .slice PA1 g.wr.length Pc1, .slice PA2 g.lv.length Pc2, .int .i64 g.t.1, .int .i64 g.t.2.1, .bool g.t.2.2, .int .i64 g.pd, .int .i64 g.x.1, .int .i64 g.x.2.1, .bool g.x.2.2.1, .int .i64 g.x.2.2.2, .bool g.hl, .slice PA3 g.seen.length Pc3] (.slice PA0 g.prog.length Pc0) rfl (by kernel_rfl) (by kernel_rfl) rfl (by kernel_rfl) (by kernel_rfl) ?_
  refine Sx.G.pure (.pointer (some ⟨b2, 0, none⟩)) (by kernel_rfl) (fun w => by kernel_rfl) ?_
  refine Sx.G.ld1 26 (.tmp 7) b2 0 0 [.slice RA0 k.prog.length Rc0, .int .i64 k.a, .int .i64 k.pc, .slice RA1 k.wr.length Rc1, .slice RA2 k.lv.length Rc2, .int .i64 k.t.1, .int .i64 k.t.2.1, .bool k.t.2.2, .int .i64 k.pd, .int .i64 k.x.1, .int .i64 k.x.2.1, .bool k.x.2.2.1, .int .i64 k.x.2.2.2, .bool k.hl, .slice RA3 k.seen.length Rc3] (.slice RA0 k.prog.length Rc0) rfl (by kernel_rfl) (by kernel_rfl) rfl (by kernel_rfl) (by kernel_rfl) ?_
  refine Sx.G.plain 80 #[.slice PA0 g.prog.length Pc0, .slice RA0 k.prog.length Rc0] (.bool (decide (g.prog = k.prog))) (by kernel_rfl) (fun w => by kernel_rfl) (fun w S => by exact ((Inss.spec_same PA0 RA0 g.prog.length k.prog.length Pc0 Rc0 0 0 _ _ g.prog k.prog _ q0 p0 rfl rfl (by rw [← pcells_j]; exact p2_lies (St.old S h0)) (by rw [← pcells_j]; exact p2_lies (St.old S j0))).mono fun e w' h => And.intro h.1 (drew_below h.2))) ?_
  refine Sx.G.pure (.bool (decide (g.prog = k.prog))) (by kernel_rfl) (fun w => by kernel_rfl) ?_
  cases hc3 : (decide (g.prog = k.prog))
  · have hb3 := hc3
    replace hc3 := of_decide_eq_false hc3
    refine Sx.G.skip (by kernel_rfl) ?_
    refine Sx.G.skip (by kernel_rfl) ?_
    refine Sx.G.skip (by kernel_rfl) ?_
    refine Sx.G.skip (by kernel_rfl) ?_
    refine Sx.G.skip (by kernel_rfl) ?_
    refine Sx.G.pure (.bool false) (by kernel_rfl) (fun w => by kernel_rfl) ?_
    refine Sx.G.pure (.bool false) (by kernel_rfl) (fun w => by kernel_rfl) ?_
    refine Sx.G.skip (by kernel_rfl) ?_
    refine Sx.G.skip (by kernel_rfl) ?_
    refine Sx.G.skip (by kernel_rfl) ?_
    refine Sx.G.skip (by kernel_rfl) ?_
    refine Sx.G.skip (by kernel_rfl) ?_
    refine Sx.G.pure (.bool false) (by kernel_rfl) (fun w => by kernel_rfl) ?_
    refine Sx.G.pure (.bool false) (by kernel_rfl) (fun w => by kernel_rfl) ?_
    refine Sx.G.skip (by kernel_rfl) ?_
    refine Sx.G.skip (by kernel_rfl) ?_
    refine Sx.G.skip (by kernel_rfl) ?_
    refine Sx.G.skip (by kernel_rfl) ?_
    refine Sx.G.skip (by kernel_rfl) ?_
    refine Sx.G.pure (.bool false) (by kernel_rfl) (fun w => by kernel_rfl) ?_
    refine Sx.G.pure (.bool false) (by kernel_rfl) (fun w => by kernel_rfl) ?_
    refine Sx.G.skip (by kernel_rfl) ?_
    refine Sx.G.skip (by kernel_rfl) ?_
    refine Sx.G.skip (by kernel_rfl) ?_
    refine Sx.G.skip (by kernel_rfl) ?_
    refine Sx.G.skip (by kernel_rfl) ?_
    refine Sx.G.pure (.bool false) (by kernel_rfl) (fun w => by kernel_rfl) ?_
    refine Sx.G.pure (.bool false) (by kernel_rfl) (fun w => by kernel_rfl) ?_
    refine Sx.G.skip (by kernel_rfl) ?_
    refine Sx.G.skip (by kernel_rfl) ?_
    refine Sx.G.skip (by kernel_rfl) ?_
    refine Sx.G.skip (by kernel_rfl) ?_
    refine Sx.G.skip (by kernel_rfl) ?_
    refine Sx.G.pure (.bool false) (by kernel_rfl) (fun w => by kernel_rfl) ?_
    refine Sx.G.pure (.bool false) (by kernel_rfl) (fun w => by kernel_rfl) ?_
    refine Sx.G.skip (by kernel_rfl) ?_
    refine Sx.G.skip (by kernel_rfl) ?_
    refine Sx.G.skip (by kernel_rfl) ?_
    refine Sx.G.skip (by kernel_rfl) ?_
    refine Sx.G.skip (by kernel_rfl) ?_
    refine Sx.G.pure (.bool false) (by kernel_rfl) (fun w => by kernel_rfl) ?_
    refine Sx.G.pure (.bool false) (by kernel_rfl) (fun w => by kernel_rfl) ?_
    refine Sx.G.skip (by kernel_rfl) ?_
    refine Sx.G.skip (by kernel_rfl) ?_
    refine Sx.G.skip (by kernel_rfl) ?_
    refine Sx.G.skip (by kernel_rfl) ?_
    refine Sx.G.skip (by kernel_rfl) ?_
    refine Sx.G.pure (.bool false) (by kernel_rfl) (fun w => by kernel_rfl) ?_
    refine Sx.G.pure (.bool false) (by kernel_rfl) (fun w => by kernel_rfl) ?_
    refine Sx.G.skip (by kernel_rfl) ?_
    refine Sx.G.skip (by kernel_rfl) ?_
    refine Sx.G.skip (by kernel_rfl) ?_
    refine Sx.G.skip (by kernel_rfl) ?_
    refine Sx.G.skip (by kernel_rfl) ?_
    refine Sx.G.pure (.bool false) (by kernel_rfl) (fun w => by kernel_rfl) ?_
    refine Sx.G.pure (.bool false) (by kernel_rfl) (fun w => by kernel_rfl) ?_
    refine Sx.G.skip (by kernel_rfl) ?_
    refine Sx.G.skip (by kernel_rfl) ?_
    refine Sx.G.skip (by kernel_rfl) ?_
    refine Sx.G.skip (by kernel_rfl) ?_
    refine Sx.G.skip (by kernel_rfl) ?_
    refine Sx.G.pure (.bool false) (by kernel_rfl) (fun w => by kernel_rfl) ?_
    refine Sx.G.pure (.bool false) (by kernel_rfl) (fun w => by kernel_rfl) ?_
    refine Sx.G.nil ?_
    refine Sx.E.next ?_
    refine Sx.C.ret ?_
    refine Sx.E.ret1 (.bool false) rfl (by kernel_rfl) (fun w S => ?_)
    exact ⟨congrArg Ending.returned (congrArg Value.bool (by simp only [sameG, hb3, Bool.and_true, Bool.and_false, Bool.false_and, Bool.true_and])), S.below⟩
  · have hb3 := hc3
    replace hc3 := of_decide_eq_true hc3
    refine Sx.G.pure (.pointer (some ⟨b1, 1, none⟩)) (by kernel_rfl) (fun w => by kernel_rfl) ?_
    refine Sx.G.ld1 3 (.tmp 11) b1 1 1 [.slice PA0 g.prog.length Pc0, .int .i64 g.a, .int .i64 g.pc, .slice PA1 g.wr.length Pc1, .slice PA2 g.lv.length Pc2, .int .i64 g.t.1, .int .i64 g.t.2.1, .bool g.t.2.2, .int .i64 g.pd, .int .i64 g.x.1, .int .i64 g.x.2.1, .bool g.x.2.2.1, .int .i64 g.x.2.2.2, .bool g.hl, .slice PA3 g.seen.length Pc3] (.int .i64 g.a) rfl (by kernel_rfl) (by kernel_rfl) rfl (by kernel_rfl) (by kernel_rfl) ?_
    refine Sx.G.pure (.pointer (some ⟨b2, 1, none⟩)) (by kernel_rfl) (fun w => by kernel_rfl) ?_
    refine Sx.G.ld1 3 (.tmp 13) b2 1 0 [.slice RA0 k.prog.length Rc0, .int .i64 k.a, .int .i64 k.pc, .slice RA1 k.wr.length Rc1, .slice RA2 k.lv.length Rc2, .int .i64 k.t.1, .int .i64 k.t.2.1, .bool k.t.2.2, .int .i64 k.pd, .int .i64 k.x.1, .int .i64 k.x.2.1, .bool k.x.2.2.1, .int .i64 k.x.2.2.2, .bool k.hl, .slice RA3 k.seen.length Rc3] (.int .i64 k.a) rfl (by kernel_rfl) (by kernel_rfl) rfl (by kernel_rfl) (by kernel_rfl) ?_
    refine Sx.G.pure (.bool (g.a == k.a)) (by kernel_rfl) (fun w => by kernel_rfl) ?_
    refine Sx.G.pure (.bool (g.a == k.a)) (by kernel_rfl) (fun w => by kernel_rfl) ?_
    refine Sx.G.pure (.bool (g.a == k.a)) (by kernel_rfl) (fun w => by kernel_rfl) ?_
    cases hc4 : (g.a == k.a)
    · have hb4 := hc4
      refine Sx.G.skip (by kernel_rfl) ?_
      refine Sx.G.skip (by kernel_rfl) ?_
      refine Sx.G.skip (by kernel_rfl) ?_
      refine Sx.G.skip (by kernel_rfl) ?_
      refine Sx.G.skip (by kernel_rfl) ?_
      refine Sx.G.pure (.bool false) (by kernel_rfl) (fun w => by kernel_rfl) ?_
      refine Sx.G.pure (.bool false) (by kernel_rfl) (fun w => by kernel_rfl) ?_
      refine Sx.G.skip (by kernel_rfl) ?_
      refine Sx.G.skip (by kernel_rfl) ?_
      refine Sx.G.skip (by kernel_rfl) ?_
      refine Sx.G.skip (by kernel_rfl) ?_
      refine Sx.G.skip (by kernel_rfl) ?_
      refine Sx.G.pure (.bool false) (by kernel_rfl) (fun w => by kernel_rfl) ?_
      refine Sx.G.pure (.bool false) (by kernel_rfl) (fun w => by kernel_rfl) ?_
      refine Sx.G.skip (by kernel_rfl) ?_
      refine Sx.G.skip (by kernel_rfl) ?_
      refine Sx.G.skip (by kernel_rfl) ?_
      refine Sx.G.skip (by kernel_rfl) ?_
      refine Sx.G.skip (by kernel_rfl) ?_
      refine Sx.G.pure (.bool false) (by kernel_rfl) (fun w => by kernel_rfl) ?_
      refine Sx.G.pure (.bool false) (by kernel_rfl) (fun w => by kernel_rfl) ?_
      refine Sx.G.skip (by kernel_rfl) ?_
      refine Sx.G.skip (by kernel_rfl) ?_
      refine Sx.G.skip (by kernel_rfl) ?_
      refine Sx.G.skip (by kernel_rfl) ?_
      refine Sx.G.skip (by kernel_rfl) ?_
      refine Sx.G.pure (.bool false) (by kernel_rfl) (fun w => by kernel_rfl) ?_
      refine Sx.G.pure (.bool false) (by kernel_rfl) (fun w => by kernel_rfl) ?_
      refine Sx.G.skip (by kernel_rfl) ?_
      refine Sx.G.skip (by kernel_rfl) ?_
      refine Sx.G.skip (by kernel_rfl) ?_
      refine Sx.G.skip (by kernel_rfl) ?_
      refine Sx.G.skip (by kernel_rfl) ?_
      refine Sx.G.pure (.bool false) (by kernel_rfl) (fun w => by kernel_rfl) ?_
      refine Sx.G.pure (.bool false) (by kernel_rfl) (fun w => by kernel_rfl) ?_
      refine Sx.G.skip (by kernel_rfl) ?_
      refine Sx.G.skip (by kernel_rfl) ?_
      refine Sx.G.skip (by kernel_rfl) ?_
      refine Sx.G.skip (by kernel_rfl) ?_
      refine Sx.G.skip (by kernel_rfl) ?_
      refine Sx.G.pure (.bool false) (by kernel_rfl) (fun w => by kernel_rfl) ?_
      refine Sx.G.pure (.bool false) (by kernel_rfl) (fun w => by kernel_rfl) ?_
      refine Sx.G.skip (by kernel_rfl) ?_
      refine Sx.G.skip (by kernel_rfl) ?_
      refine Sx.G.skip (by kernel_rfl) ?_
      refine Sx.G.skip (by kernel_rfl) ?_
      refine Sx.G.skip (by kernel_rfl) ?_
      refine Sx.G.pure (.bool false) (by kernel_rfl) (fun w => by kernel_rfl) ?_
      refine Sx.G.pure (.bool false) (by kernel_rfl) (fun w => by kernel_rfl) ?_
      refine Sx.G.skip (by kernel_rfl) ?_
      refine Sx.G.skip (by kernel_rfl) ?_
      refine Sx.G.skip (by kernel_rfl) ?_
      refine Sx.G.skip (by kernel_rfl) ?_
      refine Sx.G.skip (by kernel_rfl) ?_
      refine Sx.G.pure (.bool false) (by kernel_rfl) (fun w => by kernel_rfl) ?_
      refine Sx.G.pure (.bool false) (by kernel_rfl) (fun w => by kernel_rfl) ?_
      refine Sx.G.nil ?_
      refine Sx.E.next ?_
      refine Sx.C.ret ?_
      refine Sx.E.ret1 (.bool false) rfl (by kernel_rfl) (fun w S => ?_)
      exact ⟨congrArg Ending.returned (congrArg Value.bool (by simp only [sameG, hb3, hb4, Bool.and_true, Bool.and_false, Bool.false_and, Bool.true_and])), S.below⟩
    · have hb4 := hc4
      refine Sx.G.pure (.pointer (some ⟨b1, 2, none⟩)) (by kernel_rfl) (fun w => by kernel_rfl) ?_
      refine Sx.G.ld1 3 (.tmp 18) b1 2 1 [.slice PA0 g.prog.length Pc0, .int .i64 g.a, .int .i64 g.pc, .slice PA1 g.wr.length Pc1, .slice PA2 g.lv.length Pc2, .int .i64 g.t.1, .int .i64 g.t.2.1, .bool g.t.2.2, .int .i64 g.pd, .int .i64 g.x.1, .int .i64 g.x.2.1, .bool g.x.2.2.1, .int .i64 g.x.2.2.2, .bool g.hl, .slice PA3 g.seen.length Pc3] (.int .i64 g.pc) rfl (by kernel_rfl) (by kernel_rfl) rfl (by kernel_rfl) (by kernel_rfl) ?_
      refine Sx.G.pure (.pointer (some ⟨b2, 2, none⟩)) (by kernel_rfl) (fun w => by kernel_rfl) ?_
      refine Sx.G.ld1 3 (.tmp 20) b2 2 0 [.slice RA0 k.prog.length Rc0, .int .i64 k.a, .int .i64 k.pc, .slice RA1 k.wr.length Rc1, .slice RA2 k.lv.length Rc2, .int .i64 k.t.1, .int .i64 k.t.2.1, .bool k.t.2.2, .int .i64 k.pd, .int .i64 k.x.1, .int .i64 k.x.2.1, .bool k.x.2.2.1, .int .i64 k.x.2.2.2, .bool k.hl, .slice RA3 k.seen.length Rc3] (.int .i64 k.pc) rfl (by kernel_rfl) (by kernel_rfl) rfl (by kernel_rfl) (by kernel_rfl) ?_
      refine Sx.G.pure (.bool (g.pc == k.pc)) (by kernel_rfl) (fun w => by kernel_rfl) ?_
      refine Sx.G.pure (.bool (g.pc == k.pc)) (by kernel_rfl) (fun w => by kernel_rfl) ?_
      refine Sx.G.pure (.bool (g.pc == k.pc)) (by kernel_rfl) (fun w => by kernel_rfl) ?_
      cases hc5 : (g.pc == k.pc)
      · have hb5 := hc5
        refine Sx.G.skip (by kernel_rfl) ?_
        refine Sx.G.skip (by kernel_rfl) ?_
        refine Sx.G.skip (by kernel_rfl) ?_
        refine Sx.G.skip (by kernel_rfl) ?_
        refine Sx.G.skip (by kernel_rfl) ?_
        refine Sx.G.pure (.bool false) (by kernel_rfl) (fun w => by kernel_rfl) ?_
        refine Sx.G.pure (.bool false) (by kernel_rfl) (fun w => by kernel_rfl) ?_
        refine Sx.G.skip (by kernel_rfl) ?_
        refine Sx.G.skip (by kernel_rfl) ?_
        refine Sx.G.skip (by kernel_rfl) ?_
        refine Sx.G.skip (by kernel_rfl) ?_
        refine Sx.G.skip (by kernel_rfl) ?_
        refine Sx.G.pure (.bool false) (by kernel_rfl) (fun w => by kernel_rfl) ?_
        refine Sx.G.pure (.bool false) (by kernel_rfl) (fun w => by kernel_rfl) ?_
        refine Sx.G.skip (by kernel_rfl) ?_
        refine Sx.G.skip (by kernel_rfl) ?_
        refine Sx.G.skip (by kernel_rfl) ?_
        refine Sx.G.skip (by kernel_rfl) ?_
        refine Sx.G.skip (by kernel_rfl) ?_
        refine Sx.G.pure (.bool false) (by kernel_rfl) (fun w => by kernel_rfl) ?_
        refine Sx.G.pure (.bool false) (by kernel_rfl) (fun w => by kernel_rfl) ?_
        refine Sx.G.skip (by kernel_rfl) ?_
        refine Sx.G.skip (by kernel_rfl) ?_
        refine Sx.G.skip (by kernel_rfl) ?_
        refine Sx.G.skip (by kernel_rfl) ?_
        refine Sx.G.skip (by kernel_rfl) ?_
        refine Sx.G.pure (.bool false) (by kernel_rfl) (fun w => by kernel_rfl) ?_
        refine Sx.G.pure (.bool false) (by kernel_rfl) (fun w => by kernel_rfl) ?_
        refine Sx.G.skip (by kernel_rfl) ?_
        refine Sx.G.skip (by kernel_rfl) ?_
        refine Sx.G.skip (by kernel_rfl) ?_
        refine Sx.G.skip (by kernel_rfl) ?_
        refine Sx.G.skip (by kernel_rfl) ?_
        refine Sx.G.pure (.bool false) (by kernel_rfl) (fun w => by kernel_rfl) ?_
        refine Sx.G.pure (.bool false) (by kernel_rfl) (fun w => by kernel_rfl) ?_
        refine Sx.G.skip (by kernel_rfl) ?_
        refine Sx.G.skip (by kernel_rfl) ?_
        refine Sx.G.skip (by kernel_rfl) ?_
        refine Sx.G.skip (by kernel_rfl) ?_
        refine Sx.G.skip (by kernel_rfl) ?_
        refine Sx.G.pure (.bool false) (by kernel_rfl) (fun w => by kernel_rfl) ?_
        refine Sx.G.pure (.bool false) (by kernel_rfl) (fun w => by kernel_rfl) ?_
        refine Sx.G.skip (by kernel_rfl) ?_
        refine Sx.G.skip (by kernel_rfl) ?_
        refine Sx.G.skip (by kernel_rfl) ?_
        refine Sx.G.skip (by kernel_rfl) ?_
        refine Sx.G.skip (by kernel_rfl) ?_
        refine Sx.G.pure (.bool false) (by kernel_rfl) (fun w => by kernel_rfl) ?_
        refine Sx.G.pure (.bool false) (by kernel_rfl) (fun w => by kernel_rfl) ?_
        refine Sx.G.nil ?_
        refine Sx.E.next ?_
        refine Sx.C.ret ?_
        refine Sx.E.ret1 (.bool false) rfl (by kernel_rfl) (fun w S => ?_)
        exact ⟨congrArg Ending.returned (congrArg Value.bool (by simp only [sameG, hb3, hb4, hb5, Bool.and_true, Bool.and_false, Bool.false_and, Bool.true_and])), S.below⟩
      · have hb5 := hc5
        refine Sx.G.pure (.pointer (some ⟨b1, 3, none⟩)) (by kernel_rfl) (fun w => by kernel_rfl) ?_
        refine Sx.G.ld1 27 (.tmp 25) b1 3 1 [.slice PA0 g.prog.length Pc0, .int .i64 g.a, .int .i64 g.pc, .slice PA1 g.wr.length Pc1, .slice PA2 g.lv.length Pc2, .int .i64 g.t.1, .int .i64 g.t.2.1, .bool g.t.2.2, .int .i64 g.pd, .int .i64 g.x.1, .int .i64 g.x.2.1, .bool g.x.2.2.1, .int .i64 g.x.2.2.2, .bool g.hl, .slice PA3 g.seen.length Pc3] (.slice PA1 g.wr.length Pc1) rfl (by kernel_rfl) (by kernel_rfl) rfl (by kernel_rfl) (by kernel_rfl) ?_
        refine Sx.G.pure (.pointer (some ⟨b2, 3, none⟩)) (by kernel_rfl) (fun w => by kernel_rfl) ?_
        refine Sx.G.ld1 27 (.tmp 27) b2 3 0 [.slice RA0 k.prog.length Rc0, .int .i64 k.a, .int .i64 k.pc, .slice RA1 k.wr.length Rc1, .slice RA2 k.lv.length Rc2, .int .i64 k.t.1, .int .i64 k.t.2.1, .bool k.t.2.2, .int .i64 k.pd, .int .i64 k.x.1, .int .i64 k.x.2.1, .bool k.x.2.2.1, .int .i64 k.x.2.2.2, .bool k.hl, .slice RA3 k.seen.length Rc3] (.slice RA1 k.wr.length Rc1) rfl (by kernel_rfl) (by kernel_rfl) rfl (by kernel_rfl) (by kernel_rfl) ?_
        refine Sx.G.plain 81 #[.slice PA1 g.wr.length Pc1, .slice RA1 k.wr.length Rc1] (.bool (decide (g.wr = k.wr))) (by kernel_rfl) (fun w => by kernel_rfl) (fun w S => by exact ((Slots.spec_same PA1 RA1 g.wr.length k.wr.length Pc1 Rc1 0 0 _ _ g.wr k.wr _ q1 p1 rfl rfl (by rw [← pcells_s]; exact p2_lies (St.old S h1)) (by rw [← pcells_s]; exact p2_lies (St.old S j1))).mono fun e w' h => And.intro h.1 (drew_below h.2))) ?_
        refine Sx.G.pure (.bool (decide (g.wr = k.wr))) (by kernel_rfl) (fun w => by kernel_rfl) ?_
        refine Sx.G.pure (.bool (decide (g.wr = k.wr))) (by kernel_rfl) (fun w => by kernel_rfl) ?_
        cases hc6 : (decide (g.wr = k.wr))
        · have hb6 := hc6
          replace hc6 := of_decide_eq_false hc6
          refine Sx.G.skip (by kernel_rfl) ?_
          refine Sx.G.skip (by kernel_rfl) ?_
          refine Sx.G.skip (by kernel_rfl) ?_
          refine Sx.G.skip (by kernel_rfl) ?_
          refine Sx.G.skip (by kernel_rfl) ?_
          refine Sx.G.pure (.bool false) (by kernel_rfl) (fun w => by kernel_rfl) ?_
          refine Sx.G.pure (.bool false) (by kernel_rfl) (fun w => by kernel_rfl) ?_
          refine Sx.G.skip (by kernel_rfl) ?_
          refine Sx.G.skip (by kernel_rfl) ?_
          refine Sx.G.skip (by kernel_rfl) ?_
          refine Sx.G.skip (by kernel_rfl) ?_
          refine Sx.G.skip (by kernel_rfl) ?_
          refine Sx.G.pure (.bool false) (by kernel_rfl) (fun w => by kernel_rfl) ?_
          refine Sx.G.pure (.bool false) (by kernel_rfl) (fun w => by kernel_rfl) ?_
          refine Sx.G.skip (by kernel_rfl) ?_
          refine Sx.G.skip (by kernel_rfl) ?_
          refine Sx.G.skip (by kernel_rfl) ?_
          refine Sx.G.skip (by kernel_rfl) ?_
          refine Sx.G.skip (by kernel_rfl) ?_
          refine Sx.G.pure (.bool false) (by kernel_rfl) (fun w => by kernel_rfl) ?_
          refine Sx.G.pure (.bool false) (by kernel_rfl) (fun w => by kernel_rfl) ?_
          refine Sx.G.skip (by kernel_rfl) ?_
          refine Sx.G.skip (by kernel_rfl) ?_
          refine Sx.G.skip (by kernel_rfl) ?_
          refine Sx.G.skip (by kernel_rfl) ?_
          refine Sx.G.skip (by kernel_rfl) ?_
          refine Sx.G.pure (.bool false) (by kernel_rfl) (fun w => by kernel_rfl) ?_
          refine Sx.G.pure (.bool false) (by kernel_rfl) (fun w => by kernel_rfl) ?_
          refine Sx.G.skip (by kernel_rfl) ?_
          refine Sx.G.skip (by kernel_rfl) ?_
          refine Sx.G.skip (by kernel_rfl) ?_
          refine Sx.G.skip (by kernel_rfl) ?_
          refine Sx.G.skip (by kernel_rfl) ?_
          refine Sx.G.pure (.bool false) (by kernel_rfl) (fun w => by kernel_rfl) ?_
          refine Sx.G.pure (.bool false) (by kernel_rfl) (fun w => by kernel_rfl) ?_
          refine Sx.G.skip (by kernel_rfl) ?_
          refine Sx.G.skip (by kernel_rfl) ?_
          refine Sx.G.skip (by kernel_rfl) ?_
          refine Sx.G.skip (by kernel_rfl) ?_
          refine Sx.G.skip (by kernel_rfl) ?_
          refine Sx.G.pure (.bool false) (by kernel_rfl) (fun w => by kernel_rfl) ?_
          refine Sx.G.pure (.bool false) (by kernel_rfl) (fun w => by kernel_rfl) ?_
          refine Sx.G.nil ?_
          refine Sx.E.next ?_
          refine Sx.C.ret ?_
          refine Sx.E.ret1 (.bool false) rfl (by kernel_rfl) (fun w S => ?_)
          exact ⟨congrArg Ending.returned (congrArg Value.bool (by simp only [sameG, hb3, hb4, hb5, hb6, Bool.and_true, Bool.and_false, Bool.false_and, Bool.true_and])), S.below⟩
        · have hb6 := hc6
          replace hc6 := of_decide_eq_true hc6
          refine Sx.G.pure (.pointer (some ⟨b1, 4, none⟩)) (by kernel_rfl) (fun w => by kernel_rfl) ?_
          refine Sx.G.ld1 27 (.tmp 32) b1 4 1 [.slice PA0 g.prog.length Pc0, .int .i64 g.a, .int .i64 g.pc, .slice PA1 g.wr.length Pc1, .slice PA2 g.lv.length Pc2, .int .i64 g.t.1, .int .i64 g.t.2.1, .bool g.t.2.2, .int .i64 g.pd, .int .i64 g.x.1, .int .i64 g.x.2.1, .bool g.x.2.2.1, .int .i64 g.x.2.2.2, .bool g.hl, .slice PA3 g.seen.length Pc3] (.slice PA2 g.lv.length Pc2) rfl (by kernel_rfl) (by kernel_rfl) rfl (by kernel_rfl) (by kernel_rfl) ?_
          refine Sx.G.pure (.pointer (some ⟨b2, 4, none⟩)) (by kernel_rfl) (fun w => by kernel_rfl) ?_
          refine Sx.G.ld1 27 (.tmp 34) b2 4 0 [.slice RA0 k.prog.length Rc0, .int .i64 k.a, .int .i64 k.pc, .slice RA1 k.wr.length Rc1, .slice RA2 k.lv.length Rc2, .int .i64 k.t.1, .int .i64 k.t.2.1, .bool k.t.2.2, .int .i64 k.pd, .int .i64 k.x.1, .int .i64 k.x.2.1, .bool k.x.2.2.1, .int .i64 k.x.2.2.2, .bool k.hl, .slice RA3 k.seen.length Rc3] (.slice RA2 k.lv.length Rc2) rfl (by kernel_rfl) (by kernel_rfl) rfl (by kernel_rfl) (by kernel_rfl) ?_
          refine Sx.G.plain 81 #[.slice PA2 g.lv.length Pc2, .slice RA2 k.lv.length Rc2] (.bool (decide (g.lv = k.lv))) (by kernel_rfl) (fun w => by kernel_rfl) (fun w S => by exact ((Slots.spec_same PA2 RA2 g.lv.length k.lv.length Pc2 Rc2 0 0 _ _ g.lv k.lv _ q2 p2 rfl rfl (by rw [← pcells_s]; exact p2_lies (St.old S h2)) (by rw [← pcells_s]; exact p2_lies (St.old S j2))).mono fun e w' h => And.intro h.1 (drew_below h.2))) ?_
          refine Sx.G.pure (.bool (decide (g.lv = k.lv))) (by kernel_rfl) (fun w => by kernel_rfl) ?_
          refine Sx.G.pure (.bool (decide (g.lv = k.lv))) (by kernel_rfl) (fun w => by kernel_rfl) ?_
          cases hc7 : (decide (g.lv = k.lv))
          · have hb7 := hc7
            replace hc7 := of_decide_eq_false hc7
            refine Sx.G.skip (by kernel_rfl) ?_
            refine Sx.G.skip (by kernel_rfl) ?_
            refine Sx.G.skip (by kernel_rfl) ?_
            refine Sx.G.skip (by kernel_rfl) ?_
            refine Sx.G.skip (by kernel_rfl) ?_
            refine Sx.G.pure (.bool false) (by kernel_rfl) (fun w => by kernel_rfl) ?_
            refine Sx.G.pure (.bool false) (by kernel_rfl) (fun w => by kernel_rfl) ?_
            refine Sx.G.skip (by kernel_rfl) ?_
            refine Sx.G.skip (by kernel_rfl) ?_
            refine Sx.G.skip (by kernel_rfl) ?_
            refine Sx.G.skip (by kernel_rfl) ?_
            refine Sx.G.skip (by kernel_rfl) ?_
            refine Sx.G.pure (.bool false) (by kernel_rfl) (fun w => by kernel_rfl) ?_
            refine Sx.G.pure (.bool false) (by kernel_rfl) (fun w => by kernel_rfl) ?_
            refine Sx.G.skip (by kernel_rfl) ?_
            refine Sx.G.skip (by kernel_rfl) ?_
            refine Sx.G.skip (by kernel_rfl) ?_
            refine Sx.G.skip (by kernel_rfl) ?_
            refine Sx.G.skip (by kernel_rfl) ?_
            refine Sx.G.pure (.bool false) (by kernel_rfl) (fun w => by kernel_rfl) ?_
            refine Sx.G.pure (.bool false) (by kernel_rfl) (fun w => by kernel_rfl) ?_
            refine Sx.G.skip (by kernel_rfl) ?_
            refine Sx.G.skip (by kernel_rfl) ?_
            refine Sx.G.skip (by kernel_rfl) ?_
            refine Sx.G.skip (by kernel_rfl) ?_
            refine Sx.G.skip (by kernel_rfl) ?_
            refine Sx.G.pure (.bool false) (by kernel_rfl) (fun w => by kernel_rfl) ?_
            refine Sx.G.pure (.bool false) (by kernel_rfl) (fun w => by kernel_rfl) ?_
            refine Sx.G.skip (by kernel_rfl) ?_
            refine Sx.G.skip (by kernel_rfl) ?_
            refine Sx.G.skip (by kernel_rfl) ?_
            refine Sx.G.skip (by kernel_rfl) ?_
            refine Sx.G.skip (by kernel_rfl) ?_
            refine Sx.G.pure (.bool false) (by kernel_rfl) (fun w => by kernel_rfl) ?_
            refine Sx.G.pure (.bool false) (by kernel_rfl) (fun w => by kernel_rfl) ?_
            refine Sx.G.nil ?_
            refine Sx.E.next ?_
            refine Sx.C.ret ?_
            refine Sx.E.ret1 (.bool false) rfl (by kernel_rfl) (fun w S => ?_)
            exact ⟨congrArg Ending.returned (congrArg Value.bool (by simp only [sameG, hb3, hb4, hb5, hb6, hb7, Bool.and_true, Bool.and_false, Bool.false_and, Bool.true_and])), S.below⟩
          · have hb7 := hc7
            replace hc7 := of_decide_eq_true hc7
            refine Sx.G.pure (.pointer (some ⟨b1, 5, none⟩)) (by kernel_rfl) (fun w => by kernel_rfl) ?_
            refine Sx.G.ld 29 (.tmp 39) b1 5 1 [.slice PA0 g.prog.length Pc0, .int .i64 g.a, .int .i64 g.pc, .slice PA1 g.wr.length Pc1, .slice PA2 g.lv.length Pc2, .int .i64 g.t.1, .int .i64 g.t.2.1, .bool g.t.2.2, .int .i64 g.pd, .int .i64 g.x.1, .int .i64 g.x.2.1, .bool g.x.2.2.1, .int .i64 g.x.2.2.2, .bool g.hl, .slice PA3 g.seen.length Pc3] [.int .i64 g.t.1, .int .i64 g.t.2.1, .bool g.t.2.2] rfl (by kernel_rfl) (by kernel_rfl) rfl (by kernel_rfl) (by kernel_rfl) (by kernel_rfl) ?_
            refine Sx.G.pure (.pointer (some ⟨b2, 5, none⟩)) (by kernel_rfl) (fun w => by kernel_rfl) ?_
            refine Sx.G.ld 29 (.tmp 41) b2 5 0 [.slice RA0 k.prog.length Rc0, .int .i64 k.a, .int .i64 k.pc, .slice RA1 k.wr.length Rc1, .slice RA2 k.lv.length Rc2, .int .i64 k.t.1, .int .i64 k.t.2.1, .bool k.t.2.2, .int .i64 k.pd, .int .i64 k.x.1, .int .i64 k.x.2.1, .bool k.x.2.2.1, .int .i64 k.x.2.2.2, .bool k.hl, .slice RA3 k.seen.length Rc3] [.int .i64 k.t.1, .int .i64 k.t.2.1, .bool k.t.2.2] rfl (by kernel_rfl) (by kernel_rfl) rfl (by kernel_rfl) (by kernel_rfl) (by kernel_rfl) ?_
            refine Sx.G.pure (.bool ((g.t.1 == k.t.1 && g.t.2.1 == k.t.2.1 && g.t.2.2 == k.t.2.2))) (by kernel_rfl) (fun w => Sx.run_eqs rfl rfl rfl (by kernel_rfl) (fun w => eqv_Ctl_eql g.t.1 g.t.2.1 g.t.2.2 k.t.1 k.t.2.1 k.t.2.2 w) w) ?_
            refine Sx.G.pure (.bool ((g.t.1 == k.t.1 && g.t.2.1 == k.t.2.1 && g.t.2.2 == k.t.2.2))) (by kernel_rfl) (fun w => by kernel_rfl) ?_
            refine Sx.G.pure (.bool ((g.t.1 == k.t.1 && g.t.2.1 == k.t.2.1 && g.t.2.2 == k.t.2.2))) (by kernel_rfl) (fun w => by kernel_rfl) ?_
            cases hc8 : ((g.t.1 == k.t.1 && g.t.2.1 == k.t.2.1 && g.t.2.2 == k.t.2.2))
            · have hb8 := hc8
              refine Sx.G.skip (by kernel_rfl) ?_
              refine Sx.G.skip (by kernel_rfl) ?_
              refine Sx.G.skip (by kernel_rfl) ?_
              refine Sx.G.skip (by kernel_rfl) ?_
              refine Sx.G.skip (by kernel_rfl) ?_
              refine Sx.G.pure (.bool false) (by kernel_rfl) (fun w => by kernel_rfl) ?_
              refine Sx.G.pure (.bool false) (by kernel_rfl) (fun w => by kernel_rfl) ?_
              refine Sx.G.skip (by kernel_rfl) ?_
              refine Sx.G.skip (by kernel_rfl) ?_
              refine Sx.G.skip (by kernel_rfl) ?_
              refine Sx.G.skip (by kernel_rfl) ?_
              refine Sx.G.skip (by kernel_rfl) ?_
              refine Sx.G.pure (.bool false) (by kernel_rfl) (fun w => by kernel_rfl) ?_
              refine Sx.G.pure (.bool false) (by kernel_rfl) (fun w => by kernel_rfl) ?_
              refine Sx.G.skip (by kernel_rfl) ?_
              refine Sx.G.skip (by kernel_rfl) ?_
              refine Sx.G.skip (by kernel_rfl) ?_
              refine Sx.G.skip (by kernel_rfl) ?_
              refine Sx.G.skip (by kernel_rfl) ?_
              refine Sx.G.pure (.bool false) (by kernel_rfl) (fun w => by kernel_rfl) ?_
              refine Sx.G.pure (.bool false) (by kernel_rfl) (fun w => by kernel_rfl) ?_
              refine Sx.G.skip (by kernel_rfl) ?_
              refine Sx.G.skip (by kernel_rfl) ?_
              refine Sx.G.skip (by kernel_rfl) ?_
              refine Sx.G.skip (by kernel_rfl) ?_
              refine Sx.G.skip (by kernel_rfl) ?_
              refine Sx.G.pure (.bool false) (by kernel_rfl) (fun w => by kernel_rfl) ?_
              refine Sx.G.pure (.bool false) (by kernel_rfl) (fun w => by kernel_rfl) ?_
              refine Sx.G.nil ?_
              refine Sx.E.next ?_
              refine Sx.C.ret ?_
              refine Sx.E.ret1 (.bool false) rfl (by kernel_rfl) (fun w S => ?_)
              exact ⟨congrArg Ending.returned (congrArg Value.bool (by simp only [sameG, hb3, hb4, hb5, hb6, hb7, hb8, Bool.and_true, Bool.and_false, Bool.false_and, Bool.true_and])), S.below⟩
            · have hb8 := hc8
              refine Sx.G.pure (.pointer (some ⟨b1, 8, none⟩)) (by kernel_rfl) (fun w => by kernel_rfl) ?_
              refine Sx.G.ld1 3 (.tmp 46) b1 8 1 [.slice PA0 g.prog.length Pc0, .int .i64 g.a, .int .i64 g.pc, .slice PA1 g.wr.length Pc1, .slice PA2 g.lv.length Pc2, .int .i64 g.t.1, .int .i64 g.t.2.1, .bool g.t.2.2, .int .i64 g.pd, .int .i64 g.x.1, .int .i64 g.x.2.1, .bool g.x.2.2.1, .int .i64 g.x.2.2.2, .bool g.hl, .slice PA3 g.seen.length Pc3] (.int .i64 g.pd) rfl (by kernel_rfl) (by kernel_rfl) rfl (by kernel_rfl) (by kernel_rfl) ?_
              refine Sx.G.pure (.pointer (some ⟨b2, 8, none⟩)) (by kernel_rfl) (fun w => by kernel_rfl) ?_
              refine Sx.G.ld1 3 (.tmp 48) b2 8 0 [.slice RA0 k.prog.length Rc0, .int .i64 k.a, .int .i64 k.pc, .slice RA1 k.wr.length Rc1, .slice RA2 k.lv.length Rc2, .int .i64 k.t.1, .int .i64 k.t.2.1, .bool k.t.2.2, .int .i64 k.pd, .int .i64 k.x.1, .int .i64 k.x.2.1, .bool k.x.2.2.1, .int .i64 k.x.2.2.2, .bool k.hl, .slice RA3 k.seen.length Rc3] (.int .i64 k.pd) rfl (by kernel_rfl) (by kernel_rfl) rfl (by kernel_rfl) (by kernel_rfl) ?_
              refine Sx.G.pure (.bool (g.pd == k.pd)) (by kernel_rfl) (fun w => by kernel_rfl) ?_
              refine Sx.G.pure (.bool (g.pd == k.pd)) (by kernel_rfl) (fun w => by kernel_rfl) ?_
              refine Sx.G.pure (.bool (g.pd == k.pd)) (by kernel_rfl) (fun w => by kernel_rfl) ?_
              cases hc9 : (g.pd == k.pd)
              · have hb9 := hc9
                refine Sx.G.skip (by kernel_rfl) ?_
                refine Sx.G.skip (by kernel_rfl) ?_
                refine Sx.G.skip (by kernel_rfl) ?_
                refine Sx.G.skip (by kernel_rfl) ?_
                refine Sx.G.skip (by kernel_rfl) ?_
                refine Sx.G.pure (.bool false) (by kernel_rfl) (fun w => by kernel_rfl) ?_
                refine Sx.G.pure (.bool false) (by kernel_rfl) (fun w => by kernel_rfl) ?_
                refine Sx.G.skip (by kernel_rfl) ?_
                refine Sx.G.skip (by kernel_rfl) ?_
                refine Sx.G.skip (by kernel_rfl) ?_
                refine Sx.G.skip (by kernel_rfl) ?_
                refine Sx.G.skip (by kernel_rfl) ?_
                refine Sx.G.pure (.bool false) (by kernel_rfl) (fun w => by kernel_rfl) ?_
                refine Sx.G.pure (.bool false) (by kernel_rfl) (fun w => by kernel_rfl) ?_
                refine Sx.G.skip (by kernel_rfl) ?_
                refine Sx.G.skip (by kernel_rfl) ?_
                refine Sx.G.skip (by kernel_rfl) ?_
                refine Sx.G.skip (by kernel_rfl) ?_
                refine Sx.G.skip (by kernel_rfl) ?_
                refine Sx.G.pure (.bool false) (by kernel_rfl) (fun w => by kernel_rfl) ?_
                refine Sx.G.pure (.bool false) (by kernel_rfl) (fun w => by kernel_rfl) ?_
                refine Sx.G.nil ?_
                refine Sx.E.next ?_
                refine Sx.C.ret ?_
                refine Sx.E.ret1 (.bool false) rfl (by kernel_rfl) (fun w S => ?_)
                exact ⟨congrArg Ending.returned (congrArg Value.bool (by simp only [sameG, hb3, hb4, hb5, hb6, hb7, hb8, hb9, Bool.and_true, Bool.and_false, Bool.false_and, Bool.true_and])), S.below⟩
              · have hb9 := hc9
                refine Sx.G.pure (.pointer (some ⟨b1, 9, none⟩)) (by kernel_rfl) (fun w => by kernel_rfl) ?_
                refine Sx.G.ld 31 (.tmp 53) b1 9 1 [.slice PA0 g.prog.length Pc0, .int .i64 g.a, .int .i64 g.pc, .slice PA1 g.wr.length Pc1, .slice PA2 g.lv.length Pc2, .int .i64 g.t.1, .int .i64 g.t.2.1, .bool g.t.2.2, .int .i64 g.pd, .int .i64 g.x.1, .int .i64 g.x.2.1, .bool g.x.2.2.1, .int .i64 g.x.2.2.2, .bool g.hl, .slice PA3 g.seen.length Pc3] [.int .i64 g.x.1, .int .i64 g.x.2.1, .bool g.x.2.2.1, .int .i64 g.x.2.2.2] rfl (by kernel_rfl) (by kernel_rfl) rfl (by kernel_rfl) (by kernel_rfl) (by kernel_rfl) ?_
                refine Sx.G.pure (.pointer (some ⟨b2, 9, none⟩)) (by kernel_rfl) (fun w => by kernel_rfl) ?_
                refine Sx.G.ld 31 (.tmp 55) b2 9 0 [.slice RA0 k.prog.length Rc0, .int .i64 k.a, .int .i64 k.pc, .slice RA1 k.wr.length Rc1, .slice RA2 k.lv.length Rc2, .int .i64 k.t.1, .int .i64 k.t.2.1, .bool k.t.2.2, .int .i64 k.pd, .int .i64 k.x.1, .int .i64 k.x.2.1, .bool k.x.2.2.1, .int .i64 k.x.2.2.2, .bool k.hl, .slice RA3 k.seen.length Rc3] [.int .i64 k.x.1, .int .i64 k.x.2.1, .bool k.x.2.2.1, .int .i64 k.x.2.2.2] rfl (by kernel_rfl) (by kernel_rfl) rfl (by kernel_rfl) (by kernel_rfl) (by kernel_rfl) ?_
                refine Sx.G.pure (.bool ((g.x.1 == k.x.1 && g.x.2.1 == k.x.2.1 && g.x.2.2.1 == k.x.2.2.1 && g.x.2.2.2 == k.x.2.2.2))) (by kernel_rfl) (fun w => Sx.run_eqs rfl rfl rfl (by kernel_rfl) (fun w => eqv_Exit_eql g.x.1 g.x.2.1 g.x.2.2.1 g.x.2.2.2 k.x.1 k.x.2.1 k.x.2.2.1 k.x.2.2.2 w) w) ?_
                refine Sx.G.pure (.bool ((g.x.1 == k.x.1 && g.x.2.1 == k.x.2.1 && g.x.2.2.1 == k.x.2.2.1 && g.x.2.2.2 == k.x.2.2.2))) (by kernel_rfl) (fun w => by kernel_rfl) ?_
                refine Sx.G.pure (.bool ((g.x.1 == k.x.1 && g.x.2.1 == k.x.2.1 && g.x.2.2.1 == k.x.2.2.1 && g.x.2.2.2 == k.x.2.2.2))) (by kernel_rfl) (fun w => by kernel_rfl) ?_
                cases hc10 : ((g.x.1 == k.x.1 && g.x.2.1 == k.x.2.1 && g.x.2.2.1 == k.x.2.2.1 && g.x.2.2.2 == k.x.2.2.2))
                · have hb10 := hc10
                  refine Sx.G.skip (by kernel_rfl) ?_
                  refine Sx.G.skip (by kernel_rfl) ?_
                  refine Sx.G.skip (by kernel_rfl) ?_
                  refine Sx.G.skip (by kernel_rfl) ?_
                  refine Sx.G.skip (by kernel_rfl) ?_
                  refine Sx.G.pure (.bool false) (by kernel_rfl) (fun w => by kernel_rfl) ?_
                  refine Sx.G.pure (.bool false) (by kernel_rfl) (fun w => by kernel_rfl) ?_
                  refine Sx.G.skip (by kernel_rfl) ?_
                  refine Sx.G.skip (by kernel_rfl) ?_
                  refine Sx.G.skip (by kernel_rfl) ?_
                  refine Sx.G.skip (by kernel_rfl) ?_
                  refine Sx.G.skip (by kernel_rfl) ?_
                  refine Sx.G.pure (.bool false) (by kernel_rfl) (fun w => by kernel_rfl) ?_
                  refine Sx.G.pure (.bool false) (by kernel_rfl) (fun w => by kernel_rfl) ?_
                  refine Sx.G.nil ?_
                  refine Sx.E.next ?_
                  refine Sx.C.ret ?_
                  refine Sx.E.ret1 (.bool false) rfl (by kernel_rfl) (fun w S => ?_)
                  exact ⟨congrArg Ending.returned (congrArg Value.bool (by simp only [sameG, hb3, hb4, hb5, hb6, hb7, hb8, hb9, hb10, Bool.and_true, Bool.and_false, Bool.false_and, Bool.true_and])), S.below⟩
                · have hb10 := hc10
                  refine Sx.G.pure (.pointer (some ⟨b1, 13, none⟩)) (by kernel_rfl) (fun w => by kernel_rfl) ?_
                  refine Sx.G.ld1 4 (.tmp 60) b1 13 1 [.slice PA0 g.prog.length Pc0, .int .i64 g.a, .int .i64 g.pc, .slice PA1 g.wr.length Pc1, .slice PA2 g.lv.length Pc2, .int .i64 g.t.1, .int .i64 g.t.2.1, .bool g.t.2.2, .int .i64 g.pd, .int .i64 g.x.1, .int .i64 g.x.2.1, .bool g.x.2.2.1, .int .i64 g.x.2.2.2, .bool g.hl, .slice PA3 g.seen.length Pc3] (.bool g.hl) rfl (by kernel_rfl) (by kernel_rfl) rfl (by kernel_rfl) (by kernel_rfl) ?_
                  refine Sx.G.pure (.pointer (some ⟨b2, 13, none⟩)) (by kernel_rfl) (fun w => by kernel_rfl) ?_
                  refine Sx.G.ld1 4 (.tmp 62) b2 13 0 [.slice RA0 k.prog.length Rc0, .int .i64 k.a, .int .i64 k.pc, .slice RA1 k.wr.length Rc1, .slice RA2 k.lv.length Rc2, .int .i64 k.t.1, .int .i64 k.t.2.1, .bool k.t.2.2, .int .i64 k.pd, .int .i64 k.x.1, .int .i64 k.x.2.1, .bool k.x.2.2.1, .int .i64 k.x.2.2.2, .bool k.hl, .slice RA3 k.seen.length Rc3] (.bool k.hl) rfl (by kernel_rfl) (by kernel_rfl) rfl (by kernel_rfl) (by kernel_rfl) ?_
                  refine Sx.G.pure (.bool (g.hl == k.hl)) (by kernel_rfl) (fun w => by kernel_rfl) ?_
                  refine Sx.G.pure (.bool (g.hl == k.hl)) (by kernel_rfl) (fun w => by kernel_rfl) ?_
                  refine Sx.G.pure (.bool (g.hl == k.hl)) (by kernel_rfl) (fun w => by kernel_rfl) ?_
                  cases hc11 : (g.hl == k.hl)
                  · have hb11 := hc11
                    refine Sx.G.skip (by kernel_rfl) ?_
                    refine Sx.G.skip (by kernel_rfl) ?_
                    refine Sx.G.skip (by kernel_rfl) ?_
                    refine Sx.G.skip (by kernel_rfl) ?_
                    refine Sx.G.skip (by kernel_rfl) ?_
                    refine Sx.G.pure (.bool false) (by kernel_rfl) (fun w => by kernel_rfl) ?_
                    refine Sx.G.pure (.bool false) (by kernel_rfl) (fun w => by kernel_rfl) ?_
                    refine Sx.G.nil ?_
                    refine Sx.E.next ?_
                    refine Sx.C.ret ?_
                    refine Sx.E.ret1 (.bool false) rfl (by kernel_rfl) (fun w S => ?_)
                    exact ⟨congrArg Ending.returned (congrArg Value.bool (by simp only [sameG, hb3, hb4, hb5, hb6, hb7, hb8, hb9, hb10, hb11, Bool.and_true, Bool.and_false, Bool.false_and, Bool.true_and])), S.below⟩
                  · have hb11 := hc11
                    refine Sx.G.pure (.pointer (some ⟨b1, 14, none⟩)) (by kernel_rfl) (fun w => by kernel_rfl) ?_
                    refine Sx.G.ld1 24 (.tmp 67) b1 14 1 [.slice PA0 g.prog.length Pc0, .int .i64 g.a, .int .i64 g.pc, .slice PA1 g.wr.length Pc1, .slice PA2 g.lv.length Pc2, .int .i64 g.t.1, .int .i64 g.t.2.1, .bool g.t.2.2, .int .i64 g.pd, .int .i64 g.x.1, .int .i64 g.x.2.1, .bool g.x.2.2.1, .int .i64 g.x.2.2.2, .bool g.hl, .slice PA3 g.seen.length Pc3] (.slice PA3 g.seen.length Pc3) rfl (by kernel_rfl) (by kernel_rfl) rfl (by kernel_rfl) (by kernel_rfl) ?_
                    refine Sx.G.pure (.pointer (some ⟨b2, 14, none⟩)) (by kernel_rfl) (fun w => by kernel_rfl) ?_
                    refine Sx.G.ld1 24 (.tmp 69) b2 14 0 [.slice RA0 k.prog.length Rc0, .int .i64 k.a, .int .i64 k.pc, .slice RA1 k.wr.length Rc1, .slice RA2 k.lv.length Rc2, .int .i64 k.t.1, .int .i64 k.t.2.1, .bool k.t.2.2, .int .i64 k.pd, .int .i64 k.x.1, .int .i64 k.x.2.1, .bool k.x.2.2.1, .int .i64 k.x.2.2.2, .bool k.hl, .slice RA3 k.seen.length Rc3] (.slice RA3 k.seen.length Rc3) rfl (by kernel_rfl) (by kernel_rfl) rfl (by kernel_rfl) (by kernel_rfl) ?_
                    refine Sx.G.plain 82 #[.slice PA3 g.seen.length Pc3, .slice RA3 k.seen.length Rc3] (.bool (decide (g.seen = k.seen))) (by kernel_rfl) (fun w => by kernel_rfl) (fun w S => by exact ((Grid.spec_ints PA3 RA3 g.seen.length k.seen.length Pc3 Rc3 0 0 _ _ g.seen k.seen _ q3 p3 rfl rfl (i1_lies (St.old S h3)) (i1_lies (St.old S j3))).mono fun e w' h => And.intro h.1 (drew_below h.2))) ?_
                    refine Sx.G.pure (.bool (decide (g.seen = k.seen))) (by kernel_rfl) (fun w => by kernel_rfl) ?_
                    refine Sx.G.pure (.bool (decide (g.seen = k.seen))) (by kernel_rfl) (fun w => by kernel_rfl) ?_
                    refine Sx.G.nil ?_
                    refine Sx.E.next ?_
                    refine Sx.C.ret ?_
                    refine Sx.E.ret1 (.bool (decide (g.seen = k.seen))) rfl (by kernel_rfl) (fun w S => ?_)
                    exact ⟨congrArg Ending.returned (congrArg Value.bool (by simp only [sameG, hb3, hb4, hb5, hb6, hb7, hb8, hb9, hb10, hb11, Bool.and_true, Bool.and_false, Bool.false_and, Bool.true_and])), S.below⟩

end Go.Proofs.Yteopkcndkcciaaa.Guests
namespace Go.Proofs.Yteopkcndkcciaaa.Guests
set_option maxRecDepth 100000
open Go.ChangeShapes Go.WideShapes Go.ChangeAt Go.RowKit
open Go.Proofs.Yteopkcndkcciaaa.Base Go.Proofs.Yteopkcndkcciaaa.Mem Go.Proofs.Yteopkcndkcciaaa.Data Go.Proofs.Yteopkcndkcciaaa.Slots Go.Proofs.Yteopkcndkcciaaa.Ints Go.Proofs.Yteopkcndkcciaaa.Ctls Go.Proofs.Yteopkcndkcciaaa.Exits Go.Proofs.Yteopkcndkcciaaa.Stt Go.Proofs.Yteopkcndkcciaaa.Part
set_option linter.unusedVariables false
section
variable {w : World} {lo hi : Nat} {P : Value} {F : List Nat}
theorem icells_n (l : List Int) : icells l = ncells l := rfl
theorem so_p2 {l : List (Int × Int)} (h : SO w lo hi (pcells l) l.length P) : rdLst (rPair rInt rInt) w lo hi l [P] := by
  obtain ⟨A, c, rfl, hc, ho⟩ := h
  exact ⟨A, c, pcells l, rfl, hc, p2_all w lo hi l, ho.1⟩
theorem so_i1 {l : List Int} (h : SO w lo hi (ncells l) l.length P) : rdLst rInt w lo hi l [P] := by
  obtain ⟨A, c, rfl, hc, ho⟩ := h
  exact ⟨A, c, icells l, rfl, hc, i1_all w lo hi l, ho.1⟩
theorem bl_row {P : Value} {k : Nat} (hk : k ∈ bl P) : P.ownBlock = some k := by
  unfold bl at hk
  split at hk
  · split at hk
    · cases hk
    · simp at hk; subst hk; rfl
  · cases hk
theorem p2_so {e : TypeId} {l : List (Int × Int)} (h : (rLst e (rPair rInt rInt)).own w lo hi l [P] F) : SO w lo hi (pcells l) l.length P ∧ ∀ k ∈ bl P, k ∈ F := by
  obtain ⟨v, ds, F1, e1, rfl, h1, h2, h3⟩ := h
  cases e1
  obtain ⟨A, c, rfl, hc⟩ := row_form h2
  have hd := p2_cells (ownAll_reads h1)
  subst hd
  exact ⟨⟨A, c, rfl, hc, row_lies h2 h3⟩, fun k hk => by simp [bl_row hk]⟩
theorem i1_so {e : TypeId} {l : List Int} (h : (rLst e rInt).own w lo hi l [P] F) : SO w lo hi (ncells l) l.length P ∧ ∀ k ∈ bl P, k ∈ F := by
  obtain ⟨v, ds, F1, e1, rfl, h1, h2, h3⟩ := h
  cases e1
  obtain ⟨A, c, rfl, hc⟩ := row_form h2
  have hd := i1_cells (ownAll_reads h1)
  subst hd
  exact ⟨⟨A, c, rfl, hc, row_lies h2 h3⟩, fun k hk => by simp [bl_row hk]⟩
theorem p2_sow {l : List (Int × Int)} (h : (rLsw (rPair rInt rInt)).own w lo hi l [P] F) : SO w lo hi (pcells l) l.length P ∧ ∀ k ∈ bl P, k ∈ F := by
  obtain ⟨A, c, ds, F1, e1, hc, rfl, h1, h2⟩ := h
  cases e1
  have hd := p2_cells (ownAll_reads h1)
  subst hd
  refine ⟨⟨A, c, rfl, hc, h2⟩, fun k hk => ?_⟩
  unfold bl at hk
  split at hk
  · rename_i a n c' e
    cases e
    split at hk
    · cases hk
    · rename_i hn
      simp at hk
      have hl : l ≠ [] := fun e => hn (by rw [e]; rfl)
      have hp : pcells l ≠ [] := by
        cases l with
        | nil => exact absurd rfl hl
        | cons s l => simp [pcells]
      simp [blks, hp, hk]
  · cases hk
end
theorem gO.rg {w : World} {lo hi : Nat} {g : gT} {P0 P1 P2 P3 : Value} (h : gO w lo hi g P0 P1 P2 P3) : rG.rd w lo hi g (gV g P0 P1 P2 P3) :=
  rG_rd_mk (so_p2 (by rw [pcells_j]; exact h.r0)) (so_p2 (by rw [pcells_s]; exact h.r1)) (so_p2 (by rw [pcells_s]; exact h.r2)) (so_i1 h.r3)
theorem rG_gO {w : World} {lo hi : Nat} {g : gT} {cs : List Value} {F : List Nat} (h : rG.own w lo hi g cs F) (hF : F.Nodup) : ∃ P0 P1 P2 P3, cs = gV g P0 P1 P2 P3 ∧ gO w lo hi g P0 P1 P2 P3 := by
  obtain ⟨P0, P1, P2, P3, F0, F1, F2, F3, rfl, rfl, h0, h1, h2, h3⟩ := rG_own h
  obtain ⟨r0, b0⟩ := p2_so h0
  obtain ⟨r1, b1⟩ := p2_sow h1
  obtain ⟨r2, b2⟩ := p2_sow h2
  obtain ⟨r3, b3⟩ := i1_so h3
  obtain ⟨_, n0, d0⟩ := List.nodup_append.1 hF
  obtain ⟨_, n1, d1⟩ := List.nodup_append.1 n0
  obtain ⟨_, _, d2⟩ := List.nodup_append.1 n1
  rw [pcells_j] at r0
  rw [pcells_s] at r1 r2
  exact ⟨P0, P1, P2, P3, rfl, r0, r1, r2, r3, fun k h h' => d0 k (b0 k h) k (by simp [b1 k h']) rfl, fun k h h' => d0 k (b0 k h) k (by simp [b2 k h']) rfl, fun k h h' => d0 k (b0 k h) k (by simp [b3 k h']) rfl,
    fun k h h' => d1 k (b1 k h) k (by simp [b2 k h']) rfl, fun k h h' => d1 k (b1 k h) k (by simp [b3 k h']) rfl, fun k h h' => d2 k (b2 k h) k (b3 k h') rfl⟩
/-- What a call gives, as the laws' helpers take it. -/
theorem gives_gP {w : World} {g : gT} (e : Ending) (w' : World) (h : Gives rG w g e w') : gP w g e w' := by
  obtain ⟨cs, F, rfl, ho, hF, hb⟩ := h
  obtain ⟨P0, P1, P2, P3, rfl, h4⟩ := rG_gO ho hF
  exact ⟨P0, P1, P2, P3, rfl, h4, hb⟩
theorem gcap_rg {g : gT} (h : gcap g) : rG.cap g :=
  ⟨⟨h.1, fun _ _ => ⟨trivial, trivial⟩⟩, trivial, trivial, ⟨h.2.1, fun _ _ => ⟨trivial, trivial⟩⟩, ⟨h.2.2.1, fun _ _ => ⟨trivial, trivial⟩⟩, ⟨trivial, trivial, trivial⟩, trivial, ⟨trivial, trivial, trivial, trivial⟩, trivial, ⟨h.2.2.2, fun _ _ => trivial⟩⟩
/-- A guest as an object of a law: its memory is some of lo .. hi - 1. -/
def gI (lo hi : Nat) (g : gT) (P0 P1 P2 P3 : Value) : Res where
  says w := gO w lo hi g P0 P1 P2 P3
  foot k := lo ≤ k ∧ k < hi
  lo := lo
  hi := hi
  inn k h := h
  kept h hk := h.kept fun k h1 h2 => hk k ⟨h1, h2⟩
section
variable {w0 w w' : World} {L : List Res} {g : gT} {P0 P1 P2 P3 : Value}
theorem St.gotG (S : St w0 w L) (hb : Below w.heap.size w w') (h : gO w' w.heap.size w'.heap.size g P0 P1 P2 P3) : St w0 w' (gI w.heap.size w'.heap.size g P0 P1 P2 P3 :: L) :=
  S.add hb (gI w.heap.size w'.heap.size g P0 P1 P2 P3) h (Nat.le_refl _) (Nat.le_refl _)
theorem St.rgG (S : St w0 w L) (i : Nat) {lo hi : Nat} (h : L[i]? = some (gI lo hi g P0 P1 P2 P3)) : rG.rd w 0 w.heap.size g (gV g P0 P1 P2 P3) :=
  rG.wide (gO.rg (S.at_ i h)) (Nat.zero_le _) (S.hi i _ h)
theorem St.gRG (S : St w0 w L) (i : Nat) {lo hi : Nat} (h : L[i]? = some (gI lo hi g P0 P1 P2 P3)) : gR w lo hi g P0 P1 P2 P3 := (show gO w lo hi g P0 P1 P2 P3 from S.at_ i h).reads
theorem St.hiG (S : St w0 w L) (i : Nat) {lo hi : Nat} (h : L[i]? = some (gI lo hi g P0 P1 P2 P3)) : hi ≤ w.heap.size := S.hi i _ h
theorem St.markG {g' : gT} (S : St w0 w L) (i : Nat) {lo hi : Nat} (h : L[i]? = some (gI lo hi g P0 P1 P2 P3)) (ht : Turned lo hi w w') (ho : gO w' lo hi g' P0 P1 P2 P3) : St w0 w' (L.set i (gI lo hi g' P0 P1 P2 P3)) :=
  S.turn i h (gI lo hi g' P0 P1 P2 P3) (Only.of_turned ht fun k h1 h2 => ⟨h1, h2⟩) ho (fun k hk => .inl hk) (S.lo i (gI lo hi g P0 P1 P2 P3) h) (Nat.le_trans (S.hi i (gI lo hi g P0 P1 P2 P3) h) ht.size)
theorem St.oldG (S : St w0 w L) (h : gR w0 0 w0.heap.size g P0 P1 P2 P3) : gR w 0 w.heap.size g P0 P1 P2 P3 := (h.below S.below (Nat.le_refl _)).wide (Nat.le_refl _) S.below.size
end
end Go.Proofs.Yteopkcndkcciaaa.Guests
namespace Go.Proofs.Yteopkcndkcciaaa.Guests
set_option maxRecDepth 100000
open Go.ChangeShapes Go.WideShapes Go.ChangeAt Go.RowKit
open Go.Proofs.Yteopkcndkcciaaa.Base Go.Proofs.Yteopkcndkcciaaa.Mem Go.Proofs.Yteopkcndkcciaaa.Data Go.Proofs.Yteopkcndkcciaaa.Slots Go.Proofs.Yteopkcndkcciaaa.Ints Go.Proofs.Yteopkcndkcciaaa.Stt Go.Proofs.Yteopkcndkcciaaa.Part
set_option linter.unusedVariables false
/-- A slice in memory of its own: its memory is some of lo .. hi - 1. -/
def sI (lo hi : Nat) (cs : List Value) (n : Nat) (P : Value) : Res where
  says w := SO w lo hi cs n P
  foot k := lo ≤ k ∧ k < hi
  lo := lo
  hi := hi
  inn k h := h
  kept h hk := h.kept fun k h1 h2 => hk k ⟨h1, h2⟩
section
variable {w0 w w' : World} {L : List Res} {cs cs' : List Value} {n : Nat} {P : Value}
theorem St.gotS (S : St w0 w L) (hb : Below w.heap.size w w') (h : SO w' w.heap.size w'.heap.size cs n P) : St w0 w' (sI w.heap.size w'.heap.size cs n P :: L) :=
  S.add hb (sI w.heap.size w'.heap.size cs n P) h (Nat.le_refl _) (Nat.le_refl _)
theorem St.sO (S : St w0 w L) (i : Nat) {lo hi : Nat} (h : L[i]? = some (sI lo hi cs n P)) : SO w lo hi cs n P := S.at_ i h
theorem St.sR (S : St w0 w L) (i : Nat) {lo hi : Nat} (h : L[i]? = some (sI lo hi cs n P)) : SR w lo hi cs n P := (show SO w lo hi cs n P from S.at_ i h).reads
theorem St.sR0 (S : St w0 w L) (i : Nat) {lo hi : Nat} (h : L[i]? = some (sI lo hi cs n P)) : SO w 0 w.heap.size cs n P := (show SO w lo hi cs n P from S.at_ i h).wide (Nat.zero_le _) (S.hi i _ h)
theorem St.sHi (S : St w0 w L) (i : Nat) {lo hi : Nat} (h : L[i]? = some (sI lo hi cs n P)) : hi ≤ w.heap.size := S.hi i _ h
theorem St.oldS (S : St w0 w L) (h : SR w0 0 w0.heap.size cs n P) : SR w 0 w.heap.size cs n P := (h.below S.below (Nat.le_refl _)).wide (Nat.le_refl _) S.below.size
theorem St.markS (S : St w0 w L) (i : Nat) {lo hi : Nat} (h : L[i]? = some (sI lo hi cs n P)) (hc : cs = [] ↔ n = 0) (ht : Chg w w' (bl P)) (ho : SO w' lo hi cs' n P) : St w0 w' (L.set i (sI lo hi cs' n P)) :=
  S.turn i h (sI lo hi cs' n P) (Only.of_turned (ht.turned fun k hk => SO.inB (S.at_ i h) hc hk) fun k h1 h2 => ⟨h1, h2⟩) ho (fun k hk => .inl hk) (S.lo i (sI lo hi cs n P) h) (Nat.le_trans (S.hi i (sI lo hi cs n P) h) ht.size)
theorem below_eq {w w' : World} (h : w = w') : Below w.heap.size w w' := h ▸ Below.refl _ _
theorem jmarks_len (k : Nat) : ∀ n, (Inss.jmarks k n).length = n := fun n => by simp [Inss.jmarks]
end
end Go.Proofs.Yteopkcndkcciaaa.Guests
namespace Go.Proofs.Yteopkcndkcciaaa.Sx
set_option maxRecDepth 100000
open Go.ChangeShapes Go.WideShapes Go.ChangeAt Go.RowKit Go.Deep
open Go.Proofs.Yteopkcndkcciaaa.Base Go.Proofs.Yteopkcndkcciaaa.Mem Go.Proofs.Yteopkcndkcciaaa.Data Go.Proofs.Yteopkcndkcciaaa.Stt Go.Proofs.Yteopkcndkcciaaa.Draw
set_option linter.unusedVariables false

/-- A call that begins in the middle of its caller's memory. -/
theorem enterS {P : Program} {f : FuncId} {fn : Func} {c : Code} {args : List Value} {w0 w : World} {L : List Res} {R : Ending → World → Prop} {n : Nat} (S : St w0 w L) (hf : P.funcs[f]? = some fn) (hb : fn.body = some c) (hn : fn.ntmps = n) (hl : Nat.ble args.length n = true)
    (h : C P n (bodyPost P fn R) w0 (slots 0 args) L c) : Calls P f args.toArray w R :=
  calls_of_wp hf hb (h _ w ⟨by
    have := Nat.le_of_ble_eq_true hl
    simp [hn]; omega, rfl, fun s v hs => by
    obtain ⟨_, h2⟩ := look_slots args 0 s v hs
    have hlt : s < args.length := by have := (List.getElem?_eq_some_iff.1 h2).1; simpa using this
    rw [Array.getElem?_append_left (by simpa using hlt)]
    simpa using h2⟩ S)
/-- The cursor. -/
def cu (A : Option Addr) (n c g : Nat) : Res where
  says w := ∃ (i : Nat) (h : Int), i ≤ n ∧ w.heap[g]? = some (.cells #[.slice A n c, .int .i64 i, .int .i64 h] 99 (0, 0))
  foot k := k = g
  lo := g
  hi := g + 1
  inn k h := by omega
  kept h hk := by
    obtain ⟨i, x, hi, hb⟩ := h
    exact ⟨i, x, hi, (hk g rfl).trans hb⟩
/-- All other blocks that were there when the call began. -/
def frm (w0 w : World) (g : Nat) : Res where
  says w' := ∀ k, w0.heap.size ≤ k → k < w.heap.size → k ≠ g → w'.heap[k]? = w.heap[k]?
  foot k := w0.heap.size ≤ k ∧ k < w.heap.size ∧ k ≠ g
  lo := w0.heap.size
  hi := w.heap.size
  inn k h := ⟨h.1, h.2.1⟩
  kept h hk := fun k h1 h2 h3 => (hk k ⟨h1, h2, h3⟩).trans (h k h1 h2 h3)
section
variable {w0 w w' : World} {L : List Res} {A : Option Addr} {n c g : Nat} {r : Res}
theorem st_cur (h : Cur w0 A n c w g) : St w0 w [cu A n c g, frm w0 w g] := by
  have hlt := h.lt
  obtain ⟨hb, hg, hs⟩ := h
  refine ⟨hb, fun i r hr => ?_, fun i r hr => ?_, fun i r hr => ?_, fun i j r s h1 h2 hne k hk hk' => ?_⟩
  · match i, hr with
    | 0, hr => cases hr; exact hs
    | 1, hr => cases hr; exact fun k _ _ _ => rfl
    | i + 2, hr => simp at hr
  · match i, hr with
    | 0, hr => cases hr; exact hg
    | 1, hr => cases hr; exact Nat.le_refl _
    | i + 2, hr => simp at hr
  · match i, hr with
    | 0, hr => cases hr; exact hlt
    | 1, hr => cases hr; exact Nat.le_refl _
    | i + 2, hr => simp at hr
  · match i, j, h1, h2 with
    | 0, 0, _, _ => exact hne rfl
    | 1, 1, _, _ => exact hne rfl
    | 0, 1, h1, h2 => cases h1; cases h2; exact hk'.2.2 hk
    | 1, 0, h1, h2 => cases h1; cases h2; exact hk.2.2 hk'
    | i + 2, _, h1, _ => simp at h1
    | _, j + 2, _, h2 => simp at h2
theorem St.cur (S : St w0 w L) (i : Nat) (h : L[i]? = some (cu A n c g)) : Cur w0 A n c w g := ⟨S.below, S.lo i _ h, S.at_ i h⟩
/-- A draw: the cursor has moved. -/
theorem St.moved (S : St w0 w L) (i : Nat) (h : L[i]? = some (cu A n c g)) (hc : Cur w0 A n c w' g) (hg : w.grownBy w' (some g)) : St w0 w' L := by
  have T := S.turn i h (cu A n c g) (Only.of_grown hg fun k hk => by cases hk; rfl) hc.2.2 (fun k hk => .inl hk) (S.lo i (cu A n c g) h) (Nat.le_trans (S.hi i (cu A n c g) h) hg.size)
  have e : L.set i (cu A n c g) = L := by
    obtain ⟨hi, he⟩ := List.getElem?_eq_some_iff.1 h
    rw [← he]
    exact List.set_getElem_self hi
  rwa [e] at T
/-- .. and something new has come. -/
theorem St.plus (S : St w0 w L) (T : St w0 w' L) (r : Res) (hs : r.says w') (hl : w.heap.size ≤ r.lo) (hh : r.hi ≤ w'.heap.size) : St w0 w' (r :: L) := by
  refine ⟨T.below, fun i s h => ?_, fun i s h => ?_, fun i s h => ?_, fun i j s t h1 h2 hne k hk hk' => ?_⟩
  · cases i with
    | zero => cases h; exact hs
    | succ i => exact T.says i s h
  · cases i with
    | zero => cases h; exact Nat.le_trans S.below.size hl
    | succ i => exact T.lo i s h
  · cases i with
    | zero => cases h; exact hh
    | succ i => exact T.hi i s h
  · cases i with
    | zero =>
      cases h1
      cases j with
      | zero => exact hne rfl
      | succ j => have h3 := (S.footlt h2 hk').2; have h4 := (r.inn k hk).1; omega
    | succ i =>
      cases j with
      | zero => cases h2; have h3 := (S.footlt h1 hk).2; have h4 := (r.inn k hk').1; omega
      | succ j => exact S.apart i j s t h1 h2 (by omega) k hk hk'
/-- What the whole call has left alone. -/
theorem St.grown (S : St w0 w' L) (i : Nat) (h : L[i]? = some (frm w0 w g)) (hb : Below w0.heap.size w0 w) : w.grownBy w' (some g) :=
  ⟨S.below.os.trans hb.os.symm, S.below.tape.trans hb.tape.symm, S.below.output.trans hb.output.symm, S.hi i _ h, fun k hk hne => by
    by_cases h0 : k < w0.heap.size
    · exact (S.below.block k h0).trans (hb.block k h0).symm
    · exact S.at_ i h k (by omega) hk (fun e => hne (by rw [e]))⟩
/-- What a draw has made. -/
structure Fresh (w0 w w' : World) (M : List Res) : Prop where
  says : ∀ (i : Nat) (r : Res), M[i]? = some r → r.says w'
  lo : ∀ (i : Nat) (r : Res), M[i]? = some r → w0.heap.size ≤ r.lo
  hi : ∀ (i : Nat) (r : Res), M[i]? = some r → r.hi ≤ w'.heap.size
  new : ∀ (i : Nat) (r : Res), M[i]? = some r → ∀ k, r.foot k → w.heap.size ≤ k
  apart : ∀ (i j : Nat) (r s : Res), M[i]? = some r → M[j]? = some s → i ≠ j → ∀ k, r.foot k → ¬ s.foot k
/-- At a draw's end. -/
theorem St.made {M : List Res} (S : St w0 w' (cu A n c g :: frm w0 w g :: M)) : Fresh w0 w w' M := by
  have at2 : ∀ {i : Nat} {r : Res}, M[i]? = some r → (cu A n c g :: frm w0 w g :: M)[i + 2]? = some r := fun h => h
  refine ⟨fun i r h => S.says _ r (at2 h), fun i r h => S.lo _ r (at2 h), fun i r h => S.hi _ r (at2 h), fun i r h k hk => ?_, fun i j r s h1 h2 hne => S.apart _ _ r s (at2 h1) (at2 h2) (by omega)⟩
  rcases Nat.lt_or_ge k w.heap.size with hlt | hge
  · have h0 := (S.footlt (at2 h) hk).1
    by_cases e : k = g
    · exact absurd e (S.apart (i + 2) 0 r (cu A n c g) (at2 h) rfl (by omega) k hk)
    · exact absurd ⟨h0, hlt, e⟩ (S.apart (i + 2) 1 r (frm w0 w g) (at2 h) rfl (by omega) k hk)
  · exact hge
theorem St.joinD {M : List Res} (S : St w0 w L) (T : St w0 w' L) (H : Fresh w0 w w' M) : St w0 w' (M ++ L) := by
  have key : ∀ (i : Nat) (s : Res), (M ++ L)[i]? = some s → (i < M.length ∧ M[i]? = some s) ∨ (M.length ≤ i ∧ L[i - M.length]? = some s) := fun i s h => by
    by_cases hi : i < M.length
    · rw [List.getElem?_append_left hi] at h; exact .inl ⟨hi, h⟩
    · rw [List.getElem?_append_right (by omega)] at h; exact .inr ⟨by omega, h⟩
  refine ⟨T.below, fun i s h => ?_, fun i s h => ?_, fun i s h => ?_, fun i j s t h1 h2 hne k hk hk' => ?_⟩
  · rcases key i s h with ⟨_, h⟩ | ⟨_, h⟩
    · exact H.says i s h
    · exact T.says _ s h
  · rcases key i s h with ⟨_, h⟩ | ⟨_, h⟩
    · exact H.lo i s h
    · exact T.lo _ s h
  · rcases key i s h with ⟨_, h⟩ | ⟨_, h⟩
    · exact H.hi i s h
    · exact T.hi _ s h
  · rcases key i s h1 with ⟨a1, h1⟩ | ⟨a1, h1⟩
    · rcases key j t h2 with ⟨a2, h2⟩ | ⟨a2, h2⟩
      · exact H.apart i j s t h1 h2 hne k hk hk'
      · have e1 := H.new i s h1 k hk; have e2 := (S.footlt h2 hk').2; omega
    · rcases key j t h2 with ⟨a2, h2⟩ | ⟨a2, h2⟩
      · have e1 := H.new j t h2 k hk'; have e2 := (S.footlt h1 hk).2; omega
      · exact T.apart _ _ s t h1 h2 (by omega) k hk hk'
/-- A slice of pairs that is read only, with its block. -/
def rp (lo hi : Nat) (l : List (Int × Int)) (A : Option Addr) (cap : Nat) : Res where
  says w := l.length ≤ cap ∧ Lies w lo hi A (pcells l)
  foot k := k ∈ blks A (pcells l) ∧ lo ≤ k ∧ k < hi
  lo := lo
  hi := hi
  inn k h := h.2
  kept h hk := ⟨h.1, fun j u hu => by
    obtain ⟨b, off, e, h1, h2, h3⟩ := h.2 j u hu
    have hne : pcells l ≠ [] := fun e => by rw [e] at hu; cases hu
    have hb : b ∈ blks A (pcells l) := by unfold blks; rw [if_neg hne, e]; simp
    exact ⟨b, off, e, h1, h2, (World.cell?_of_block (hk b ⟨hb, h1, h2⟩)).trans h3⟩⟩
theorem rp_rd {lo hi cap : Nat} {l : List (Int × Int)} (h : (rp lo hi l A cap).says w) : rdLst (rPair rInt rInt) w lo hi l [.slice A l.length cap] := ⟨A, cap, pcells l, rfl, h.1, p2_all w lo hi l, h.2⟩
theorem St.rp_rd (S : St w0 w L) (i : Nat) {lo hi cap : Nat} {l : List (Int × Int)} (h : L[i]? = some (rp lo hi l A cap)) : rdLst (rPair rInt rInt) w 0 w.heap.size l [.slice A l.length cap] := (Sx.rp_rd (S.at_ i h)).wide (Nat.zero_le _) (S.hi i _ h)
theorem wf_small {x : Int} (h0 : 0 ≤ x) (h1 : x < 4294967296) : (Lit.int .i64 x).wf = true := by
  simp [Lit.wf]
  have e1 : IntKind.i64.min = -9223372036854775808 := by decide
  have e2 : IntKind.i64.max = 9223372036854775807 := by decide
  omega
/-- A row of pairs that a draw hands back. -/
theorem row_pairs {e : TypeId} {b m cap : Nat} {l : List (Int × Int)} (hl : l.length = m) (h : w'.ownsRow w.heap.size e 2 (.slice (some ⟨b, 0, none⟩) m cap) m (pcells l)) : (ow (rLst e (rPair rInt rInt)) w.heap.size w'.heap.size l [.slice (some ⟨b, 0, none⟩) m cap] [b]).says w' := by
  subst hl
  refine ⟨⟨_, pcells l, [], rfl, by simp [Value.ownBlock], ?_, h, fun k hk => (h.lt k hk).2⟩, by simp⟩
  exact flat_all flat_P2 w' w.heap.size w'.heap.size (p2_all w' 0 0 l)
theorem lies_pairs {A : Option Addr} {m cap : Nat} {l : List (Int × Int)} {lo hi : Nat} (hl : l.length = m) (hc : m ≤ cap) (h : Owned w' lo hi A (pcells l)) : (ow (rLsw (rPair rInt rInt)) lo hi l [.slice A m cap] (blks A (pcells l))).says w' := by
  subst hl
  exact p2_own hc h
/-- A row that is only read from now on. -/
theorem St.toRp (S : St w0 w L) (i : Nat) {e : TypeId} {lo hi m cap : Nat} {A : Option Addr} {F : List Nat} {l : List (Int × Int)} (h : L[i]? = some (ow (rLst e (rPair rInt rInt)) lo hi l [.slice A m cap] F)) : m = l.length ∧ St w0 w (L.set i (rp lo hi l A cap)) := by
  obtain ⟨⟨v, ds, F1, e1, hF, hall, hrow, hhi⟩, hnd⟩ := S.at_ i h
  cases e1
  obtain ⟨A', c', e2, hc⟩ := row_form hrow
  cases e2
  have hd := p2_cells (ownAll_reads hall)
  subst hd
  refine ⟨rfl, S.turn i h (rp lo hi l A cap) (Only.refl _ _) ⟨hc, (row_lies hrow hhi).1⟩ (fun k hk => .inl ⟨?_, hk.2⟩) (S.lo i (ow (rLst e (rPair rInt rInt)) lo hi l [.slice A l.length cap] F) h) (S.hi i (ow (rLst e (rPair rInt rInt)) lo hi l [.slice A l.length cap] F) h)⟩
  have hk1 := hk.1
  unfold blks at hk1
  split at hk1
  · cases hk1
  · cases A with
    | none => cases hk1
    | some a =>
      have : k = a.block := by simpa using hk1
      rw [hF, this]
      simp [Value.ownBlock]
theorem lies_rp {lo hi m cap : Nat} {A : Option Addr} {l : List (Int × Int)} (hl : l.length = m) (hc : m ≤ cap) (h : Lies w lo hi A (pcells l)) : (rp lo hi l A cap).says w := ⟨by omega, h⟩
/-- A block as it was made. -/
def bk (b : Nat) (cs : List Value) (t : TypeId) : Res where
  says w := w.heap[b]? = some (.cells cs.toArray t (0, 0))
  foot k := k = b
  lo := b
  hi := b + 1
  inn k h := by omega
  kept h hk := (hk b rfl).trans h
theorem G.block {P : Program} {n : Nat} {ops : Array Oper} {Q : Exit → Act → World → Prop} {T : Tl} {rest : List Oper} {o : Oper} (e : TypeId) (vs : List Value) (m : Nat) (hc : chk n T ops o = true) (hr : ∀ w : World, (execOp (ev T) o).run P w = .ok (.value (.slice (some ⟨w.heap.size, 0, none⟩) m m)) (w.alloc (.cells vs.toArray e)))
    (k : ∀ b, G P n ops Q w0 (up o.dst (.slice (some ⟨b, 0, none⟩) m m) T) (bk b vs e :: L) rest) : G P n ops Q w0 T L (o :: rest) :=
  G.turns hc fun w S => ⟨_, _, _, hr w, S.add ((Below.refl _ _).alloc (Nat.le_refl _) _) (bk w.heap.size vs e) (heap_alloc_new w _) (Nat.le_refl _) (by simp [bk]), k _⟩
theorem St.bk_ne (S : St w0 w L) (i j : Nat) {b : Nat} {cs : List Value} {t : TypeId} (h : L[i]? = some (bk b cs t)) (h' : L[j]? = some (cu A n c g)) (hij : i ≠ j) : b ≠ g := fun e => S.apart i j _ _ h h' hij b rfl e
end
end Go.Proofs.Yteopkcndkcciaaa.Sx
namespace Go.Proofs.Yteopkcndkcciaaa.Draw
set_option maxRecDepth 100000
open Go.ChangeShapes Go.WideShapes Go.ChangeAt Go.RowKit
open Go.Proofs.Yteopkcndkcciaaa.Base

/-- One of the list was drawn. -/
def PickPost (w0 : World) (A : Option Addr) (n c : Nat) (w : World) (g : Nat) (l : List Int) (e : Ending) (w' : World) : Prop :=
  ∃ x : Int, e = .returned (.int .i64 x) ∧ x ∈ l ∧ Cur w0 A n c w' g ∧ w.grownBy w' (some g)
def OncePost (w0 : World) (A : Option Addr) (n c : Nat) (w : World) (g : Nat) (e : Ending) (w' : World) : Prop :=
  ∃ x : Bool, e = .returned (.bool x) ∧ Cur w0 A n c w' g ∧ w.grownBy w' (some g)

end Go.Proofs.Yteopkcndkcciaaa.Draw
namespace Go.Proofs.Yteopkcndkcciaaa.SDraw
set_option maxRecDepth 100000
open Go.ChangeShapes Go.WideShapes Go.ChangeAt Go.RowKit
open Go.Proofs.Yteopkcndkcciaaa.Base Go.Proofs.Yteopkcndkcciaaa.Mem Go.Proofs.Yteopkcndkcciaaa.Slots Go.Proofs.Yteopkcndkcciaaa.Draw
set_option linter.unusedVariables false

def SlotPost (w0 : World) (A : Option Addr) (n c : Nat) (w : World) (g : Nat) (e : Ending) (w' : World) : Prop :=
  ∃ x y : Int, e = .returned (.agg #[.int .i64 x, .int .i64 y]) ∧ wfS (x, y) ∧ Cur w0 A n c w' g ∧ w.grownBy w' (some g)
def NumPost (w0 : World) (A : Option Addr) (n c : Nat) (w : World) (g : Nat) (e : Ending) (w' : World) : Prop :=
  ∃ x : Int, e = .returned (.int .i64 x) ∧ (Lit.int .i64 x).wf = true ∧ Cur w0 A n c w' g ∧ w.grownBy w' (some g)

section
variable {w w1 w2 : World} {g : Nat} {u v : Value} {T : TypeId}
/-- A variable of two cells, made ahead of draws. -/
theorem var_cells (hG : (w.alloc (.cells #[u, v] T)).grownBy w1 (some g)) (hg : g < w.heap.size) :
    w1.cell? ⟨w.heap.size, 0, none⟩ = some u ∧ w1.cell? ⟨w.heap.size, 1, none⟩ = some v ∧ w1.frozen? ⟨w.heap.size, 0, none⟩ = false ∧ w1.frozen? ⟨w.heap.size, 1, none⟩ = false := by
  have hb : w1.heap[w.heap.size]? = some (.cells #[u, v] T (0, 0)) := (hG.block w.heap.size (by simp) (by simp; omega)).trans (heap_alloc_new w _)
  exact ⟨cell_of_row _ _ 0 _ _ _ hb, cell_of_row _ _ 1 _ _ _ hb, frozen_of_row _ _ _ _ _ hb, frozen_of_row _ _ _ _ _ hb⟩
theorem var_grown (o : Obj) (hG : (w.alloc o).grownBy w1 (some g)) (u v : Value) : w.grownBy ((w1.setCell ⟨w.heap.size, 0, none⟩ u).setCell ⟨w.heap.size, 1, none⟩ v) (some g) :=
  ⟨hG.os, hG.tape, hG.output, by have := hG.size; simp at this; simp; omega, fun k hk hne => by
    rw [Below.heap_setCell _ _ _ k (by show k ≠ w.heap.size; omega), Below.heap_setCell _ _ _ k (by show k ≠ w.heap.size; omega)]
    exact (hG.block k (by simp; omega) hne).trans (Below.heap_alloc w o k hk)⟩
theorem var_cur {w0 : World} {A : Option Addr} {n c : Nat} {b : Nat} (h : Cur w0 A n c w1 g) (hg : g < b) (h0 : w0.heap.size ≤ b) (i : Nat) (u : Value) : Cur w0 A n c (w1.setCell ⟨b, i, none⟩ u) g :=
  h.grown (grown_set w1 b i u) (by simp; omega) (fun k hk => by cases hk; exact h0)
theorem grown_new (w : World) (o : Obj) (row : Option Nat) : w.grownBy (w.alloc o) row := World.grownBy_alloc w o row
theorem gtr {a b c : World} {row : Option Nat} (h : a.grownBy b row) (k : b.grownBy c row) : a.grownBy c row := grown_trans h k
theorem of_below (h : Below w.heap.size w w1) (row : Option Nat) : w.grownBy w1 row := Slots.grown_of_below h row
end

def slotList : List Int := [3, 3, 3, 1, 2]
theorem slotList_wf : ∀ x ∈ slotList, (Lit.int .i64 x).wf = true := by decide

theorem wf_small {x m : Int} (h0 : 0 ≤ x) (h1 : x < m) (hm : m ≤ 1048576) : (Lit.int .i64 x).wf = true := by
  simp [Lit.wf]
  have e1 : IntKind.i64.min = -9223372036854775808 := by decide
  have e2 : IntKind.i64.max = 9223372036854775807 := by decide
  omega

def pageList : List Int := [0, 1, 2, 3, 3, 4, 7, 8, -1, 9223372036854775807, -9223372036854775808]
theorem pageList_wf : ∀ x ∈ pageList, (Lit.int .i64 x).wf = true := by decide
def rightsL : List Int := [3, 3, 1, 2, 0, 3, 1, -1, 4, 9223372036854775807]
theorem rightsL_wf : ∀ x ∈ rightsL, (Lit.int .i64 x).wf = true := by decide

/-- A block is as it was behind draws. -/
theorem blk_kept {w w1 : World} {g b : Nat} {o : Obj} (hG : w.grownBy w1 (some g)) (hb : w.heap[b]? = some o) (hne : b ≠ g) : w1.heap[b]? = some o :=
  (hG.block b (by
    rcases Nat.lt_or_ge b w.heap.size with h | h
    · exact h
    · rw [Array.getElem?_eq_none h] at hb; cases hb) (by simpa using hne)).trans hb
theorem two_of_blk {w : World} {b : Nat} {u v : Value} {T : TypeId} (hb : w.heap[b]? = some (.cells #[u, v] T (0, 0))) :
    w.cell? ⟨b, 0, none⟩ = some u ∧ w.cell? ⟨b, 1, none⟩ = some v ∧ w.frozen? ⟨b, 0, none⟩ = false ∧ w.frozen? ⟨b, 1, none⟩ = false :=
  ⟨cell_of_row _ _ 0 _ _ _ hb, cell_of_row _ _ 1 _ _ _ hb, frozen_of_row _ _ _ _ _ hb, frozen_of_row _ _ _ _ _ hb⟩

theorem grown_far {w W : World} {g b : Nat} (hG : w.grownBy W (some g)) (hb : w.heap.size ≤ b) (i : Nat) (u : Value) : w.grownBy (W.setCell ⟨b, i, none⟩ u) (some g) :=
  ⟨hG.os, hG.tape, hG.output, by simpa using hG.size, fun k hk hne => (Below.heap_setCell _ _ _ k (by show k ≠ b; omega)).trans (hG.block k hk hne)⟩
theorem anyList_wf {pages p : Int} (hp : (Lit.int .i64 pages).wf = true) (h : p ∈ [-1, -2, pages, 9223372036854775807, -9223372036854775808]) : (Lit.int .i64 p).wf = true := by
  simp only [List.mem_cons, List.not_mem_nil, or_false] at h
  rcases h with rfl | rfl | rfl | rfl | rfl
  · decide
  · decide
  · exact hp
  · decide
  · decide

end Go.Proofs.Yteopkcndkcciaaa.SDraw
namespace Go.Proofs.Yteopkcndkcciaaa.SDraw
set_option maxRecDepth 100000
open Go.ChangeShapes Go.WideShapes Go.ChangeAt Go.RowKit
open Go.Proofs.Yteopkcndkcciaaa.Base Go.Proofs.Yteopkcndkcciaaa.Mem Go.Proofs.Yteopkcndkcciaaa.Slots Go.Proofs.Yteopkcndkcciaaa.Draw
set_option linter.unusedVariables false

theorem Try.infoSlot3 : (Try.prog.info? 102).map (fun i => (i.zero, i.size, i.bytes)) = some (some (.agg #[.int .i64 0, .int .i64 0]), 2, 16) := by kernel_rfl

def TabOwn (w0 : World) (A : Option Addr) (n c : Nat) (w : World) (g sz : Nat) (e : Ending) (w' : World) : Prop :=
  ∃ b cap l, e = .returned (.slice (some ⟨b, 0, none⟩) sz cap) ∧ l.length = sz ∧ wfL l ∧ w'.ownsRow w.heap.size 102 2 (.slice (some ⟨b, 0, none⟩) sz cap) sz (scells l) ∧ Cur w0 A n c w' g ∧ w.grownBy w' (some g)

theorem grown_own {w a b : World} {g : Nat} {row : Option Nat} (h : w.grownBy a (some g)) (k : a.grownBy b row) (hr : ∀ j, row = some j → w.heap.size ≤ j) : w.grownBy b (some g) :=
  ⟨k.os.trans h.os, k.tape.trans h.tape, k.output.trans h.output, Nat.le_trans h.size k.size, fun i hi hne => (k.block i (Nat.lt_of_lt_of_le hi h.size) (fun e => by have := hr i e.symm; omega)).trans (h.block i hi hne)⟩
theorem wfL_snoc {l : List Sl} {s : Sl} (h : wfL l) (hs : wfS s) : wfL (l ++ [s]) := fun t ht => by
  rcases List.mem_append.1 ht with h1 | h1
  · exact h t h1
  · have : t = s := by simpa using h1
    rw [this]; exact hs

def TabPost (w0 : World) (A : Option Addr) (n c : Nat) (w : World) (g sz : Nat) (e : Ending) (w' : World) : Prop :=
  ∃ ad m cap l, e = .returned (.slice (some ad) m cap) ∧ m ≤ sz ∧ l.length = m ∧ wfL l ∧ Lies w' w.heap.size w'.heap.size (some ad) (scells l) ∧ Cur w0 A n c w' g ∧ w.grownBy w' (some g)

theorem wfL_set {l : List Sl} {k : Nat} {s : Sl} (h : wfL l) (hs : wfS s) : wfL (l.set k s) := fun t ht => by
  rcases List.mem_or_eq_of_mem_set ht with h1 | h1
  · exact h t h1
  · rw [h1]; exact hs
theorem wfL_take {l : List Sl} (k : Nat) (h : wfL l) : wfL (l.take k) := fun t ht => h t (List.mem_of_mem_take ht)
theorem lies_take {w : World} {lo hi : Nat} {A : Option Addr} {l : List Sl} (k : Nat) (h : Lies w lo hi A (scells l)) : Lies w lo hi A (scells (l.take k)) := fun j u hu => by
  refine h j u ?_
  have e : l = l.take k ++ l.drop k := (List.take_append_drop k l).symm
  rw [e, scells_append, List.getElem?_append_left (List.getElem?_eq_some_iff.1 hu).1]
  exact hu

end Go.Proofs.Yteopkcndkcciaaa.SDraw
namespace Go.Proofs.Yteopkcndkcciaaa.SDraw
set_option maxRecDepth 100000
open Go.ChangeShapes Go.WideShapes Go.ChangeAt Go.RowKit
open Go.Proofs.Yteopkcndkcciaaa.Base Go.Proofs.Yteopkcndkcciaaa.Mem Go.Proofs.Yteopkcndkcciaaa.Slots Go.Proofs.Yteopkcndkcciaaa.Draw
set_option linter.unusedVariables false

theorem wf_pred {x : Int} (h0 : 0 ≤ x) (h1 : x < 5) : (Lit.int .i64 (x - 1)).wf = true := by
  have : x = 0 ∨ x = 1 ∨ x = 2 ∨ x = 3 ∨ x = 4 := by omega
  rcases this with rfl | rfl | rfl | rfl | rfl <;> decide
/-- A table in a world. -/
def Tab (w' : World) (lo sz : Nat) (ad : Addr) (m : Nat) (l : List Sl) : Prop := m ≤ sz ∧ l.length = m ∧ wfL l ∧ Lies w' lo w'.heap.size (some ad) (scells l)
theorem Tab.grown {w w' : World} {lo sz g m : Nat} {ad : Addr} {l : List Sl} (h : Tab w lo sz ad m l) (hg : w.grownBy w' (some g)) (hlo : g < lo) : Tab w' lo sz ad m l :=
  ⟨h.1, h.2.1, h.2.2.1, (h.2.2.2.kept (fun k h1 h2 => hg.block k h2 (by simp; omega))).wide (Nat.le_refl _) hg.size⟩
theorem Tab.below {w w' : World} {lo sz m : Nat} {ad : Addr} {l : List Sl} (h : Tab w lo sz ad m l) (hb : Below w.heap.size w w') : Tab w' lo sz ad m l :=
  ⟨h.1, h.2.1, h.2.2.1, (h.2.2.2.below hb (Nat.le_refl _)).wide (Nat.le_refl _) hb.size⟩
theorem Tab.low {w : World} {lo lo' sz m : Nat} {ad : Addr} {l : List Sl} (h : Tab w lo sz ad m l) (h1 : lo' ≤ lo) : Tab w lo' sz ad m l := ⟨h.1, h.2.1, h.2.2.1, h.2.2.2.wide h1 (Nat.le_refl _)⟩

def OneTab (w : World) (sz : Nat) (e : Ending) (w' : World) : Prop :=
  ∃ ad m cap l, e = .returned (.slice (some ad) m cap) ∧ Tab w' w.heap.size sz ad m l ∧ Below w.heap.size w w'
def TabInt (w : World) (sz : Nat) (e : Ending) (w' : World) : Prop :=
  ∃ ad m cap l x, e = .returned (.tuple #[.slice (some ad) m cap, .int .i64 x]) ∧ (Lit.int .i64 x).wf = true ∧ Tab w' w.heap.size sz ad m l ∧ Below w.heap.size w w'

def IntPost (w : World) (e : Ending) (w' : World) : Prop := ∃ x : Int, e = .returned (.int .i64 x) ∧ (Lit.int .i64 x).wf = true ∧ Below w.heap.size w w'
def TabIntInt (w : World) (sz : Nat) (e : Ending) (w' : World) : Prop :=
  ∃ ad m cap l x y, e = .returned (.tuple #[.slice (some ad) m cap, .int .i64 x, .int .i64 y]) ∧ (Lit.int .i64 x).wf = true ∧ (Lit.int .i64 y).wf = true ∧ Tab w' w.heap.size sz ad m l ∧ Below w.heap.size w w'
def SlotInt (w : World) (e : Ending) (w' : World) : Prop :=
  ∃ x y p, e = .returned (.tuple #[.agg #[.int .i64 x, .int .i64 y], .int .i64 p]) ∧ wfS (x, y) ∧ (Lit.int .i64 p).wf = true ∧ Below w.heap.size w w'
def TabIntSlot (w : World) (sz : Nat) (e : Ending) (w' : World) : Prop :=
  ∃ ad m cap l p x y, e = .returned (.tuple #[.slice (some ad) m cap, .int .i64 p, .agg #[.int .i64 x, .int .i64 y]]) ∧ (Lit.int .i64 p).wf = true ∧ wfS (x, y) ∧ Tab w' w.heap.size sz ad m l ∧ Below w.heap.size w w'

def newList : List Int := [0, 1, 4, 8, 24, 25, -1, 9223372036854775807]
theorem newList_wf : ∀ x ∈ newList, (Lit.int .i64 x).wf = true := by decide
def sizeList : List Int := [4, 4, 4, 3, -1]
theorem sizeList_wf : ∀ x ∈ sizeList, (Lit.int .i64 x).wf = true := by decide
def manyList : List Int := [8, 8, 8, 4, 0]
theorem manyList_wf : ∀ x ∈ manyList, (Lit.int .i64 x).wf = true := by decide
def okList : List Int := [8, 8, 4, 0, -1, 9223372036854775807, -9223372036854775808]
theorem okList_wf : ∀ x ∈ okList, (Lit.int .i64 x).wf = true := by decide

theorem new_boxed {A : Option Addr} {n c : Nat} {w w0 : World} {o : Obj} (h : Cur (w.alloc o) A n c w0 (w.alloc o).heap.size) : Cur (w.alloc o) A n c w0 (w.heap.size + 1) := by simpa using h

theorem Tab.set {w : World} {lo sz m b i : Nat} {ad : Addr} {l : List Sl} (h : Tab w lo sz ad m l) (hb : b < lo) (u : Value) : Tab (w.setCell ⟨b, i, none⟩ u) lo sz ad m l :=
  ⟨h.1, h.2.1, h.2.2.1, by
    have := h.2.2.2.kept (w' := w.setCell ⟨b, i, none⟩ u) (fun k h1 _ => Below.heap_setCell w ⟨b, i, none⟩ u k (by show k ≠ b; omega))
    simpa using this⟩

/-- Two tables. -/
def TwoTabs (w : World) (e : Ending) (w' : World) : Prop :=
  ∃ ad m cap l ad' m' cap' l', e = .returned (.tuple #[.slice (some ad) m cap, .slice (some ad') m' cap']) ∧ Tab w' w.heap.size 4 ad m l ∧ Tab w' w.heap.size 4 ad' m' l' ∧ Below w.heap.size w w'

theorem made1 (w : World) (e : TypeId) : (w.alloc (.cells #[] e)).ownsRow w.heap.size e 2 (.slice (some ⟨w.heap.size, 0, none⟩) 0 0) 0 [] :=
  World.ownsRow_made w #[] 0 (Nat.le_refl _) (Nat.zero_le _) rfl
theorem src1 {w : World} {lo : Nat} {ad : Addr} {cs : List Value} (h : Lies w lo w.heap.size (some ad) cs) (o : Obj) : ∀ j u, cs[j]? = some u → (w.alloc o).cell? (ad.add j) = some u := by
  intro j u hu
  obtain ⟨b, off, e, _, hb, hc⟩ := h j u hu
  cases e
  rw [Addr.add_lit, World.cell?_alloc_lt _ _ _ (by simpa using hb)]
  exact hc
theorem copied1 {w w1 : World} {e : TypeId} {n : Nat} {v : Value} {cs : List Value} (hown : w1.ownsRow w.heap.size e 2 v (0 + n) ([] ++ cs))
    (hgrow : (w.alloc (.cells #[] e)).grownBy w1 (Value.slice (some ⟨w.heap.size, 0, none⟩) 0 0).ownBlock) (hnil : v = .slice none 0 0 ↔ Value.slice (some ⟨w.heap.size, 0, none⟩) 0 0 = .slice none 0 0 ∧ n = 0) :
    ∃ g cap, v = .slice (some ⟨g, 0, none⟩) n cap ∧ w1.ownsRow w.heap.size e 2 (.slice (some ⟨g, 0, none⟩) n cap) n cs ∧ Below w.heap.size w w1 := by
  rw [Nat.zero_add, List.nil_append] at hown
  rcases hown.2 with ⟨h, _⟩ | ⟨g, cap, cur, rfl, _, _, hnc, _⟩
  · have := (hnil.1 h).1
    simp at this
  · refine ⟨g, cap, rfl, hown, ?_⟩
    exact ((Below.refl _ _).alloc (Nat.le_refl _) _).grown hgrow (by simp) (fun k hk => by simp [Value.ownBlock] at hk; omega)

end Go.Proofs.Yteopkcndkcciaaa.SDraw
namespace Go.Proofs.Yteopkcndkcciaaa.Inss
set_option maxRecDepth 100000
open Go.ChangeShapes Go.WideShapes Go.ChangeAt Go.RowKit
open Go.Proofs.Yteopkcndkcciaaa.Base Go.Proofs.Yteopkcndkcciaaa.Mem Go.Proofs.Yteopkcndkcciaaa.Data Go.Proofs.Yteopkcndkcciaaa.Draw Go.Proofs.Yteopkcndkcciaaa.SDraw
set_option linter.unusedVariables false
set_option linter.unusedSimpArgs false

theorem wf_of {l : List Int} (h : l.all (fun x => (Lit.int .i64 x).wf) = true) {x : Int} (hx : x ∈ l) : (Lit.int .i64 x).wf = true := List.all_eq_true.1 h x hx
def IPost (w0 : World) (A : Option Addr) (n c : Nat) (w : World) (g : Nat) (e : Ending) (w' : World) : Prop :=
  ∃ x0 x1, e = .returned (.agg #[.int .i64 x0, .int .i64 x1]) ∧ wfJ (x0, x1) ∧ Cur w0 A n c w' g ∧ w.grownBy w' (some g)
theorem cur2 {w0 w1 : World} {A : Option Addr} {n c g b : Nat} (h : Cur w0 A n c w1 g) (hg : g < b) (h0 : w0.heap.size ≤ b) (u v : Value) : Cur w0 A n c ((w1.setCell ⟨b, 0, none⟩ u).setCell ⟨b, 1, none⟩ v) g :=
  var_cur (var_cur h hg h0 _ _) hg h0 _ _
theorem far2 {w W : World} {g b : Nat} (hG : w.grownBy W (some g)) (hb : w.heap.size ≤ b) (u v : Value) : w.grownBy ((W.setCell ⟨b, 0, none⟩ u).setCell ⟨b, 1, none⟩ v) (some g) :=
  grown_far (grown_far hG hb _ _) hb _ _
theorem wf_less {x m : Int} (h0 : 0 ≤ x) (h1 : x < m) (hm : m ≤ 1048576) : (Lit.int .i64 (x - 1)).wf = true := by
  simp [Lit.wf]
  have e1 : IntKind.i64.min = -9223372036854775808 := by decide
  have e2 : IntKind.i64.max = 9223372036854775807 := by decide
  omega

end Go.Proofs.Yteopkcndkcciaaa.Inss
