/-
  For every slice of bytes the law FnSeenCap returns true: a guest sees forty values and no more, and what it saw first stays. No condition.
-/
import Derived.Test.YteopkcndkcciaaaM1c53883e
import Derived.Test.YteopkcndkcciaaaSlotArgs
namespace Go.Proofs.Yteopkcndkcciaaa.fnSeenCap
set_option maxRecDepth 100000
open Go.ChangeShapes Go.WideShapes Go.ChangeAt Go.RowKit
open Go.Proofs.Yteopkcndkcciaaa.Base Go.Proofs.Yteopkcndkcciaaa.Mem Go.Proofs.Yteopkcndkcciaaa.Data Go.Proofs.Yteopkcndkcciaaa.Slots Go.Proofs.Yteopkcndkcciaaa.Ints Go.Proofs.Yteopkcndkcciaaa.Ctls Go.Proofs.Yteopkcndkcciaaa.Exits Go.Proofs.Yteopkcndkcciaaa.Stt Go.Proofs.Yteopkcndkcciaaa.Irqs Go.Proofs.Yteopkcndkcciaaa.Inss Go.Proofs.Yteopkcndkcciaaa.Draw Go.Proofs.Yteopkcndkcciaaa.Guests
set_option linter.unusedVariables false
set_option linter.unusedSimpArgs false
/-- The guest behind k values: i + s for i from 0 on. -/
def sawK (s : Int) : Nat → gT
  | 0 => newG []
  | k + 1 => sawG (sawK s k) ((k : Int) + s)
theorem sawK_seen (s : Int) : ∀ k : Nat, (sawK s k).seen = (List.range (min k 40)).map fun i => ((i : Nat) : Int) + s
  | 0 => rfl
  | k + 1 => by
    have h := sawK_seen s k
    show (sawG (sawK s k) ((k : Int) + s)).seen = _
    have hl : (sawK s k).seen.length = min k 40 := by rw [h]; simp
    unfold sawG
    split
    · have : min (k + 1) 40 = min k 40 + 1 := by omega
      have hk : min k 40 = k := by omega
      rw [this, List.range_succ, List.map_append, ← h, hk]; rfl
    · have : min (k + 1) 40 = min k 40 := by omega
      rw [this, ← h]
theorem sawK_small (s : Int) : ∀ k : Nat, (sawK s k).prog = [] ∧ (sawK s k).wr = Slots.nosL 4 ∧ (sawK s k).lv = Slots.nosL 4
  | 0 => ⟨rfl, rfl, rfl⟩
  | k + 1 => by
    have h := sawK_small s k
    show (sawG (sawK s k) ((k : Int) + s)).prog = [] ∧ (sawG (sawK s k) ((k : Int) + s)).wr = _ ∧ (sawG (sawK s k) ((k : Int) + s)).lv = _
    unfold sawG
    split <;> exact h
theorem sawK_cap (s : Int) (k : Nat) : rG.cap (sawK s k) := by
  obtain ⟨h0, h1, h2⟩ := sawK_small s k
  refine gcap_rg ⟨by rw [h0]; simp, by rw [h1]; simp [Slots.nosL], by rw [h2]; simp [Slots.nosL], by rw [sawK_seen]; simp; omega⟩
theorem sawK_wf (s : Int) (hs : 0 ≤ s ∧ s < 50) : ∀ k : Nat, k ≤ 45 → wfGuest (sawK s k)
  | 0, _ => new_wf (Nat.zero_le _) (fun s hs => by cases hs)
  | k + 1, hk => by
    have h := sawK_wf s hs k (by omega)
    have hn : (Lit.int .i64 ((k : Int) + s)).wf = true := Sx.wf_small (by omega) (by omega)
    show wfGuest (sawG (sawK s k) ((k : Int) + s))
    unfold sawG
    split
    · rename_i hl
      exact ⟨h.1, h.2.1, h.2.2.1, h.2.2.2.1, h.2.2.2.2.1, h.2.2.2.2.2.1, h.2.2.2.2.2.2.1, h.2.2.2.2.2.2.2.1, trivial, ⟨by simp; omega, fun z hz => by rcases List.mem_append.1 hz with h3 | h3; exact h.2.2.2.2.2.2.2.2.2.2 z h3; rw [List.mem_singleton.1 h3]; exact hn⟩⟩
    · exact h
theorem saw_at (s : Int) (k : Nat) (hk : k = 45) (i : Nat) (hi : i < 40) (h : i < (sawK s k).seen.length) : (sawK s k).seen[i] = (i : Int) + s := by
  have h2 := sawK_seen s k
  have h3 : (sawK s k).seen[i]? = some ((i : Int) + s) := by rw [h2, List.getElem?_map, List.getElem?_range (by omega)]; rfl
  rw [List.getElem?_eq_getElem h] at h3
  exact Option.some.inj h3
set_option maxRecDepth 100000 in
set_option maxHeartbeats 8000000 in
theorem walk (A : Option Addr) (n c : Nat) (hn : n ≤ maxLen) {w : World} (hcode : CodeAt w A n) :
    Calls Try.prog 3 #[.slice A n c] w fun e w' => e = .returned (.bool true) ∧ Below w.heap.size w w' := by
  replace hn : n ≤ 9223372036854775807 := hn
  by_cases h1 : 1048576 < n
  · refine Sx.enter (args := [.slice A n c]) Try.func3 rfl Try.ntmps3 rfl ?_
    refine Sx.C.seq ?_
    refine Sx.C.region ?_
    refine Sx.G.pure (.bool false) (by kernel_rfl) (fun w => by kernel_rfl) ?_
    refine Sx.G.nil ?_
    refine Sx.E.next ?_
    refine Sx.C.seq ?_
    refine Sx.C.seq ?_
    refine Sx.C.region ?_
    refine Sx.G.pure (.slice A n c) (by kernel_rfl) (fun w => by kernel_rfl) ?_
    refine Sx.G.plain 12 #[.slice A n c] (.bool true) (by kernel_rfl) (fun w => by kernel_rfl) (fun w S => by exact ((big_yes A n c _ hn h1).mono fun e w' h => And.intro h.1 (below_eq h.2))) ?_
    refine Sx.G.nil ?_
    refine Sx.E.next ?_
    refine Sx.C.yes (by kernel_rfl) (by kernel_rfl) ?_
    refine Sx.C.seq ?_
    refine Sx.C.region ?_
    refine Sx.G.pure (.bool true) (by kernel_rfl) (fun w => by kernel_rfl) ?_
    refine Sx.G.nil ?_
    refine Sx.E.next ?_
    refine Sx.C.ret ?_
    refine Sx.E.then_ret ?_
    refine Sx.E.ret1 (.bool true) rfl (by kernel_rfl) (fun w S => ?_)
    exact ⟨rfl, S.below⟩
  · have hn2 : n ≤ 1048576 := by omega
    refine Sx.enter (args := [.slice A n c]) Try.func3 rfl Try.ntmps3 rfl ?_
    refine Sx.C.seq ?_
    refine Sx.C.region ?_
    refine Sx.G.pure (.bool false) (by kernel_rfl) (fun w => by kernel_rfl) ?_
    refine Sx.G.nil ?_
    refine Sx.E.next ?_
    refine Sx.C.seq ?_
    refine Sx.C.seq ?_
    refine Sx.C.region ?_
    refine Sx.G.pure (.slice A n c) (by kernel_rfl) (fun w => by kernel_rfl) ?_
    refine Sx.G.plain 12 #[.slice A n c] (.bool false) (by kernel_rfl) (fun w => by kernel_rfl) (fun w S => by exact ((big_no A n c _ hn2).mono fun e w' h => And.intro h.1 (below_eq h.2))) ?_
    refine Sx.G.nil ?_
    refine Sx.E.next ?_
    refine Sx.C.no (by kernel_rfl) (by kernel_rfl) ?_
    refine Sx.C.skip ?_
    refine Sx.E.next ?_
    refine Sx.C.seq ?_
    refine Sx.C.region ?_
    refine Sx.G.pure (.slice A n c) (by kernel_rfl) (fun w => by kernel_rfl) ?_
    refine Sx.G.call 13 #[.slice A n c] (by kernel_rfl) (fun w => by kernel_rfl) (fun w1 S => (places_any A n c _ hn2 (hcode.below S.below)).mono fun e w1' hp => ?_)
    obtain ⟨gp, cp, l, rfl, hl, hall, hown, hb⟩ := hp
    obtain ⟨p0, p1, p2, p3, p4, p5, p6, p7, p8, p9, p10, p11, rfl⟩ := list12 hl
    have hp0 := hall p0 (by simp)
    have hs : 0 ≤ p0.tmod 50 ∧ p0.tmod 50 < 50 := ⟨Int.tmod_nonneg 50 hp0.1, Int.tmod_lt_of_pos p0 (by decide)⟩
    obtain ⟨hv1, hv2, hv3⟩ := Sx.row_vr hown
    refine ⟨_, _, rfl, (S.add hb (vr gp [.int .i64 p0, .int .i64 p1, .int .i64 p2, .int .i64 p3, .int .i64 p4, .int .i64 p5, .int .i64 p6, .int .i64 p7, .int .i64 p8, .int .i64 p9, .int .i64 p10, .int .i64 p11]) hv1 hv2 hv3), ?_⟩
    clear S hb hv1 hv2 hv3 hown hall hl
    refine Sx.G.pure (.slice (some ⟨gp, 0, none⟩) 12 cp) (by kernel_rfl) (fun w => by kernel_rfl) ?_
    refine Sx.G.nil ?_
    refine Sx.E.next ?_
    refine Sx.C.seq ?_
    refine Sx.C.region ?_
    refine Sx.G.call 14 #[.slice none 0 0] (by kernel_rfl) (fun w => by kernel_rfl) (fun w2 S => (impl_gnew [] none 0 _ (Nat.zero_le _) (rd_nil _ _ _)).mono fun e w2' hp => ?_)
    obtain ⟨y0, y1, y2, y3, rfl, ho, hb⟩ := hp
    obtain ⟨PA2_0, Pc2_0, e0, -⟩ := ho.r0
    subst e0
    obtain ⟨PA2_1, Pc2_1, e0, -⟩ := ho.r1
    subst e0
    obtain ⟨PA2_2, Pc2_2, e0, -⟩ := ho.r2
    subst e0
    obtain ⟨PA2_3, Pc2_3, e0, -⟩ := ho.r3
    subst e0
    have hrd := ho.rg
    refine ⟨_, _, rfl, (Sx.St.gotR S hb hrd), ?_⟩
    clear S ho hb hrd
    refine Sx.G.alloc 33 (.agg #[.slice none 0 0, .int .i64 0, .int .i64 0, .slice none 0 0, .slice none 0 0, .int .i64 0, .int .i64 0, .bool false, .int .i64 0, .int .i64 0, .int .i64 0, .bool false, .int .i64 0, .bool false, .slice none 0 0]) [.slice none 0 0, .int .i64 0, .int .i64 0, .slice none 0 0, .slice none 0 0, .int .i64 0, .int .i64 0, .bool false, .int .i64 0, .int .i64 0, .int .i64 0, .bool false, .int .i64 0, .bool false, .slice none 0 0] rfl (by kernel_rfl) (fun w => by kernel_rfl) (by kernel_rfl) (fun b3 => ?_)
    refine Sx.G.sto 33 (.tmp 4) (.tmp 10) b3 0 0 [.slice none 0 0, .int .i64 0, .int .i64 0, .slice none 0 0, .slice none 0 0, .int .i64 0, .int .i64 0, .bool false, .int .i64 0, .int .i64 0, .int .i64 0, .bool false, .int .i64 0, .bool false, .slice none 0 0] [.slice PA2_0 (newG []).prog.length Pc2_0, .int .i64 (newG []).a, .int .i64 (newG []).pc, .slice PA2_1 (newG []).wr.length Pc2_1, .slice PA2_2 (newG []).lv.length Pc2_2, .int .i64 (newG []).t.1, .int .i64 (newG []).t.2.1, .bool (newG []).t.2.2, .int .i64 (newG []).pd, .int .i64 (newG []).x.1, .int .i64 (newG []).x.2.1, .bool (newG []).x.2.2.1, .int .i64 (newG []).x.2.2.2, .bool (newG []).hl, .slice PA2_3 (newG []).seen.length Pc2_3] [.slice PA2_0 (newG []).prog.length Pc2_0, .int .i64 (newG []).a, .int .i64 (newG []).pc, .slice PA2_1 (newG []).wr.length Pc2_1, .slice PA2_2 (newG []).lv.length Pc2_2, .int .i64 (newG []).t.1, .int .i64 (newG []).t.2.1, .bool (newG []).t.2.2, .int .i64 (newG []).pd, .int .i64 (newG []).x.1, .int .i64 (newG []).x.2.1, .bool (newG []).x.2.2.1, .int .i64 (newG []).x.2.2.2, .bool (newG []).hl, .slice PA2_3 (newG []).seen.length Pc2_3] [vr b3 [.slice PA2_0 (newG []).prog.length Pc2_0, .int .i64 (newG []).a, .int .i64 (newG []).pc, .slice PA2_1 (newG []).wr.length Pc2_1, .slice PA2_2 (newG []).lv.length Pc2_2, .int .i64 (newG []).t.1, .int .i64 (newG []).t.2.1, .bool (newG []).t.2.2, .int .i64 (newG []).pd, .int .i64 (newG []).x.1, .int .i64 (newG []).x.2.1, .bool (newG []).x.2.2.1, .int .i64 (newG []).x.2.2.2, .bool (newG []).hl, .slice PA2_3 (newG []).seen.length Pc2_3], Sx.rdc rG w2.heap.size w2'.heap.size (newG []) [.slice PA2_0 (newG []).prog.length Pc2_0, .int .i64 (newG []).a, .int .i64 (newG []).pc, .slice PA2_1 (newG []).wr.length Pc2_1, .slice PA2_2 (newG []).lv.length Pc2_2, .int .i64 (newG []).t.1, .int .i64 (newG []).t.2.1, .bool (newG []).t.2.2, .int .i64 (newG []).pd, .int .i64 (newG []).x.1, .int .i64 (newG []).x.2.1, .bool (newG []).x.2.2.1, .int .i64 (newG []).x.2.2.2, .bool (newG []).hl, .slice PA2_3 (newG []).seen.length Pc2_3], vr gp [.int .i64 p0, .int .i64 p1, .int .i64 p2, .int .i64 p3, .int .i64 p4, .int .i64 p5, .int .i64 p6, .int .i64 p7, .int .i64 p8, .int .i64 p9, .int .i64 p10, .int .i64 p11]] rfl (by kernel_rfl) (by kernel_rfl) (by kernel_rfl) rfl (by kernel_rfl) rfl (by kernel_rfl) (by kernel_rfl) (by kernel_rfl) ?_
    refine Sx.G.nil ?_
    refine Sx.E.next ?_
    refine Sx.C.seq ?_
    refine Sx.C.seq ?_
    refine Sx.C.region ?_
    refine Sx.G.pure (.int .i64 0) (by kernel_rfl) (fun w => by kernel_rfl) ?_
    refine Sx.G.nil ?_
    refine Sx.E.next ?_
    refine Sx.C.block ?_
    refine Sx.C.loop (α := Nat × Option Addr × Nat × Option Addr × Nat × Option Addr × Nat × Option Addr × Nat × Nat × Nat) (fun x => x.1 ≤ 45) (fun x => [(5, .int .i64 (x.1 : Int)), (2, .bool false), (3, .slice (some ⟨gp, 0, none⟩) 12 cp), (4, .pointer (some ⟨b3, 0, none⟩))]) (fun x => [vr b3 [.slice x.2.1 (sawK (p0.tmod 50) x.1).prog.length x.2.2.1, .int .i64 ((sawK (p0.tmod 50) x.1)).a, .int .i64 ((sawK (p0.tmod 50) x.1)).pc, .slice x.2.2.2.1 (sawK (p0.tmod 50) x.1).wr.length x.2.2.2.2.1, .slice x.2.2.2.2.2.1 (sawK (p0.tmod 50) x.1).lv.length x.2.2.2.2.2.2.1, .int .i64 ((sawK (p0.tmod 50) x.1)).t.1, .int .i64 ((sawK (p0.tmod 50) x.1)).t.2.1, .bool ((sawK (p0.tmod 50) x.1)).t.2.2, .int .i64 ((sawK (p0.tmod 50) x.1)).pd, .int .i64 ((sawK (p0.tmod 50) x.1)).x.1, .int .i64 ((sawK (p0.tmod 50) x.1)).x.2.1, .bool ((sawK (p0.tmod 50) x.1)).x.2.2.1, .int .i64 ((sawK (p0.tmod 50) x.1)).x.2.2.2, .bool ((sawK (p0.tmod 50) x.1)).hl, .slice x.2.2.2.2.2.2.2.1 (sawK (p0.tmod 50) x.1).seen.length x.2.2.2.2.2.2.2.2.1], Sx.rdc rG x.2.2.2.2.2.2.2.2.2.1 x.2.2.2.2.2.2.2.2.2.2 (sawK (p0.tmod 50) x.1) [.slice x.2.1 (sawK (p0.tmod 50) x.1).prog.length x.2.2.1, .int .i64 ((sawK (p0.tmod 50) x.1)).a, .int .i64 ((sawK (p0.tmod 50) x.1)).pc, .slice x.2.2.2.1 (sawK (p0.tmod 50) x.1).wr.length x.2.2.2.2.1, .slice x.2.2.2.2.2.1 (sawK (p0.tmod 50) x.1).lv.length x.2.2.2.2.2.2.1, .int .i64 ((sawK (p0.tmod 50) x.1)).t.1, .int .i64 ((sawK (p0.tmod 50) x.1)).t.2.1, .bool ((sawK (p0.tmod 50) x.1)).t.2.2, .int .i64 ((sawK (p0.tmod 50) x.1)).pd, .int .i64 ((sawK (p0.tmod 50) x.1)).x.1, .int .i64 ((sawK (p0.tmod 50) x.1)).x.2.1, .bool ((sawK (p0.tmod 50) x.1)).x.2.2.1, .int .i64 ((sawK (p0.tmod 50) x.1)).x.2.2.2, .bool ((sawK (p0.tmod 50) x.1)).hl, .slice x.2.2.2.2.2.2.2.1 (sawK (p0.tmod 50) x.1).seen.length x.2.2.2.2.2.2.2.2.1], vr gp [.int .i64 p0, .int .i64 p1, .int .i64 p2, .int .i64 p3, .int .i64 p4, .int .i64 p5, .int .i64 p6, .int .i64 p7, .int .i64 p8, .int .i64 p9, .int .i64 p10, .int .i64 p11]]) (fun x => 45 - x.1) (0, PA2_0, Pc2_0, PA2_1, Pc2_1, PA2_2, Pc2_2, PA2_3, Pc2_3, w2.heap.size, w2'.heap.size) (Nat.zero_le _) (fun a hA => (Sx.Ag.and hA (Sx.Ag.and hA (Sx.Ag.and hA (Sx.Ag.and hA (Sx.Ag.none hA) _ _ (by kernel_rfl)) _ _ (by kernel_rfl)) _ _ (by kernel_rfl)) _ _ (by kernel_rfl))) (fun w S => St.pick S [0, 1, 2] _ rfl (by decide)) (fun x hx => ?_)
    obtain ⟨k, xA0, xc0, xA1, xc1, xA2, xc2, xA3, xc3, xlo, xhi⟩ := x
    dsimp only at hx
    refine Sx.C.seq ?_
    refine Sx.C.seq ?_
    refine Sx.C.region ?_
    refine Sx.G.pure (.int .i64 (k : Int)) (by kernel_rfl) (fun w => by kernel_rfl) ?_
    refine Sx.G.pure (.bool (decide ((k : Int) < 45))) (by kernel_rfl) (fun w => by kernel_rfl) ?_
    refine Sx.G.nil ?_
    refine Sx.E.next ?_
    cases hc4 : (decide ((k : Int) < 45))
    · have hb4 := hc4
      replace hc4 := of_decide_eq_false hc4
      refine Sx.C.no (by kernel_rfl) (by kernel_rfl) ?_
      refine Sx.C.exit ?_
      refine Sx.E.then_exit ?_
      refine Sx.E.then_exit ?_
      refine Sx.E.block_hit ?_
      refine Sx.E.next ?_
      refine Sx.C.seq ?_
      have hk45 : k = 45 := by omega
      have hlen : (sawK (p0.tmod 50) k).seen.length = 40 := by rw [sawK_seen, hk45]; simp
      refine Sx.C.know (p := ∃ b off, xA3 = some ⟨b, off, none⟩) (fun w S => ?_) ?_
      · obtain ⟨P0, P1, P2, P3, e, r0, r1, r2, r3⟩ := rG_rd (Sx.St.rdc S 1 rfl)
        cases e
        obtain ⟨b, off, e, -⟩ := Sx.elem_at r3 0 (by rw [hlen]; decide)
        exact ⟨b, off, e⟩
      rintro ⟨sb, so, rfl⟩
      refine Sx.C.draw (.take 0 (.take 1 (.take 2 (.take 3 (.take 4 (.take 5 (.take 6 (.take 7 (.take 8 (.take 9 (.take 10 (.take 11 (.take 12 (.take 13 (.take 14 (.take 15 (.take 16 (.take 17 (.take 18 (.take 19 (.take 20 (.take 21 (.take 22 (.take 23 (.take 24 (.take 25 (.take 26 (.take 27 .nil)))))))))))))))))))))))))))) [vr b3 [.slice xA0 (sawK (p0.tmod 50) k).prog.length xc0, .int .i64 ((sawK (p0.tmod 50) k)).a, .int .i64 ((sawK (p0.tmod 50) k)).pc, .slice xA1 (sawK (p0.tmod 50) k).wr.length xc1, .slice xA2 (sawK (p0.tmod 50) k).lv.length xc2, .int .i64 ((sawK (p0.tmod 50) k)).t.1, .int .i64 ((sawK (p0.tmod 50) k)).t.2.1, .bool ((sawK (p0.tmod 50) k)).t.2.2, .int .i64 ((sawK (p0.tmod 50) k)).pd, .int .i64 ((sawK (p0.tmod 50) k)).x.1, .int .i64 ((sawK (p0.tmod 50) k)).x.2.1, .bool ((sawK (p0.tmod 50) k)).x.2.2.1, .int .i64 ((sawK (p0.tmod 50) k)).x.2.2.2, .bool ((sawK (p0.tmod 50) k)).hl, .slice (some ⟨sb, so, none⟩) (sawK (p0.tmod 50) k).seen.length xc3], Sx.rdc rG xlo xhi (sawK (p0.tmod 50) k) [.slice xA0 (sawK (p0.tmod 50) k).prog.length xc0, .int .i64 ((sawK (p0.tmod 50) k)).a, .int .i64 ((sawK (p0.tmod 50) k)).pc, .slice xA1 (sawK (p0.tmod 50) k).wr.length xc1, .slice xA2 (sawK (p0.tmod 50) k).lv.length xc2, .int .i64 ((sawK (p0.tmod 50) k)).t.1, .int .i64 ((sawK (p0.tmod 50) k)).t.2.1, .bool ((sawK (p0.tmod 50) k)).t.2.2, .int .i64 ((sawK (p0.tmod 50) k)).pd, .int .i64 ((sawK (p0.tmod 50) k)).x.1, .int .i64 ((sawK (p0.tmod 50) k)).x.2.1, .bool ((sawK (p0.tmod 50) k)).x.2.2.1, .int .i64 ((sawK (p0.tmod 50) k)).x.2.2.2, .bool ((sawK (p0.tmod 50) k)).hl, .slice (some ⟨sb, so, none⟩) (sawK (p0.tmod 50) k).seen.length xc3], vr gp [.int .i64 p0, .int .i64 p1, .int .i64 p2, .int .i64 p3, .int .i64 p4, .int .i64 p5, .int .i64 p6, .int .i64 p7, .int .i64 p8, .int .i64 p9, .int .i64 p10, .int .i64 p11]] (fun w S => St.pick S [0, 1, 2] _ rfl (by decide)) (by kernel_rfl) (by kernel_rfl) (by kernel_rfl) ?_
      refine Sx.GT.pure (.pointer (some ⟨b3, 14, none⟩)) 0 (by rfl) (by kernel_rfl) (fun w => by kernel_rfl) ?_
      refine Sx.GT.ld1 24 (.tmp 23) b3 14 0 [.slice xA0 (sawK (p0.tmod 50) k).prog.length xc0, .int .i64 ((sawK (p0.tmod 50) k)).a, .int .i64 ((sawK (p0.tmod 50) k)).pc, .slice xA1 (sawK (p0.tmod 50) k).wr.length xc1, .slice xA2 (sawK (p0.tmod 50) k).lv.length xc2, .int .i64 ((sawK (p0.tmod 50) k)).t.1, .int .i64 ((sawK (p0.tmod 50) k)).t.2.1, .bool ((sawK (p0.tmod 50) k)).t.2.2, .int .i64 ((sawK (p0.tmod 50) k)).pd, .int .i64 ((sawK (p0.tmod 50) k)).x.1, .int .i64 ((sawK (p0.tmod 50) k)).x.2.1, .bool ((sawK (p0.tmod 50) k)).x.2.2.1, .int .i64 ((sawK (p0.tmod 50) k)).x.2.2.2, .bool ((sawK (p0.tmod 50) k)).hl, .slice (some ⟨sb, so, none⟩) (sawK (p0.tmod 50) k).seen.length xc3] (.slice (some ⟨sb, so, none⟩) (sawK (p0.tmod 50) k).seen.length xc3) 1 (by rfl) (by rfl) (by kernel_rfl) (by kernel_rfl) (by rfl) (by kernel_rfl) (by kernel_rfl) ?_
      refine Sx.GT.pure (.int .i64 (((sawK (p0.tmod 50) k).seen.length : Nat) : Int)) 2 (by rfl) (by kernel_rfl) (fun w => by kernel_rfl) ?_
      refine Sx.GT.pureq (.bool ((((sawK (p0.tmod 50) k).seen.length : Nat) : Int) == 40)) (.bool true) 3 (by rfl) (by kernel_rfl) (fun w => by kernel_rfl) (congrArg Value.bool (by rw [hlen]; rfl)) ?_
      refine Sx.GT.pure (.bool true) 4 (by rfl) (by kernel_rfl) (fun w => by kernel_rfl) ?_
      refine Sx.GT.pure (.pointer (some ⟨b3, 14, none⟩)) 5 (by rfl) (by kernel_rfl) (fun w => by kernel_rfl) ?_
      refine Sx.GT.ld1 24 (.tmp 28) b3 14 0 [.slice xA0 (sawK (p0.tmod 50) k).prog.length xc0, .int .i64 ((sawK (p0.tmod 50) k)).a, .int .i64 ((sawK (p0.tmod 50) k)).pc, .slice xA1 (sawK (p0.tmod 50) k).wr.length xc1, .slice xA2 (sawK (p0.tmod 50) k).lv.length xc2, .int .i64 ((sawK (p0.tmod 50) k)).t.1, .int .i64 ((sawK (p0.tmod 50) k)).t.2.1, .bool ((sawK (p0.tmod 50) k)).t.2.2, .int .i64 ((sawK (p0.tmod 50) k)).pd, .int .i64 ((sawK (p0.tmod 50) k)).x.1, .int .i64 ((sawK (p0.tmod 50) k)).x.2.1, .bool ((sawK (p0.tmod 50) k)).x.2.2.1, .int .i64 ((sawK (p0.tmod 50) k)).x.2.2.2, .bool ((sawK (p0.tmod 50) k)).hl, .slice (some ⟨sb, so, none⟩) (sawK (p0.tmod 50) k).seen.length xc3] (.slice (some ⟨sb, so, none⟩) (sawK (p0.tmod 50) k).seen.length xc3) 6 (by rfl) (by rfl) (by kernel_rfl) (by kernel_rfl) (by rfl) (by kernel_rfl) (by kernel_rfl) ?_
      refine Sx.GT.pure (.pointer (some ⟨sb, so + 0, none⟩)) 7 (by rfl) (by kernel_rfl) (fun w => Sx.run_elemO 3 1 8 sb so ((sawK (p0.tmod 50) k).seen.length) xc3 0 rfl (by kernel_rfl) (by kernel_rfl) (by kernel_rfl) (show 0 < (sawK (p0.tmod 50) k).seen.length by rw [hlen]; decide) w) ?_
      refine Sx.GT.reads (.int .i64 (0 + (p0.tmod 50))) 8 (by rfl) (by kernel_rfl) (fun w S => Sx.run_ldr1 rfl (by kernel_rfl) (by kernel_rfl) (by obtain ⟨P0, P1, P2, P3, e, r0, r1, r2, r3⟩ := rG_rd (Sx.St.rdc S 1 rfl); cases e; obtain ⟨b, off, e, h⟩ := Sx.elem_at r3 0 (by rw [hlen]; decide); cases e; rw [h]; exact congrArg (fun z => some (Value.int .i64 z)) (saw_at (p0.tmod 50) k hk45 0 (by decide) _))) ?_
      refine Sx.GT.pure (.slice (some ⟨gp, 0, none⟩) 12 cp) 9 (by rfl) (by kernel_rfl) (fun w => by kernel_rfl) ?_
      refine Sx.GT.pure (.pointer (some ⟨gp, 0, none⟩)) 10 (by rfl) (by kernel_rfl) (fun w => Sx.run_elemO 3 1 8 gp 0 12 cp 0 rfl (by kernel_rfl) (by kernel_rfl) (by kernel_rfl) (by decide) w) ?_
      refine Sx.GT.ld1 3 (.tmp 33) gp 0 2 [.int .i64 p0, .int .i64 p1, .int .i64 p2, .int .i64 p3, .int .i64 p4, .int .i64 p5, .int .i64 p6, .int .i64 p7, .int .i64 p8, .int .i64 p9, .int .i64 p10, .int .i64 p11] (.int .i64 p0) 11 (by rfl) (by rfl) (by kernel_rfl) (by kernel_rfl) (by rfl) (by kernel_rfl) (by kernel_rfl) ?_
      refine Sx.GT.pure (.int .i64 (p0.tmod 50)) 12 (by rfl) (by kernel_rfl) (fun w => by kernel_rfl) ?_
      refine Sx.GT.pureq (.bool ((0 + (p0.tmod 50)) == (p0.tmod 50))) (.bool true) 13 (by rfl) (by kernel_rfl) (fun w => by kernel_rfl) (congrArg Value.bool (by rw [Int.zero_add]; exact beq_self_eq_true _)) ?_
      refine Sx.GT.pure (.bool true) 14 (by rfl) (by kernel_rfl) (fun w => by kernel_rfl) ?_
      refine Sx.GT.pure (.bool true) 15 (by rfl) (by kernel_rfl) (fun w => by kernel_rfl) ?_
      refine Sx.GT.pure (.pointer (some ⟨b3, 14, none⟩)) 16 (by rfl) (by kernel_rfl) (fun w => by kernel_rfl) ?_
      refine Sx.GT.ld1 24 (.tmp 39) b3 14 0 [.slice xA0 (sawK (p0.tmod 50) k).prog.length xc0, .int .i64 ((sawK (p0.tmod 50) k)).a, .int .i64 ((sawK (p0.tmod 50) k)).pc, .slice xA1 (sawK (p0.tmod 50) k).wr.length xc1, .slice xA2 (sawK (p0.tmod 50) k).lv.length xc2, .int .i64 ((sawK (p0.tmod 50) k)).t.1, .int .i64 ((sawK (p0.tmod 50) k)).t.2.1, .bool ((sawK (p0.tmod 50) k)).t.2.2, .int .i64 ((sawK (p0.tmod 50) k)).pd, .int .i64 ((sawK (p0.tmod 50) k)).x.1, .int .i64 ((sawK (p0.tmod 50) k)).x.2.1, .bool ((sawK (p0.tmod 50) k)).x.2.2.1, .int .i64 ((sawK (p0.tmod 50) k)).x.2.2.2, .bool ((sawK (p0.tmod 50) k)).hl, .slice (some ⟨sb, so, none⟩) (sawK (p0.tmod 50) k).seen.length xc3] (.slice (some ⟨sb, so, none⟩) (sawK (p0.tmod 50) k).seen.length xc3) 17 (by rfl) (by rfl) (by kernel_rfl) (by kernel_rfl) (by rfl) (by kernel_rfl) (by kernel_rfl) ?_
      refine Sx.GT.pure (.pointer (some ⟨sb, so + 39, none⟩)) 18 (by rfl) (by kernel_rfl) (fun w => Sx.run_elemO 3 1 8 sb so ((sawK (p0.tmod 50) k).seen.length) xc3 39 rfl (by kernel_rfl) (by kernel_rfl) (by kernel_rfl) (show 39 < (sawK (p0.tmod 50) k).seen.length by rw [hlen]; decide) w) ?_
      refine Sx.GT.reads (.int .i64 (39 + (p0.tmod 50))) 19 (by rfl) (by kernel_rfl) (fun w S => Sx.run_ldr1 rfl (by kernel_rfl) (by kernel_rfl) (by obtain ⟨P0, P1, P2, P3, e, r0, r1, r2, r3⟩ := rG_rd (Sx.St.rdc S 1 rfl); cases e; obtain ⟨b, off, e, h⟩ := Sx.elem_at r3 39 (by rw [hlen]; decide); cases e; rw [h]; exact congrArg (fun z => some (Value.int .i64 z)) (saw_at (p0.tmod 50) k hk45 39 (by decide) _))) ?_
      refine Sx.GT.pure (.slice (some ⟨gp, 0, none⟩) 12 cp) 20 (by rfl) (by kernel_rfl) (fun w => by kernel_rfl) ?_
      refine Sx.GT.pure (.pointer (some ⟨gp, 0, none⟩)) 21 (by rfl) (by kernel_rfl) (fun w => Sx.run_elemO 3 1 8 gp 0 12 cp 0 rfl (by kernel_rfl) (by kernel_rfl) (by kernel_rfl) (by decide) w) ?_
      refine Sx.GT.ld1 3 (.tmp 44) gp 0 2 [.int .i64 p0, .int .i64 p1, .int .i64 p2, .int .i64 p3, .int .i64 p4, .int .i64 p5, .int .i64 p6, .int .i64 p7, .int .i64 p8, .int .i64 p9, .int .i64 p10, .int .i64 p11] (.int .i64 p0) 22 (by rfl) (by rfl) (by kernel_rfl) (by kernel_rfl) (by rfl) (by kernel_rfl) (by kernel_rfl) ?_
      refine Sx.GT.pure (.int .i64 (p0.tmod 50)) 23 (by rfl) (by kernel_rfl) (fun w => by kernel_rfl) ?_
      refine Sx.GT.pureq (.int .i64 (IntKind.i64.wrap (39 + (p0.tmod 50)))) (.int .i64 (39 + (p0.tmod 50))) 24 (by rfl) (by kernel_rfl) (fun w => by kernel_rfl) (congrArg (Value.int .i64) (by rw [IntKind.wrap_i64]; omega)) ?_
      refine Sx.GT.pureq (.bool ((39 + (p0.tmod 50)) == (39 + (p0.tmod 50)))) (.bool true) 25 (by rfl) (by kernel_rfl) (fun w => by kernel_rfl) (congrArg Value.bool (beq_self_eq_true _)) ?_
      refine Sx.GT.pure (.bool true) 26 (by rfl) (by kernel_rfl) (fun w => by kernel_rfl) ?_
      refine Sx.GT.pure (.bool true) 27 (by rfl) (by kernel_rfl) (fun w => by kernel_rfl) ?_
      refine Sx.GT.nil ?_
      refine Sx.E.next ?_
      refine Sx.C.ret ?_
      refine Sx.E.ret1 (.bool true) rfl (by kernel_rfl) (fun w S => ?_)
      exact ⟨rfl, S.below⟩
    · have hb4 := hc4
      replace hc4 := of_decide_eq_true hc4
      refine Sx.C.yes (by kernel_rfl) (by kernel_rfl) ?_
      refine Sx.C.skip ?_
      refine Sx.E.next ?_
      refine Sx.C.seq ?_
      refine Sx.C.block ?_
      refine Sx.C.draw (.take 1 (.take 2 (.take 3 (.take 4 (.take 5 (.take 6 (.alone 0 (.alone 7 (.alone 8 .nil))))))))) [Sx.rdc rG xlo xhi (sawK (p0.tmod 50) k) [.slice xA0 (sawK (p0.tmod 50) k).prog.length xc0, .int .i64 ((sawK (p0.tmod 50) k)).a, .int .i64 ((sawK (p0.tmod 50) k)).pc, .slice xA1 (sawK (p0.tmod 50) k).wr.length xc1, .slice xA2 (sawK (p0.tmod 50) k).lv.length xc2, .int .i64 ((sawK (p0.tmod 50) k)).t.1, .int .i64 ((sawK (p0.tmod 50) k)).t.2.1, .bool ((sawK (p0.tmod 50) k)).t.2.2, .int .i64 ((sawK (p0.tmod 50) k)).pd, .int .i64 ((sawK (p0.tmod 50) k)).x.1, .int .i64 ((sawK (p0.tmod 50) k)).x.2.1, .bool ((sawK (p0.tmod 50) k)).x.2.2.1, .int .i64 ((sawK (p0.tmod 50) k)).x.2.2.2, .bool ((sawK (p0.tmod 50) k)).hl, .slice xA3 (sawK (p0.tmod 50) k).seen.length xc3], vr gp [.int .i64 p0, .int .i64 p1, .int .i64 p2, .int .i64 p3, .int .i64 p4, .int .i64 p5, .int .i64 p6, .int .i64 p7, .int .i64 p8, .int .i64 p9, .int .i64 p10, .int .i64 p11]] (fun w S => St.pick S [1, 2] _ rfl (by decide)) (by kernel_rfl) (by kernel_rfl) (by kernel_rfl) ?_
      refine Sx.GT.pure (.int .i64 (k : Int)) 1 (by rfl) (by kernel_rfl) (fun w => by kernel_rfl) ?_
      refine Sx.GT.pure (.slice (some ⟨gp, 0, none⟩) 12 cp) 2 (by rfl) (by kernel_rfl) (fun w => by kernel_rfl) ?_
      refine Sx.GT.pure (.pointer (some ⟨gp, 0, none⟩)) 3 (by rfl) (by kernel_rfl) (fun w => Sx.run_elemO 3 1 8 gp 0 12 cp 0 rfl (by kernel_rfl) (by kernel_rfl) (by kernel_rfl) (by decide) w) ?_
      refine Sx.GT.ld1 3 (.tmp 18) gp 0 1 [.int .i64 p0, .int .i64 p1, .int .i64 p2, .int .i64 p3, .int .i64 p4, .int .i64 p5, .int .i64 p6, .int .i64 p7, .int .i64 p8, .int .i64 p9, .int .i64 p10, .int .i64 p11] (.int .i64 p0) 4 (by rfl) (by rfl) (by kernel_rfl) (by kernel_rfl) (by rfl) (by kernel_rfl) (by kernel_rfl) ?_
      refine Sx.GT.pure (.int .i64 (p0.tmod 50)) 5 (by rfl) (by kernel_rfl) (fun w => by kernel_rfl) ?_
      refine Sx.GT.pureq (.int .i64 (IntKind.i64.wrap ((k : Int) + (p0.tmod 50)))) (.int .i64 ((k : Int) + (p0.tmod 50))) 6 (by rfl) (by kernel_rfl) (fun w => by kernel_rfl) (congrArg (Value.int .i64) (by rw [IntKind.wrap_i64]; omega)) ?_
      refine Sx.GT.alone (Sx.Alone.ld 33 (.tmp 4) b3 0 0 [.slice xA0 (sawK (p0.tmod 50) k).prog.length xc0, .int .i64 ((sawK (p0.tmod 50) k)).a, .int .i64 ((sawK (p0.tmod 50) k)).pc, .slice xA1 (sawK (p0.tmod 50) k).wr.length xc1, .slice xA2 (sawK (p0.tmod 50) k).lv.length xc2, .int .i64 ((sawK (p0.tmod 50) k)).t.1, .int .i64 ((sawK (p0.tmod 50) k)).t.2.1, .bool ((sawK (p0.tmod 50) k)).t.2.2, .int .i64 ((sawK (p0.tmod 50) k)).pd, .int .i64 ((sawK (p0.tmod 50) k)).x.1, .int .i64 ((sawK (p0.tmod 50) k)).x.2.1, .bool ((sawK (p0.tmod 50) k)).x.2.2.1, .int .i64 ((sawK (p0.tmod 50) k)).x.2.2.2, .bool ((sawK (p0.tmod 50) k)).hl, .slice xA3 (sawK (p0.tmod 50) k).seen.length xc3] [.slice xA0 (sawK (p0.tmod 50) k).prog.length xc0, .int .i64 ((sawK (p0.tmod 50) k)).a, .int .i64 ((sawK (p0.tmod 50) k)).pc, .slice xA1 (sawK (p0.tmod 50) k).wr.length xc1, .slice xA2 (sawK (p0.tmod 50) k).lv.length xc2, .int .i64 ((sawK (p0.tmod 50) k)).t.1, .int .i64 ((sawK (p0.tmod 50) k)).t.2.1, .bool ((sawK (p0.tmod 50) k)).t.2.2, .int .i64 ((sawK (p0.tmod 50) k)).pd, .int .i64 ((sawK (p0.tmod 50) k)).x.1, .int .i64 ((sawK (p0.tmod 50) k)).x.2.1, .bool ((sawK (p0.tmod 50) k)).x.2.2.1, .int .i64 ((sawK (p0.tmod 50) k)).x.2.2.2, .bool ((sawK (p0.tmod 50) k)).hl, .slice xA3 (sawK (p0.tmod 50) k).seen.length xc3] (by rfl) (by rfl) (by kernel_rfl) (by kernel_rfl) (by rfl) (by kernel_rfl) (by kernel_rfl) (by kernel_rfl) (fun w S => St.pick S [1, 2] _ rfl (by decide)) ?_)
      refine Sx.GT.alone (Sx.Alone.call 15 #[.agg #[.slice xA0 (sawK (p0.tmod 50) k).prog.length xc0, .int .i64 ((sawK (p0.tmod 50) k)).a, .int .i64 ((sawK (p0.tmod 50) k)).pc, .slice xA1 (sawK (p0.tmod 50) k).wr.length xc1, .slice xA2 (sawK (p0.tmod 50) k).lv.length xc2, .int .i64 ((sawK (p0.tmod 50) k)).t.1, .int .i64 ((sawK (p0.tmod 50) k)).t.2.1, .bool ((sawK (p0.tmod 50) k)).t.2.2, .int .i64 ((sawK (p0.tmod 50) k)).pd, .int .i64 ((sawK (p0.tmod 50) k)).x.1, .int .i64 ((sawK (p0.tmod 50) k)).x.2.1, .bool ((sawK (p0.tmod 50) k)).x.2.2.1, .int .i64 ((sawK (p0.tmod 50) k)).x.2.2.2, .bool ((sawK (p0.tmod 50) k)).hl, .slice xA3 (sawK (p0.tmod 50) k).seen.length xc3], .int .i64 ((k : Int) + (p0.tmod 50))] (by rfl) (by kernel_rfl) (fun w => by kernel_rfl) (fun w5 S => (impl_saw ((sawK (p0.tmod 50) k)) _ (((k : Int) + (p0.tmod 50))) _ (sawK_wf (p0.tmod 50) hs _ (by omega)) (Sx.wf_small (by omega) (by omega)) (sawK_cap (p0.tmod 50) _) (Sx.St.rdc S 1 rfl)).mono fun e w5' hp => ?_))
      obtain ⟨y0, y1, y2, y3, rfl, ho, hb⟩ := hp
      obtain ⟨PA5_0, Pc5_0, e0, -⟩ := ho.r0
      subst e0
      obtain ⟨PA5_1, Pc5_1, e0, -⟩ := ho.r1
      subst e0
      obtain ⟨PA5_2, Pc5_2, e0, -⟩ := ho.r2
      subst e0
      obtain ⟨PA5_3, Pc5_3, e0, -⟩ := ho.r3
      subst e0
      have hrd := ho.rg
      refine ⟨_, _, rfl, (Sx.St.gotR S hb hrd), (fun w S => St.pick S [2, 3] _ rfl (by decide)), ?_⟩
      clear S ho hb hrd
      refine Sx.GT.alone (Sx.Alone.sto 33 (.tmp 4) (.tmp 22) b3 0 1 [.slice xA0 (sawK (p0.tmod 50) k).prog.length xc0, .int .i64 ((sawK (p0.tmod 50) k)).a, .int .i64 ((sawK (p0.tmod 50) k)).pc, .slice xA1 (sawK (p0.tmod 50) k).wr.length xc1, .slice xA2 (sawK (p0.tmod 50) k).lv.length xc2, .int .i64 ((sawK (p0.tmod 50) k)).t.1, .int .i64 ((sawK (p0.tmod 50) k)).t.2.1, .bool ((sawK (p0.tmod 50) k)).t.2.2, .int .i64 ((sawK (p0.tmod 50) k)).pd, .int .i64 ((sawK (p0.tmod 50) k)).x.1, .int .i64 ((sawK (p0.tmod 50) k)).x.2.1, .bool ((sawK (p0.tmod 50) k)).x.2.2.1, .int .i64 ((sawK (p0.tmod 50) k)).x.2.2.2, .bool ((sawK (p0.tmod 50) k)).hl, .slice xA3 (sawK (p0.tmod 50) k).seen.length xc3] [.slice PA5_0 ((sawG ((sawK (p0.tmod 50) k)) (((k : Int) + (p0.tmod 50))))).prog.length Pc5_0, .int .i64 ((sawG ((sawK (p0.tmod 50) k)) (((k : Int) + (p0.tmod 50))))).a, .int .i64 ((sawG ((sawK (p0.tmod 50) k)) (((k : Int) + (p0.tmod 50))))).pc, .slice PA5_1 ((sawG ((sawK (p0.tmod 50) k)) (((k : Int) + (p0.tmod 50))))).wr.length Pc5_1, .slice PA5_2 ((sawG ((sawK (p0.tmod 50) k)) (((k : Int) + (p0.tmod 50))))).lv.length Pc5_2, .int .i64 ((sawG ((sawK (p0.tmod 50) k)) (((k : Int) + (p0.tmod 50))))).t.1, .int .i64 ((sawG ((sawK (p0.tmod 50) k)) (((k : Int) + (p0.tmod 50))))).t.2.1, .bool ((sawG ((sawK (p0.tmod 50) k)) (((k : Int) + (p0.tmod 50))))).t.2.2, .int .i64 ((sawG ((sawK (p0.tmod 50) k)) (((k : Int) + (p0.tmod 50))))).pd, .int .i64 ((sawG ((sawK (p0.tmod 50) k)) (((k : Int) + (p0.tmod 50))))).x.1, .int .i64 ((sawG ((sawK (p0.tmod 50) k)) (((k : Int) + (p0.tmod 50))))).x.2.1, .bool ((sawG ((sawK (p0.tmod 50) k)) (((k : Int) + (p0.tmod 50))))).x.2.2.1, .int .i64 ((sawG ((sawK (p0.tmod 50) k)) (((k : Int) + (p0.tmod 50))))).x.2.2.2, .bool ((sawG ((sawK (p0.tmod 50) k)) (((k : Int) + (p0.tmod 50))))).hl, .slice PA5_3 ((sawG ((sawK (p0.tmod 50) k)) (((k : Int) + (p0.tmod 50))))).seen.length Pc5_3] [.slice PA5_0 ((sawG ((sawK (p0.tmod 50) k)) (((k : Int) + (p0.tmod 50))))).prog.length Pc5_0, .int .i64 ((sawG ((sawK (p0.tmod 50) k)) (((k : Int) + (p0.tmod 50))))).a, .int .i64 ((sawG ((sawK (p0.tmod 50) k)) (((k : Int) + (p0.tmod 50))))).pc, .slice PA5_1 ((sawG ((sawK (p0.tmod 50) k)) (((k : Int) + (p0.tmod 50))))).wr.length Pc5_1, .slice PA5_2 ((sawG ((sawK (p0.tmod 50) k)) (((k : Int) + (p0.tmod 50))))).lv.length Pc5_2, .int .i64 ((sawG ((sawK (p0.tmod 50) k)) (((k : Int) + (p0.tmod 50))))).t.1, .int .i64 ((sawG ((sawK (p0.tmod 50) k)) (((k : Int) + (p0.tmod 50))))).t.2.1, .bool ((sawG ((sawK (p0.tmod 50) k)) (((k : Int) + (p0.tmod 50))))).t.2.2, .int .i64 ((sawG ((sawK (p0.tmod 50) k)) (((k : Int) + (p0.tmod 50))))).pd, .int .i64 ((sawG ((sawK (p0.tmod 50) k)) (((k : Int) + (p0.tmod 50))))).x.1, .int .i64 ((sawG ((sawK (p0.tmod 50) k)) (((k : Int) + (p0.tmod 50))))).x.2.1, .bool ((sawG ((sawK (p0.tmod 50) k)) (((k : Int) + (p0.tmod 50))))).x.2.2.1, .int .i64 ((sawG ((sawK (p0.tmod 50) k)) (((k : Int) + (p0.tmod 50))))).x.2.2.2, .bool ((sawG ((sawK (p0.tmod 50) k)) (((k : Int) + (p0.tmod 50))))).hl, .slice PA5_3 ((sawG ((sawK (p0.tmod 50) k)) (((k : Int) + (p0.tmod 50))))).seen.length Pc5_3] [Sx.rdc rG w5.heap.size w5'.heap.size ((sawG ((sawK (p0.tmod 50) k)) (((k : Int) + (p0.tmod 50))))) [.slice PA5_0 ((sawG ((sawK (p0.tmod 50) k)) (((k : Int) + (p0.tmod 50))))).prog.length Pc5_0, .int .i64 ((sawG ((sawK (p0.tmod 50) k)) (((k : Int) + (p0.tmod 50))))).a, .int .i64 ((sawG ((sawK (p0.tmod 50) k)) (((k : Int) + (p0.tmod 50))))).pc, .slice PA5_1 ((sawG ((sawK (p0.tmod 50) k)) (((k : Int) + (p0.tmod 50))))).wr.length Pc5_1, .slice PA5_2 ((sawG ((sawK (p0.tmod 50) k)) (((k : Int) + (p0.tmod 50))))).lv.length Pc5_2, .int .i64 ((sawG ((sawK (p0.tmod 50) k)) (((k : Int) + (p0.tmod 50))))).t.1, .int .i64 ((sawG ((sawK (p0.tmod 50) k)) (((k : Int) + (p0.tmod 50))))).t.2.1, .bool ((sawG ((sawK (p0.tmod 50) k)) (((k : Int) + (p0.tmod 50))))).t.2.2, .int .i64 ((sawG ((sawK (p0.tmod 50) k)) (((k : Int) + (p0.tmod 50))))).pd, .int .i64 ((sawG ((sawK (p0.tmod 50) k)) (((k : Int) + (p0.tmod 50))))).x.1, .int .i64 ((sawG ((sawK (p0.tmod 50) k)) (((k : Int) + (p0.tmod 50))))).x.2.1, .bool ((sawG ((sawK (p0.tmod 50) k)) (((k : Int) + (p0.tmod 50))))).x.2.2.1, .int .i64 ((sawG ((sawK (p0.tmod 50) k)) (((k : Int) + (p0.tmod 50))))).x.2.2.2, .bool ((sawG ((sawK (p0.tmod 50) k)) (((k : Int) + (p0.tmod 50))))).hl, .slice PA5_3 ((sawG ((sawK (p0.tmod 50) k)) (((k : Int) + (p0.tmod 50))))).seen.length Pc5_3], vr b3 [.slice PA5_0 ((sawG ((sawK (p0.tmod 50) k)) (((k : Int) + (p0.tmod 50))))).prog.length Pc5_0, .int .i64 ((sawG ((sawK (p0.tmod 50) k)) (((k : Int) + (p0.tmod 50))))).a, .int .i64 ((sawG ((sawK (p0.tmod 50) k)) (((k : Int) + (p0.tmod 50))))).pc, .slice PA5_1 ((sawG ((sawK (p0.tmod 50) k)) (((k : Int) + (p0.tmod 50))))).wr.length Pc5_1, .slice PA5_2 ((sawG ((sawK (p0.tmod 50) k)) (((k : Int) + (p0.tmod 50))))).lv.length Pc5_2, .int .i64 ((sawG ((sawK (p0.tmod 50) k)) (((k : Int) + (p0.tmod 50))))).t.1, .int .i64 ((sawG ((sawK (p0.tmod 50) k)) (((k : Int) + (p0.tmod 50))))).t.2.1, .bool ((sawG ((sawK (p0.tmod 50) k)) (((k : Int) + (p0.tmod 50))))).t.2.2, .int .i64 ((sawG ((sawK (p0.tmod 50) k)) (((k : Int) + (p0.tmod 50))))).pd, .int .i64 ((sawG ((sawK (p0.tmod 50) k)) (((k : Int) + (p0.tmod 50))))).x.1, .int .i64 ((sawG ((sawK (p0.tmod 50) k)) (((k : Int) + (p0.tmod 50))))).x.2.1, .bool ((sawG ((sawK (p0.tmod 50) k)) (((k : Int) + (p0.tmod 50))))).x.2.2.1, .int .i64 ((sawG ((sawK (p0.tmod 50) k)) (((k : Int) + (p0.tmod 50))))).x.2.2.2, .bool ((sawG ((sawK (p0.tmod 50) k)) (((k : Int) + (p0.tmod 50))))).hl, .slice PA5_3 ((sawG ((sawK (p0.tmod 50) k)) (((k : Int) + (p0.tmod 50))))).seen.length Pc5_3], Sx.rdc rG xlo xhi (sawK (p0.tmod 50) k) [.slice xA0 (sawK (p0.tmod 50) k).prog.length xc0, .int .i64 ((sawK (p0.tmod 50) k)).a, .int .i64 ((sawK (p0.tmod 50) k)).pc, .slice xA1 (sawK (p0.tmod 50) k).wr.length xc1, .slice xA2 (sawK (p0.tmod 50) k).lv.length xc2, .int .i64 ((sawK (p0.tmod 50) k)).t.1, .int .i64 ((sawK (p0.tmod 50) k)).t.2.1, .bool ((sawK (p0.tmod 50) k)).t.2.2, .int .i64 ((sawK (p0.tmod 50) k)).pd, .int .i64 ((sawK (p0.tmod 50) k)).x.1, .int .i64 ((sawK (p0.tmod 50) k)).x.2.1, .bool ((sawK (p0.tmod 50) k)).x.2.2.1, .int .i64 ((sawK (p0.tmod 50) k)).x.2.2.2, .bool ((sawK (p0.tmod 50) k)).hl, .slice xA3 (sawK (p0.tmod 50) k).seen.length xc3], vr gp [.int .i64 p0, .int .i64 p1, .int .i64 p2, .int .i64 p3, .int .i64 p4, .int .i64 p5, .int .i64 p6, .int .i64 p7, .int .i64 p8, .int .i64 p9, .int .i64 p10, .int .i64 p11]] (by rfl) (by rfl) (by kernel_rfl) (by kernel_rfl) (by kernel_rfl) (by rfl) (by kernel_rfl) (by rfl) (by kernel_rfl) (by kernel_rfl) (by kernel_rfl) (fun w S => St.pick S [2, 3] _ rfl (by decide)) ?_)
      refine Sx.GT.nil ?_
      refine Sx.E.block_normal ?_
      refine Sx.E.next ?_
      refine Sx.C.region ?_
      refine Sx.G.pure (.int .i64 (k : Int)) (by kernel_rfl) (fun w => by kernel_rfl) ?_
      refine Sx.G.pureq (.int .i64 (IntKind.i64.wrap ((k : Int) + 1))) (.int .i64 ((k + 1 : Nat) : Int)) (by kernel_rfl) (fun w => by kernel_rfl) (congrArg (Value.int .i64) (Sx.wrap_up k (by omega))) ?_
      refine Sx.G.pure (.int .i64 ((k + 1 : Nat) : Int)) (by kernel_rfl) (fun w => by kernel_rfl) ?_
      refine Sx.G.nil ?_
      exact Sx.E.again (k + 1, PA5_0, Pc5_0, PA5_1, Pc5_1, PA5_2, Pc5_2, PA5_3, Pc5_3, w5.heap.size, w5'.heap.size) (by show k + 1 ≤ 45; omega) (by show 45 - (k + 1) < 45 - k; omega) (fun a hA => (Sx.Ag.and hA (Sx.Ag.and hA (Sx.Ag.and hA (Sx.Ag.and hA (Sx.Ag.none hA) _ _ (by kernel_rfl)) _ _ (by kernel_rfl)) _ _ (by kernel_rfl)) _ _ (by kernel_rfl))) (fun w S => St.pick S [1, 0, 3] _ rfl (by decide))

/-! ### The row's step -/
set_option maxRecDepth 100000 in
theorem lifted (os : Os) (started : os.Started) (H : Type) (enc : TypeId × Value → H) :
    ReturnsInHanded {} Try.checked os 3 .any (Rows.fnSeenCapSpec.pre6 enc Try.prog Try.f3 Rows.fnSeenCapRow.domain false) (Rows.fnSeenCapSpec.post enc Try.prog Try.f3 false true false false) := by
  refine returnsInHanded_of_change (C := Try.checked) Base.own started (by kernel_rfl) Try.func3
    (ChangeSpec.witness6 (enc := enc) (C := Try.checked) false ⟨#[], #[.slice none 0 0], []⟩ 8 (by kernel_rfl) (by kernel_rfl) (by kernel_rfl) (by kernel_rfl)) ?_
  intro W base args ds gs before hval0 hW hcnd _
  have hval : ∀ (j : Nat) t v, Try.f3.params[j]? = some t → args[j]? = some v → Value.okWide Try.prog W .any base t v := hval0
  have hW' := hW
  obtain ⟨p, q, hA0, hV, rfl, hfz, hnd⟩ := hW
  have hA : DataW.TrodAll enc Try.prog W 0 (fun _ => true) true Try.f3.params.toList args.toList ds p := hA0
  have hA1 := hA
  rw [Try.params3] at hA hval
  obtain ⟨v0, vs0, d0, ds0, p0, q0, hargs, rfl, rfl, h0, r0⟩ := trodAll_cons hA
  obtain ⟨rfl, rfl, rfl⟩ := trodAll_nil r0
  obtain rfl : args = #[v0] := by cases args; simp_all
  obtain ⟨rfl, rfl⟩ := trodVars_none hV
  obtain ⟨A0, n0, c0, rfl, hn0, hcode0, _⟩ := Draw.open_code (hval 0 22 v0 rfl rfl) h0
  clear hA0 hval0
  rw [List.append_nil] at hW'
  refine (walk A0 n0 c0 hn0 hcode0).mono fun e W' ⟨he, hg⟩ => ?_
  subst he
  exact ⟨_, rfl, Mem.post_args Slots.laid (by kernel_rfl) rfl rfl rfl hW' hA1 hg (fun _ _ _ => (trodAll_cons_mk (shut_bool Try.underlying4 _) trodAll_mk0)) (ok_one (by kernel_rfl) rfl (okWide_bool_mk Try.underlying4 _))⟩

theorem over : Rows.fnSeenCapRow.holds Try.pinned (OpenSpec.ofChange Rows.fnSeenCapSpec) :=
  OpenClaim.holds_of_wide 3 Try.f3 rfl rfl rfl rfl rfl rfl rfl ⟨rfl, rfl, rfl, rfl, rfl⟩ rfl rfl rfl rfl rfl (by kernel_rfl) Try.func3 (by kernel_rfl)
    (of_decide_eq_true (by kernel_rfl)) (by unfold Func.isWrapper; first | (rw [if_pos (by decide +kernel)]; kernel_rfl) | (rw [if_neg (by decide +kernel)]; exact ⟨rfl, rfl⟩))
    (fun os started H enc _ => lifted os started H enc)

/-- The given statement. -/
theorem proved : Rows.FnSeenCapSaid :=
  over
#print axioms proved
end Go.Proofs.Yteopkcndkcciaaa.fnSeenCap
