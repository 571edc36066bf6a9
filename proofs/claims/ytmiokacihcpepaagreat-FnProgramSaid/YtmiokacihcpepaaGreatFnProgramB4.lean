/-
  The texts that FnProgram wants, part 4: StepI KitBool StepR RunX SI SlotDraw SlotDraws InsDraw2 GuestLaw Cut BareSL. No condition.
-/
import Derived.Test.YtmiokacihcpepaaGreatFnProgramB3
namespace Go.Proofs.YtmiokacihcpepaaGreat.Kit
set_option maxHeartbeats 8000000
set_option maxRecDepth 100000
set_option maxRecDepth 100000
open Go.ChangeShapes Go.WideShapes Go.ChangeAt Go.RowKit Go.Deep
open Go.Proofs.YtmiokacihcpepaaGreat.Base Go.Proofs.YtmiokacihcpepaaGreat.Mem Go.Proofs.YtmiokacihcpepaaGreat.Data Go.Proofs.YtmiokacihcpepaaGreat.Stt Go.Proofs.YtmiokacihcpepaaGreat.Guests Go.Proofs.YtmiokacihcpepaaGreat.Ctls Go.Proofs.YtmiokacihcpepaaGreat.Exits Go.Proofs.YtmiokacihcpepaaGreat.Irqs Go.Proofs.YtmiokacihcpepaaGreat.Inss Go.Proofs.YtmiokacihcpepaaGreat.Slots
set_option linter.unusedVariables false
set_option linter.unusedSimpArgs false
def mix {α : Type} (r : Rp α) (w0 : World) (lo hi : Nat) (x : α) (cs : List Value) (F : List Nat) : Res where
 says w := (∀ k ∈ F, lo ≤ k ∧ k < hi) ∧ ∀ v : World, Below w0.heap.size w0 v → hi ≤ v.heap.size → (∀ k ∈ F, v.heap[k]? = w.heap[k]?) → r.rd v 0 v.heap.size x cs
 foot k := k ∈ F ∧ lo ≤ k ∧ k < hi
 lo := lo
 hi := hi
 inn k h := h.2
 kept h hk := ⟨h.1, fun v hb hs hF => h.2 v hb hs fun k hq => (hF k hq).trans (hk k ⟨hq, h.1 k hq⟩)⟩
section
variable {α : Type} {r : Rp α} {w0 w : World} {L M : List Res} {x : α} {cs : List Value}
theorem mix_rd {lo hi : Nat} {F : List Nat} (S : St w0 w L) (i : Nat) (h : L[i]? = some (mix r w0 lo hi x cs F)) : r.rd w 0 w.heap.size x cs := (S.at_ i h).2 w S.below (S.hi i _ h) fun _ _ => rfl
theorem old_in {v : World} (hb : Below w0.heap.size w0 v) (h : r.rd w0 0 w0.heap.size x cs) : r.rd v 0 v.heap.size x cs := St.old ((St.start w0).call hb) h
theorem mix_old (S : St w0 w L) (h : r.rd w0 0 w0.heap.size x cs) : St w0 w (mix r w0 w.heap.size w.heap.size x cs [] :: L) :=
 S.add (Below.refl _ _) (mix r w0 w.heap.size w.heap.size x cs []) ⟨fun k hk => (by cases hk), fun v hb _ _ => old_in hb h⟩ (Nat.le_refl _) (Nat.le_refl _)
open Classical in
theorem mix_of {rs : List Res} (S : St w0 w (rs ++ M)) (h : ∀ v : World, Below w0.heap.size w0 v → w.heap.size ≤ v.heap.size → (∀ s ∈ rs, s.says v) → r.rd v 0 v.heap.size x cs) : ∃ F, St w0 w (mix r w0 w0.heap.size w.heap.size x cs F :: M) := by
 have key : ∀ s ∈ rs, ∃ i, (rs ++ M)[i]? = some s := fun s hs => by
  obtain ⟨i, hi⟩ := List.mem_iff_getElem?.1 hs
  exact ⟨i, by rw [List.getElem?_append_left (List.getElem?_eq_some_iff.1 hi).1]; exact hi⟩
 refine ⟨(List.range w.heap.size).filter (fun k => decide (∃ s ∈ rs, s.foot k)), Sx.St.merge (rs := rs) S _ ⟨fun k hk => ?_, fun v hb hs hv => h v hb hs fun s hr => ?_⟩ (fun k hk => ?_) (Nat.le_refl _) (Nat.le_refl _)⟩
 ·
  rw [List.mem_filter] at hk
  obtain ⟨s, hs, hf⟩ := of_decide_eq_true hk.2
  obtain ⟨i, hi⟩ := key s hs
  exact S.footlt hi hf
 ·
  obtain ⟨i, hi⟩ := key s hr
  exact s.kept (S.says i s hi) fun k hk => hv k (List.mem_filter.2 ⟨List.mem_range.2 (S.footlt hi hk).2, decide_eq_true ⟨s, hr, hk⟩⟩)
 ·
  obtain ⟨hk, -⟩ := hk
  rw [List.mem_filter] at hk
  exact of_decide_eq_true hk.2
theorem ow_in {lo hi : Nat} {F : List Nat} {v : World} (h : (ow r lo hi x cs F).says v) (hh : hi ≤ v.heap.size) : r.rd v 0 v.heap.size x cs := r.wide (r.reads h.1) (Nat.zero_le _) hh
end
def WalksOk (w0 : World) (y : gT) : Prop := ∀ (wr : Bool), wantG y = (if wr = true then 4 else 3) → ∀ (w : World) (A : Option Addr) (c : Nat), Below w0.heap.size w0 w → Lies w 0 w.heap.size A (Slots.scells y.lv) →
 Calls Tryz.prog 266 #[.slice A y.lv.length c, .int .i64 (Addrs.addrP (addrG y)), .int .i64 (Rights.need wr)] w fun e w' => e = .returned (.tuple #[.int .i64 (innerW y.lv (Addrs.addrP (addrG y)) (Rights.need wr)).1, .bool (innerW y.lv (Addrs.addrP (addrG y)) (Rights.need wr)).2]) ∧ Below w.heap.size w w'
theorem WalksOk.below {w0 w : World} {y : gT} (h : WalksOk w0 y) (hb : Below w0.heap.size w0 w) : WalksOk w y := fun wr hw v A c hv hl => h wr hw v A c (hb.trans (hv.mono hb.size)) hl
theorem need_wf (b : Bool) : (Lit.int .i64 (Rights.need b)).wf = true := by cases b <;> decide
theorem wB_part0 {w : World} {lo hi : Nat} {g : bT} {v0 v1 v2 v3 : Value} (h : wB.rd w lo hi g [v0, v1, v2, v3]) : rdLst (rLsw rInt) w lo hi g.mem [v0] := by
 obtain ⟨Q0, Q1, Q2, e, h0, h1, h2⟩ := wB_rd h
 cases e
 exact h0
theorem wB_part1 {w : World} {lo hi : Nat} {g : bT} {v0 v1 v2 v3 : Value} (h : wB.rd w lo hi g [v0, v1, v2, v3]) : rdLst wG w lo hi g.gs [v1] := by
 obtain ⟨Q0, Q1, Q2, e, h0, h1, h2⟩ := wB_rd h
 cases e
 exact h1
theorem wB_part2 {w : World} {lo hi : Nat} {g : bT} {v0 v1 v2 v3 : Value} (h : wB.rd w lo hi g [v0, v1, v2, v3]) : rdLst rInt w lo hi g.outs [v2] := by
 obtain ⟨Q0, Q1, Q2, e, h0, h1, h2⟩ := wB_rd h
 cases e
 exact h2
def loadV (x : bT) (y : gT) (addr : Int) : Int × Bool := if (innerW y.lv (Addrs.addrP addr) (Rights.need false)).2 = true then (cellA x.mem (innerW y.lv (Addrs.addrP addr) (Rights.need false)).1 (Addrs.addrC addr), true) else (0, false)
def loadP (x : bT) (y : gT) : bT × gT := if (loadV x y (addrG y)).2 = true then (x, loadedG y (loadV x y (addrG y)).1) else (x, stopG y (1, Addrs.addrP (addrG y), false, 0))
def storeM (x : bT) (y : gT) (addr v : Int) : bT := { x with mem := putC x.mem (innerW y.lv (Addrs.addrP addr) (Rights.need true)).1 (Addrs.addrC addr) v }
def storeP (x : bT) (y : gT) : bT × gT := if (innerW y.lv (Addrs.addrP (addrG y)) (Rights.need true)).2 = true then (storeM x y (addrG y) y.a, movedG y) else (x, stopG y (1, Addrs.addrP (addrG y), true, 0))
def outP (x : bT) (y : gT) : bT × gT := if Ctls.hasTrap y.t.1 1 = true then (x, stopG y (3, 0, false, (insAt y.prog y.pc).2)) else (putB x (insAt y.prog y.pc).2, movedG y)
def haltP (x : bT) (y : gT) : bT × gT := if Ctls.hasTrap y.t.1 2 = true then (x, stopG y (4, 0, false, 0)) else (x, heldG y)
def platB (x : bT) (y : gT) : bT × gT :=
 if (wantG y == 1) = true then (x, intG y)
 else if (wantG y == 3) = true then loadP x y
 else if (wantG y == 4) = true then storeP x y
 else if (wantG y == 5) = true then outP x y
 else if (wantG y == 6) = true then (x, stopG y (2, 0, false, (insAt y.prog y.pc).2))
 else if (wantG y == 7) = true then haltP x y
 else (x, plainG y)
theorem implx_hasc (xs : List (List Int)) (A : Option Addr) (c : Nat) (p q : Int) (w : World) (hc : (rLsw (rLsw rInt)).cap xs) (h : rdLst (rLsw rInt) w 0 w.heap.size xs [.slice A xs.length c]) : Calls Tryz.prog 268 #[.slice A xs.length c, .int .i64 p, .int .i64 q] w (fun e w' => e = .returned (.bool (hasC xs p q)) ∧ Below w.heap.size w w') := by
 obtain ⟨hl, hce⟩ := hc
 refine Sx.enter (args := [.slice A xs.length c, .int .i64 p, .int .i64 q]) Tryz.func268 rfl Tryz.ntmps268 rfl ?_
 refine Sx.C.seq (Sx.C.region ?_)
 refine Sx.G.p (.bool false) ?_
 refine Sx.G.nil (Sx.E.next (Sx.C.seq (Sx.C.region ?_)))
 refine Sx.G.p (.slice A xs.length c) ?_
 refine Sx.G.p (.int .i64 p) ?_
 refine Sx.G.cp 271 #[.slice A xs.length c, .int .i64 p] (.bool (inB p 0 (((xs.length : Nat) : Int) - 1))) (fun w S => by exact ((Grid.impl_hasP A xs.length c p _ hl).mono fun e w' h => And.intro h.1 (Guests.below_same h.2))) ?_
 refine Sx.G.p (.bool (inB p 0 (((xs.length : Nat) : Int) - 1))) ?_
 cases hc1 : (inB p 0 (((xs.length : Nat) : Int) - 1))
 ·
  have hb1 := hc1
  refine Sx.G.k ?_
  refine Sx.G.k ?_
  refine Sx.G.p (.bool false) ?_
  refine Sx.G.p (.bool false) ?_
  refine Sx.G.k ?_
  refine Sx.G.k ?_
  refine Sx.G.k ?_
  refine Sx.G.k ?_
  refine Sx.G.k ?_
  refine Sx.G.k ?_
  refine Sx.G.k ?_
  refine Sx.G.p (.bool false) ?_
  refine Sx.G.p (.bool false) ?_
  refine Sx.G.nil (Sx.E.next (Sx.C.ret ?_))
  refine Sx.E.ret1 (.bool false) rfl (by kernel_rfl) (fun w S => ?_)
  exact ⟨by unfold hasC; rw [hc1]; rfl, S.below⟩
 ·
  have hb1 := hc1
  have hin := inB_iff.1 hc1
  obtain ⟨j, hj⟩ : ∃ j : Nat, p = (j : Int) := ⟨p.toNat, by omega⟩
  subst hj
  have hjl : j < xs.length := by omega
  refine Sx.G.p (.int .i64 q) ?_
  refine Sx.G.p (.bool (decide (q ≥ 0))) ?_
  refine Sx.G.p (.bool (decide (q ≥ 0))) ?_
  refine Sx.G.p (.bool (decide (q ≥ 0))) ?_
  cases hc2 : (decide (q ≥ 0))
  ·
   have hb2 := hc2
   replace hc2 := of_decide_eq_false hc2
   refine Sx.G.k ?_
   refine Sx.G.k ?_
   refine Sx.G.k ?_
   refine Sx.G.k ?_
   refine Sx.G.k ?_
   refine Sx.G.k ?_
   refine Sx.G.k ?_
   refine Sx.G.p (.bool false) ?_
   refine Sx.G.p (.bool false) ?_
   refine Sx.G.nil (Sx.E.next (Sx.C.ret ?_))
   refine Sx.E.ret1 (.bool false) rfl (by kernel_rfl) (fun w S => ?_)
   exact ⟨congrArg Ending.returned (congrArg Value.bool (by unfold hasC; rw [hc1, Bool.true_and, getD_at hjl, inB_dec]; simp only [hb2, Bool.false_and, Bool.true_and, Bool.and_false])), S.below⟩
  ·
   have hb2 := hc2
   replace hc2 := of_decide_eq_true hc2
   refine Sx.G.p (.int .i64 q) ?_
   refine Sx.G.p (.slice A xs.length c) ?_
   refine Sx.G.p (.int .i64 (j : Int)) ?_
   obtain ⟨b3, f3, es3, eA3, hr3, hl3, hm3⟩ := Sx.old_elem (by decide) h j (by omega)
   subst eA3
   obtain ⟨x3, hx3⟩ : ∃ z_, z_ = (xs[j]'(by omega)) := ⟨_, rfl⟩
   rw [← hx3] at hr3
   have hle3 : x3.length ≤ 1048576 := (hce _ (hx3 ▸ List.getElem_mem _)).1
   replace hr3 : rdLst rInt w 0 w.heap.size x3 es3 := hr3
   obtain ⟨P3, rfl⟩ := lst_rd hr3
   obtain ⟨A3, c3, e3, -⟩ := lst_val hr3
   subst e3
   refine Sx.G.elem 24 26 (.tmp 16) (.tmp 17) 1 24 b3 f3 xs.length c j rfl (by kernel_rfl) (by kernel_rfl) (by kernel_rfl) (by kernel_rfl) (by omega) ?_
   refine Sx.G.ldr1 26 (.tmp 18) b3 ((f3 + j * 1) + 0) (.slice A3 x3.length c3) rfl (by kernel_rfl) (by kernel_rfl) (fun w S => hm3 w _ S 0 _ rfl) (by kernel_rfl) ?_
   refine Sx.G.p (.int .i64 ((x3.length : Nat) : Int)) ?_
   refine Sx.G.p (.bool (decide (q < ((x3.length : Nat) : Int)))) ?_
   refine Sx.G.p (.bool (decide (q < ((x3.length : Nat) : Int)))) ?_
   refine Sx.G.p (.bool (decide (q < ((x3.length : Nat) : Int)))) ?_
   refine Sx.G.nil (Sx.E.next (Sx.C.ret ?_))
   refine Sx.E.ret1 (.bool (decide (q < ((x3.length : Nat) : Int)))) rfl (by kernel_rfl) (fun w S => ?_)
   exact ⟨congrArg Ending.returned (congrArg Value.bool (by unfold hasC; rw [hc1, Bool.true_and, getD_at hjl, ← hx3, inB_dec]; simp only [hb2, Bool.false_and, Bool.true_and, Bool.and_false])), S.below⟩
theorem implx_cellat (xs : List (List Int)) (A : Option Addr) (c : Nat) (p q : Int) (w : World) (hc : (rLsw (rLsw rInt)).cap xs) (h : rdLst (rLsw rInt) w 0 w.heap.size xs [.slice A xs.length c]) : Calls Tryz.prog 261 #[.slice A xs.length c, .int .i64 p, .int .i64 q] w (fun e w' => e = .returned (.int .i64 (cellA xs p q)) ∧ Below w.heap.size w w') := by
 obtain ⟨hl, hce⟩ := hc
 refine Sx.enter (args := [.slice A xs.length c, .int .i64 p, .int .i64 q]) Tryz.func261 rfl Tryz.ntmps261 rfl ?_
 refine Sx.C.seq (Sx.C.region ?_)
 refine Sx.G.p (.int .i64 0) ?_
 refine Sx.G.nil (Sx.E.next (Sx.C.seq (Sx.C.seq (Sx.C.region ?_))))
 refine Sx.G.p (.slice A xs.length c) ?_
 refine Sx.G.p (.int .i64 p) ?_
 refine Sx.G.p (.int .i64 q) ?_
 refine Sx.G.cp 268 #[.slice A xs.length c, .int .i64 p, .int .i64 q] (.bool (hasC xs p q)) (fun w S => by exact implx_hasc xs A c p q _ ⟨hl, hce⟩ (St.old (r := (rLsw (rLsw rInt))) S h)) ?_
 refine Sx.G.p (.bool (!(hasC xs p q))) ?_
 refine Sx.G.nil (Sx.E.next ?_)
 cases hc1 : (hasC xs p q)
 ·
  have hb1 := hc1
  refine Sx.C.yy (Sx.C.seq (Sx.C.region ?_))
  refine Sx.G.p (.int .i64 0) ?_
  refine Sx.G.nil (Sx.E.next (Sx.C.ret (Sx.E.then_ret ?_)))
  refine Sx.E.ret1 (.int .i64 0) rfl (by kernel_rfl) (fun w S => ?_)
  exact ⟨by unfold cellA; rw [if_neg (by rw [hc1]; decide)], S.below⟩
 ·
  have hb1 := hc1
  obtain ⟨j, k, hjl, hj, hk, hkl⟩ := hasC_some hc1
  subst hj hk
  refine Sx.C.nn (Sx.C.skip (Sx.E.next (Sx.C.seq ?_)))
  obtain ⟨b2, f2, es2, eA2, hr2, hl2, hm2⟩ := Sx.old_elem (by decide) h j (by omega)
  subst eA2
  obtain ⟨x2, hx2⟩ : ∃ z_, z_ = (xs[j]'(by omega)) := ⟨_, rfl⟩
  rw [← hx2] at hr2
  replace hr2 : rdLst rInt w 0 w.heap.size x2 es2 := hr2
  obtain ⟨P2, rfl⟩ := lst_rd hr2
  obtain ⟨A2, c2, e2, -⟩ := lst_val hr2
  subst e2
  have hkx : k < x2.length := by rw [hx2]; exact hkl
  obtain ⟨b3, f3, es3, eA3, hr3, hl3, hm3⟩ := Sx.old_elem (by decide) hr2 k (by omega)
  subst eA3
  obtain ⟨x3, hx3⟩ : ∃ z_, z_ = (x2[k]'(by omega)) := ⟨_, rfl⟩
  rw [← hx3] at hr3
  obtain rfl := Kit.rd_Int hr3
  refine Sx.C.region ?_
  refine Sx.G.p (.slice (some ⟨b2, f2, none⟩) xs.length c) ?_
  refine Sx.G.p (.int .i64 (j : Int)) ?_
  refine Sx.G.elem 24 26 (.tmp 12) (.tmp 13) 1 24 b2 f2 xs.length c j rfl (by kernel_rfl) (by kernel_rfl) (by kernel_rfl) (by kernel_rfl) (by omega) ?_
  refine Sx.G.ldr1 26 (.tmp 14) b2 ((f2 + j * 1) + 0) (.slice (some ⟨b3, f3, none⟩) x2.length c2) rfl (by kernel_rfl) (by kernel_rfl) (fun w S => hm2 w _ S 0 _ rfl) (by kernel_rfl) ?_
  refine Sx.G.p (.int .i64 (k : Int)) ?_
  refine Sx.G.elem 26 3 (.tmp 15) (.tmp 16) 1 8 b3 f3 x2.length c2 k rfl (by kernel_rfl) (by kernel_rfl) (by kernel_rfl) (by kernel_rfl) (by omega) ?_
  refine Sx.G.ldr1 3 (.tmp 17) b3 ((f3 + k * 1) + 0) (.int .i64 x3) rfl (by kernel_rfl) (by kernel_rfl) (fun w S => hm3 w _ S 0 _ rfl) (by kernel_rfl) ?_
  refine Sx.G.p (.int .i64 x3) ?_
  refine Sx.G.nil (Sx.E.next (Sx.C.ret ?_))
  refine Sx.E.ret1 (.int .i64 x3) rfl (by kernel_rfl) (fun w S => ?_)
  exact ⟨congrArg Ending.returned (congrArg (Value.int .i64) (by unfold cellA; rw [if_pos hc1, getD_at hjl, getD_at hkl, hx3]; simp only [hx2])), S.below⟩
theorem implx_withcell (xs : List (List Int)) (A : Option Addr) (c : Nat) (p q : Int) (v : Int) (w : World) (hc : (rLsw (rLsw rInt)).cap xs) (h : rdLst (rLsw rInt) w 0 w.heap.size xs [.slice A xs.length c]) : Calls Tryz.prog 264 #[.slice A xs.length c, .int .i64 p, .int .i64 q, .int .i64 v] w (Gives (rLsw (rLsw rInt)) w (putC xs p q v)) := by
 obtain ⟨hl, hce⟩ := hc
 refine Sx.enter (args := [.slice A xs.length c, .int .i64 p, .int .i64 q, .int .i64 v]) Tryz.func264 rfl Tryz.ntmps264 rfl ?_
 refine Sx.C.seq (Sx.C.region ?_)
 refine Sx.G.p (.slice none 0 0) ?_
 refine Sx.G.nil (Sx.E.next (Sx.C.seq (Sx.C.region ?_)))
 refine Sx.G.p (.slice A xs.length c) ?_
 refine Sx.G.c 100 #[.slice A xs.length c] (fun w1 S => (implx_copymem xs A c _ ⟨hl, hce⟩ (St.old (r := (rLsw (rLsw rInt))) S h)).mono fun e w1' hp => ?_)
 obtain ⟨cs, F, rfl, ho, hF, hb⟩ := hp
 obtain ⟨u1, rfl⟩ := lsw_own ho
 obtain ⟨A1, c1, e1, -⟩ := lst_val ((rLsw _).reads ho)
 subst e1
 generalize F = F1 at ho hF
 refine ⟨_, _, rfl, (St.got S hb ho hF), ?_⟩
 clear S hb ho hF
 refine Sx.G.p (.slice A1 xs.length c1) ?_
 refine Sx.G.nil (Sx.E.next (Sx.C.seq (Sx.C.seq (Sx.C.region ?_))))
 refine Sx.G.p (.slice A1 xs.length c1) ?_
 refine Sx.G.p (.int .i64 p) ?_
 refine Sx.G.p (.int .i64 q) ?_
 refine Sx.G.cp 268 #[.slice A1 xs.length c1, .int .i64 p, .int .i64 q] (.bool (hasC xs p q)) (fun w S => by exact implx_hasc xs A1 c1 p q _ ⟨hl, hce⟩ (St.reads S 0 rfl)) ?_
 refine Sx.G.p (.bool (hasC xs p q)) ?_
 cases hc2 : (hasC xs p q)
 ·
  have hb2 := hc2
  refine Sx.G.k ?_
  refine Sx.G.k ?_
  refine Sx.G.p (.bool false) ?_
  refine Sx.G.nil (Sx.E.next (Sx.C.nn (Sx.C.skip (Sx.E.next (Sx.C.seq (Sx.C.region ?_))))))
  refine Sx.G.p (.slice A1 xs.length c1) ?_
  refine Sx.G.p (.slice A1 xs.length c1) ?_
  refine Sx.G.nil (Sx.E.next (Sx.C.ret ?_))
  refine Sx.E.ret1 (.slice A1 xs.length c1) rfl (by kernel_rfl) (fun w S => ?_)
  have HZ : putC xs p q v = xs := if_neg (by rw [hc2]; simp)
  rw [HZ]
  exact ⟨[_], _, rfl, S.own 0 rfl, S.nodup 0 rfl, S.below⟩
 ·
  have hb2 := hc2
  obtain ⟨j, k, hjl, hj, hk, hkl⟩ := hasC_some hc2
  subst hj hk
  refine Sx.G.p (.int .i64 v) ?_
  refine Sx.G.cp 209 #[.int .i64 v] (.bool (inB v 0 99)) (fun w S => by exact ((Grid.impl_cellOk v _).mono fun e w' h => And.intro h.1 (Guests.below_same h.2))) ?_
  refine Sx.G.p (.bool (inB v 0 99)) ?_
  refine Sx.G.nil (Sx.E.next ?_)
  cases hc3 : (inB v 0 99)
  ·
   have hb3 := hc3
   refine Sx.C.nn (Sx.C.skip (Sx.E.next (Sx.C.seq (Sx.C.region ?_))))
   refine Sx.G.p (.slice A1 xs.length c1) ?_
   refine Sx.G.p (.slice A1 xs.length c1) ?_
   refine Sx.G.nil (Sx.E.next (Sx.C.ret ?_))
   refine Sx.E.ret1 (.slice A1 xs.length c1) rfl (by kernel_rfl) (fun w S => ?_)
   have HZ : putC xs (j : Int) (k : Int) v = xs := if_neg (by rw [hc2, hc3]; decide)
   rw [HZ]
   exact ⟨[_], _, rfl, S.own 0 rfl, S.nodup 0 rfl, S.below⟩
  ·
   have hb3 := hc3
   refine Sx.C.yy ?_
   refine Sx.C.pk (.c .m0 .n) ?_
   refine Sx.C.open (r := (rLsw rInt)) (pre := xs.take j) (x := xs[j]) (post := xs.drop (j + 1)) (by rw [← Kit.drop_step hjl, List.take_append_drop]) (by decide) (fun b1 o1 es G1 Gi G2 eA eF hes hm hmc1 => ?_)
   subst eA eF
   refine Sx.C.know (p := ∃ b2 o2 d, es = [.slice (some ⟨b2, o2, none⟩) xs[j].length d]) (fun w S => ?_) ?_
   ·
    obtain ⟨A2, d, ds, e, hcd, h1, h2⟩ := St.reads S 1 rfl
    have hd := rdAll_len h1
    have hd' : ds.length = xs[j].length := by rw [hd]; show _ * 1 = _; omega
    obtain ⟨b2, o2, e2, -⟩ := h2 0 ds[0] (List.getElem?_eq_getElem (by omega))
    subst e2
    exact ⟨b2, o2, d, e⟩
   rintro ⟨b2, o2, d, rfl⟩
   refine Sx.C.pk (.c .m1 (.c .m0 .n)) ?_
   refine Sx.C.open (r := rInt) (pre := xs[j].take k) (x := xs[j][k]) (post := xs[j].drop (k + 1)) (by rw [← Kit.drop_step hkl, List.take_append_drop]) (by decide) (fun b3 o3 es H1 Hi H2 eA eF hes hm hmc2 => ?_)
   obtain ⟨rfl, rfl⟩ : b2 = b3 ∧ o2 = o3 := by cases eA; exact ⟨rfl, rfl⟩
   subst eF
   refine Sx.C.know (p := es = [.int .i64 xs[j][k]] ∧ Hi = []) (fun w S => Kit.own_Int (St.at_ S 1 rfl).1) ?_
   rintro ⟨rfl, rfl⟩
   refine Sx.C.region ?_
   refine Sx.G.p (.slice (some ⟨b1, o1, none⟩) xs.length c1) ?_
   refine Sx.G.p (.int .i64 (j : Int)) ?_
   refine Sx.G.elem 24 26 (.tmp 20) (.tmp 21) 1 24 b1 o1 xs.length c1 j rfl (by kernel_rfl) (by kernel_rfl) (by kernel_rfl) (by kernel_rfl) (by omega) ?_
   refine Sx.G.hld1 (k := j) (size := 1) 26 (.tmp 22) b1 ((o1 + j * 1) + 0) 0 2 (.slice (some ⟨b2, o2, none⟩) xs[j].length d) rfl (by kernel_rfl) (by kernel_rfl) rfl (by rw [List.length_take]; omega) rfl rfl rfl (by kernel_rfl) ?_
   refine Sx.G.p (.int .i64 (k : Int)) ?_
   refine Sx.G.p (.int .i64 v) ?_
   refine Sx.G.elem 26 3 (.tmp 23) (.tmp 24) 1 8 b2 o2 xs[j].length d k rfl (by kernel_rfl) (by kernel_rfl) (by kernel_rfl) (by kernel_rfl) (by omega) ?_
   refine Sx.G.hw k [.int .i64 v] .a0 (by rw [List.length_take]; omega) ?_
   refine Sx.G.nil (Sx.E.next (Sx.C.seq ?_))
   refine Sx.C.turn (ι := List Nat) (p := fun _ => True) (fun FZ => [ow (rLsw (rLsw rInt)) w.heap.size w1'.heap.size (xs.set j (xs[j].set k v)) [.slice (some ⟨b1, o1, none⟩) xs.length c1] FZ]) (fun w' S => by
    have S2 := St.pick S [0, 1, 2] (_ :: _ :: _ :: []) rfl (by decide)
    have S3 := Sx.St.flat S2 1 rfl v [.int .i64 v] (fun w => Kit.own_mk_Int w _ _ v)
    have S4 := Sx.St.closeW S3 (by decide) xs[j].length _ (by rw [List.length_append, List.length_cons, List.length_take, List.length_drop]; omega) hmc2
    rw [← set_at hkl] at S4
    have S5 := Sx.St.closeW (St.pick S4 [1, 0] (_ :: _ :: []) rfl (by decide)) (by decide) xs.length _ (by rw [List.length_append, List.length_cons, List.length_take, List.length_drop]; omega) hmc1
    rw [← set_at hjl] at S5
    refine ⟨_, trivial, Sx.St.widen S5 0 rfl ?_ ?_⟩
    exact Nat.le_of_eq (by first | rfl | simp)
    exact Nat.le_trans (Nat.le_max_left _ _) (S5.hi 0 _ rfl)) (fun FZ _ => ?_)
   refine Sx.C.sl [(8, .slice none 0 0), (9, .slice (some ⟨b1, o1, none⟩) xs.length c1)] ?_
   refine Sx.C.region ?_
   refine Sx.G.p (.slice (some ⟨b1, o1, none⟩) xs.length c1) ?_
   refine Sx.G.p (.slice (some ⟨b1, o1, none⟩) xs.length c1) ?_
   refine Sx.G.nil (Sx.E.next (Sx.C.ret ?_))
   refine Sx.E.ret1 (.slice (some ⟨b1, o1, none⟩) xs.length c1) rfl (by kernel_rfl) (fun w S => ?_)
   have HZ : putC xs (j : Int) (k : Int) v = (xs.set j (xs[j].set k v)) := by unfold putC; rw [hc2, hc3, Bool.and_true, if_pos rfl, getD_at hjl, Int.toNat_natCast, Int.toNat_natCast]
   rw [HZ]
   have hll : ((xs.set j (xs[j].set k v))).length = xs.length := List.length_set ..
   exact ⟨[_], _, rfl, S.own 0 rfl, S.nodup 0 rfl, S.below⟩
theorem plat_page {w0 w : World} {b : Nat} {R : List Res} {A0 A1 A2 B0 B1 B2 B3 : Option Addr} {c0 c1 c2 d0 d1 d2 d3 : Nat} (x : bT) (y : gT) (wr : Bool) (hn : wB.wf x) (hc : wB.cap x) (hny : wfGuest y) (hcy : wG.cap y) (hx : wB.rd w0 0 w0.heap.size x [.slice A0 x.mem.length c0, .slice A1 x.gs.length c1, .slice A2 x.outs.length c2, .int .i64 x.pd]) (hy : wG.rd w0 0 w0.heap.size y [.slice B0 y.prog.length d0, .int .i64 y.a, .int .i64 y.pc, .slice B1 y.wr.length d1, .slice B2 y.lv.length d2, .int .i64 y.t.1, .int .i64 y.t.2.1, .bool y.t.2.2, .int .i64 y.pd, .int .i64 y.x.1, .int .i64 y.x.2.1, .bool y.x.2.2.1, .int .i64 y.x.2.2.2, .bool y.hl, .slice B3 y.seen.length d3]) (hwk : WalksOk w0 y) (S : St w0 w (vr b [.slice A0 x.mem.length c0, .slice A1 x.gs.length c1, .slice A2 x.outs.length c2, .int .i64 x.pd, .slice B0 y.prog.length d0, .int .i64 y.a, .int .i64 y.pc, .slice B1 y.wr.length d1, .slice B2 y.lv.length d2, .int .i64 y.t.1, .int .i64 y.t.2.1, .bool y.t.2.2, .int .i64 y.pd, .int .i64 y.x.1, .int .i64 y.x.2.1, .bool y.x.2.2.1, .int .i64 y.x.2.2.2, .bool y.hl, .slice B3 y.seen.length d3] :: R)) (hwt : wantG y = (if wr = true then 4 else 3)) : Calls Tryz.prog 260 #[.pointer (some ⟨b, 0, none⟩), .int .i64 (addrG y), .bool wr] w (fun e w' => e = .returned (.tuple #[.int .i64 (innerW y.lv (Addrs.addrP (addrG y)) (Rights.need wr)).1, .bool (innerW y.lv (Addrs.addrP (addrG y)) (Rights.need wr)).2]) ∧ St w0 w' (vr b [.slice A0 x.mem.length c0, .slice A1 x.gs.length c1, .slice A2 x.outs.length c2, .int .i64 x.pd, .slice B0 y.prog.length d0, .int .i64 y.a, .int .i64 y.pc, .slice B1 y.wr.length d1, .slice B2 y.lv.length d2, .int .i64 y.t.1, .int .i64 y.t.2.1, .bool y.t.2.2, .int .i64 y.pd, .int .i64 y.x.1, .int .i64 y.x.2.1, .bool y.x.2.2.1, .int .i64 y.x.2.2.2, .bool y.hl, .slice B3 y.seen.length d3] :: R)) := by
 have hx0 := wB_part0 hx
 have hx1 := wB_part1 hx
 have hx2 := wB_part2 hx
 have hy0 := wG_part0 hy
 have hy1 := wG_part1 hy
 have hy2 := wG_part2 hy
 have hy3 := wG_part3 hy
 have hylv : y.lv.length ≤ 1048576 := hcy.2.2.2.2.1.1
 have hyprog : y.prog.length ≤ 1048576 := hcy.1.1
 have hwl : Slots.wfL y.lv := hny.2.2.2.2.1.2
 have hwa : (Lit.int .i64 (addrG y)).wf = true := wf_addr hny
 refine Sx.enterS (args := [.pointer (some ⟨b, 0, none⟩), .int .i64 (addrG y), .bool wr]) S Tryz.func260 rfl Tryz.ntmps260 rfl ?_
 refine Sx.C.seq (Sx.C.region ?_)
 refine Sx.G.p (.int .i64 0) ?_
 refine Sx.G.p (.bool false) ?_
 refine Sx.G.nil (Sx.E.next (Sx.C.seq ?_))
 refine Sx.C.draw (.take 0 (.take 1 (.take 2 (.take 3 (.take 4 (.take 5 (.take 7 (.alone 6 (.alone 8 (.alone 9 (.take 10 (.take 11 (.take 12 (.take 13 .nil)))))))))))))) [vr b [.slice A0 x.mem.length c0, .slice A1 x.gs.length c1, .slice A2 x.outs.length c2, .int .i64 x.pd, .slice B0 y.prog.length d0, .int .i64 y.a, .int .i64 y.pc, .slice B1 y.wr.length d1, .slice B2 y.lv.length d2, .int .i64 y.t.1, .int .i64 y.t.2.1, .bool y.t.2.2, .int .i64 y.pd, .int .i64 y.x.1, .int .i64 y.x.2.1, .bool y.x.2.2.1, .int .i64 y.x.2.2.2, .bool y.hl, .slice B3 y.seen.length d3]] (fun w S => St.pick S [0] _ rfl (by decide)) (by kernel_rfl) (by kernel_rfl) (by kernel_rfl) ?_
 refine Sx.GT.p (.pointer (some ⟨b, 0, none⟩)) ?_
 refine Sx.GT.p (.pointer (some ⟨b, 0, none⟩)) ?_
 refine Sx.GT.p (.pointer (some ⟨b, 4, none⟩)) ?_
 refine Sx.GT.p (.pointer (some ⟨b, 8, none⟩)) ?_
 refine Sx.GT.g (.slice B2 y.lv.length d2) .m0 .m8 ?_
 refine Sx.GT.p (.int .i64 (addrG y)) ?_
 refine Sx.GT.p (.bool wr) ?_
 refine Sx.GT.alone (Sx.Alone.cp 161 #[.int .i64 (addrG y)] (.int .i64 (Addrs.addrP (addrG y))) (fun w S => by exact ((Addrs.impl_addrP (addrG y) _ hwa).mono fun e w' h => And.intro h.1 (Guests.below_same h.2))) (fun w S => St.pick S [0] _ rfl (by decide)) ?_)
 refine Sx.GT.alone (Sx.Alone.cp 267 #[.bool wr] (.int .i64 (Rights.need wr)) (fun w S => by exact ((Rights.impl_need wr _).mono fun e w' h => And.intro h.1 (Guests.below_same h.2))) (fun w S => St.pick S [0] _ rfl (by decide)) ?_)
 refine Sx.GT.alone (Sx.Alone.cp 266 #[.slice B2 y.lv.length d2, .int .i64 (Addrs.addrP (addrG y)), .int .i64 (Rights.need wr)] (.tuple #[.int .i64 (innerW y.lv (Addrs.addrP (addrG y)) (Rights.need wr)).1, .bool (innerW y.lv (Addrs.addrP (addrG y)) (Rights.need wr)).2]) (fun w S => by exact hwk wr hwt _ B2 d2 S.below (by rw [← Guests.pcells_s]; exact p2_lies (St.old (r := (rLsw (rPair rInt rInt))) S hy2))) (fun w S => St.pick S [0] _ rfl (by decide)) ?_)
 refine Sx.GT.p (.int .i64 (innerW y.lv (Addrs.addrP (addrG y)) (Rights.need wr)).1) ?_
 refine Sx.GT.p (.bool ((innerW y.lv (Addrs.addrP (addrG y)) (Rights.need wr)).2)) ?_
 refine Sx.GT.p (.int .i64 (innerW y.lv (Addrs.addrP (addrG y)) (Rights.need wr)).1) ?_
 refine Sx.GT.p (.bool ((innerW y.lv (Addrs.addrP (addrG y)) (Rights.need wr)).2)) ?_
 refine Sx.GT.nil (Sx.E.next (Sx.C.ret ?_))
 refine Sx.E.ret2 (.int .i64 (innerW y.lv (Addrs.addrP (addrG y)) (Rights.need wr)).1) (.bool ((innerW y.lv (Addrs.addrP (addrG y)) (Rights.need wr)).2)) rfl (by kernel_rfl) (by kernel_rfl) (fun w S => ?_)
 exact ⟨rfl, S⟩
theorem plat_load {w0 w : World} {b : Nat} {R : List Res} {A0 A1 A2 B0 B1 B2 B3 : Option Addr} {c0 c1 c2 d0 d1 d2 d3 : Nat} (x : bT) (y : gT)  (hn : wB.wf x) (hc : wB.cap x) (hny : wfGuest y) (hcy : wG.cap y) (hx : wB.rd w0 0 w0.heap.size x [.slice A0 x.mem.length c0, .slice A1 x.gs.length c1, .slice A2 x.outs.length c2, .int .i64 x.pd]) (hy : wG.rd w0 0 w0.heap.size y [.slice B0 y.prog.length d0, .int .i64 y.a, .int .i64 y.pc, .slice B1 y.wr.length d1, .slice B2 y.lv.length d2, .int .i64 y.t.1, .int .i64 y.t.2.1, .bool y.t.2.2, .int .i64 y.pd, .int .i64 y.x.1, .int .i64 y.x.2.1, .bool y.x.2.2.1, .int .i64 y.x.2.2.2, .bool y.hl, .slice B3 y.seen.length d3]) (hwk : WalksOk w0 y) (S : St w0 w (vr b [.slice A0 x.mem.length c0, .slice A1 x.gs.length c1, .slice A2 x.outs.length c2, .int .i64 x.pd, .slice B0 y.prog.length d0, .int .i64 y.a, .int .i64 y.pc, .slice B1 y.wr.length d1, .slice B2 y.lv.length d2, .int .i64 y.t.1, .int .i64 y.t.2.1, .bool y.t.2.2, .int .i64 y.pd, .int .i64 y.x.1, .int .i64 y.x.2.1, .bool y.x.2.2.1, .int .i64 y.x.2.2.2, .bool y.hl, .slice B3 y.seen.length d3] :: R)) (hwt : wantG y = 3) : Calls Tryz.prog 256 #[.pointer (some ⟨b, 0, none⟩), .int .i64 (addrG y)] w (fun e w' => e = .returned (.tuple #[.int .i64 (loadV x y (addrG y)).1, .bool (loadV x y (addrG y)).2]) ∧ St w0 w' (vr b [.slice A0 x.mem.length c0, .slice A1 x.gs.length c1, .slice A2 x.outs.length c2, .int .i64 x.pd, .slice B0 y.prog.length d0, .int .i64 y.a, .int .i64 y.pc, .slice B1 y.wr.length d1, .slice B2 y.lv.length d2, .int .i64 y.t.1, .int .i64 y.t.2.1, .bool y.t.2.2, .int .i64 y.pd, .int .i64 y.x.1, .int .i64 y.x.2.1, .bool y.x.2.2.1, .int .i64 y.x.2.2.2, .bool y.hl, .slice B3 y.seen.length d3] :: R)) := by
 have hx0 := wB_part0 hx
 have hx1 := wB_part1 hx
 have hx2 := wB_part2 hx
 have hy0 := wG_part0 hy
 have hy1 := wG_part1 hy
 have hy2 := wG_part2 hy
 have hy3 := wG_part3 hy
 have hylv : y.lv.length ≤ 1048576 := hcy.2.2.2.2.1.1
 have hyprog : y.prog.length ≤ 1048576 := hcy.1.1
 have hwl : Slots.wfL y.lv := hny.2.2.2.2.1.2
 have hwa : (Lit.int .i64 (addrG y)).wf = true := wf_addr hny
 refine Sx.enterS (args := [.pointer (some ⟨b, 0, none⟩), .int .i64 (addrG y)]) S Tryz.func256 rfl Tryz.ntmps256 rfl ?_
 refine Sx.C.seq (Sx.C.region ?_)
 refine Sx.G.p (.int .i64 0) ?_
 refine Sx.G.p (.bool false) ?_
 refine Sx.G.nil (Sx.E.next (Sx.C.seq (Sx.C.region ?_)))
 refine Sx.G.p (.pointer (some ⟨b, 0, none⟩)) ?_
 refine Sx.G.p (.int .i64 (addrG y)) ?_
 refine Sx.G.c 260 #[.pointer (some ⟨b, 0, none⟩), .int .i64 (addrG y), .bool false] (fun w1 S => (plat_page x y false hn hc hny hcy hx hy hwk S hwt).mono fun e w1' hp => ?_)
 obtain ⟨rfl, S'⟩ := hp
 refine ⟨_, _, rfl, S', ?_⟩
 clear S S'
 refine Sx.G.p (.tuple #[.int .i64 (innerW y.lv (Addrs.addrP (addrG y)) (Rights.need false)).1, .bool ((innerW y.lv (Addrs.addrP (addrG y)) (Rights.need false)).2)]) ?_
 refine Sx.G.p (.int .i64 (innerW y.lv (Addrs.addrP (addrG y)) (Rights.need false)).1) ?_
 refine Sx.G.p (.bool ((innerW y.lv (Addrs.addrP (addrG y)) (Rights.need false)).2)) ?_
 refine Sx.G.p (.int .i64 (innerW y.lv (Addrs.addrP (addrG y)) (Rights.need false)).1) ?_
 refine Sx.G.p (.bool ((innerW y.lv (Addrs.addrP (addrG y)) (Rights.need false)).2)) ?_
 refine Sx.G.nil (Sx.E.next (Sx.C.seq (Sx.C.seq (Sx.C.region ?_))))
 refine Sx.G.p (.bool ((innerW y.lv (Addrs.addrP (addrG y)) (Rights.need false)).2)) ?_
 refine Sx.G.p (.bool (!((innerW y.lv (Addrs.addrP (addrG y)) (Rights.need false)).2))) ?_
 refine Sx.G.nil (Sx.E.next ?_)
 cases hc2 : ((innerW y.lv (Addrs.addrP (addrG y)) (Rights.need false)).2)
 ·
  have hb2 := hc2
  refine Sx.C.yy (Sx.C.seq (Sx.C.region ?_))
  refine Sx.G.p (.int .i64 0) ?_
  refine Sx.G.p (.bool false) ?_
  refine Sx.G.nil (Sx.E.next (Sx.C.ret (Sx.E.then_ret ?_)))
  refine Sx.E.ret2 (.int .i64 0) (.bool false) rfl (by kernel_rfl) (by kernel_rfl) (fun w S => ?_)
  have HV : loadV x y (addrG y) = (0, false) := by unfold loadV; rw [hc2]; rfl
  rw [HV]
  exact ⟨rfl, S⟩
 ·
  have hb2 := hc2
  refine Sx.C.nn (Sx.C.skip (Sx.E.next (Sx.C.seq ?_)))
  refine Sx.C.draw (.take 0 (.take 1 (.take 2 (.take 3 (.take 4 (.take 5 (.take 6 (.alone 7 (.alone 8 (.take 9 (.take 10 .nil))))))))))) [vr b [.slice A0 x.mem.length c0, .slice A1 x.gs.length c1, .slice A2 x.outs.length c2, .int .i64 x.pd, .slice B0 y.prog.length d0, .int .i64 y.a, .int .i64 y.pc, .slice B1 y.wr.length d1, .slice B2 y.lv.length d2, .int .i64 y.t.1, .int .i64 y.t.2.1, .bool y.t.2.2, .int .i64 y.pd, .int .i64 y.x.1, .int .i64 y.x.2.1, .bool y.x.2.2.1, .int .i64 y.x.2.2.2, .bool y.hl, .slice B3 y.seen.length d3]] (fun w S => St.pick S [0] _ rfl (by decide)) (by kernel_rfl) (by kernel_rfl) (by kernel_rfl) ?_
  refine Sx.GT.p (.pointer (some ⟨b, 0, none⟩)) ?_
  refine Sx.GT.p (.pointer (some ⟨b, 0, none⟩)) ?_
  refine Sx.GT.p (.pointer (some ⟨b, 0, none⟩)) ?_
  refine Sx.GT.p (.pointer (some ⟨b, 0, none⟩)) ?_
  refine Sx.GT.g (.slice A0 x.mem.length c0) .m0 .m0 ?_
  refine Sx.GT.p (.int .i64 (innerW y.lv (Addrs.addrP (addrG y)) (Rights.need false)).1) ?_
  refine Sx.GT.p (.int .i64 (addrG y)) ?_
  refine Sx.GT.alone (Sx.Alone.cp 262 #[.int .i64 (addrG y)] (.int .i64 (Addrs.addrC (addrG y))) (fun w S => by exact ((Addrs.impl_addrC (addrG y) _ hwa).mono fun e w' h => And.intro h.1 (Guests.below_same h.2))) (fun w S => St.pick S [0] _ rfl (by decide)) ?_)
  refine Sx.GT.alone (Sx.Alone.cp 261 #[.slice A0 x.mem.length c0, .int .i64 (innerW y.lv (Addrs.addrP (addrG y)) (Rights.need false)).1, .int .i64 (Addrs.addrC (addrG y))] (.int .i64 (cellA x.mem ((innerW y.lv (Addrs.addrP (addrG y)) (Rights.need false)).1) (Addrs.addrC (addrG y)))) (fun w S => by exact implx_cellat x.mem A0 c0 ((innerW y.lv (Addrs.addrP (addrG y)) (Rights.need false)).1) (Addrs.addrC (addrG y)) _ hc.1 (St.old (r := (rLsw (rLsw rInt))) S hx0)) (fun w S => St.pick S [0] _ rfl (by decide)) ?_)
  refine Sx.GT.p (.int .i64 (cellA x.mem ((innerW y.lv (Addrs.addrP (addrG y)) (Rights.need false)).1) (Addrs.addrC (addrG y)))) ?_
  refine Sx.GT.p (.bool true) ?_
  refine Sx.GT.nil (Sx.E.next (Sx.C.ret ?_))
  refine Sx.E.ret2 (.int .i64 (cellA x.mem ((innerW y.lv (Addrs.addrP (addrG y)) (Rights.need false)).1) (Addrs.addrC (addrG y)))) (.bool true) rfl (by kernel_rfl) (by kernel_rfl) (fun w S => ?_)
  have HV : loadV x y (addrG y) = ((cellA x.mem ((innerW y.lv (Addrs.addrP (addrG y)) (Rights.need false)).1) (Addrs.addrC (addrG y))), true) := by unfold loadV; rw [hc2]; rfl
  rw [HV]
  exact ⟨rfl, S⟩
theorem plat_store_no {w0 w : World} {b : Nat} {R : List Res} {A0 A1 A2 B0 B1 B2 B3 : Option Addr} {c0 c1 c2 d0 d1 d2 d3 : Nat} (x : bT) (y : gT) (v : Int) (hn : wB.wf x) (hc : wB.cap x) (hny : wfGuest y) (hcy : wG.cap y) (hx : wB.rd w0 0 w0.heap.size x [.slice A0 x.mem.length c0, .slice A1 x.gs.length c1, .slice A2 x.outs.length c2, .int .i64 x.pd]) (hy : wG.rd w0 0 w0.heap.size y [.slice B0 y.prog.length d0, .int .i64 y.a, .int .i64 y.pc, .slice B1 y.wr.length d1, .slice B2 y.lv.length d2, .int .i64 y.t.1, .int .i64 y.t.2.1, .bool y.t.2.2, .int .i64 y.pd, .int .i64 y.x.1, .int .i64 y.x.2.1, .bool y.x.2.2.1, .int .i64 y.x.2.2.2, .bool y.hl, .slice B3 y.seen.length d3]) (hwk : WalksOk w0 y) (S : St w0 w (vr b [.slice A0 x.mem.length c0, .slice A1 x.gs.length c1, .slice A2 x.outs.length c2, .int .i64 x.pd, .slice B0 y.prog.length d0, .int .i64 y.a, .int .i64 y.pc, .slice B1 y.wr.length d1, .slice B2 y.lv.length d2, .int .i64 y.t.1, .int .i64 y.t.2.1, .bool y.t.2.2, .int .i64 y.pd, .int .i64 y.x.1, .int .i64 y.x.2.1, .bool y.x.2.2.1, .int .i64 y.x.2.2.2, .bool y.hl, .slice B3 y.seen.length d3] :: R)) (hwt : wantG y = 4) (hin : (innerW y.lv (Addrs.addrP (addrG y)) (Rights.need true)).2 = false) : Calls Tryz.prog 258 #[.pointer (some ⟨b, 0, none⟩), .int .i64 (addrG y), .int .i64 v] w (fun e w' => e = .returned (.bool false) ∧ St w0 w' (vr b [.slice A0 x.mem.length c0, .slice A1 x.gs.length c1, .slice A2 x.outs.length c2, .int .i64 x.pd, .slice B0 y.prog.length d0, .int .i64 y.a, .int .i64 y.pc, .slice B1 y.wr.length d1, .slice B2 y.lv.length d2, .int .i64 y.t.1, .int .i64 y.t.2.1, .bool y.t.2.2, .int .i64 y.pd, .int .i64 y.x.1, .int .i64 y.x.2.1, .bool y.x.2.2.1, .int .i64 y.x.2.2.2, .bool y.hl, .slice B3 y.seen.length d3] :: R)) := by
 have hx0 := wB_part0 hx
 have hx1 := wB_part1 hx
 have hx2 := wB_part2 hx
 have hy0 := wG_part0 hy
 have hy1 := wG_part1 hy
 have hy2 := wG_part2 hy
 have hy3 := wG_part3 hy
 have hylv : y.lv.length ≤ 1048576 := hcy.2.2.2.2.1.1
 have hyprog : y.prog.length ≤ 1048576 := hcy.1.1
 have hwl : Slots.wfL y.lv := hny.2.2.2.2.1.2
 have hwa : (Lit.int .i64 (addrG y)).wf = true := wf_addr hny
 refine Sx.enterS (args := [.pointer (some ⟨b, 0, none⟩), .int .i64 (addrG y), .int .i64 v]) S Tryz.func258 rfl Tryz.ntmps258 rfl ?_
 refine Sx.C.seq (Sx.C.region ?_)
 refine Sx.G.p (.bool false) ?_
 refine Sx.G.nil (Sx.E.next (Sx.C.seq (Sx.C.region ?_)))
 refine Sx.G.p (.pointer (some ⟨b, 0, none⟩)) ?_
 refine Sx.G.p (.int .i64 (addrG y)) ?_
 refine Sx.G.c 260 #[.pointer (some ⟨b, 0, none⟩), .int .i64 (addrG y), .bool true] (fun w11 S => (plat_page x y true hn hc hny hcy hx hy hwk S hwt).mono fun e w11' hp => ?_)
 obtain ⟨rfl, S'⟩ := hp
 rw [hin]
 refine ⟨_, _, rfl, S', ?_⟩
 clear S S'
 refine Sx.G.p (.tuple #[.int .i64 (innerW y.lv (Addrs.addrP (addrG y)) (Rights.need true)).1, .bool false]) ?_
 refine Sx.G.p (.int .i64 (innerW y.lv (Addrs.addrP (addrG y)) (Rights.need true)).1) ?_
 refine Sx.G.p (.bool false) ?_
 refine Sx.G.p (.int .i64 (innerW y.lv (Addrs.addrP (addrG y)) (Rights.need true)).1) ?_
 refine Sx.G.p (.bool false) ?_
 refine Sx.G.nil (Sx.E.next (Sx.C.seq (Sx.C.seq (Sx.C.region ?_))))
 refine Sx.G.p (.bool false) ?_
 refine Sx.G.p (.bool true) ?_
 refine Sx.G.nil (Sx.E.next (Sx.C.yy (Sx.C.seq (Sx.C.region ?_))))
 refine Sx.G.p (.bool false) ?_
 refine Sx.G.nil (Sx.E.next (Sx.C.ret (Sx.E.then_ret ?_)))
 refine Sx.E.ret1 (.bool false) rfl (by kernel_rfl) (fun w S => ?_)
 exact ⟨rfl, S⟩
theorem plat_store_yes {w0 w : World} {b : Nat} {R : List Res} {A0 A1 A2 B0 B1 B2 B3 : Option Addr} {c0 c1 c2 d0 d1 d2 d3 : Nat} (x : bT) (y : gT) (v : Int) (hn : wB.wf x) (hc : wB.cap x) (hny : wfGuest y) (hcy : wG.cap y) (hx : wB.rd w0 0 w0.heap.size x [.slice A0 x.mem.length c0, .slice A1 x.gs.length c1, .slice A2 x.outs.length c2, .int .i64 x.pd]) (hy : wG.rd w0 0 w0.heap.size y [.slice B0 y.prog.length d0, .int .i64 y.a, .int .i64 y.pc, .slice B1 y.wr.length d1, .slice B2 y.lv.length d2, .int .i64 y.t.1, .int .i64 y.t.2.1, .bool y.t.2.2, .int .i64 y.pd, .int .i64 y.x.1, .int .i64 y.x.2.1, .bool y.x.2.2.1, .int .i64 y.x.2.2.2, .bool y.hl, .slice B3 y.seen.length d3]) (hwk : WalksOk w0 y) (S : St w0 w (vr b [.slice A0 x.mem.length c0, .slice A1 x.gs.length c1, .slice A2 x.outs.length c2, .int .i64 x.pd, .slice B0 y.prog.length d0, .int .i64 y.a, .int .i64 y.pc, .slice B1 y.wr.length d1, .slice B2 y.lv.length d2, .int .i64 y.t.1, .int .i64 y.t.2.1, .bool y.t.2.2, .int .i64 y.pd, .int .i64 y.x.1, .int .i64 y.x.2.1, .bool y.x.2.2.1, .int .i64 y.x.2.2.2, .bool y.hl, .slice B3 y.seen.length d3] :: R)) (hwt : wantG y = 4) (hin : (innerW y.lv (Addrs.addrP (addrG y)) (Rights.need true)).2 = true) : Calls Tryz.prog 258 #[.pointer (some ⟨b, 0, none⟩), .int .i64 (addrG y), .int .i64 v] w (fun e w' => ∃ A c lo hi F, e = .returned (.bool true) ∧ St w0 w' (vr b [.slice A (storeM x y (addrG y) v).mem.length c, .slice A1 x.gs.length c1, .slice A2 x.outs.length c2, .int .i64 x.pd, .slice B0 y.prog.length d0, .int .i64 y.a, .int .i64 y.pc, .slice B1 y.wr.length d1, .slice B2 y.lv.length d2, .int .i64 y.t.1, .int .i64 y.t.2.1, .bool y.t.2.2, .int .i64 y.pd, .int .i64 y.x.1, .int .i64 y.x.2.1, .bool y.x.2.2.1, .int .i64 y.x.2.2.2, .bool y.hl, .slice B3 y.seen.length d3] :: ow (rLsw (rLsw rInt)) lo hi (storeM x y (addrG y) v).mem [.slice A (storeM x y (addrG y) v).mem.length c] F :: R)) := by
 have hx0 := wB_part0 hx
 have hx1 := wB_part1 hx
 have hx2 := wB_part2 hx
 have hy0 := wG_part0 hy
 have hy1 := wG_part1 hy
 have hy2 := wG_part2 hy
 have hy3 := wG_part3 hy
 have hylv : y.lv.length ≤ 1048576 := hcy.2.2.2.2.1.1
 have hyprog : y.prog.length ≤ 1048576 := hcy.1.1
 have hwl : Slots.wfL y.lv := hny.2.2.2.2.1.2
 have hwa : (Lit.int .i64 (addrG y)).wf = true := wf_addr hny
 refine Sx.enterS (args := [.pointer (some ⟨b, 0, none⟩), .int .i64 (addrG y), .int .i64 v]) S Tryz.func258 rfl Tryz.ntmps258 rfl ?_
 refine Sx.C.seq (Sx.C.region ?_)
 refine Sx.G.p (.bool false) ?_
 refine Sx.G.nil (Sx.E.next (Sx.C.seq (Sx.C.region ?_)))
 refine Sx.G.p (.pointer (some ⟨b, 0, none⟩)) ?_
 refine Sx.G.p (.int .i64 (addrG y)) ?_
 refine Sx.G.c 260 #[.pointer (some ⟨b, 0, none⟩), .int .i64 (addrG y), .bool true] (fun w11 S => (plat_page x y true hn hc hny hcy hx hy hwk S hwt).mono fun e w11' hp => ?_)
 obtain ⟨rfl, S'⟩ := hp
 rw [hin]
 refine ⟨_, _, rfl, S', ?_⟩
 clear S S'
 refine Sx.G.p (.tuple #[.int .i64 (innerW y.lv (Addrs.addrP (addrG y)) (Rights.need true)).1, .bool true]) ?_
 refine Sx.G.p (.int .i64 (innerW y.lv (Addrs.addrP (addrG y)) (Rights.need true)).1) ?_
 refine Sx.G.p (.bool true) ?_
 refine Sx.G.p (.int .i64 (innerW y.lv (Addrs.addrP (addrG y)) (Rights.need true)).1) ?_
 refine Sx.G.p (.bool true) ?_
 refine Sx.G.nil (Sx.E.next (Sx.C.seq (Sx.C.seq (Sx.C.region ?_))))
 refine Sx.G.p (.bool true) ?_
 refine Sx.G.p (.bool false) ?_
 refine Sx.G.nil (Sx.E.next (Sx.C.nn (Sx.C.skip (Sx.E.next (Sx.C.seq ?_)))))
 refine Sx.C.cut (fun e a w' => e = .normal ∧ ∃ (Y0 : Option Addr) (Y1 : Nat) (Y2 : List Nat) (Y3 : Nat) (Y4 : Nat), Sx.Ag 31 [(6, .bool false)] a ∧ St w0 w' (ow (rLsw (rLsw rInt)) Y3 Y4 (putC x.mem ((innerW y.lv (Addrs.addrP (addrG y)) (Rights.need true)).1) (Addrs.addrC (addrG y)) v) [.slice Y0 (putC x.mem ((innerW y.lv (Addrs.addrP (addrG y)) (Rights.need true)).1) (Addrs.addrC (addrG y)) v).length Y1] Y2 :: vr b [.slice Y0 (putC x.mem ((innerW y.lv (Addrs.addrP (addrG y)) (Rights.need true)).1) (Addrs.addrC (addrG y)) v).length Y1, .slice A1 x.gs.length c1, .slice A2 x.outs.length c2, .int .i64 x.pd, .slice B0 y.prog.length d0, .int .i64 y.a, .int .i64 y.pc, .slice B1 y.wr.length d1, .slice B2 y.lv.length d2, .int .i64 y.t.1, .int .i64 y.t.2.1, .bool y.t.2.2, .int .i64 y.pd, .int .i64 y.x.1, .int .i64 y.x.2.1, .bool y.x.2.2.1, .int .i64 y.x.2.2.2, .bool y.hl, .slice B3 y.seen.length d3] :: R)) ?_ ?_
 ·
  refine Sx.C.draw (.take 0 (.take 1 (.take 2 (.take 3 (.take 4 (.take 6 (.take 7 (.take 9 (.two 5 (.alone 8 (.alone 10 (.take 11 (.take 12 (.take 13 (.alone 14 .nil)))))) 8 (.alone 5 (.alone 10 (.take 11 (.take 12 (.take 13 (.alone 14 .nil))))))))))))))) [] (fun w S => St.pick S [] _ rfl (by decide)) (by kernel_rfl) (by kernel_rfl) (by kernel_rfl) ?_
  refine Sx.GT.p (.pointer (some ⟨b, 0, none⟩)) ?_
  refine Sx.GT.p (.pointer (some ⟨b, 0, none⟩)) ?_
  refine Sx.GT.p (.pointer (some ⟨b, 0, none⟩)) ?_
  refine Sx.GT.p (.pointer (some ⟨b, 0, none⟩)) ?_
  refine Sx.GT.p (.pointer (some ⟨b, 0, none⟩)) ?_
  refine Sx.GT.p (.int .i64 (innerW y.lv (Addrs.addrP (addrG y)) (Rights.need true)).1) ?_
  refine Sx.GT.p (.int .i64 (addrG y)) ?_
  refine Sx.GT.p (.int .i64 v) ?_
  refine Sx.GT.two ?_ ?_
  ·
   refine Sx.Alone.g (.slice A0 x.mem.length c0) .m0 .m0 (fun w S => St.pick S [] _ rfl (by decide)) ?_
   refine Sx.GT.alone (Sx.Alone.cp 262 #[.int .i64 (addrG y)] (.int .i64 (Addrs.addrC (addrG y))) (fun w S => by exact ((Addrs.impl_addrC (addrG y) _ hwa).mono fun e w' h => And.intro h.1 (Guests.below_same h.2))) (fun w S => St.pick S [] _ rfl (by decide)) ?_)
   refine Sx.GT.alone (Sx.Alone.c 264 #[.slice A0 x.mem.length c0, .int .i64 (innerW y.lv (Addrs.addrP (addrG y)) (Rights.need true)).1, .int .i64 (Addrs.addrC (addrG y)), .int .i64 v] (fun w12 S => (implx_withcell x.mem A0 c0 ((innerW y.lv (Addrs.addrP (addrG y)) (Rights.need true)).1) (Addrs.addrC (addrG y)) v _ hc.1 (St.old (r := (rLsw (rLsw rInt))) S hx0)).mono fun e w12' hp => ?_))
   obtain ⟨cs, F, rfl, ho, hF, hb⟩ := hp
   obtain ⟨u12, rfl⟩ := lsw_own ho
   obtain ⟨A12, c12, e12, -⟩ := lst_val ((rLsw _).reads ho)
   subst e12
   generalize F = F12 at ho hF
   refine ⟨_, _, rfl, (St.got S hb ho hF), (fun w S => St.pick S [] _ rfl (by decide)), ?_⟩
   clear S hb ho hF
   refine Sx.GT.p (.pointer (some ⟨b, 0, none⟩)) ?_
   refine Sx.GT.p (.pointer (some ⟨b, 0, none⟩)) ?_
   refine Sx.GT.p (.pointer (some ⟨b, 0, none⟩)) ?_
   refine Sx.GT.alone (Sx.Alone.s (.slice A12 (putC x.mem ((innerW y.lv (Addrs.addrP (addrG y)) (Rights.need true)).1) (Addrs.addrC (addrG y)) v).length c12) .a1 .a0 (fun w S => St.pick S [] _ rfl (by decide)) ?_)
   exact Sx.GT.nil (fun a w' hA S => ⟨rfl, A12, c12, F12, w12.heap.size, w12'.heap.size, (Sx.Ag.sub hA (by kernel_rfl)), Sx.St.pickT [ow (rLsw (rLsw rInt)) w12.heap.size w12'.heap.size (putC x.mem ((innerW y.lv (Addrs.addrP (addrG y)) (Rights.need true)).1) (Addrs.addrC (addrG y)) v) [.slice A12 (putC x.mem ((innerW y.lv (Addrs.addrP (addrG y)) (Rights.need true)).1) (Addrs.addrC (addrG y)) v).length c12] F12, vr b [.slice A12 (putC x.mem ((innerW y.lv (Addrs.addrP (addrG y)) (Rights.need true)).1) (Addrs.addrC (addrG y)) v).length c12, .slice A1 x.gs.length c1, .slice A2 x.outs.length c2, .int .i64 x.pd, .slice B0 y.prog.length d0, .int .i64 y.a, .int .i64 y.pc, .slice B1 y.wr.length d1, .slice B2 y.lv.length d2, .int .i64 y.t.1, .int .i64 y.t.2.1, .bool y.t.2.2, .int .i64 y.pd, .int .i64 y.x.1, .int .i64 y.x.2.1, .bool y.x.2.2.1, .int .i64 y.x.2.2.2, .bool y.hl, .slice B3 y.seen.length d3]] [_, _] S [0, 1] rfl (by decide)⟩)
  ·
   refine Sx.Alone.cp 262 #[.int .i64 (addrG y)] (.int .i64 (Addrs.addrC (addrG y))) (fun w S => by exact ((Addrs.impl_addrC (addrG y) _ hwa).mono fun e w' h => And.intro h.1 (Guests.below_same h.2))) (fun w S => St.pick S [] _ rfl (by decide)) ?_
   refine Sx.GT.alone (Sx.Alone.g (.slice A0 x.mem.length c0) .m0 .m0 (fun w S => St.pick S [] _ rfl (by decide)) ?_)
   refine Sx.GT.alone (Sx.Alone.c 264 #[.slice A0 x.mem.length c0, .int .i64 (innerW y.lv (Addrs.addrP (addrG y)) (Rights.need true)).1, .int .i64 (Addrs.addrC (addrG y)), .int .i64 v] (fun w13 S => (implx_withcell x.mem A0 c0 ((innerW y.lv (Addrs.addrP (addrG y)) (Rights.need true)).1) (Addrs.addrC (addrG y)) v _ hc.1 (St.old (r := (rLsw (rLsw rInt))) S hx0)).mono fun e w13' hp => ?_))
   obtain ⟨cs, F, rfl, ho, hF, hb⟩ := hp
   obtain ⟨u13, rfl⟩ := lsw_own ho
   obtain ⟨A13, c13, e13, -⟩ := lst_val ((rLsw _).reads ho)
   subst e13
   generalize F = F13 at ho hF
   refine ⟨_, _, rfl, (St.got S hb ho hF), (fun w S => St.pick S [] _ rfl (by decide)), ?_⟩
   clear S hb ho hF
   refine Sx.GT.p (.pointer (some ⟨b, 0, none⟩)) ?_
   refine Sx.GT.p (.pointer (some ⟨b, 0, none⟩)) ?_
   refine Sx.GT.p (.pointer (some ⟨b, 0, none⟩)) ?_
   refine Sx.GT.alone (Sx.Alone.s (.slice A13 (putC x.mem ((innerW y.lv (Addrs.addrP (addrG y)) (Rights.need true)).1) (Addrs.addrC (addrG y)) v).length c13) .a1 .a0 (fun w S => St.pick S [] _ rfl (by decide)) ?_)
   exact Sx.GT.nil (fun a w' hA S => ⟨rfl, A13, c13, F13, w13.heap.size, w13'.heap.size, (Sx.Ag.sub hA (by kernel_rfl)), Sx.St.pickT [ow (rLsw (rLsw rInt)) w13.heap.size w13'.heap.size (putC x.mem ((innerW y.lv (Addrs.addrP (addrG y)) (Rights.need true)).1) (Addrs.addrC (addrG y)) v) [.slice A13 (putC x.mem ((innerW y.lv (Addrs.addrP (addrG y)) (Rights.need true)).1) (Addrs.addrC (addrG y)) v).length c13] F13, vr b [.slice A13 (putC x.mem ((innerW y.lv (Addrs.addrP (addrG y)) (Rights.need true)).1) (Addrs.addrC (addrG y)) v).length c13, .slice A1 x.gs.length c1, .slice A2 x.outs.length c2, .int .i64 x.pd, .slice B0 y.prog.length d0, .int .i64 y.a, .int .i64 y.pc, .slice B1 y.wr.length d1, .slice B2 y.lv.length d2, .int .i64 y.t.1, .int .i64 y.t.2.1, .bool y.t.2.2, .int .i64 y.pd, .int .i64 y.x.1, .int .i64 y.x.2.1, .bool y.x.2.2.1, .int .i64 y.x.2.2.2, .bool y.hl, .slice B3 y.seen.length d3]] [_, _] S [0, 1] rfl (by decide)⟩)
 rintro e a w' ⟨rfl, y14_0, y14_1, y14_2, y14_3, y14_4, hA, S⟩
 refine Sx.E.out ?_ hA S
 clear hA S a w'
 refine Sx.E.next (Sx.C.seq ?_)
 refine Sx.C.sl [(6, .bool false)] ?_
 refine Sx.C.region ?_
 refine Sx.G.p (.bool true) ?_
 refine Sx.G.nil (Sx.E.next (Sx.C.ret ?_))
 refine Sx.E.ret1 (.bool true) rfl (by kernel_rfl) (fun w S => ?_)
 exact ⟨_, _, _, _, _, rfl, Sx.St.pickT [ow (rLsw (rLsw rInt)) y14_3 y14_4 (putC x.mem ((innerW y.lv (Addrs.addrP (addrG y)) (Rights.need true)).1) (Addrs.addrC (addrG y)) v) [.slice y14_0 (putC x.mem ((innerW y.lv (Addrs.addrP (addrG y)) (Rights.need true)).1) (Addrs.addrC (addrG y)) v).length y14_1] y14_2, vr b [.slice y14_0 (putC x.mem ((innerW y.lv (Addrs.addrP (addrG y)) (Rights.need true)).1) (Addrs.addrC (addrG y)) v).length y14_1, .slice A1 x.gs.length c1, .slice A2 x.outs.length c2, .int .i64 x.pd, .slice B0 y.prog.length d0, .int .i64 y.a, .int .i64 y.pc, .slice B1 y.wr.length d1, .slice B2 y.lv.length d2, .int .i64 y.t.1, .int .i64 y.t.2.1, .bool y.t.2.2, .int .i64 y.pd, .int .i64 y.x.1, .int .i64 y.x.2.1, .bool y.x.2.2.1, .int .i64 y.x.2.2.2, .bool y.hl, .slice B3 y.seen.length d3]] [_, _] S [1, 0] rfl (by decide)⟩
theorem plat_traps {w0 w : World} {b : Nat} {R : List Res} {A0 A1 A2 B0 B1 B2 B3 : Option Addr} {c0 c1 c2 d0 d1 d2 d3 : Nat} (x : bT) (y : gT) (n : Int) (hn : wB.wf x) (hc : wB.cap x) (hny : wfGuest y) (hcy : wG.cap y) (hx : wB.rd w0 0 w0.heap.size x [.slice A0 x.mem.length c0, .slice A1 x.gs.length c1, .slice A2 x.outs.length c2, .int .i64 x.pd]) (hy : wG.rd w0 0 w0.heap.size y [.slice B0 y.prog.length d0, .int .i64 y.a, .int .i64 y.pc, .slice B1 y.wr.length d1, .slice B2 y.lv.length d2, .int .i64 y.t.1, .int .i64 y.t.2.1, .bool y.t.2.2, .int .i64 y.pd, .int .i64 y.x.1, .int .i64 y.x.2.1, .bool y.x.2.2.1, .int .i64 y.x.2.2.2, .bool y.hl, .slice B3 y.seen.length d3]) (hwk : WalksOk w0 y) (S : St w0 w (vr b [.slice A0 x.mem.length c0, .slice A1 x.gs.length c1, .slice A2 x.outs.length c2, .int .i64 x.pd, .slice B0 y.prog.length d0, .int .i64 y.a, .int .i64 y.pc, .slice B1 y.wr.length d1, .slice B2 y.lv.length d2, .int .i64 y.t.1, .int .i64 y.t.2.1, .bool y.t.2.2, .int .i64 y.pd, .int .i64 y.x.1, .int .i64 y.x.2.1, .bool y.x.2.2.1, .int .i64 y.x.2.2.2, .bool y.hl, .slice B3 y.seen.length d3] :: R)) (hw : (Lit.int .i64 n).wf = true) : Calls Tryz.prog 259 #[.pointer (some ⟨b, 0, none⟩), .int .i64 n] w (fun e w' => e = .returned (.bool (Ctls.hasTrap y.t.1 n)) ∧ St w0 w' (vr b [.slice A0 x.mem.length c0, .slice A1 x.gs.length c1, .slice A2 x.outs.length c2, .int .i64 x.pd, .slice B0 y.prog.length d0, .int .i64 y.a, .int .i64 y.pc, .slice B1 y.wr.length d1, .slice B2 y.lv.length d2, .int .i64 y.t.1, .int .i64 y.t.2.1, .bool y.t.2.2, .int .i64 y.pd, .int .i64 y.x.1, .int .i64 y.x.2.1, .bool y.x.2.2.1, .int .i64 y.x.2.2.2, .bool y.hl, .slice B3 y.seen.length d3] :: R)) := by
 have hx0 := wB_part0 hx
 have hx1 := wB_part1 hx
 have hx2 := wB_part2 hx
 have hy0 := wG_part0 hy
 have hy1 := wG_part1 hy
 have hy2 := wG_part2 hy
 have hy3 := wG_part3 hy
 have hylv : y.lv.length ≤ 1048576 := hcy.2.2.2.2.1.1
 have hyprog : y.prog.length ≤ 1048576 := hcy.1.1
 have hwl : Slots.wfL y.lv := hny.2.2.2.2.1.2
 have hwa : (Lit.int .i64 (addrG y)).wf = true := wf_addr hny
 refine Sx.enterS (args := [.pointer (some ⟨b, 0, none⟩), .int .i64 n]) S Tryz.func259 rfl Tryz.ntmps259 rfl ?_
 refine Sx.C.seq (Sx.C.region ?_)
 refine Sx.G.p (.bool false) ?_
 refine Sx.G.nil (Sx.E.next (Sx.C.seq (Sx.C.region ?_)))
 refine Sx.G.p (.pointer (some ⟨b, 0, none⟩)) ?_
 refine Sx.G.p (.pointer (some ⟨b, 0, none⟩)) ?_
 refine Sx.G.p (.pointer (some ⟨b, 4, none⟩)) ?_
 refine Sx.G.p (.pointer (some ⟨b, 9, none⟩)) ?_
 refine Sx.G.p (.pointer (some ⟨b, 9, none⟩)) ?_
 refine Sx.G.g (.int .i64 y.t.1) .m0 .m9 ?_
 refine Sx.G.p (.int .i64 n) ?_
 refine Sx.G.cp 265 #[.int .i64 y.t.1, .int .i64 n] (.bool (Ctls.hasTrap y.t.1 n)) (fun w S => by exact Ctls.impl_hasTrap y.t.1 n _ hny.2.2.2.2.2.1.1 hw) ?_
 refine Sx.G.p (.bool (Ctls.hasTrap y.t.1 n)) ?_
 refine Sx.G.nil (Sx.E.next (Sx.C.ret ?_))
 refine Sx.E.ret1 (.bool (Ctls.hasTrap y.t.1 n)) rfl (by kernel_rfl) (fun w S => ?_)
 exact ⟨rfl, S⟩
theorem plat_put {w0 w : World} {b : Nat} {R : List Res} {A0 A1 A2 B0 B1 B2 B3 : Option Addr} {c0 c1 c2 d0 d1 d2 d3 : Nat} (x : bT) (y : gT) (n : Int) (hn : wB.wf x) (hc : wB.cap x) (hny : wfGuest y) (hcy : wG.cap y) (hx : wB.rd w0 0 w0.heap.size x [.slice A0 x.mem.length c0, .slice A1 x.gs.length c1, .slice A2 x.outs.length c2, .int .i64 x.pd]) (hy : wG.rd w0 0 w0.heap.size y [.slice B0 y.prog.length d0, .int .i64 y.a, .int .i64 y.pc, .slice B1 y.wr.length d1, .slice B2 y.lv.length d2, .int .i64 y.t.1, .int .i64 y.t.2.1, .bool y.t.2.2, .int .i64 y.pd, .int .i64 y.x.1, .int .i64 y.x.2.1, .bool y.x.2.2.1, .int .i64 y.x.2.2.2, .bool y.hl, .slice B3 y.seen.length d3]) (hwk : WalksOk w0 y) (S : St w0 w (vr b [.slice A0 x.mem.length c0, .slice A1 x.gs.length c1, .slice A2 x.outs.length c2, .int .i64 x.pd, .slice B0 y.prog.length d0, .int .i64 y.a, .int .i64 y.pc, .slice B1 y.wr.length d1, .slice B2 y.lv.length d2, .int .i64 y.t.1, .int .i64 y.t.2.1, .bool y.t.2.2, .int .i64 y.pd, .int .i64 y.x.1, .int .i64 y.x.2.1, .bool y.x.2.2.1, .int .i64 y.x.2.2.2, .bool y.hl, .slice B3 y.seen.length d3] :: R)) (hw : (Lit.int .i64 n).wf = true) : Calls Tryz.prog 257 #[.pointer (some ⟨b, 0, none⟩), .int .i64 n] w (fun e w' => ∃ P0 P1 P2 lo hi F, e = .returned (.tuple #[]) ∧ St w0 w' (vr b [P0, P1, P2, .int .i64 (putB x n).pd, .slice B0 y.prog.length d0, .int .i64 y.a, .int .i64 y.pc, .slice B1 y.wr.length d1, .slice B2 y.lv.length d2, .int .i64 y.t.1, .int .i64 y.t.2.1, .bool y.t.2.2, .int .i64 y.pd, .int .i64 y.x.1, .int .i64 y.x.2.1, .bool y.x.2.2.1, .int .i64 y.x.2.2.2, .bool y.hl, .slice B3 y.seen.length d3] :: ow wB lo hi (putB x n) [P0, P1, P2, .int .i64 (putB x n).pd] F :: R)) := by
 have hx0 := wB_part0 hx
 have hx1 := wB_part1 hx
 have hx2 := wB_part2 hx
 have hy0 := wG_part0 hy
 have hy1 := wG_part1 hy
 have hy2 := wG_part2 hy
 have hy3 := wG_part3 hy
 have hylv : y.lv.length ≤ 1048576 := hcy.2.2.2.2.1.1
 have hyprog : y.prog.length ≤ 1048576 := hcy.1.1
 have hwl : Slots.wfL y.lv := hny.2.2.2.2.1.2
 have hwa : (Lit.int .i64 (addrG y)).wf = true := wf_addr hny
 refine Sx.enterS (args := [.pointer (some ⟨b, 0, none⟩), .int .i64 n]) S Tryz.func257 rfl Tryz.ntmps257 rfl ?_
 refine Sx.C.region ?_
 refine Sx.G.p (.pointer (some ⟨b, 0, none⟩)) ?_
 refine Sx.G.p (.pointer (some ⟨b, 0, none⟩)) ?_
 refine Sx.G.p (.pointer (some ⟨b, 0, none⟩)) ?_
 refine Sx.G.p (.pointer (some ⟨b, 0, none⟩)) ?_
 refine Sx.G.lp 0 [.slice A0 x.mem.length c0, .slice A1 x.gs.length c1, .slice A2 x.outs.length c2, .int .i64 x.pd] .m0 ?_
 refine Sx.G.p (.int .i64 n) ?_
 refine Sx.G.c 263 #[.agg #[.slice A0 x.mem.length c0, .slice A1 x.gs.length c1, .slice A2 x.outs.length c2, .int .i64 x.pd], .int .i64 n] (fun w11 S => (impl_putout x _ n _ hn hc (St.old S hx) hw).mono fun e w11' hp => ?_)
 obtain ⟨cs, F, rfl, ho, hF, hb⟩ := hp
 obtain ⟨P11_0, P11_1, P11_2, rfl, f11_0, f11_1, f11_2⟩ := wB_rd (wB.reads ho)
 obtain ⟨A11_0, c11_0, e11_0, -⟩ := lst_val f11_0
 subst e11_0
 obtain ⟨A11_1, c11_1, e11_1, -⟩ := lst_val f11_1
 subst e11_1
 obtain ⟨A11_2, c11_2, e11_2, -⟩ := lst_val f11_2
 subst e11_2
 generalize F = F11 at ho hF
 refine ⟨_, _, rfl, (St.got S hb ho hF), ?_⟩
 clear S hb ho hF f11_0 f11_1 f11_2
 refine Sx.G.p (.pointer (some ⟨b, 0, none⟩)) ?_
 refine Sx.G.p (.pointer (some ⟨b, 0, none⟩)) ?_
 refine Sx.G.sto 28 (.tmp 12) (.tmp 10) b 0 1 [.slice A0 x.mem.length c0, .slice A1 x.gs.length c1, .slice A2 x.outs.length c2, .int .i64 x.pd, .slice B0 y.prog.length d0, .int .i64 y.a, .int .i64 y.pc, .slice B1 y.wr.length d1, .slice B2 y.lv.length d2, .int .i64 y.t.1, .int .i64 y.t.2.1, .bool y.t.2.2, .int .i64 y.pd, .int .i64 y.x.1, .int .i64 y.x.2.1, .bool y.x.2.2.1, .int .i64 y.x.2.2.2, .bool y.hl, .slice B3 y.seen.length d3] [.slice A11_0 (putB x n).mem.length c11_0, .slice A11_1 (putB x n).gs.length c11_1, .slice A11_2 (putB x n).outs.length c11_2, .int .i64 (putB x n).pd] [.slice A11_0 (putB x n).mem.length c11_0, .slice A11_1 (putB x n).gs.length c11_1, .slice A11_2 (putB x n).outs.length c11_2, .int .i64 (putB x n).pd, .slice B0 y.prog.length d0, .int .i64 y.a, .int .i64 y.pc, .slice B1 y.wr.length d1, .slice B2 y.lv.length d2, .int .i64 y.t.1, .int .i64 y.t.2.1, .bool y.t.2.2, .int .i64 y.pd, .int .i64 y.x.1, .int .i64 y.x.2.1, .bool y.x.2.2.1, .int .i64 y.x.2.2.2, .bool y.hl, .slice B3 y.seen.length d3] (ow wB w11.heap.size w11'.heap.size (putB x n) [.slice A11_0 (putB x n).mem.length c11_0, .slice A11_1 (putB x n).gs.length c11_1, .slice A11_2 (putB x n).outs.length c11_2, .int .i64 (putB x n).pd] F11 :: vr b [.slice A11_0 (putB x n).mem.length c11_0, .slice A11_1 (putB x n).gs.length c11_1, .slice A11_2 (putB x n).outs.length c11_2, .int .i64 (putB x n).pd, .slice B0 y.prog.length d0, .int .i64 y.a, .int .i64 y.pc, .slice B1 y.wr.length d1, .slice B2 y.lv.length d2, .int .i64 y.t.1, .int .i64 y.t.2.1, .bool y.t.2.2, .int .i64 y.pd, .int .i64 y.x.1, .int .i64 y.x.2.1, .bool y.x.2.2.1, .int .i64 y.x.2.2.2, .bool y.hl, .slice B3 y.seen.length d3] :: R) rfl (by kernel_rfl) (by kernel_rfl) (by kernel_rfl) rfl (by kernel_rfl) rfl (by kernel_rfl) (by kernel_rfl) (by kernel_rfl) ?_
 refine Sx.G.nil (Sx.E.end_ ?_)
 refine Sx.E.ret0 rfl (fun w S => ?_)
 exact ⟨_, _, _, _, _, _, rfl, Sx.St.pickT [ow wB w11.heap.size w11'.heap.size (putB x n) [.slice A11_0 (putB x n).mem.length c11_0, .slice A11_1 (putB x n).gs.length c11_1, .slice A11_2 (putB x n).outs.length c11_2, .int .i64 (putB x n).pd] F11, vr b [.slice A11_0 (putB x n).mem.length c11_0, .slice A11_1 (putB x n).gs.length c11_1, .slice A11_2 (putB x n).outs.length c11_2, .int .i64 (putB x n).pd, .slice B0 y.prog.length d0, .int .i64 y.a, .int .i64 y.pc, .slice B1 y.wr.length d1, .slice B2 y.lv.length d2, .int .i64 y.t.1, .int .i64 y.t.2.1, .bool y.t.2.2, .int .i64 y.pd, .int .i64 y.x.1, .int .i64 y.x.2.1, .bool y.x.2.2.1, .int .i64 y.x.2.2.2, .bool y.hl, .slice B3 y.seen.length d3]] [_, _] S [1, 0] rfl (by decide)⟩
theorem plat_loadFrom {w0 w : World} {b : Nat} {R : List Res} {A0 A1 A2 B0 B1 B2 B3 : Option Addr} {c0 c1 c2 d0 d1 d2 d3 : Nat} (x : bT) (y : gT)  (hn : wB.wf x) (hc : wB.cap x) (hny : wfGuest y) (hcy : wG.cap y) (hx : wB.rd w0 0 w0.heap.size x [.slice A0 x.mem.length c0, .slice A1 x.gs.length c1, .slice A2 x.outs.length c2, .int .i64 x.pd]) (hy : wG.rd w0 0 w0.heap.size y [.slice B0 y.prog.length d0, .int .i64 y.a, .int .i64 y.pc, .slice B1 y.wr.length d1, .slice B2 y.lv.length d2, .int .i64 y.t.1, .int .i64 y.t.2.1, .bool y.t.2.2, .int .i64 y.pd, .int .i64 y.x.1, .int .i64 y.x.2.1, .bool y.x.2.2.1, .int .i64 y.x.2.2.2, .bool y.hl, .slice B3 y.seen.length d3]) (hwk : WalksOk w0 y) (S : St w0 w (vr b [.slice A0 x.mem.length c0, .slice A1 x.gs.length c1, .slice A2 x.outs.length c2, .int .i64 x.pd, .slice B0 y.prog.length d0, .int .i64 y.a, .int .i64 y.pc, .slice B1 y.wr.length d1, .slice B2 y.lv.length d2, .int .i64 y.t.1, .int .i64 y.t.2.1, .bool y.t.2.2, .int .i64 y.pd, .int .i64 y.x.1, .int .i64 y.x.2.1, .bool y.x.2.2.1, .int .i64 y.x.2.2.2, .bool y.hl, .slice B3 y.seen.length d3] :: R)) (hwt : wantG y = 3) : Calls Tryz.prog 104 #[.iface 77 (.pointer (some ⟨b, 0, none⟩)), .agg #[.slice B0 y.prog.length d0, .int .i64 y.a, .int .i64 y.pc, .slice B1 y.wr.length d1, .slice B2 y.lv.length d2, .int .i64 y.t.1, .int .i64 y.t.2.1, .bool y.t.2.2, .int .i64 y.pd, .int .i64 y.x.1, .int .i64 y.x.2.1, .bool y.x.2.2.1, .int .i64 y.x.2.2.2, .bool y.hl, .slice B3 y.seen.length d3]] w (fun e w' => ∃ zs lo hi F A0' c0' A1' c1' A2' c2' lo2 hi2 F2, e = .returned (.agg (zs : List Value).toArray) ∧ St w0 w' (ow wG lo hi (loadP x y).2 zs F :: vr b [.slice A0' (loadP x y).1.mem.length c0', .slice A1' (loadP x y).1.gs.length c1', .slice A2' (loadP x y).1.outs.length c2', .int .i64 (loadP x y).1.pd, .slice B0 y.prog.length d0, .int .i64 y.a, .int .i64 y.pc, .slice B1 y.wr.length d1, .slice B2 y.lv.length d2, .int .i64 y.t.1, .int .i64 y.t.2.1, .bool y.t.2.2, .int .i64 y.pd, .int .i64 y.x.1, .int .i64 y.x.2.1, .bool y.x.2.2.1, .int .i64 y.x.2.2.2, .bool y.hl, .slice B3 y.seen.length d3] :: mix wB w0 lo2 hi2 (loadP x y).1 [.slice A0' (loadP x y).1.mem.length c0', .slice A1' (loadP x y).1.gs.length c1', .slice A2' (loadP x y).1.outs.length c2', .int .i64 (loadP x y).1.pd] F2 :: R)) := by
 have hx0 := wB_part0 hx
 have hx1 := wB_part1 hx
 have hx2 := wB_part2 hx
 have hy0 := wG_part0 hy
 have hy1 := wG_part1 hy
 have hy2 := wG_part2 hy
 have hy3 := wG_part3 hy
 have hylv : y.lv.length ≤ 1048576 := hcy.2.2.2.2.1.1
 have hyprog : y.prog.length ≤ 1048576 := hcy.1.1
 have hwl : Slots.wfL y.lv := hny.2.2.2.2.1.2
 have hwa : (Lit.int .i64 (addrG y)).wf = true := wf_addr hny
 refine Sx.enterS (args := [.iface 77 (.pointer (some ⟨b, 0, none⟩)), .agg #[.slice B0 y.prog.length d0, .int .i64 y.a, .int .i64 y.pc, .slice B1 y.wr.length d1, .slice B2 y.lv.length d2, .int .i64 y.t.1, .int .i64 y.t.2.1, .bool y.t.2.2, .int .i64 y.pd, .int .i64 y.x.1, .int .i64 y.x.2.1, .bool y.x.2.2.1, .int .i64 y.x.2.2.2, .bool y.hl, .slice B3 y.seen.length d3]]) S Tryz.func104 rfl Tryz.ntmps104 rfl ?_
 refine Sx.C.seq (Sx.C.region ?_)
 refine Sx.G.b [.slice B0 y.prog.length d0, .int .i64 y.a, .int .i64 y.pc, .slice B1 y.wr.length d1, .slice B2 y.lv.length d2, .int .i64 y.t.1, .int .i64 y.t.2.1, .bool y.t.2.2, .int .i64 y.pd, .int .i64 y.x.1, .int .i64 y.x.2.1, .bool y.x.2.2.1, .int .i64 y.x.2.2.2, .bool y.hl, .slice B3 y.seen.length d3] (fun b11 => ?_)
 refine Sx.G.ar [.slice none 0 0, .int .i64 0, .int .i64 0, .slice none 0 0, .slice none 0 0, .int .i64 0, .int .i64 0, .bool false, .int .i64 0, .int .i64 0, .int .i64 0, .bool false, .int .i64 0, .bool false, .slice none 0 0] (fun b12 => ?_)
 refine Sx.G.nil (Sx.E.next (Sx.C.seq (Sx.C.region ?_)))
 refine Sx.G.lw .m1 ?_
 refine Sx.G.cp 159 #[.agg #[.slice B0 y.prog.length d0, .int .i64 y.a, .int .i64 y.pc, .slice B1 y.wr.length d1, .slice B2 y.lv.length d2, .int .i64 y.t.1, .int .i64 y.t.2.1, .bool y.t.2.2, .int .i64 y.pd, .int .i64 y.x.1, .int .i64 y.x.2.1, .bool y.x.2.2.1, .int .i64 y.x.2.2.2, .bool y.hl, .slice B3 y.seen.length d3]] (.int .i64 (addrG y)) (fun w S => by exact Guests.impl_addr y _ _ hny (cap_G hcy) (rd_G (St.old S hy))) ?_
 refine Sx.G.p (.int .i64 (addrG y)) ?_
 refine Sx.G.nil (Sx.E.next (Sx.C.seq (Sx.C.region ?_)))
 refine Sx.G.p (.iface 77 (.pointer (some ⟨b, 0, none⟩))) ?_
 refine Sx.G.p (.int .i64 (addrG y)) ?_
 refine Sx.G.c 256 #[.pointer (some ⟨b, 0, none⟩), .int .i64 (addrG y)] (fun w13 S => (plat_load x y hn hc hny hcy hx hy hwk (Sx.St.pickT [vr b12 [.slice none 0 0, .int .i64 0, .int .i64 0, .slice none 0 0, .slice none 0 0, .int .i64 0, .int .i64 0, .bool false, .int .i64 0, .int .i64 0, .int .i64 0, .bool false, .int .i64 0, .bool false, .slice none 0 0], vr b11 [.slice B0 y.prog.length d0, .int .i64 y.a, .int .i64 y.pc, .slice B1 y.wr.length d1, .slice B2 y.lv.length d2, .int .i64 y.t.1, .int .i64 y.t.2.1, .bool y.t.2.2, .int .i64 y.pd, .int .i64 y.x.1, .int .i64 y.x.2.1, .bool y.x.2.2.1, .int .i64 y.x.2.2.2, .bool y.hl, .slice B3 y.seen.length d3], vr b [.slice A0 x.mem.length c0, .slice A1 x.gs.length c1, .slice A2 x.outs.length c2, .int .i64 x.pd, .slice B0 y.prog.length d0, .int .i64 y.a, .int .i64 y.pc, .slice B1 y.wr.length d1, .slice B2 y.lv.length d2, .int .i64 y.t.1, .int .i64 y.t.2.1, .bool y.t.2.2, .int .i64 y.pd, .int .i64 y.x.1, .int .i64 y.x.2.1, .bool y.x.2.2.1, .int .i64 y.x.2.2.2, .bool y.hl, .slice B3 y.seen.length d3]] [vr b [.slice A0 x.mem.length c0, .slice A1 x.gs.length c1, .slice A2 x.outs.length c2, .int .i64 x.pd, .slice B0 y.prog.length d0, .int .i64 y.a, .int .i64 y.pc, .slice B1 y.wr.length d1, .slice B2 y.lv.length d2, .int .i64 y.t.1, .int .i64 y.t.2.1, .bool y.t.2.2, .int .i64 y.pd, .int .i64 y.x.1, .int .i64 y.x.2.1, .bool y.x.2.2.1, .int .i64 y.x.2.2.2, .bool y.hl, .slice B3 y.seen.length d3], vr b12 [.slice none 0 0, .int .i64 0, .int .i64 0, .slice none 0 0, .slice none 0 0, .int .i64 0, .int .i64 0, .bool false, .int .i64 0, .int .i64 0, .int .i64 0, .bool false, .int .i64 0, .bool false, .slice none 0 0], vr b11 [.slice B0 y.prog.length d0, .int .i64 y.a, .int .i64 y.pc, .slice B1 y.wr.length d1, .slice B2 y.lv.length d2, .int .i64 y.t.1, .int .i64 y.t.2.1, .bool y.t.2.2, .int .i64 y.pd, .int .i64 y.x.1, .int .i64 y.x.2.1, .bool y.x.2.2.1, .int .i64 y.x.2.2.2, .bool y.hl, .slice B3 y.seen.length d3]] S [2, 0, 1] rfl (by decide)) hwt).mono fun e w13' hp => ?_)
 obtain ⟨rfl, S'⟩ := hp
 refine ⟨_, _, rfl, S', ?_⟩
 clear S S'
 refine Sx.G.p (.tuple #[.int .i64 (loadV x y (addrG y)).1, .bool (loadV x y (addrG y)).2]) ?_
 refine Sx.G.p (.int .i64 (loadV x y (addrG y)).1) ?_
 refine Sx.G.p (.bool ((loadV x y (addrG y)).2)) ?_
 refine Sx.G.p (.int .i64 (loadV x y (addrG y)).1) ?_
 refine Sx.G.p (.bool ((loadV x y (addrG y)).2)) ?_
 refine Sx.G.nil (Sx.E.next (Sx.C.seq (Sx.C.seq (Sx.C.region ?_))))
 refine Sx.G.p (.bool ((loadV x y (addrG y)).2)) ?_
 refine Sx.G.p (.bool (!((loadV x y (addrG y)).2))) ?_
 refine Sx.G.nil (Sx.E.next ?_)
 cases hc14 : ((loadV x y (addrG y)).2)
 ·
  have hb14 := hc14
  refine Sx.C.yy (Sx.C.seq ?_)
  refine Sx.C.sl [(3, .pointer (some ⟨b11, 0, none⟩)), (4, .pointer (some ⟨b12, 0, none⟩)), (5, .int .i64 (addrG y)), (6, .int .i64 (loadV x y (addrG y)).1)] ?_
  refine Sx.C.draw (.take 0 (.take 1 (.alone 2 (.alone 3 (.alone 4 (.alone 5 .nil)))))) [vr b11 [.slice B0 y.prog.length d0, .int .i64 y.a, .int .i64 y.pc, .slice B1 y.wr.length d1, .slice B2 y.lv.length d2, .int .i64 y.t.1, .int .i64 y.t.2.1, .bool y.t.2.2, .int .i64 y.pd, .int .i64 y.x.1, .int .i64 y.x.2.1, .bool y.x.2.2.1, .int .i64 y.x.2.2.2, .bool y.hl, .slice B3 y.seen.length d3]] (fun w S => St.pick S [2] _ rfl (by decide)) (by kernel_rfl) (by kernel_rfl) (by kernel_rfl) ?_
  refine Sx.GT.lw .m0 ?_
  refine Sx.GT.p (.int .i64 (addrG y)) ?_
  refine Sx.GT.alone (Sx.Alone.cp 161 #[.int .i64 (addrG y)] (.int .i64 (Addrs.addrP (addrG y))) (fun w S => by exact ((Addrs.impl_addrP (addrG y) _ hwa).mono fun e w' h => And.intro h.1 (Guests.below_same h.2))) (fun w S => St.pick S [2] _ rfl (by decide)) ?_)
  refine Sx.GT.alone (Sx.Alone.cp 160 #[.int .i64 (Addrs.addrP (addrG y)), .bool false] (.agg #[.int .i64 1, .int .i64 (Addrs.addrP (addrG y)), .bool false, .int .i64 0]) (fun w S => by exact Exits.impl_fault' (Addrs.addrP (addrG y)) false _) (fun w S => St.pick S [2] _ rfl (by decide)) ?_)
  refine Sx.GT.alone (Sx.Alone.c 107 #[.agg #[.slice B0 y.prog.length d0, .int .i64 y.a, .int .i64 y.pc, .slice B1 y.wr.length d1, .slice B2 y.lv.length d2, .int .i64 y.t.1, .int .i64 y.t.2.1, .bool y.t.2.2, .int .i64 y.pd, .int .i64 y.x.1, .int .i64 y.x.2.1, .bool y.x.2.2.1, .int .i64 y.x.2.2.2, .bool y.hl, .slice B3 y.seen.length d3], .agg #[.int .i64 1, .int .i64 (Addrs.addrP (addrG y)), .bool false, .int .i64 0]] (fun w15 S => (((Guests.impl_stop_g y _ (1, (Addrs.addrP (addrG y)), false, 0) _ (cap_G hcy) (rd_G (St.old S hy))).mono weak_G)).mono fun e w15' hp => ?_))
  obtain ⟨cs, F, rfl, ho, hF, hb⟩ := hp
  obtain ⟨P15_0, P15_1, P15_2, P15_3, rfl, f15_0, f15_1, f15_2, f15_3⟩ := wG_rd (wG.reads ho)
  obtain ⟨A15_0, c15_0, e15_0, -⟩ := lst_val f15_0
  subst e15_0
  obtain ⟨A15_1, c15_1, e15_1, -⟩ := lst_val f15_1
  subst e15_1
  obtain ⟨A15_2, c15_2, e15_2, -⟩ := lst_val f15_2
  subst e15_2
  obtain ⟨A15_3, c15_3, e15_3, -⟩ := lst_val f15_3
  subst e15_3
  generalize F = F15 at ho hF
  refine ⟨_, _, rfl, (St.got S hb ho hF), (fun w S => St.pick S [3] _ rfl (by decide)), ?_⟩
  clear S hb ho hF f15_0 f15_1 f15_2 f15_3
  refine Sx.GT.alone (Sx.Alone.sw [.slice A15_0 (stopG y (1, (Addrs.addrP (addrG y)), false, 0)).prog.length c15_0, .int .i64 (stopG y (1, (Addrs.addrP (addrG y)), false, 0)).a, .int .i64 (stopG y (1, (Addrs.addrP (addrG y)), false, 0)).pc, .slice A15_1 (stopG y (1, (Addrs.addrP (addrG y)), false, 0)).wr.length c15_1, .slice A15_2 (stopG y (1, (Addrs.addrP (addrG y)), false, 0)).lv.length c15_2, .int .i64 (stopG y (1, (Addrs.addrP (addrG y)), false, 0)).t.1, .int .i64 (stopG y (1, (Addrs.addrP (addrG y)), false, 0)).t.2.1, .bool (stopG y (1, (Addrs.addrP (addrG y)), false, 0)).t.2.2, .int .i64 (stopG y (1, (Addrs.addrP (addrG y)), false, 0)).pd, .int .i64 (stopG y (1, (Addrs.addrP (addrG y)), false, 0)).x.1, .int .i64 (stopG y (1, (Addrs.addrP (addrG y)), false, 0)).x.2.1, .bool (stopG y (1, (Addrs.addrP (addrG y)), false, 0)).x.2.2.1, .int .i64 (stopG y (1, (Addrs.addrP (addrG y)), false, 0)).x.2.2.2, .bool (stopG y (1, (Addrs.addrP (addrG y)), false, 0)).hl, .slice A15_3 (stopG y (1, (Addrs.addrP (addrG y)), false, 0)).seen.length c15_3] .a2 (fun w S => St.pick S [3] _ rfl (by decide)) ?_)
  refine Sx.GT.nil (Sx.E.next (Sx.C.ret (Sx.E.then_ret ?_)))
  refine Sx.E.retc b12 2 [.slice A15_0 (stopG y (1, (Addrs.addrP (addrG y)), false, 0)).prog.length c15_0, .int .i64 (stopG y (1, (Addrs.addrP (addrG y)), false, 0)).a, .int .i64 (stopG y (1, (Addrs.addrP (addrG y)), false, 0)).pc, .slice A15_1 (stopG y (1, (Addrs.addrP (addrG y)), false, 0)).wr.length c15_1, .slice A15_2 (stopG y (1, (Addrs.addrP (addrG y)), false, 0)).lv.length c15_2, .int .i64 (stopG y (1, (Addrs.addrP (addrG y)), false, 0)).t.1, .int .i64 (stopG y (1, (Addrs.addrP (addrG y)), false, 0)).t.2.1, .bool (stopG y (1, (Addrs.addrP (addrG y)), false, 0)).t.2.2, .int .i64 (stopG y (1, (Addrs.addrP (addrG y)), false, 0)).pd, .int .i64 (stopG y (1, (Addrs.addrP (addrG y)), false, 0)).x.1, .int .i64 (stopG y (1, (Addrs.addrP (addrG y)), false, 0)).x.2.1, .bool (stopG y (1, (Addrs.addrP (addrG y)), false, 0)).x.2.2.1, .int .i64 (stopG y (1, (Addrs.addrP (addrG y)), false, 0)).x.2.2.2, .bool (stopG y (1, (Addrs.addrP (addrG y)), false, 0)).hl, .slice A15_3 (stopG y (1, (Addrs.addrP (addrG y)), false, 0)).seen.length c15_3] rfl (by kernel_rfl) rfl (by kernel_rfl) (by kernel_rfl) (fun w S => ?_)
  replace S := mix_old S hx
  have HP : loadP x y = (x, (stopG y (1, (Addrs.addrP (addrG y)), false, 0))) := by simp only [loadP, hb14, Bool.and_true, Bool.and_false, Bool.false_and, Bool.true_and, Bool.or_true, Bool.or_false, Bool.true_or, Bool.false_or, Bool.not_true, Bool.not_false, Bool.false_eq_true, if_true, if_false, ite_true, ite_false, reduceIte]
  rw [HP]
  exact ⟨_, _, _, _, _, _, _, _, _, _, _, _, _, rfl, Sx.St.pickT [mix wB w0 _ _ x [.slice A0 x.mem.length c0, .slice A1 x.gs.length c1, .slice A2 x.outs.length c2, .int .i64 x.pd] [], ow wG w15.heap.size w15'.heap.size (stopG y (1, (Addrs.addrP (addrG y)), false, 0)) [.slice A15_0 (stopG y (1, (Addrs.addrP (addrG y)), false, 0)).prog.length c15_0, .int .i64 (stopG y (1, (Addrs.addrP (addrG y)), false, 0)).a, .int .i64 (stopG y (1, (Addrs.addrP (addrG y)), false, 0)).pc, .slice A15_1 (stopG y (1, (Addrs.addrP (addrG y)), false, 0)).wr.length c15_1, .slice A15_2 (stopG y (1, (Addrs.addrP (addrG y)), false, 0)).lv.length c15_2, .int .i64 (stopG y (1, (Addrs.addrP (addrG y)), false, 0)).t.1, .int .i64 (stopG y (1, (Addrs.addrP (addrG y)), false, 0)).t.2.1, .bool (stopG y (1, (Addrs.addrP (addrG y)), false, 0)).t.2.2, .int .i64 (stopG y (1, (Addrs.addrP (addrG y)), false, 0)).pd, .int .i64 (stopG y (1, (Addrs.addrP (addrG y)), false, 0)).x.1, .int .i64 (stopG y (1, (Addrs.addrP (addrG y)), false, 0)).x.2.1, .bool (stopG y (1, (Addrs.addrP (addrG y)), false, 0)).x.2.2.1, .int .i64 (stopG y (1, (Addrs.addrP (addrG y)), false, 0)).x.2.2.2, .bool (stopG y (1, (Addrs.addrP (addrG y)), false, 0)).hl, .slice A15_3 (stopG y (1, (Addrs.addrP (addrG y)), false, 0)).seen.length c15_3] F15, vr b [.slice A0 x.mem.length c0, .slice A1 x.gs.length c1, .slice A2 x.outs.length c2, .int .i64 x.pd, .slice B0 y.prog.length d0, .int .i64 y.a, .int .i64 y.pc, .slice B1 y.wr.length d1, .slice B2 y.lv.length d2, .int .i64 y.t.1, .int .i64 y.t.2.1, .bool y.t.2.2, .int .i64 y.pd, .int .i64 y.x.1, .int .i64 y.x.2.1, .bool y.x.2.2.1, .int .i64 y.x.2.2.2, .bool y.hl, .slice B3 y.seen.length d3], vr b12 [.slice A15_0 (stopG y (1, (Addrs.addrP (addrG y)), false, 0)).prog.length c15_0, .int .i64 (stopG y (1, (Addrs.addrP (addrG y)), false, 0)).a, .int .i64 (stopG y (1, (Addrs.addrP (addrG y)), false, 0)).pc, .slice A15_1 (stopG y (1, (Addrs.addrP (addrG y)), false, 0)).wr.length c15_1, .slice A15_2 (stopG y (1, (Addrs.addrP (addrG y)), false, 0)).lv.length c15_2, .int .i64 (stopG y (1, (Addrs.addrP (addrG y)), false, 0)).t.1, .int .i64 (stopG y (1, (Addrs.addrP (addrG y)), false, 0)).t.2.1, .bool (stopG y (1, (Addrs.addrP (addrG y)), false, 0)).t.2.2, .int .i64 (stopG y (1, (Addrs.addrP (addrG y)), false, 0)).pd, .int .i64 (stopG y (1, (Addrs.addrP (addrG y)), false, 0)).x.1, .int .i64 (stopG y (1, (Addrs.addrP (addrG y)), false, 0)).x.2.1, .bool (stopG y (1, (Addrs.addrP (addrG y)), false, 0)).x.2.2.1, .int .i64 (stopG y (1, (Addrs.addrP (addrG y)), false, 0)).x.2.2.2, .bool (stopG y (1, (Addrs.addrP (addrG y)), false, 0)).hl, .slice A15_3 (stopG y (1, (Addrs.addrP (addrG y)), false, 0)).seen.length c15_3], vr b11 [.slice B0 y.prog.length d0, .int .i64 y.a, .int .i64 y.pc, .slice B1 y.wr.length d1, .slice B2 y.lv.length d2, .int .i64 y.t.1, .int .i64 y.t.2.1, .bool y.t.2.2, .int .i64 y.pd, .int .i64 y.x.1, .int .i64 y.x.2.1, .bool y.x.2.2.1, .int .i64 y.x.2.2.2, .bool y.hl, .slice B3 y.seen.length d3]] [_, _, _] S [1, 2, 0] rfl (by decide)⟩
 ·
  have hb14 := hc14
  refine Sx.C.nn (Sx.C.skip (Sx.E.next (Sx.C.seq ?_)))
  refine Sx.C.sl [(3, .pointer (some ⟨b11, 0, none⟩)), (4, .pointer (some ⟨b12, 0, none⟩)), (6, .int .i64 (loadV x y (addrG y)).1)] ?_
  refine Sx.C.region ?_
  refine Sx.G.lw .m2 ?_
  refine Sx.G.p (.int .i64 (loadV x y (addrG y)).1) ?_
  refine Sx.G.c 162 #[.agg #[.slice B0 y.prog.length d0, .int .i64 y.a, .int .i64 y.pc, .slice B1 y.wr.length d1, .slice B2 y.lv.length d2, .int .i64 y.t.1, .int .i64 y.t.2.1, .bool y.t.2.2, .int .i64 y.pd, .int .i64 y.x.1, .int .i64 y.x.2.1, .bool y.x.2.2.1, .int .i64 y.x.2.2.2, .bool y.hl, .slice B3 y.seen.length d3], .int .i64 (loadV x y (addrG y)).1] (fun w16 S => (((Guests.impl_loaded_g y _ ((loadV x y (addrG y)).1) _ (cap_G hcy) (rd_G (St.old S hy))).mono weak_G)).mono fun e w16' hp => ?_)
  obtain ⟨cs, F, rfl, ho, hF, hb⟩ := hp
  obtain ⟨P16_0, P16_1, P16_2, P16_3, rfl, f16_0, f16_1, f16_2, f16_3⟩ := wG_rd (wG.reads ho)
  obtain ⟨A16_0, c16_0, e16_0, -⟩ := lst_val f16_0
  subst e16_0
  obtain ⟨A16_1, c16_1, e16_1, -⟩ := lst_val f16_1
  subst e16_1
  obtain ⟨A16_2, c16_2, e16_2, -⟩ := lst_val f16_2
  subst e16_2
  obtain ⟨A16_3, c16_3, e16_3, -⟩ := lst_val f16_3
  subst e16_3
  generalize F = F16 at ho hF
  refine ⟨_, _, rfl, (St.got S hb ho hF), ?_⟩
  clear S hb ho hF f16_0 f16_1 f16_2 f16_3
  refine Sx.G.sw [.slice A16_0 (loadedG y ((loadV x y (addrG y)).1)).prog.length c16_0, .int .i64 (loadedG y ((loadV x y (addrG y)).1)).a, .int .i64 (loadedG y ((loadV x y (addrG y)).1)).pc, .slice A16_1 (loadedG y ((loadV x y (addrG y)).1)).wr.length c16_1, .slice A16_2 (loadedG y ((loadV x y (addrG y)).1)).lv.length c16_2, .int .i64 (loadedG y ((loadV x y (addrG y)).1)).t.1, .int .i64 (loadedG y ((loadV x y (addrG y)).1)).t.2.1, .bool (loadedG y ((loadV x y (addrG y)).1)).t.2.2, .int .i64 (loadedG y ((loadV x y (addrG y)).1)).pd, .int .i64 (loadedG y ((loadV x y (addrG y)).1)).x.1, .int .i64 (loadedG y ((loadV x y (addrG y)).1)).x.2.1, .bool (loadedG y ((loadV x y (addrG y)).1)).x.2.2.1, .int .i64 (loadedG y ((loadV x y (addrG y)).1)).x.2.2.2, .bool (loadedG y ((loadV x y (addrG y)).1)).hl, .slice A16_3 (loadedG y ((loadV x y (addrG y)).1)).seen.length c16_3] .a2 ?_
  refine Sx.G.nil (Sx.E.next (Sx.C.ret ?_))
  refine Sx.E.retc b12 2 [.slice A16_0 (loadedG y ((loadV x y (addrG y)).1)).prog.length c16_0, .int .i64 (loadedG y ((loadV x y (addrG y)).1)).a, .int .i64 (loadedG y ((loadV x y (addrG y)).1)).pc, .slice A16_1 (loadedG y ((loadV x y (addrG y)).1)).wr.length c16_1, .slice A16_2 (loadedG y ((loadV x y (addrG y)).1)).lv.length c16_2, .int .i64 (loadedG y ((loadV x y (addrG y)).1)).t.1, .int .i64 (loadedG y ((loadV x y (addrG y)).1)).t.2.1, .bool (loadedG y ((loadV x y (addrG y)).1)).t.2.2, .int .i64 (loadedG y ((loadV x y (addrG y)).1)).pd, .int .i64 (loadedG y ((loadV x y (addrG y)).1)).x.1, .int .i64 (loadedG y ((loadV x y (addrG y)).1)).x.2.1, .bool (loadedG y ((loadV x y (addrG y)).1)).x.2.2.1, .int .i64 (loadedG y ((loadV x y (addrG y)).1)).x.2.2.2, .bool (loadedG y ((loadV x y (addrG y)).1)).hl, .slice A16_3 (loadedG y ((loadV x y (addrG y)).1)).seen.length c16_3] rfl (by kernel_rfl) rfl (by kernel_rfl) (by kernel_rfl) (fun w S => ?_)
  replace S := mix_old S hx
  have HP : loadP x y = (x, (loadedG y ((loadV x y (addrG y)).1))) := by simp only [loadP, hb14, Bool.and_true, Bool.and_false, Bool.false_and, Bool.true_and, Bool.or_true, Bool.or_false, Bool.true_or, Bool.false_or, Bool.not_true, Bool.not_false, Bool.false_eq_true, if_true, if_false, ite_true, ite_false, reduceIte]
  rw [HP]
  exact ⟨_, _, _, _, _, _, _, _, _, _, _, _, _, rfl, Sx.St.pickT [mix wB w0 _ _ x [.slice A0 x.mem.length c0, .slice A1 x.gs.length c1, .slice A2 x.outs.length c2, .int .i64 x.pd] [], ow wG w16.heap.size w16'.heap.size (loadedG y ((loadV x y (addrG y)).1)) [.slice A16_0 (loadedG y ((loadV x y (addrG y)).1)).prog.length c16_0, .int .i64 (loadedG y ((loadV x y (addrG y)).1)).a, .int .i64 (loadedG y ((loadV x y (addrG y)).1)).pc, .slice A16_1 (loadedG y ((loadV x y (addrG y)).1)).wr.length c16_1, .slice A16_2 (loadedG y ((loadV x y (addrG y)).1)).lv.length c16_2, .int .i64 (loadedG y ((loadV x y (addrG y)).1)).t.1, .int .i64 (loadedG y ((loadV x y (addrG y)).1)).t.2.1, .bool (loadedG y ((loadV x y (addrG y)).1)).t.2.2, .int .i64 (loadedG y ((loadV x y (addrG y)).1)).pd, .int .i64 (loadedG y ((loadV x y (addrG y)).1)).x.1, .int .i64 (loadedG y ((loadV x y (addrG y)).1)).x.2.1, .bool (loadedG y ((loadV x y (addrG y)).1)).x.2.2.1, .int .i64 (loadedG y ((loadV x y (addrG y)).1)).x.2.2.2, .bool (loadedG y ((loadV x y (addrG y)).1)).hl, .slice A16_3 (loadedG y ((loadV x y (addrG y)).1)).seen.length c16_3] F16, vr b [.slice A0 x.mem.length c0, .slice A1 x.gs.length c1, .slice A2 x.outs.length c2, .int .i64 x.pd, .slice B0 y.prog.length d0, .int .i64 y.a, .int .i64 y.pc, .slice B1 y.wr.length d1, .slice B2 y.lv.length d2, .int .i64 y.t.1, .int .i64 y.t.2.1, .bool y.t.2.2, .int .i64 y.pd, .int .i64 y.x.1, .int .i64 y.x.2.1, .bool y.x.2.2.1, .int .i64 y.x.2.2.2, .bool y.hl, .slice B3 y.seen.length d3], vr b12 [.slice A16_0 (loadedG y ((loadV x y (addrG y)).1)).prog.length c16_0, .int .i64 (loadedG y ((loadV x y (addrG y)).1)).a, .int .i64 (loadedG y ((loadV x y (addrG y)).1)).pc, .slice A16_1 (loadedG y ((loadV x y (addrG y)).1)).wr.length c16_1, .slice A16_2 (loadedG y ((loadV x y (addrG y)).1)).lv.length c16_2, .int .i64 (loadedG y ((loadV x y (addrG y)).1)).t.1, .int .i64 (loadedG y ((loadV x y (addrG y)).1)).t.2.1, .bool (loadedG y ((loadV x y (addrG y)).1)).t.2.2, .int .i64 (loadedG y ((loadV x y (addrG y)).1)).pd, .int .i64 (loadedG y ((loadV x y (addrG y)).1)).x.1, .int .i64 (loadedG y ((loadV x y (addrG y)).1)).x.2.1, .bool (loadedG y ((loadV x y (addrG y)).1)).x.2.2.1, .int .i64 (loadedG y ((loadV x y (addrG y)).1)).x.2.2.2, .bool (loadedG y ((loadV x y (addrG y)).1)).hl, .slice A16_3 (loadedG y ((loadV x y (addrG y)).1)).seen.length c16_3], vr b11 [.slice B0 y.prog.length d0, .int .i64 y.a, .int .i64 y.pc, .slice B1 y.wr.length d1, .slice B2 y.lv.length d2, .int .i64 y.t.1, .int .i64 y.t.2.1, .bool y.t.2.2, .int .i64 y.pd, .int .i64 y.x.1, .int .i64 y.x.2.1, .bool y.x.2.2.1, .int .i64 y.x.2.2.2, .bool y.hl, .slice B3 y.seen.length d3]] [_, _, _] S [1, 2, 0] rfl (by decide)⟩
theorem plat_storeTo {w0 w : World} {b : Nat} {R : List Res} {A0 A1 A2 B0 B1 B2 B3 : Option Addr} {c0 c1 c2 d0 d1 d2 d3 : Nat} (x : bT) (y : gT)  (hn : wB.wf x) (hc : wB.cap x) (hny : wfGuest y) (hcy : wG.cap y) (hx : wB.rd w0 0 w0.heap.size x [.slice A0 x.mem.length c0, .slice A1 x.gs.length c1, .slice A2 x.outs.length c2, .int .i64 x.pd]) (hy : wG.rd w0 0 w0.heap.size y [.slice B0 y.prog.length d0, .int .i64 y.a, .int .i64 y.pc, .slice B1 y.wr.length d1, .slice B2 y.lv.length d2, .int .i64 y.t.1, .int .i64 y.t.2.1, .bool y.t.2.2, .int .i64 y.pd, .int .i64 y.x.1, .int .i64 y.x.2.1, .bool y.x.2.2.1, .int .i64 y.x.2.2.2, .bool y.hl, .slice B3 y.seen.length d3]) (hwk : WalksOk w0 y) (S : St w0 w (vr b [.slice A0 x.mem.length c0, .slice A1 x.gs.length c1, .slice A2 x.outs.length c2, .int .i64 x.pd, .slice B0 y.prog.length d0, .int .i64 y.a, .int .i64 y.pc, .slice B1 y.wr.length d1, .slice B2 y.lv.length d2, .int .i64 y.t.1, .int .i64 y.t.2.1, .bool y.t.2.2, .int .i64 y.pd, .int .i64 y.x.1, .int .i64 y.x.2.1, .bool y.x.2.2.1, .int .i64 y.x.2.2.2, .bool y.hl, .slice B3 y.seen.length d3] :: R)) (hwt : wantG y = 4) : Calls Tryz.prog 105 #[.iface 77 (.pointer (some ⟨b, 0, none⟩)), .agg #[.slice B0 y.prog.length d0, .int .i64 y.a, .int .i64 y.pc, .slice B1 y.wr.length d1, .slice B2 y.lv.length d2, .int .i64 y.t.1, .int .i64 y.t.2.1, .bool y.t.2.2, .int .i64 y.pd, .int .i64 y.x.1, .int .i64 y.x.2.1, .bool y.x.2.2.1, .int .i64 y.x.2.2.2, .bool y.hl, .slice B3 y.seen.length d3]] w (fun e w' => ∃ zs lo hi F A0' c0' A1' c1' A2' c2' lo2 hi2 F2, e = .returned (.agg (zs : List Value).toArray) ∧ St w0 w' (ow wG lo hi (storeP x y).2 zs F :: vr b [.slice A0' (storeP x y).1.mem.length c0', .slice A1' (storeP x y).1.gs.length c1', .slice A2' (storeP x y).1.outs.length c2', .int .i64 (storeP x y).1.pd, .slice B0 y.prog.length d0, .int .i64 y.a, .int .i64 y.pc, .slice B1 y.wr.length d1, .slice B2 y.lv.length d2, .int .i64 y.t.1, .int .i64 y.t.2.1, .bool y.t.2.2, .int .i64 y.pd, .int .i64 y.x.1, .int .i64 y.x.2.1, .bool y.x.2.2.1, .int .i64 y.x.2.2.2, .bool y.hl, .slice B3 y.seen.length d3] :: mix wB w0 lo2 hi2 (storeP x y).1 [.slice A0' (storeP x y).1.mem.length c0', .slice A1' (storeP x y).1.gs.length c1', .slice A2' (storeP x y).1.outs.length c2', .int .i64 (storeP x y).1.pd] F2 :: R)) := by
 have hx0 := wB_part0 hx
 have hx1 := wB_part1 hx
 have hx2 := wB_part2 hx
 have hy0 := wG_part0 hy
 have hy1 := wG_part1 hy
 have hy2 := wG_part2 hy
 have hy3 := wG_part3 hy
 have hylv : y.lv.length ≤ 1048576 := hcy.2.2.2.2.1.1
 have hyprog : y.prog.length ≤ 1048576 := hcy.1.1
 have hwl : Slots.wfL y.lv := hny.2.2.2.2.1.2
 have hwa : (Lit.int .i64 (addrG y)).wf = true := wf_addr hny
 refine Sx.enterS (args := [.iface 77 (.pointer (some ⟨b, 0, none⟩)), .agg #[.slice B0 y.prog.length d0, .int .i64 y.a, .int .i64 y.pc, .slice B1 y.wr.length d1, .slice B2 y.lv.length d2, .int .i64 y.t.1, .int .i64 y.t.2.1, .bool y.t.2.2, .int .i64 y.pd, .int .i64 y.x.1, .int .i64 y.x.2.1, .bool y.x.2.2.1, .int .i64 y.x.2.2.2, .bool y.hl, .slice B3 y.seen.length d3]]) S Tryz.func105 rfl Tryz.ntmps105 rfl ?_
 refine Sx.C.seq (Sx.C.region ?_)
 refine Sx.G.b [.slice B0 y.prog.length d0, .int .i64 y.a, .int .i64 y.pc, .slice B1 y.wr.length d1, .slice B2 y.lv.length d2, .int .i64 y.t.1, .int .i64 y.t.2.1, .bool y.t.2.2, .int .i64 y.pd, .int .i64 y.x.1, .int .i64 y.x.2.1, .bool y.x.2.2.1, .int .i64 y.x.2.2.2, .bool y.hl, .slice B3 y.seen.length d3] (fun b11 => ?_)
 refine Sx.G.ar [.slice none 0 0, .int .i64 0, .int .i64 0, .slice none 0 0, .slice none 0 0, .int .i64 0, .int .i64 0, .bool false, .int .i64 0, .int .i64 0, .int .i64 0, .bool false, .int .i64 0, .bool false, .slice none 0 0] (fun b12 => ?_)
 refine Sx.G.nil (Sx.E.next (Sx.C.seq (Sx.C.region ?_)))
 refine Sx.G.lw .m1 ?_
 refine Sx.G.cp 159 #[.agg #[.slice B0 y.prog.length d0, .int .i64 y.a, .int .i64 y.pc, .slice B1 y.wr.length d1, .slice B2 y.lv.length d2, .int .i64 y.t.1, .int .i64 y.t.2.1, .bool y.t.2.2, .int .i64 y.pd, .int .i64 y.x.1, .int .i64 y.x.2.1, .bool y.x.2.2.1, .int .i64 y.x.2.2.2, .bool y.hl, .slice B3 y.seen.length d3]] (.int .i64 (addrG y)) (fun w S => by exact Guests.impl_addr y _ _ hny (cap_G hcy) (rd_G (St.old S hy))) ?_
 refine Sx.G.p (.int .i64 (addrG y)) ?_
 refine Sx.G.nil (Sx.E.next (Sx.C.seq (Sx.C.seq (Sx.C.region ?_))))
 refine Sx.G.p (.iface 77 (.pointer (some ⟨b, 0, none⟩))) ?_
 refine Sx.G.p (.int .i64 (addrG y)) ?_
 refine Sx.G.p (.pointer (some ⟨b11, 1, none⟩)) ?_
 refine Sx.G.g (.int .i64 y.a) .m1 .m1 ?_
 cases hc13 : ((innerW y.lv (Addrs.addrP (addrG y)) (Rights.need true)).2)
 ·
  have hb13 := hc13
  refine Sx.G.c 258 #[.pointer (some ⟨b, 0, none⟩), .int .i64 (addrG y), .int .i64 y.a] (fun w14 S => (plat_store_no x y y.a hn hc hny hcy hx hy hwk (Sx.St.pickT [vr b12 [.slice none 0 0, .int .i64 0, .int .i64 0, .slice none 0 0, .slice none 0 0, .int .i64 0, .int .i64 0, .bool false, .int .i64 0, .int .i64 0, .int .i64 0, .bool false, .int .i64 0, .bool false, .slice none 0 0], vr b11 [.slice B0 y.prog.length d0, .int .i64 y.a, .int .i64 y.pc, .slice B1 y.wr.length d1, .slice B2 y.lv.length d2, .int .i64 y.t.1, .int .i64 y.t.2.1, .bool y.t.2.2, .int .i64 y.pd, .int .i64 y.x.1, .int .i64 y.x.2.1, .bool y.x.2.2.1, .int .i64 y.x.2.2.2, .bool y.hl, .slice B3 y.seen.length d3], vr b [.slice A0 x.mem.length c0, .slice A1 x.gs.length c1, .slice A2 x.outs.length c2, .int .i64 x.pd, .slice B0 y.prog.length d0, .int .i64 y.a, .int .i64 y.pc, .slice B1 y.wr.length d1, .slice B2 y.lv.length d2, .int .i64 y.t.1, .int .i64 y.t.2.1, .bool y.t.2.2, .int .i64 y.pd, .int .i64 y.x.1, .int .i64 y.x.2.1, .bool y.x.2.2.1, .int .i64 y.x.2.2.2, .bool y.hl, .slice B3 y.seen.length d3]] [vr b [.slice A0 x.mem.length c0, .slice A1 x.gs.length c1, .slice A2 x.outs.length c2, .int .i64 x.pd, .slice B0 y.prog.length d0, .int .i64 y.a, .int .i64 y.pc, .slice B1 y.wr.length d1, .slice B2 y.lv.length d2, .int .i64 y.t.1, .int .i64 y.t.2.1, .bool y.t.2.2, .int .i64 y.pd, .int .i64 y.x.1, .int .i64 y.x.2.1, .bool y.x.2.2.1, .int .i64 y.x.2.2.2, .bool y.hl, .slice B3 y.seen.length d3], vr b12 [.slice none 0 0, .int .i64 0, .int .i64 0, .slice none 0 0, .slice none 0 0, .int .i64 0, .int .i64 0, .bool false, .int .i64 0, .int .i64 0, .int .i64 0, .bool false, .int .i64 0, .bool false, .slice none 0 0], vr b11 [.slice B0 y.prog.length d0, .int .i64 y.a, .int .i64 y.pc, .slice B1 y.wr.length d1, .slice B2 y.lv.length d2, .int .i64 y.t.1, .int .i64 y.t.2.1, .bool y.t.2.2, .int .i64 y.pd, .int .i64 y.x.1, .int .i64 y.x.2.1, .bool y.x.2.2.1, .int .i64 y.x.2.2.2, .bool y.hl, .slice B3 y.seen.length d3]] S [2, 0, 1] rfl (by decide)) hwt hc13).mono fun e w14' hp => ?_)
  obtain ⟨rfl, S'⟩ := hp
  refine ⟨_, _, rfl, S', ?_⟩
  clear S S'
  refine Sx.G.p (.bool true) ?_
  refine Sx.G.nil (Sx.E.next (Sx.C.yy (Sx.C.seq ?_)))
  refine Sx.C.draw (.take 0 (.take 1 (.alone 2 (.alone 3 (.alone 4 (.alone 5 .nil)))))) [vr b11 [.slice B0 y.prog.length d0, .int .i64 y.a, .int .i64 y.pc, .slice B1 y.wr.length d1, .slice B2 y.lv.length d2, .int .i64 y.t.1, .int .i64 y.t.2.1, .bool y.t.2.2, .int .i64 y.pd, .int .i64 y.x.1, .int .i64 y.x.2.1, .bool y.x.2.2.1, .int .i64 y.x.2.2.2, .bool y.hl, .slice B3 y.seen.length d3]] (fun w S => St.pick S [2] _ rfl (by decide)) (by kernel_rfl) (by kernel_rfl) (by kernel_rfl) ?_
  refine Sx.GT.lw .m0 ?_
  refine Sx.GT.p (.int .i64 (addrG y)) ?_
  refine Sx.GT.alone (Sx.Alone.cp 161 #[.int .i64 (addrG y)] (.int .i64 (Addrs.addrP (addrG y))) (fun w S => by exact ((Addrs.impl_addrP (addrG y) _ hwa).mono fun e w' h => And.intro h.1 (Guests.below_same h.2))) (fun w S => St.pick S [2] _ rfl (by decide)) ?_)
  refine Sx.GT.alone (Sx.Alone.cp 160 #[.int .i64 (Addrs.addrP (addrG y)), .bool true] (.agg #[.int .i64 1, .int .i64 (Addrs.addrP (addrG y)), .bool true, .int .i64 0]) (fun w S => by exact Exits.impl_fault' (Addrs.addrP (addrG y)) true _) (fun w S => St.pick S [2] _ rfl (by decide)) ?_)
  refine Sx.GT.alone (Sx.Alone.c 107 #[.agg #[.slice B0 y.prog.length d0, .int .i64 y.a, .int .i64 y.pc, .slice B1 y.wr.length d1, .slice B2 y.lv.length d2, .int .i64 y.t.1, .int .i64 y.t.2.1, .bool y.t.2.2, .int .i64 y.pd, .int .i64 y.x.1, .int .i64 y.x.2.1, .bool y.x.2.2.1, .int .i64 y.x.2.2.2, .bool y.hl, .slice B3 y.seen.length d3], .agg #[.int .i64 1, .int .i64 (Addrs.addrP (addrG y)), .bool true, .int .i64 0]] (fun w15 S => (((Guests.impl_stop_g y _ (1, (Addrs.addrP (addrG y)), true, 0) _ (cap_G hcy) (rd_G (St.old S hy))).mono weak_G)).mono fun e w15' hp => ?_))
  obtain ⟨cs, F, rfl, ho, hF, hb⟩ := hp
  obtain ⟨P15_0, P15_1, P15_2, P15_3, rfl, f15_0, f15_1, f15_2, f15_3⟩ := wG_rd (wG.reads ho)
  obtain ⟨A15_0, c15_0, e15_0, -⟩ := lst_val f15_0
  subst e15_0
  obtain ⟨A15_1, c15_1, e15_1, -⟩ := lst_val f15_1
  subst e15_1
  obtain ⟨A15_2, c15_2, e15_2, -⟩ := lst_val f15_2
  subst e15_2
  obtain ⟨A15_3, c15_3, e15_3, -⟩ := lst_val f15_3
  subst e15_3
  generalize F = F15 at ho hF
  refine ⟨_, _, rfl, (St.got S hb ho hF), (fun w S => St.pick S [3] _ rfl (by decide)), ?_⟩
  clear S hb ho hF f15_0 f15_1 f15_2 f15_3
  refine Sx.GT.alone (Sx.Alone.sw [.slice A15_0 (stopG y (1, (Addrs.addrP (addrG y)), true, 0)).prog.length c15_0, .int .i64 (stopG y (1, (Addrs.addrP (addrG y)), true, 0)).a, .int .i64 (stopG y (1, (Addrs.addrP (addrG y)), true, 0)).pc, .slice A15_1 (stopG y (1, (Addrs.addrP (addrG y)), true, 0)).wr.length c15_1, .slice A15_2 (stopG y (1, (Addrs.addrP (addrG y)), true, 0)).lv.length c15_2, .int .i64 (stopG y (1, (Addrs.addrP (addrG y)), true, 0)).t.1, .int .i64 (stopG y (1, (Addrs.addrP (addrG y)), true, 0)).t.2.1, .bool (stopG y (1, (Addrs.addrP (addrG y)), true, 0)).t.2.2, .int .i64 (stopG y (1, (Addrs.addrP (addrG y)), true, 0)).pd, .int .i64 (stopG y (1, (Addrs.addrP (addrG y)), true, 0)).x.1, .int .i64 (stopG y (1, (Addrs.addrP (addrG y)), true, 0)).x.2.1, .bool (stopG y (1, (Addrs.addrP (addrG y)), true, 0)).x.2.2.1, .int .i64 (stopG y (1, (Addrs.addrP (addrG y)), true, 0)).x.2.2.2, .bool (stopG y (1, (Addrs.addrP (addrG y)), true, 0)).hl, .slice A15_3 (stopG y (1, (Addrs.addrP (addrG y)), true, 0)).seen.length c15_3] .a2 (fun w S => St.pick S [3] _ rfl (by decide)) ?_)
  refine Sx.GT.nil (Sx.E.next (Sx.C.ret (Sx.E.then_ret ?_)))
  refine Sx.E.retc b12 2 [.slice A15_0 (stopG y (1, (Addrs.addrP (addrG y)), true, 0)).prog.length c15_0, .int .i64 (stopG y (1, (Addrs.addrP (addrG y)), true, 0)).a, .int .i64 (stopG y (1, (Addrs.addrP (addrG y)), true, 0)).pc, .slice A15_1 (stopG y (1, (Addrs.addrP (addrG y)), true, 0)).wr.length c15_1, .slice A15_2 (stopG y (1, (Addrs.addrP (addrG y)), true, 0)).lv.length c15_2, .int .i64 (stopG y (1, (Addrs.addrP (addrG y)), true, 0)).t.1, .int .i64 (stopG y (1, (Addrs.addrP (addrG y)), true, 0)).t.2.1, .bool (stopG y (1, (Addrs.addrP (addrG y)), true, 0)).t.2.2, .int .i64 (stopG y (1, (Addrs.addrP (addrG y)), true, 0)).pd, .int .i64 (stopG y (1, (Addrs.addrP (addrG y)), true, 0)).x.1, .int .i64 (stopG y (1, (Addrs.addrP (addrG y)), true, 0)).x.2.1, .bool (stopG y (1, (Addrs.addrP (addrG y)), true, 0)).x.2.2.1, .int .i64 (stopG y (1, (Addrs.addrP (addrG y)), true, 0)).x.2.2.2, .bool (stopG y (1, (Addrs.addrP (addrG y)), true, 0)).hl, .slice A15_3 (stopG y (1, (Addrs.addrP (addrG y)), true, 0)).seen.length c15_3] rfl (by kernel_rfl) rfl (by kernel_rfl) (by kernel_rfl) (fun w S => ?_)
  replace S := mix_old S hx
  have HP : storeP x y = (x, (stopG y (1, (Addrs.addrP (addrG y)), true, 0))) := by simp only [storeP, hb13, Bool.and_true, Bool.and_false, Bool.false_and, Bool.true_and, Bool.or_true, Bool.or_false, Bool.true_or, Bool.false_or, Bool.not_true, Bool.not_false, Bool.false_eq_true, if_true, if_false, ite_true, ite_false, reduceIte]
  rw [HP]
  exact ⟨_, _, _, _, _, _, _, _, _, _, _, _, _, rfl, Sx.St.pickT [mix wB w0 _ _ x [.slice A0 x.mem.length c0, .slice A1 x.gs.length c1, .slice A2 x.outs.length c2, .int .i64 x.pd] [], ow wG w15.heap.size w15'.heap.size (stopG y (1, (Addrs.addrP (addrG y)), true, 0)) [.slice A15_0 (stopG y (1, (Addrs.addrP (addrG y)), true, 0)).prog.length c15_0, .int .i64 (stopG y (1, (Addrs.addrP (addrG y)), true, 0)).a, .int .i64 (stopG y (1, (Addrs.addrP (addrG y)), true, 0)).pc, .slice A15_1 (stopG y (1, (Addrs.addrP (addrG y)), true, 0)).wr.length c15_1, .slice A15_2 (stopG y (1, (Addrs.addrP (addrG y)), true, 0)).lv.length c15_2, .int .i64 (stopG y (1, (Addrs.addrP (addrG y)), true, 0)).t.1, .int .i64 (stopG y (1, (Addrs.addrP (addrG y)), true, 0)).t.2.1, .bool (stopG y (1, (Addrs.addrP (addrG y)), true, 0)).t.2.2, .int .i64 (stopG y (1, (Addrs.addrP (addrG y)), true, 0)).pd, .int .i64 (stopG y (1, (Addrs.addrP (addrG y)), true, 0)).x.1, .int .i64 (stopG y (1, (Addrs.addrP (addrG y)), true, 0)).x.2.1, .bool (stopG y (1, (Addrs.addrP (addrG y)), true, 0)).x.2.2.1, .int .i64 (stopG y (1, (Addrs.addrP (addrG y)), true, 0)).x.2.2.2, .bool (stopG y (1, (Addrs.addrP (addrG y)), true, 0)).hl, .slice A15_3 (stopG y (1, (Addrs.addrP (addrG y)), true, 0)).seen.length c15_3] F15, vr b [.slice A0 x.mem.length c0, .slice A1 x.gs.length c1, .slice A2 x.outs.length c2, .int .i64 x.pd, .slice B0 y.prog.length d0, .int .i64 y.a, .int .i64 y.pc, .slice B1 y.wr.length d1, .slice B2 y.lv.length d2, .int .i64 y.t.1, .int .i64 y.t.2.1, .bool y.t.2.2, .int .i64 y.pd, .int .i64 y.x.1, .int .i64 y.x.2.1, .bool y.x.2.2.1, .int .i64 y.x.2.2.2, .bool y.hl, .slice B3 y.seen.length d3], vr b12 [.slice A15_0 (stopG y (1, (Addrs.addrP (addrG y)), true, 0)).prog.length c15_0, .int .i64 (stopG y (1, (Addrs.addrP (addrG y)), true, 0)).a, .int .i64 (stopG y (1, (Addrs.addrP (addrG y)), true, 0)).pc, .slice A15_1 (stopG y (1, (Addrs.addrP (addrG y)), true, 0)).wr.length c15_1, .slice A15_2 (stopG y (1, (Addrs.addrP (addrG y)), true, 0)).lv.length c15_2, .int .i64 (stopG y (1, (Addrs.addrP (addrG y)), true, 0)).t.1, .int .i64 (stopG y (1, (Addrs.addrP (addrG y)), true, 0)).t.2.1, .bool (stopG y (1, (Addrs.addrP (addrG y)), true, 0)).t.2.2, .int .i64 (stopG y (1, (Addrs.addrP (addrG y)), true, 0)).pd, .int .i64 (stopG y (1, (Addrs.addrP (addrG y)), true, 0)).x.1, .int .i64 (stopG y (1, (Addrs.addrP (addrG y)), true, 0)).x.2.1, .bool (stopG y (1, (Addrs.addrP (addrG y)), true, 0)).x.2.2.1, .int .i64 (stopG y (1, (Addrs.addrP (addrG y)), true, 0)).x.2.2.2, .bool (stopG y (1, (Addrs.addrP (addrG y)), true, 0)).hl, .slice A15_3 (stopG y (1, (Addrs.addrP (addrG y)), true, 0)).seen.length c15_3], vr b11 [.slice B0 y.prog.length d0, .int .i64 y.a, .int .i64 y.pc, .slice B1 y.wr.length d1, .slice B2 y.lv.length d2, .int .i64 y.t.1, .int .i64 y.t.2.1, .bool y.t.2.2, .int .i64 y.pd, .int .i64 y.x.1, .int .i64 y.x.2.1, .bool y.x.2.2.1, .int .i64 y.x.2.2.2, .bool y.hl, .slice B3 y.seen.length d3]] [_, _, _] S [1, 2, 0] rfl (by decide)⟩
 ·
  have hb13 := hc13
  refine Sx.G.c 258 #[.pointer (some ⟨b, 0, none⟩), .int .i64 (addrG y), .int .i64 y.a] (fun w16 S => (plat_store_yes x y y.a hn hc hny hcy hx hy hwk (Sx.St.pickT [vr b12 [.slice none 0 0, .int .i64 0, .int .i64 0, .slice none 0 0, .slice none 0 0, .int .i64 0, .int .i64 0, .bool false, .int .i64 0, .int .i64 0, .int .i64 0, .bool false, .int .i64 0, .bool false, .slice none 0 0], vr b11 [.slice B0 y.prog.length d0, .int .i64 y.a, .int .i64 y.pc, .slice B1 y.wr.length d1, .slice B2 y.lv.length d2, .int .i64 y.t.1, .int .i64 y.t.2.1, .bool y.t.2.2, .int .i64 y.pd, .int .i64 y.x.1, .int .i64 y.x.2.1, .bool y.x.2.2.1, .int .i64 y.x.2.2.2, .bool y.hl, .slice B3 y.seen.length d3], vr b [.slice A0 x.mem.length c0, .slice A1 x.gs.length c1, .slice A2 x.outs.length c2, .int .i64 x.pd, .slice B0 y.prog.length d0, .int .i64 y.a, .int .i64 y.pc, .slice B1 y.wr.length d1, .slice B2 y.lv.length d2, .int .i64 y.t.1, .int .i64 y.t.2.1, .bool y.t.2.2, .int .i64 y.pd, .int .i64 y.x.1, .int .i64 y.x.2.1, .bool y.x.2.2.1, .int .i64 y.x.2.2.2, .bool y.hl, .slice B3 y.seen.length d3]] [vr b [.slice A0 x.mem.length c0, .slice A1 x.gs.length c1, .slice A2 x.outs.length c2, .int .i64 x.pd, .slice B0 y.prog.length d0, .int .i64 y.a, .int .i64 y.pc, .slice B1 y.wr.length d1, .slice B2 y.lv.length d2, .int .i64 y.t.1, .int .i64 y.t.2.1, .bool y.t.2.2, .int .i64 y.pd, .int .i64 y.x.1, .int .i64 y.x.2.1, .bool y.x.2.2.1, .int .i64 y.x.2.2.2, .bool y.hl, .slice B3 y.seen.length d3], vr b12 [.slice none 0 0, .int .i64 0, .int .i64 0, .slice none 0 0, .slice none 0 0, .int .i64 0, .int .i64 0, .bool false, .int .i64 0, .int .i64 0, .int .i64 0, .bool false, .int .i64 0, .bool false, .slice none 0 0], vr b11 [.slice B0 y.prog.length d0, .int .i64 y.a, .int .i64 y.pc, .slice B1 y.wr.length d1, .slice B2 y.lv.length d2, .int .i64 y.t.1, .int .i64 y.t.2.1, .bool y.t.2.2, .int .i64 y.pd, .int .i64 y.x.1, .int .i64 y.x.2.1, .bool y.x.2.2.1, .int .i64 y.x.2.2.2, .bool y.hl, .slice B3 y.seen.length d3]] S [2, 0, 1] rfl (by decide)) hwt hc13).mono fun e w16' hp => ?_)
  obtain ⟨A16, c16, lo16, hi16, F16, rfl, S'⟩ := hp
  refine ⟨_, _, rfl, S', ?_⟩
  clear S S'
  refine Sx.G.p (.bool false) ?_
  refine Sx.G.nil (Sx.E.next (Sx.C.nn (Sx.C.skip (Sx.E.next (Sx.C.seq (Sx.C.region ?_))))))
  refine Sx.G.lw .m3 ?_
  refine Sx.G.c 163 #[.agg #[.slice B0 y.prog.length d0, .int .i64 y.a, .int .i64 y.pc, .slice B1 y.wr.length d1, .slice B2 y.lv.length d2, .int .i64 y.t.1, .int .i64 y.t.2.1, .bool y.t.2.2, .int .i64 y.pd, .int .i64 y.x.1, .int .i64 y.x.2.1, .bool y.x.2.2.1, .int .i64 y.x.2.2.2, .bool y.hl, .slice B3 y.seen.length d3]] (fun w17 S => (((Guests.impl_stored_g y _ _ (cap_G hcy) (rd_G (St.old S hy))).mono weak_G)).mono fun e w17' hp => ?_)
  obtain ⟨cs, F, rfl, ho, hF, hb⟩ := hp
  obtain ⟨P17_0, P17_1, P17_2, P17_3, rfl, f17_0, f17_1, f17_2, f17_3⟩ := wG_rd (wG.reads ho)
  obtain ⟨A17_0, c17_0, e17_0, -⟩ := lst_val f17_0
  subst e17_0
  obtain ⟨A17_1, c17_1, e17_1, -⟩ := lst_val f17_1
  subst e17_1
  obtain ⟨A17_2, c17_2, e17_2, -⟩ := lst_val f17_2
  subst e17_2
  obtain ⟨A17_3, c17_3, e17_3, -⟩ := lst_val f17_3
  subst e17_3
  generalize F = F17 at ho hF
  refine ⟨_, _, rfl, (St.got S hb ho hF), ?_⟩
  clear S hb ho hF f17_0 f17_1 f17_2 f17_3
  refine Sx.G.sw [.slice A17_0 (movedG y).prog.length c17_0, .int .i64 (movedG y).a, .int .i64 (movedG y).pc, .slice A17_1 (movedG y).wr.length c17_1, .slice A17_2 (movedG y).lv.length c17_2, .int .i64 (movedG y).t.1, .int .i64 (movedG y).t.2.1, .bool (movedG y).t.2.2, .int .i64 (movedG y).pd, .int .i64 (movedG y).x.1, .int .i64 (movedG y).x.2.1, .bool (movedG y).x.2.2.1, .int .i64 (movedG y).x.2.2.2, .bool (movedG y).hl, .slice A17_3 (movedG y).seen.length c17_3] .a3 ?_
  refine Sx.G.nil (Sx.E.next (Sx.C.ret ?_))
  refine Sx.E.retc b12 3 [.slice A17_0 (movedG y).prog.length c17_0, .int .i64 (movedG y).a, .int .i64 (movedG y).pc, .slice A17_1 (movedG y).wr.length c17_1, .slice A17_2 (movedG y).lv.length c17_2, .int .i64 (movedG y).t.1, .int .i64 (movedG y).t.2.1, .bool (movedG y).t.2.2, .int .i64 (movedG y).pd, .int .i64 (movedG y).x.1, .int .i64 (movedG y).x.2.1, .bool (movedG y).x.2.2.1, .int .i64 (movedG y).x.2.2.2, .bool (movedG y).hl, .slice A17_3 (movedG y).seen.length c17_3] rfl (by kernel_rfl) rfl (by kernel_rfl) (by kernel_rfl) (fun w S => ?_)
  replace S := Sx.St.pickT [ow wG w17.heap.size w17'.heap.size (movedG y) [.slice A17_0 (movedG y).prog.length c17_0, .int .i64 (movedG y).a, .int .i64 (movedG y).pc, .slice A17_1 (movedG y).wr.length c17_1, .slice A17_2 (movedG y).lv.length c17_2, .int .i64 (movedG y).t.1, .int .i64 (movedG y).t.2.1, .bool (movedG y).t.2.2, .int .i64 (movedG y).pd, .int .i64 (movedG y).x.1, .int .i64 (movedG y).x.2.1, .bool (movedG y).x.2.2.1, .int .i64 (movedG y).x.2.2.2, .bool (movedG y).hl, .slice A17_3 (movedG y).seen.length c17_3] F17, vr b [.slice A16 (storeM x y (addrG y) y.a).mem.length c16, .slice A1 x.gs.length c1, .slice A2 x.outs.length c2, .int .i64 x.pd, .slice B0 y.prog.length d0, .int .i64 y.a, .int .i64 y.pc, .slice B1 y.wr.length d1, .slice B2 y.lv.length d2, .int .i64 y.t.1, .int .i64 y.t.2.1, .bool y.t.2.2, .int .i64 y.pd, .int .i64 y.x.1, .int .i64 y.x.2.1, .bool y.x.2.2.1, .int .i64 y.x.2.2.2, .bool y.hl, .slice B3 y.seen.length d3], ow (rLsw (rLsw rInt)) lo16 hi16 (storeM x y (addrG y) y.a).mem [.slice A16 (storeM x y (addrG y) y.a).mem.length c16] F16, vr b12 [.slice A17_0 (movedG y).prog.length c17_0, .int .i64 (movedG y).a, .int .i64 (movedG y).pc, .slice A17_1 (movedG y).wr.length c17_1, .slice A17_2 (movedG y).lv.length c17_2, .int .i64 (movedG y).t.1, .int .i64 (movedG y).t.2.1, .bool (movedG y).t.2.2, .int .i64 (movedG y).pd, .int .i64 (movedG y).x.1, .int .i64 (movedG y).x.2.1, .bool (movedG y).x.2.2.1, .int .i64 (movedG y).x.2.2.2, .bool (movedG y).hl, .slice A17_3 (movedG y).seen.length c17_3], vr b11 [.slice B0 y.prog.length d0, .int .i64 y.a, .int .i64 y.pc, .slice B1 y.wr.length d1, .slice B2 y.lv.length d2, .int .i64 y.t.1, .int .i64 y.t.2.1, .bool y.t.2.2, .int .i64 y.pd, .int .i64 y.x.1, .int .i64 y.x.2.1, .bool y.x.2.2.1, .int .i64 y.x.2.2.2, .bool y.hl, .slice B3 y.seen.length d3]] [ow (rLsw (rLsw rInt)) lo16 hi16 (storeM x y (addrG y) y.a).mem [.slice A16 (storeM x y (addrG y) y.a).mem.length c16] F16, ow wG w17.heap.size w17'.heap.size (movedG y) [.slice A17_0 (movedG y).prog.length c17_0, .int .i64 (movedG y).a, .int .i64 (movedG y).pc, .slice A17_1 (movedG y).wr.length c17_1, .slice A17_2 (movedG y).lv.length c17_2, .int .i64 (movedG y).t.1, .int .i64 (movedG y).t.2.1, .bool (movedG y).t.2.2, .int .i64 (movedG y).pd, .int .i64 (movedG y).x.1, .int .i64 (movedG y).x.2.1, .bool (movedG y).x.2.2.1, .int .i64 (movedG y).x.2.2.2, .bool (movedG y).hl, .slice A17_3 (movedG y).seen.length c17_3] F17, vr b [.slice A16 (storeM x y (addrG y) y.a).mem.length c16, .slice A1 x.gs.length c1, .slice A2 x.outs.length c2, .int .i64 x.pd, .slice B0 y.prog.length d0, .int .i64 y.a, .int .i64 y.pc, .slice B1 y.wr.length d1, .slice B2 y.lv.length d2, .int .i64 y.t.1, .int .i64 y.t.2.1, .bool y.t.2.2, .int .i64 y.pd, .int .i64 y.x.1, .int .i64 y.x.2.1, .bool y.x.2.2.1, .int .i64 y.x.2.2.2, .bool y.hl, .slice B3 y.seen.length d3], vr b12 [.slice A17_0 (movedG y).prog.length c17_0, .int .i64 (movedG y).a, .int .i64 (movedG y).pc, .slice A17_1 (movedG y).wr.length c17_1, .slice A17_2 (movedG y).lv.length c17_2, .int .i64 (movedG y).t.1, .int .i64 (movedG y).t.2.1, .bool (movedG y).t.2.2, .int .i64 (movedG y).pd, .int .i64 (movedG y).x.1, .int .i64 (movedG y).x.2.1, .bool (movedG y).x.2.2.1, .int .i64 (movedG y).x.2.2.2, .bool (movedG y).hl, .slice A17_3 (movedG y).seen.length c17_3], vr b11 [.slice B0 y.prog.length d0, .int .i64 y.a, .int .i64 y.pc, .slice B1 y.wr.length d1, .slice B2 y.lv.length d2, .int .i64 y.t.1, .int .i64 y.t.2.1, .bool y.t.2.2, .int .i64 y.pd, .int .i64 y.x.1, .int .i64 y.x.2.1, .bool y.x.2.2.1, .int .i64 y.x.2.2.2, .bool y.hl, .slice B3 y.seen.length d3]] S [2, 0, 1, 3, 4] rfl (by decide)
  obtain ⟨G2, S⟩ := mix_of (r := wB) (x := (storeM x y (addrG y) y.a)) (cs := [.slice A16 (storeM x y (addrG y) y.a).mem.length c16, .slice A1 x.gs.length c1, .slice A2 x.outs.length c2, .int .i64 x.pd]) (rs := [_]) S (fun v hb hsz hv => wB_rd_mk (g := (storeM x y (addrG y) y.a)) (ow_in (hv _ List.mem_cons_self) (Nat.le_trans (S.hi 0 _ rfl) hsz)) (old_in (r := (rLsw wG)) hb hx1) (old_in (r := (rLsw rInt)) hb hx2))
  have HP : storeP x y = ((storeM x y (addrG y) y.a), (movedG y)) := by simp only [storeP, hb13, Bool.and_true, Bool.and_false, Bool.false_and, Bool.true_and, Bool.or_true, Bool.or_false, Bool.true_or, Bool.false_or, Bool.not_true, Bool.not_false, Bool.false_eq_true, if_true, if_false, ite_true, ite_false, reduceIte]
  rw [HP]
  exact ⟨_, _, _, _, _, _, _, _, _, _, _, _, _, rfl, Sx.St.pickT [mix wB w0 _ _ (storeM x y (addrG y) y.a) [.slice A16 (storeM x y (addrG y) y.a).mem.length c16, .slice A1 x.gs.length c1, .slice A2 x.outs.length c2, .int .i64 x.pd] G2, ow wG w17.heap.size w17'.heap.size (movedG y) [.slice A17_0 (movedG y).prog.length c17_0, .int .i64 (movedG y).a, .int .i64 (movedG y).pc, .slice A17_1 (movedG y).wr.length c17_1, .slice A17_2 (movedG y).lv.length c17_2, .int .i64 (movedG y).t.1, .int .i64 (movedG y).t.2.1, .bool (movedG y).t.2.2, .int .i64 (movedG y).pd, .int .i64 (movedG y).x.1, .int .i64 (movedG y).x.2.1, .bool (movedG y).x.2.2.1, .int .i64 (movedG y).x.2.2.2, .bool (movedG y).hl, .slice A17_3 (movedG y).seen.length c17_3] F17, vr b [.slice A16 (storeM x y (addrG y) y.a).mem.length c16, .slice A1 x.gs.length c1, .slice A2 x.outs.length c2, .int .i64 x.pd, .slice B0 y.prog.length d0, .int .i64 y.a, .int .i64 y.pc, .slice B1 y.wr.length d1, .slice B2 y.lv.length d2, .int .i64 y.t.1, .int .i64 y.t.2.1, .bool y.t.2.2, .int .i64 y.pd, .int .i64 y.x.1, .int .i64 y.x.2.1, .bool y.x.2.2.1, .int .i64 y.x.2.2.2, .bool y.hl, .slice B3 y.seen.length d3], vr b12 [.slice A17_0 (movedG y).prog.length c17_0, .int .i64 (movedG y).a, .int .i64 (movedG y).pc, .slice A17_1 (movedG y).wr.length c17_1, .slice A17_2 (movedG y).lv.length c17_2, .int .i64 (movedG y).t.1, .int .i64 (movedG y).t.2.1, .bool (movedG y).t.2.2, .int .i64 (movedG y).pd, .int .i64 (movedG y).x.1, .int .i64 (movedG y).x.2.1, .bool (movedG y).x.2.2.1, .int .i64 (movedG y).x.2.2.2, .bool (movedG y).hl, .slice A17_3 (movedG y).seen.length c17_3], vr b11 [.slice B0 y.prog.length d0, .int .i64 y.a, .int .i64 y.pc, .slice B1 y.wr.length d1, .slice B2 y.lv.length d2, .int .i64 y.t.1, .int .i64 y.t.2.1, .bool y.t.2.2, .int .i64 y.pd, .int .i64 y.x.1, .int .i64 y.x.2.1, .bool y.x.2.2.1, .int .i64 y.x.2.2.2, .bool y.hl, .slice B3 y.seen.length d3]] [_, _, _] S [1, 2, 0] rfl (by decide)⟩
theorem plat_putOutTo {w0 w : World} {b : Nat} {R : List Res} {A0 A1 A2 B0 B1 B2 B3 : Option Addr} {c0 c1 c2 d0 d1 d2 d3 : Nat} (x : bT) (y : gT)  (hn : wB.wf x) (hc : wB.cap x) (hny : wfGuest y) (hcy : wG.cap y) (hx : wB.rd w0 0 w0.heap.size x [.slice A0 x.mem.length c0, .slice A1 x.gs.length c1, .slice A2 x.outs.length c2, .int .i64 x.pd]) (hy : wG.rd w0 0 w0.heap.size y [.slice B0 y.prog.length d0, .int .i64 y.a, .int .i64 y.pc, .slice B1 y.wr.length d1, .slice B2 y.lv.length d2, .int .i64 y.t.1, .int .i64 y.t.2.1, .bool y.t.2.2, .int .i64 y.pd, .int .i64 y.x.1, .int .i64 y.x.2.1, .bool y.x.2.2.1, .int .i64 y.x.2.2.2, .bool y.hl, .slice B3 y.seen.length d3]) (hwk : WalksOk w0 y) (S : St w0 w (vr b [.slice A0 x.mem.length c0, .slice A1 x.gs.length c1, .slice A2 x.outs.length c2, .int .i64 x.pd, .slice B0 y.prog.length d0, .int .i64 y.a, .int .i64 y.pc, .slice B1 y.wr.length d1, .slice B2 y.lv.length d2, .int .i64 y.t.1, .int .i64 y.t.2.1, .bool y.t.2.2, .int .i64 y.pd, .int .i64 y.x.1, .int .i64 y.x.2.1, .bool y.x.2.2.1, .int .i64 y.x.2.2.2, .bool y.hl, .slice B3 y.seen.length d3] :: R)) : Calls Tryz.prog 106 #[.iface 77 (.pointer (some ⟨b, 0, none⟩)), .agg #[.slice B0 y.prog.length d0, .int .i64 y.a, .int .i64 y.pc, .slice B1 y.wr.length d1, .slice B2 y.lv.length d2, .int .i64 y.t.1, .int .i64 y.t.2.1, .bool y.t.2.2, .int .i64 y.pd, .int .i64 y.x.1, .int .i64 y.x.2.1, .bool y.x.2.2.1, .int .i64 y.x.2.2.2, .bool y.hl, .slice B3 y.seen.length d3]] w (fun e w' => ∃ zs lo hi F A0' c0' A1' c1' A2' c2' lo2 hi2 F2, e = .returned (.agg (zs : List Value).toArray) ∧ St w0 w' (ow wG lo hi (outP x y).2 zs F :: vr b [.slice A0' (outP x y).1.mem.length c0', .slice A1' (outP x y).1.gs.length c1', .slice A2' (outP x y).1.outs.length c2', .int .i64 (outP x y).1.pd, .slice B0 y.prog.length d0, .int .i64 y.a, .int .i64 y.pc, .slice B1 y.wr.length d1, .slice B2 y.lv.length d2, .int .i64 y.t.1, .int .i64 y.t.2.1, .bool y.t.2.2, .int .i64 y.pd, .int .i64 y.x.1, .int .i64 y.x.2.1, .bool y.x.2.2.1, .int .i64 y.x.2.2.2, .bool y.hl, .slice B3 y.seen.length d3] :: mix wB w0 lo2 hi2 (outP x y).1 [.slice A0' (outP x y).1.mem.length c0', .slice A1' (outP x y).1.gs.length c1', .slice A2' (outP x y).1.outs.length c2', .int .i64 (outP x y).1.pd] F2 :: R)) := by
 have hx0 := wB_part0 hx
 have hx1 := wB_part1 hx
 have hx2 := wB_part2 hx
 have hy0 := wG_part0 hy
 have hy1 := wG_part1 hy
 have hy2 := wG_part2 hy
 have hy3 := wG_part3 hy
 have hylv : y.lv.length ≤ 1048576 := hcy.2.2.2.2.1.1
 have hyprog : y.prog.length ≤ 1048576 := hcy.1.1
 have hwl : Slots.wfL y.lv := hny.2.2.2.2.1.2
 have hwa : (Lit.int .i64 (addrG y)).wf = true := wf_addr hny
 refine Sx.enterS (args := [.iface 77 (.pointer (some ⟨b, 0, none⟩)), .agg #[.slice B0 y.prog.length d0, .int .i64 y.a, .int .i64 y.pc, .slice B1 y.wr.length d1, .slice B2 y.lv.length d2, .int .i64 y.t.1, .int .i64 y.t.2.1, .bool y.t.2.2, .int .i64 y.pd, .int .i64 y.x.1, .int .i64 y.x.2.1, .bool y.x.2.2.1, .int .i64 y.x.2.2.2, .bool y.hl, .slice B3 y.seen.length d3]]) S Tryz.func106 rfl Tryz.ntmps106 rfl ?_
 refine Sx.C.seq (Sx.C.region ?_)
 refine Sx.G.b [.slice B0 y.prog.length d0, .int .i64 y.a, .int .i64 y.pc, .slice B1 y.wr.length d1, .slice B2 y.lv.length d2, .int .i64 y.t.1, .int .i64 y.t.2.1, .bool y.t.2.2, .int .i64 y.pd, .int .i64 y.x.1, .int .i64 y.x.2.1, .bool y.x.2.2.1, .int .i64 y.x.2.2.2, .bool y.hl, .slice B3 y.seen.length d3] (fun b11 => ?_)
 refine Sx.G.ar [.slice none 0 0, .int .i64 0, .int .i64 0, .slice none 0 0, .slice none 0 0, .int .i64 0, .int .i64 0, .bool false, .int .i64 0, .int .i64 0, .int .i64 0, .bool false, .int .i64 0, .bool false, .slice none 0 0] (fun b12 => ?_)
 refine Sx.G.nil (Sx.E.next (Sx.C.seq (Sx.C.region ?_)))
 refine Sx.G.lw .m1 ?_
 refine Sx.G.cp 109 #[.agg #[.slice B0 y.prog.length d0, .int .i64 y.a, .int .i64 y.pc, .slice B1 y.wr.length d1, .slice B2 y.lv.length d2, .int .i64 y.t.1, .int .i64 y.t.2.1, .bool y.t.2.2, .int .i64 y.pd, .int .i64 y.x.1, .int .i64 y.x.2.1, .bool y.x.2.2.1, .int .i64 y.x.2.2.2, .bool y.hl, .slice B3 y.seen.length d3]] (.agg #[.int .i64 (insAt y.prog y.pc).1, .int .i64 (insAt y.prog y.pc).2]) (fun w S => by exact Guests.impl_next y _ _ hny (cap_G hcy) (rd_G (St.old S hy))) ?_
 refine Sx.G.p (.int .i64 (insAt y.prog y.pc).2) ?_
 refine Sx.G.p (.int .i64 (insAt y.prog y.pc).2) ?_
 refine Sx.G.nil (Sx.E.next (Sx.C.seq (Sx.C.seq (Sx.C.region ?_))))
 refine Sx.G.p (.iface 77 (.pointer (some ⟨b, 0, none⟩))) ?_
 refine Sx.G.c 259 #[.pointer (some ⟨b, 0, none⟩), .int .i64 1] (fun w13 S => (plat_traps x y 1 hn hc hny hcy hx hy hwk (Sx.St.pickT [vr b12 [.slice none 0 0, .int .i64 0, .int .i64 0, .slice none 0 0, .slice none 0 0, .int .i64 0, .int .i64 0, .bool false, .int .i64 0, .int .i64 0, .int .i64 0, .bool false, .int .i64 0, .bool false, .slice none 0 0], vr b11 [.slice B0 y.prog.length d0, .int .i64 y.a, .int .i64 y.pc, .slice B1 y.wr.length d1, .slice B2 y.lv.length d2, .int .i64 y.t.1, .int .i64 y.t.2.1, .bool y.t.2.2, .int .i64 y.pd, .int .i64 y.x.1, .int .i64 y.x.2.1, .bool y.x.2.2.1, .int .i64 y.x.2.2.2, .bool y.hl, .slice B3 y.seen.length d3], vr b [.slice A0 x.mem.length c0, .slice A1 x.gs.length c1, .slice A2 x.outs.length c2, .int .i64 x.pd, .slice B0 y.prog.length d0, .int .i64 y.a, .int .i64 y.pc, .slice B1 y.wr.length d1, .slice B2 y.lv.length d2, .int .i64 y.t.1, .int .i64 y.t.2.1, .bool y.t.2.2, .int .i64 y.pd, .int .i64 y.x.1, .int .i64 y.x.2.1, .bool y.x.2.2.1, .int .i64 y.x.2.2.2, .bool y.hl, .slice B3 y.seen.length d3]] [vr b [.slice A0 x.mem.length c0, .slice A1 x.gs.length c1, .slice A2 x.outs.length c2, .int .i64 x.pd, .slice B0 y.prog.length d0, .int .i64 y.a, .int .i64 y.pc, .slice B1 y.wr.length d1, .slice B2 y.lv.length d2, .int .i64 y.t.1, .int .i64 y.t.2.1, .bool y.t.2.2, .int .i64 y.pd, .int .i64 y.x.1, .int .i64 y.x.2.1, .bool y.x.2.2.1, .int .i64 y.x.2.2.2, .bool y.hl, .slice B3 y.seen.length d3], vr b12 [.slice none 0 0, .int .i64 0, .int .i64 0, .slice none 0 0, .slice none 0 0, .int .i64 0, .int .i64 0, .bool false, .int .i64 0, .int .i64 0, .int .i64 0, .bool false, .int .i64 0, .bool false, .slice none 0 0], vr b11 [.slice B0 y.prog.length d0, .int .i64 y.a, .int .i64 y.pc, .slice B1 y.wr.length d1, .slice B2 y.lv.length d2, .int .i64 y.t.1, .int .i64 y.t.2.1, .bool y.t.2.2, .int .i64 y.pd, .int .i64 y.x.1, .int .i64 y.x.2.1, .bool y.x.2.2.1, .int .i64 y.x.2.2.2, .bool y.hl, .slice B3 y.seen.length d3]] S [2, 0, 1] rfl (by decide)) (by decide)).mono fun e w13' hp => ?_)
 obtain ⟨rfl, S'⟩ := hp
 refine ⟨_, _, rfl, S', ?_⟩
 clear S S'
 refine Sx.G.nil (Sx.E.next ?_)
 cases hc14 : (Ctls.hasTrap y.t.1 1)
 ·
  have hb14 := hc14
  refine Sx.C.nn (Sx.C.skip (Sx.E.next (Sx.C.seq (Sx.C.region ?_))))
  refine Sx.G.p (.iface 77 (.pointer (some ⟨b, 0, none⟩))) ?_
  refine Sx.G.p (.int .i64 (insAt y.prog y.pc).2) ?_
  refine Sx.G.c 257 #[.pointer (some ⟨b, 0, none⟩), .int .i64 (insAt y.prog y.pc).2] (fun w15 S => (plat_put x y ((insAt y.prog y.pc).2) hn hc hny hcy hx hy hwk S (insAt_wf hny.1.2 _)).mono fun e w15' hp => ?_)
  obtain ⟨P15_0, P15_1, P15_2, lo15, hi15, F15, rfl, S'⟩ := hp
  obtain ⟨Q0, Q1, Q2, eQ, f0, f1, f2⟩ := wB_rd (St.reads S' 1 rfl)
  obtain ⟨A7, c7, e7, -⟩ := lst_val f0
  obtain ⟨A8, c8, e8, -⟩ := lst_val f1
  obtain ⟨A9, c9, e9, -⟩ := lst_val f2
  subst e7 e8 e9
  obtain ⟨rfl, rfl, rfl⟩ : P15_0 = .slice A7 (putB x ((insAt y.prog y.pc).2)).mem.length c7 ∧ P15_1 = .slice A8 (putB x ((insAt y.prog y.pc).2)).gs.length c8 ∧ P15_2 = .slice A9 (putB x ((insAt y.prog y.pc).2)).outs.length c9 := by simpa using eQ
  refine ⟨_, _, rfl, S', ?_⟩
  clear S S' f0 f1 f2 eQ
  refine Sx.G.nil (Sx.E.next (Sx.C.seq (Sx.C.region ?_)))
  refine Sx.G.lw .m3 ?_
  refine Sx.G.c 165 #[.agg #[.slice B0 y.prog.length d0, .int .i64 y.a, .int .i64 y.pc, .slice B1 y.wr.length d1, .slice B2 y.lv.length d2, .int .i64 y.t.1, .int .i64 y.t.2.1, .bool y.t.2.2, .int .i64 y.pd, .int .i64 y.x.1, .int .i64 y.x.2.1, .bool y.x.2.2.1, .int .i64 y.x.2.2.2, .bool y.hl, .slice B3 y.seen.length d3]] (fun w16 S => (((Guests.impl_moved_g y _ _ (cap_G hcy) (rd_G (St.old S hy))).mono weak_G)).mono fun e w16' hp => ?_)
  obtain ⟨cs, F, rfl, ho, hF, hb⟩ := hp
  obtain ⟨P16_0, P16_1, P16_2, P16_3, rfl, f16_0, f16_1, f16_2, f16_3⟩ := wG_rd (wG.reads ho)
  obtain ⟨A16_0, c16_0, e16_0, -⟩ := lst_val f16_0
  subst e16_0
  obtain ⟨A16_1, c16_1, e16_1, -⟩ := lst_val f16_1
  subst e16_1
  obtain ⟨A16_2, c16_2, e16_2, -⟩ := lst_val f16_2
  subst e16_2
  obtain ⟨A16_3, c16_3, e16_3, -⟩ := lst_val f16_3
  subst e16_3
  generalize F = F16 at ho hF
  refine ⟨_, _, rfl, (St.got S hb ho hF), ?_⟩
  clear S hb ho hF f16_0 f16_1 f16_2 f16_3
  refine Sx.G.sw [.slice A16_0 (movedG y).prog.length c16_0, .int .i64 (movedG y).a, .int .i64 (movedG y).pc, .slice A16_1 (movedG y).wr.length c16_1, .slice A16_2 (movedG y).lv.length c16_2, .int .i64 (movedG y).t.1, .int .i64 (movedG y).t.2.1, .bool (movedG y).t.2.2, .int .i64 (movedG y).pd, .int .i64 (movedG y).x.1, .int .i64 (movedG y).x.2.1, .bool (movedG y).x.2.2.1, .int .i64 (movedG y).x.2.2.2, .bool (movedG y).hl, .slice A16_3 (movedG y).seen.length c16_3] .a3 ?_
  refine Sx.G.nil (Sx.E.next (Sx.C.ret ?_))
  refine Sx.E.retc b12 3 [.slice A16_0 (movedG y).prog.length c16_0, .int .i64 (movedG y).a, .int .i64 (movedG y).pc, .slice A16_1 (movedG y).wr.length c16_1, .slice A16_2 (movedG y).lv.length c16_2, .int .i64 (movedG y).t.1, .int .i64 (movedG y).t.2.1, .bool (movedG y).t.2.2, .int .i64 (movedG y).pd, .int .i64 (movedG y).x.1, .int .i64 (movedG y).x.2.1, .bool (movedG y).x.2.2.1, .int .i64 (movedG y).x.2.2.2, .bool (movedG y).hl, .slice A16_3 (movedG y).seen.length c16_3] rfl (by kernel_rfl) rfl (by kernel_rfl) (by kernel_rfl) (fun w S => ?_)
  replace S := Sx.St.pickT [ow wG w16.heap.size w16'.heap.size (movedG y) [.slice A16_0 (movedG y).prog.length c16_0, .int .i64 (movedG y).a, .int .i64 (movedG y).pc, .slice A16_1 (movedG y).wr.length c16_1, .slice A16_2 (movedG y).lv.length c16_2, .int .i64 (movedG y).t.1, .int .i64 (movedG y).t.2.1, .bool (movedG y).t.2.2, .int .i64 (movedG y).pd, .int .i64 (movedG y).x.1, .int .i64 (movedG y).x.2.1, .bool (movedG y).x.2.2.1, .int .i64 (movedG y).x.2.2.2, .bool (movedG y).hl, .slice A16_3 (movedG y).seen.length c16_3] F16, vr b [.slice A7 (putB x ((insAt y.prog y.pc).2)).mem.length c7, .slice A8 (putB x ((insAt y.prog y.pc).2)).gs.length c8, .slice A9 (putB x ((insAt y.prog y.pc).2)).outs.length c9, .int .i64 (putB x ((insAt y.prog y.pc).2)).pd, .slice B0 y.prog.length d0, .int .i64 y.a, .int .i64 y.pc, .slice B1 y.wr.length d1, .slice B2 y.lv.length d2, .int .i64 y.t.1, .int .i64 y.t.2.1, .bool y.t.2.2, .int .i64 y.pd, .int .i64 y.x.1, .int .i64 y.x.2.1, .bool y.x.2.2.1, .int .i64 y.x.2.2.2, .bool y.hl, .slice B3 y.seen.length d3], ow wB lo15 hi15 (putB x ((insAt y.prog y.pc).2)) [.slice A7 (putB x ((insAt y.prog y.pc).2)).mem.length c7, .slice A8 (putB x ((insAt y.prog y.pc).2)).gs.length c8, .slice A9 (putB x ((insAt y.prog y.pc).2)).outs.length c9, .int .i64 (putB x ((insAt y.prog y.pc).2)).pd] F15, vr b12 [.slice A16_0 (movedG y).prog.length c16_0, .int .i64 (movedG y).a, .int .i64 (movedG y).pc, .slice A16_1 (movedG y).wr.length c16_1, .slice A16_2 (movedG y).lv.length c16_2, .int .i64 (movedG y).t.1, .int .i64 (movedG y).t.2.1, .bool (movedG y).t.2.2, .int .i64 (movedG y).pd, .int .i64 (movedG y).x.1, .int .i64 (movedG y).x.2.1, .bool (movedG y).x.2.2.1, .int .i64 (movedG y).x.2.2.2, .bool (movedG y).hl, .slice A16_3 (movedG y).seen.length c16_3], vr b11 [.slice B0 y.prog.length d0, .int .i64 y.a, .int .i64 y.pc, .slice B1 y.wr.length d1, .slice B2 y.lv.length d2, .int .i64 y.t.1, .int .i64 y.t.2.1, .bool y.t.2.2, .int .i64 y.pd, .int .i64 y.x.1, .int .i64 y.x.2.1, .bool y.x.2.2.1, .int .i64 y.x.2.2.2, .bool y.hl, .slice B3 y.seen.length d3]] [ow wB lo15 hi15 (putB x ((insAt y.prog y.pc).2)) [.slice A7 (putB x ((insAt y.prog y.pc).2)).mem.length c7, .slice A8 (putB x ((insAt y.prog y.pc).2)).gs.length c8, .slice A9 (putB x ((insAt y.prog y.pc).2)).outs.length c9, .int .i64 (putB x ((insAt y.prog y.pc).2)).pd] F15, ow wG w16.heap.size w16'.heap.size (movedG y) [.slice A16_0 (movedG y).prog.length c16_0, .int .i64 (movedG y).a, .int .i64 (movedG y).pc, .slice A16_1 (movedG y).wr.length c16_1, .slice A16_2 (movedG y).lv.length c16_2, .int .i64 (movedG y).t.1, .int .i64 (movedG y).t.2.1, .bool (movedG y).t.2.2, .int .i64 (movedG y).pd, .int .i64 (movedG y).x.1, .int .i64 (movedG y).x.2.1, .bool (movedG y).x.2.2.1, .int .i64 (movedG y).x.2.2.2, .bool (movedG y).hl, .slice A16_3 (movedG y).seen.length c16_3] F16, vr b [.slice A7 (putB x ((insAt y.prog y.pc).2)).mem.length c7, .slice A8 (putB x ((insAt y.prog y.pc).2)).gs.length c8, .slice A9 (putB x ((insAt y.prog y.pc).2)).outs.length c9, .int .i64 (putB x ((insAt y.prog y.pc).2)).pd, .slice B0 y.prog.length d0, .int .i64 y.a, .int .i64 y.pc, .slice B1 y.wr.length d1, .slice B2 y.lv.length d2, .int .i64 y.t.1, .int .i64 y.t.2.1, .bool y.t.2.2, .int .i64 y.pd, .int .i64 y.x.1, .int .i64 y.x.2.1, .bool y.x.2.2.1, .int .i64 y.x.2.2.2, .bool y.hl, .slice B3 y.seen.length d3], vr b12 [.slice A16_0 (movedG y).prog.length c16_0, .int .i64 (movedG y).a, .int .i64 (movedG y).pc, .slice A16_1 (movedG y).wr.length c16_1, .slice A16_2 (movedG y).lv.length c16_2, .int .i64 (movedG y).t.1, .int .i64 (movedG y).t.2.1, .bool (movedG y).t.2.2, .int .i64 (movedG y).pd, .int .i64 (movedG y).x.1, .int .i64 (movedG y).x.2.1, .bool (movedG y).x.2.2.1, .int .i64 (movedG y).x.2.2.2, .bool (movedG y).hl, .slice A16_3 (movedG y).seen.length c16_3], vr b11 [.slice B0 y.prog.length d0, .int .i64 y.a, .int .i64 y.pc, .slice B1 y.wr.length d1, .slice B2 y.lv.length d2, .int .i64 y.t.1, .int .i64 y.t.2.1, .bool y.t.2.2, .int .i64 y.pd, .int .i64 y.x.1, .int .i64 y.x.2.1, .bool y.x.2.2.1, .int .i64 y.x.2.2.2, .bool y.hl, .slice B3 y.seen.length d3]] S [2, 0, 1, 3, 4] rfl (by decide)
  obtain ⟨G2, S⟩ := mix_of (r := wB) (x := (putB x ((insAt y.prog y.pc).2))) (cs := [.slice A7 (putB x ((insAt y.prog y.pc).2)).mem.length c7, .slice A8 (putB x ((insAt y.prog y.pc).2)).gs.length c8, .slice A9 (putB x ((insAt y.prog y.pc).2)).outs.length c9, .int .i64 (putB x ((insAt y.prog y.pc).2)).pd]) (rs := [_]) S (fun v hb hsz hv => ow_in (hv _ List.mem_cons_self) (Nat.le_trans (S.hi 0 _ rfl) hsz))
  have HP : outP x y = ((putB x ((insAt y.prog y.pc).2)), (movedG y)) := by simp only [outP, hb14, Bool.and_true, Bool.and_false, Bool.false_and, Bool.true_and, Bool.or_true, Bool.or_false, Bool.true_or, Bool.false_or, Bool.not_true, Bool.not_false, Bool.false_eq_true, if_true, if_false, ite_true, ite_false, reduceIte]
  rw [HP]
  exact ⟨_, _, _, _, _, _, _, _, _, _, _, _, _, rfl, Sx.St.pickT [mix wB w0 _ _ (putB x ((insAt y.prog y.pc).2)) [.slice A7 (putB x ((insAt y.prog y.pc).2)).mem.length c7, .slice A8 (putB x ((insAt y.prog y.pc).2)).gs.length c8, .slice A9 (putB x ((insAt y.prog y.pc).2)).outs.length c9, .int .i64 (putB x ((insAt y.prog y.pc).2)).pd] G2, ow wG w16.heap.size w16'.heap.size (movedG y) [.slice A16_0 (movedG y).prog.length c16_0, .int .i64 (movedG y).a, .int .i64 (movedG y).pc, .slice A16_1 (movedG y).wr.length c16_1, .slice A16_2 (movedG y).lv.length c16_2, .int .i64 (movedG y).t.1, .int .i64 (movedG y).t.2.1, .bool (movedG y).t.2.2, .int .i64 (movedG y).pd, .int .i64 (movedG y).x.1, .int .i64 (movedG y).x.2.1, .bool (movedG y).x.2.2.1, .int .i64 (movedG y).x.2.2.2, .bool (movedG y).hl, .slice A16_3 (movedG y).seen.length c16_3] F16, vr b [.slice A7 (putB x ((insAt y.prog y.pc).2)).mem.length c7, .slice A8 (putB x ((insAt y.prog y.pc).2)).gs.length c8, .slice A9 (putB x ((insAt y.prog y.pc).2)).outs.length c9, .int .i64 (putB x ((insAt y.prog y.pc).2)).pd, .slice B0 y.prog.length d0, .int .i64 y.a, .int .i64 y.pc, .slice B1 y.wr.length d1, .slice B2 y.lv.length d2, .int .i64 y.t.1, .int .i64 y.t.2.1, .bool y.t.2.2, .int .i64 y.pd, .int .i64 y.x.1, .int .i64 y.x.2.1, .bool y.x.2.2.1, .int .i64 y.x.2.2.2, .bool y.hl, .slice B3 y.seen.length d3], vr b12 [.slice A16_0 (movedG y).prog.length c16_0, .int .i64 (movedG y).a, .int .i64 (movedG y).pc, .slice A16_1 (movedG y).wr.length c16_1, .slice A16_2 (movedG y).lv.length c16_2, .int .i64 (movedG y).t.1, .int .i64 (movedG y).t.2.1, .bool (movedG y).t.2.2, .int .i64 (movedG y).pd, .int .i64 (movedG y).x.1, .int .i64 (movedG y).x.2.1, .bool (movedG y).x.2.2.1, .int .i64 (movedG y).x.2.2.2, .bool (movedG y).hl, .slice A16_3 (movedG y).seen.length c16_3], vr b11 [.slice B0 y.prog.length d0, .int .i64 y.a, .int .i64 y.pc, .slice B1 y.wr.length d1, .slice B2 y.lv.length d2, .int .i64 y.t.1, .int .i64 y.t.2.1, .bool y.t.2.2, .int .i64 y.pd, .int .i64 y.x.1, .int .i64 y.x.2.1, .bool y.x.2.2.1, .int .i64 y.x.2.2.2, .bool y.hl, .slice B3 y.seen.length d3]] [_, _, _] S [1, 2, 0] rfl (by decide)⟩
 ·
  have hb14 := hc14
  refine Sx.C.yy (Sx.C.seq ?_)
  refine Sx.C.draw (.take 0 (.take 1 (.alone 2 (.alone 3 (.alone 4 .nil))))) [vr b11 [.slice B0 y.prog.length d0, .int .i64 y.a, .int .i64 y.pc, .slice B1 y.wr.length d1, .slice B2 y.lv.length d2, .int .i64 y.t.1, .int .i64 y.t.2.1, .bool y.t.2.2, .int .i64 y.pd, .int .i64 y.x.1, .int .i64 y.x.2.1, .bool y.x.2.2.1, .int .i64 y.x.2.2.2, .bool y.hl, .slice B3 y.seen.length d3]] (fun w S => St.pick S [2] _ rfl (by decide)) (by kernel_rfl) (by kernel_rfl) (by kernel_rfl) ?_
  refine Sx.GT.lw .m0 ?_
  refine Sx.GT.p (.int .i64 (insAt y.prog y.pc).2) ?_
  refine Sx.GT.alone (Sx.Alone.cp 164 #[.int .i64 (insAt y.prog y.pc).2] (.agg #[.int .i64 3, .int .i64 0, .bool false, .int .i64 ((insAt y.prog y.pc).2)]) (fun w S => by exact Exits.impl_out' ((insAt y.prog y.pc).2) _) (fun w S => St.pick S [2] _ rfl (by decide)) ?_)
  refine Sx.GT.alone (Sx.Alone.c 107 #[.agg #[.slice B0 y.prog.length d0, .int .i64 y.a, .int .i64 y.pc, .slice B1 y.wr.length d1, .slice B2 y.lv.length d2, .int .i64 y.t.1, .int .i64 y.t.2.1, .bool y.t.2.2, .int .i64 y.pd, .int .i64 y.x.1, .int .i64 y.x.2.1, .bool y.x.2.2.1, .int .i64 y.x.2.2.2, .bool y.hl, .slice B3 y.seen.length d3], .agg #[.int .i64 3, .int .i64 0, .bool false, .int .i64 ((insAt y.prog y.pc).2)]] (fun w17 S => (((Guests.impl_stop_g y _ (3, 0, false, ((insAt y.prog y.pc).2)) _ (cap_G hcy) (rd_G (St.old S hy))).mono weak_G)).mono fun e w17' hp => ?_))
  obtain ⟨cs, F, rfl, ho, hF, hb⟩ := hp
  obtain ⟨P17_0, P17_1, P17_2, P17_3, rfl, f17_0, f17_1, f17_2, f17_3⟩ := wG_rd (wG.reads ho)
  obtain ⟨A17_0, c17_0, e17_0, -⟩ := lst_val f17_0
  subst e17_0
  obtain ⟨A17_1, c17_1, e17_1, -⟩ := lst_val f17_1
  subst e17_1
  obtain ⟨A17_2, c17_2, e17_2, -⟩ := lst_val f17_2
  subst e17_2
  obtain ⟨A17_3, c17_3, e17_3, -⟩ := lst_val f17_3
  subst e17_3
  generalize F = F17 at ho hF
  refine ⟨_, _, rfl, (St.got S hb ho hF), (fun w S => St.pick S [3] _ rfl (by decide)), ?_⟩
  clear S hb ho hF f17_0 f17_1 f17_2 f17_3
  refine Sx.GT.alone (Sx.Alone.sw [.slice A17_0 (stopG y (3, 0, false, ((insAt y.prog y.pc).2))).prog.length c17_0, .int .i64 (stopG y (3, 0, false, ((insAt y.prog y.pc).2))).a, .int .i64 (stopG y (3, 0, false, ((insAt y.prog y.pc).2))).pc, .slice A17_1 (stopG y (3, 0, false, ((insAt y.prog y.pc).2))).wr.length c17_1, .slice A17_2 (stopG y (3, 0, false, ((insAt y.prog y.pc).2))).lv.length c17_2, .int .i64 (stopG y (3, 0, false, ((insAt y.prog y.pc).2))).t.1, .int .i64 (stopG y (3, 0, false, ((insAt y.prog y.pc).2))).t.2.1, .bool (stopG y (3, 0, false, ((insAt y.prog y.pc).2))).t.2.2, .int .i64 (stopG y (3, 0, false, ((insAt y.prog y.pc).2))).pd, .int .i64 (stopG y (3, 0, false, ((insAt y.prog y.pc).2))).x.1, .int .i64 (stopG y (3, 0, false, ((insAt y.prog y.pc).2))).x.2.1, .bool (stopG y (3, 0, false, ((insAt y.prog y.pc).2))).x.2.2.1, .int .i64 (stopG y (3, 0, false, ((insAt y.prog y.pc).2))).x.2.2.2, .bool (stopG y (3, 0, false, ((insAt y.prog y.pc).2))).hl, .slice A17_3 (stopG y (3, 0, false, ((insAt y.prog y.pc).2))).seen.length c17_3] .a2 (fun w S => St.pick S [3] _ rfl (by decide)) ?_)
  refine Sx.GT.nil (Sx.E.next (Sx.C.ret (Sx.E.then_ret ?_)))
  refine Sx.E.retc b12 2 [.slice A17_0 (stopG y (3, 0, false, ((insAt y.prog y.pc).2))).prog.length c17_0, .int .i64 (stopG y (3, 0, false, ((insAt y.prog y.pc).2))).a, .int .i64 (stopG y (3, 0, false, ((insAt y.prog y.pc).2))).pc, .slice A17_1 (stopG y (3, 0, false, ((insAt y.prog y.pc).2))).wr.length c17_1, .slice A17_2 (stopG y (3, 0, false, ((insAt y.prog y.pc).2))).lv.length c17_2, .int .i64 (stopG y (3, 0, false, ((insAt y.prog y.pc).2))).t.1, .int .i64 (stopG y (3, 0, false, ((insAt y.prog y.pc).2))).t.2.1, .bool (stopG y (3, 0, false, ((insAt y.prog y.pc).2))).t.2.2, .int .i64 (stopG y (3, 0, false, ((insAt y.prog y.pc).2))).pd, .int .i64 (stopG y (3, 0, false, ((insAt y.prog y.pc).2))).x.1, .int .i64 (stopG y (3, 0, false, ((insAt y.prog y.pc).2))).x.2.1, .bool (stopG y (3, 0, false, ((insAt y.prog y.pc).2))).x.2.2.1, .int .i64 (stopG y (3, 0, false, ((insAt y.prog y.pc).2))).x.2.2.2, .bool (stopG y (3, 0, false, ((insAt y.prog y.pc).2))).hl, .slice A17_3 (stopG y (3, 0, false, ((insAt y.prog y.pc).2))).seen.length c17_3] rfl (by kernel_rfl) rfl (by kernel_rfl) (by kernel_rfl) (fun w S => ?_)
  replace S := mix_old S hx
  have HP : outP x y = (x, (stopG y (3, 0, false, ((insAt y.prog y.pc).2)))) := by simp only [outP, hb14, Bool.and_true, Bool.and_false, Bool.false_and, Bool.true_and, Bool.or_true, Bool.or_false, Bool.true_or, Bool.false_or, Bool.not_true, Bool.not_false, Bool.false_eq_true, if_true, if_false, ite_true, ite_false, reduceIte]
  rw [HP]
  exact ⟨_, _, _, _, _, _, _, _, _, _, _, _, _, rfl, Sx.St.pickT [mix wB w0 _ _ x [.slice A0 x.mem.length c0, .slice A1 x.gs.length c1, .slice A2 x.outs.length c2, .int .i64 x.pd] [], ow wG w17.heap.size w17'.heap.size (stopG y (3, 0, false, ((insAt y.prog y.pc).2))) [.slice A17_0 (stopG y (3, 0, false, ((insAt y.prog y.pc).2))).prog.length c17_0, .int .i64 (stopG y (3, 0, false, ((insAt y.prog y.pc).2))).a, .int .i64 (stopG y (3, 0, false, ((insAt y.prog y.pc).2))).pc, .slice A17_1 (stopG y (3, 0, false, ((insAt y.prog y.pc).2))).wr.length c17_1, .slice A17_2 (stopG y (3, 0, false, ((insAt y.prog y.pc).2))).lv.length c17_2, .int .i64 (stopG y (3, 0, false, ((insAt y.prog y.pc).2))).t.1, .int .i64 (stopG y (3, 0, false, ((insAt y.prog y.pc).2))).t.2.1, .bool (stopG y (3, 0, false, ((insAt y.prog y.pc).2))).t.2.2, .int .i64 (stopG y (3, 0, false, ((insAt y.prog y.pc).2))).pd, .int .i64 (stopG y (3, 0, false, ((insAt y.prog y.pc).2))).x.1, .int .i64 (stopG y (3, 0, false, ((insAt y.prog y.pc).2))).x.2.1, .bool (stopG y (3, 0, false, ((insAt y.prog y.pc).2))).x.2.2.1, .int .i64 (stopG y (3, 0, false, ((insAt y.prog y.pc).2))).x.2.2.2, .bool (stopG y (3, 0, false, ((insAt y.prog y.pc).2))).hl, .slice A17_3 (stopG y (3, 0, false, ((insAt y.prog y.pc).2))).seen.length c17_3] F17, vr b [.slice A0 x.mem.length c0, .slice A1 x.gs.length c1, .slice A2 x.outs.length c2, .int .i64 x.pd, .slice B0 y.prog.length d0, .int .i64 y.a, .int .i64 y.pc, .slice B1 y.wr.length d1, .slice B2 y.lv.length d2, .int .i64 y.t.1, .int .i64 y.t.2.1, .bool y.t.2.2, .int .i64 y.pd, .int .i64 y.x.1, .int .i64 y.x.2.1, .bool y.x.2.2.1, .int .i64 y.x.2.2.2, .bool y.hl, .slice B3 y.seen.length d3], vr b12 [.slice A17_0 (stopG y (3, 0, false, ((insAt y.prog y.pc).2))).prog.length c17_0, .int .i64 (stopG y (3, 0, false, ((insAt y.prog y.pc).2))).a, .int .i64 (stopG y (3, 0, false, ((insAt y.prog y.pc).2))).pc, .slice A17_1 (stopG y (3, 0, false, ((insAt y.prog y.pc).2))).wr.length c17_1, .slice A17_2 (stopG y (3, 0, false, ((insAt y.prog y.pc).2))).lv.length c17_2, .int .i64 (stopG y (3, 0, false, ((insAt y.prog y.pc).2))).t.1, .int .i64 (stopG y (3, 0, false, ((insAt y.prog y.pc).2))).t.2.1, .bool (stopG y (3, 0, false, ((insAt y.prog y.pc).2))).t.2.2, .int .i64 (stopG y (3, 0, false, ((insAt y.prog y.pc).2))).pd, .int .i64 (stopG y (3, 0, false, ((insAt y.prog y.pc).2))).x.1, .int .i64 (stopG y (3, 0, false, ((insAt y.prog y.pc).2))).x.2.1, .bool (stopG y (3, 0, false, ((insAt y.prog y.pc).2))).x.2.2.1, .int .i64 (stopG y (3, 0, false, ((insAt y.prog y.pc).2))).x.2.2.2, .bool (stopG y (3, 0, false, ((insAt y.prog y.pc).2))).hl, .slice A17_3 (stopG y (3, 0, false, ((insAt y.prog y.pc).2))).seen.length c17_3], vr b11 [.slice B0 y.prog.length d0, .int .i64 y.a, .int .i64 y.pc, .slice B1 y.wr.length d1, .slice B2 y.lv.length d2, .int .i64 y.t.1, .int .i64 y.t.2.1, .bool y.t.2.2, .int .i64 y.pd, .int .i64 y.x.1, .int .i64 y.x.2.1, .bool y.x.2.2.1, .int .i64 y.x.2.2.2, .bool y.hl, .slice B3 y.seen.length d3]] [_, _, _] S [1, 2, 0] rfl (by decide)⟩
theorem plat_haltOn {w0 w : World} {b : Nat} {R : List Res} {A0 A1 A2 B0 B1 B2 B3 : Option Addr} {c0 c1 c2 d0 d1 d2 d3 : Nat} (x : bT) (y : gT)  (hn : wB.wf x) (hc : wB.cap x) (hny : wfGuest y) (hcy : wG.cap y) (hx : wB.rd w0 0 w0.heap.size x [.slice A0 x.mem.length c0, .slice A1 x.gs.length c1, .slice A2 x.outs.length c2, .int .i64 x.pd]) (hy : wG.rd w0 0 w0.heap.size y [.slice B0 y.prog.length d0, .int .i64 y.a, .int .i64 y.pc, .slice B1 y.wr.length d1, .slice B2 y.lv.length d2, .int .i64 y.t.1, .int .i64 y.t.2.1, .bool y.t.2.2, .int .i64 y.pd, .int .i64 y.x.1, .int .i64 y.x.2.1, .bool y.x.2.2.1, .int .i64 y.x.2.2.2, .bool y.hl, .slice B3 y.seen.length d3]) (hwk : WalksOk w0 y) (S : St w0 w (vr b [.slice A0 x.mem.length c0, .slice A1 x.gs.length c1, .slice A2 x.outs.length c2, .int .i64 x.pd, .slice B0 y.prog.length d0, .int .i64 y.a, .int .i64 y.pc, .slice B1 y.wr.length d1, .slice B2 y.lv.length d2, .int .i64 y.t.1, .int .i64 y.t.2.1, .bool y.t.2.2, .int .i64 y.pd, .int .i64 y.x.1, .int .i64 y.x.2.1, .bool y.x.2.2.1, .int .i64 y.x.2.2.2, .bool y.hl, .slice B3 y.seen.length d3] :: R)) : Calls Tryz.prog 110 #[.iface 77 (.pointer (some ⟨b, 0, none⟩)), .agg #[.slice B0 y.prog.length d0, .int .i64 y.a, .int .i64 y.pc, .slice B1 y.wr.length d1, .slice B2 y.lv.length d2, .int .i64 y.t.1, .int .i64 y.t.2.1, .bool y.t.2.2, .int .i64 y.pd, .int .i64 y.x.1, .int .i64 y.x.2.1, .bool y.x.2.2.1, .int .i64 y.x.2.2.2, .bool y.hl, .slice B3 y.seen.length d3]] w (fun e w' => ∃ zs lo hi F A0' c0' A1' c1' A2' c2' lo2 hi2 F2, e = .returned (.agg (zs : List Value).toArray) ∧ St w0 w' (ow wG lo hi (haltP x y).2 zs F :: vr b [.slice A0' (haltP x y).1.mem.length c0', .slice A1' (haltP x y).1.gs.length c1', .slice A2' (haltP x y).1.outs.length c2', .int .i64 (haltP x y).1.pd, .slice B0 y.prog.length d0, .int .i64 y.a, .int .i64 y.pc, .slice B1 y.wr.length d1, .slice B2 y.lv.length d2, .int .i64 y.t.1, .int .i64 y.t.2.1, .bool y.t.2.2, .int .i64 y.pd, .int .i64 y.x.1, .int .i64 y.x.2.1, .bool y.x.2.2.1, .int .i64 y.x.2.2.2, .bool y.hl, .slice B3 y.seen.length d3] :: mix wB w0 lo2 hi2 (haltP x y).1 [.slice A0' (haltP x y).1.mem.length c0', .slice A1' (haltP x y).1.gs.length c1', .slice A2' (haltP x y).1.outs.length c2', .int .i64 (haltP x y).1.pd] F2 :: R)) := by
 have hx0 := wB_part0 hx
 have hx1 := wB_part1 hx
 have hx2 := wB_part2 hx
 have hy0 := wG_part0 hy
 have hy1 := wG_part1 hy
 have hy2 := wG_part2 hy
 have hy3 := wG_part3 hy
 have hylv : y.lv.length ≤ 1048576 := hcy.2.2.2.2.1.1
 have hyprog : y.prog.length ≤ 1048576 := hcy.1.1
 have hwl : Slots.wfL y.lv := hny.2.2.2.2.1.2
 have hwa : (Lit.int .i64 (addrG y)).wf = true := wf_addr hny
 refine Sx.enterS (args := [.iface 77 (.pointer (some ⟨b, 0, none⟩)), .agg #[.slice B0 y.prog.length d0, .int .i64 y.a, .int .i64 y.pc, .slice B1 y.wr.length d1, .slice B2 y.lv.length d2, .int .i64 y.t.1, .int .i64 y.t.2.1, .bool y.t.2.2, .int .i64 y.pd, .int .i64 y.x.1, .int .i64 y.x.2.1, .bool y.x.2.2.1, .int .i64 y.x.2.2.2, .bool y.hl, .slice B3 y.seen.length d3]]) S Tryz.func110 rfl Tryz.ntmps110 rfl ?_
 refine Sx.C.seq (Sx.C.region ?_)
 refine Sx.G.b [.slice B0 y.prog.length d0, .int .i64 y.a, .int .i64 y.pc, .slice B1 y.wr.length d1, .slice B2 y.lv.length d2, .int .i64 y.t.1, .int .i64 y.t.2.1, .bool y.t.2.2, .int .i64 y.pd, .int .i64 y.x.1, .int .i64 y.x.2.1, .bool y.x.2.2.1, .int .i64 y.x.2.2.2, .bool y.hl, .slice B3 y.seen.length d3] (fun b11 => ?_)
 refine Sx.G.ar [.slice none 0 0, .int .i64 0, .int .i64 0, .slice none 0 0, .slice none 0 0, .int .i64 0, .int .i64 0, .bool false, .int .i64 0, .int .i64 0, .int .i64 0, .bool false, .int .i64 0, .bool false, .slice none 0 0] (fun b12 => ?_)
 refine Sx.G.nil (Sx.E.next (Sx.C.seq (Sx.C.seq (Sx.C.region ?_))))
 refine Sx.G.p (.iface 77 (.pointer (some ⟨b, 0, none⟩))) ?_
 refine Sx.G.c 259 #[.pointer (some ⟨b, 0, none⟩), .int .i64 2] (fun w13 S => (plat_traps x y 2 hn hc hny hcy hx hy hwk (Sx.St.pickT [vr b12 [.slice none 0 0, .int .i64 0, .int .i64 0, .slice none 0 0, .slice none 0 0, .int .i64 0, .int .i64 0, .bool false, .int .i64 0, .int .i64 0, .int .i64 0, .bool false, .int .i64 0, .bool false, .slice none 0 0], vr b11 [.slice B0 y.prog.length d0, .int .i64 y.a, .int .i64 y.pc, .slice B1 y.wr.length d1, .slice B2 y.lv.length d2, .int .i64 y.t.1, .int .i64 y.t.2.1, .bool y.t.2.2, .int .i64 y.pd, .int .i64 y.x.1, .int .i64 y.x.2.1, .bool y.x.2.2.1, .int .i64 y.x.2.2.2, .bool y.hl, .slice B3 y.seen.length d3], vr b [.slice A0 x.mem.length c0, .slice A1 x.gs.length c1, .slice A2 x.outs.length c2, .int .i64 x.pd, .slice B0 y.prog.length d0, .int .i64 y.a, .int .i64 y.pc, .slice B1 y.wr.length d1, .slice B2 y.lv.length d2, .int .i64 y.t.1, .int .i64 y.t.2.1, .bool y.t.2.2, .int .i64 y.pd, .int .i64 y.x.1, .int .i64 y.x.2.1, .bool y.x.2.2.1, .int .i64 y.x.2.2.2, .bool y.hl, .slice B3 y.seen.length d3]] [vr b [.slice A0 x.mem.length c0, .slice A1 x.gs.length c1, .slice A2 x.outs.length c2, .int .i64 x.pd, .slice B0 y.prog.length d0, .int .i64 y.a, .int .i64 y.pc, .slice B1 y.wr.length d1, .slice B2 y.lv.length d2, .int .i64 y.t.1, .int .i64 y.t.2.1, .bool y.t.2.2, .int .i64 y.pd, .int .i64 y.x.1, .int .i64 y.x.2.1, .bool y.x.2.2.1, .int .i64 y.x.2.2.2, .bool y.hl, .slice B3 y.seen.length d3], vr b12 [.slice none 0 0, .int .i64 0, .int .i64 0, .slice none 0 0, .slice none 0 0, .int .i64 0, .int .i64 0, .bool false, .int .i64 0, .int .i64 0, .int .i64 0, .bool false, .int .i64 0, .bool false, .slice none 0 0], vr b11 [.slice B0 y.prog.length d0, .int .i64 y.a, .int .i64 y.pc, .slice B1 y.wr.length d1, .slice B2 y.lv.length d2, .int .i64 y.t.1, .int .i64 y.t.2.1, .bool y.t.2.2, .int .i64 y.pd, .int .i64 y.x.1, .int .i64 y.x.2.1, .bool y.x.2.2.1, .int .i64 y.x.2.2.2, .bool y.hl, .slice B3 y.seen.length d3]] S [2, 0, 1] rfl (by decide)) (by decide)).mono fun e w13' hp => ?_)
 obtain ⟨rfl, S'⟩ := hp
 refine ⟨_, _, rfl, S', ?_⟩
 clear S S'
 refine Sx.G.nil (Sx.E.next ?_)
 cases hc14 : (Ctls.hasTrap y.t.1 2)
 ·
  have hb14 := hc14
  refine Sx.C.nn (Sx.C.skip (Sx.E.next (Sx.C.seq (Sx.C.region ?_))))
  refine Sx.G.lw .m2 ?_
  refine Sx.G.c 167 #[.agg #[.slice B0 y.prog.length d0, .int .i64 y.a, .int .i64 y.pc, .slice B1 y.wr.length d1, .slice B2 y.lv.length d2, .int .i64 y.t.1, .int .i64 y.t.2.1, .bool y.t.2.2, .int .i64 y.pd, .int .i64 y.x.1, .int .i64 y.x.2.1, .bool y.x.2.2.1, .int .i64 y.x.2.2.2, .bool y.hl, .slice B3 y.seen.length d3]] (fun w15 S => (((Guests.impl_held_g y _ _ (cap_G hcy) (rd_G (St.old S hy))).mono weak_G)).mono fun e w15' hp => ?_)
  obtain ⟨cs, F, rfl, ho, hF, hb⟩ := hp
  obtain ⟨P15_0, P15_1, P15_2, P15_3, rfl, f15_0, f15_1, f15_2, f15_3⟩ := wG_rd (wG.reads ho)
  obtain ⟨A15_0, c15_0, e15_0, -⟩ := lst_val f15_0
  subst e15_0
  obtain ⟨A15_1, c15_1, e15_1, -⟩ := lst_val f15_1
  subst e15_1
  obtain ⟨A15_2, c15_2, e15_2, -⟩ := lst_val f15_2
  subst e15_2
  obtain ⟨A15_3, c15_3, e15_3, -⟩ := lst_val f15_3
  subst e15_3
  generalize F = F15 at ho hF
  refine ⟨_, _, rfl, (St.got S hb ho hF), ?_⟩
  clear S hb ho hF f15_0 f15_1 f15_2 f15_3
  refine Sx.G.sw [.slice A15_0 (heldG y).prog.length c15_0, .int .i64 (heldG y).a, .int .i64 (heldG y).pc, .slice A15_1 (heldG y).wr.length c15_1, .slice A15_2 (heldG y).lv.length c15_2, .int .i64 (heldG y).t.1, .int .i64 (heldG y).t.2.1, .bool (heldG y).t.2.2, .int .i64 (heldG y).pd, .int .i64 (heldG y).x.1, .int .i64 (heldG y).x.2.1, .bool (heldG y).x.2.2.1, .int .i64 (heldG y).x.2.2.2, .bool (heldG y).hl, .slice A15_3 (heldG y).seen.length c15_3] .a2 ?_
  refine Sx.G.nil (Sx.E.next (Sx.C.ret ?_))
  refine Sx.E.retc b12 2 [.slice A15_0 (heldG y).prog.length c15_0, .int .i64 (heldG y).a, .int .i64 (heldG y).pc, .slice A15_1 (heldG y).wr.length c15_1, .slice A15_2 (heldG y).lv.length c15_2, .int .i64 (heldG y).t.1, .int .i64 (heldG y).t.2.1, .bool (heldG y).t.2.2, .int .i64 (heldG y).pd, .int .i64 (heldG y).x.1, .int .i64 (heldG y).x.2.1, .bool (heldG y).x.2.2.1, .int .i64 (heldG y).x.2.2.2, .bool (heldG y).hl, .slice A15_3 (heldG y).seen.length c15_3] rfl (by kernel_rfl) rfl (by kernel_rfl) (by kernel_rfl) (fun w S => ?_)
  replace S := mix_old S hx
  have HP : haltP x y = (x, (heldG y)) := by simp only [haltP, hb14, Bool.and_true, Bool.and_false, Bool.false_and, Bool.true_and, Bool.or_true, Bool.or_false, Bool.true_or, Bool.false_or, Bool.not_true, Bool.not_false, Bool.false_eq_true, if_true, if_false, ite_true, ite_false, reduceIte]
  rw [HP]
  exact ⟨_, _, _, _, _, _, _, _, _, _, _, _, _, rfl, Sx.St.pickT [mix wB w0 _ _ x [.slice A0 x.mem.length c0, .slice A1 x.gs.length c1, .slice A2 x.outs.length c2, .int .i64 x.pd] [], ow wG w15.heap.size w15'.heap.size (heldG y) [.slice A15_0 (heldG y).prog.length c15_0, .int .i64 (heldG y).a, .int .i64 (heldG y).pc, .slice A15_1 (heldG y).wr.length c15_1, .slice A15_2 (heldG y).lv.length c15_2, .int .i64 (heldG y).t.1, .int .i64 (heldG y).t.2.1, .bool (heldG y).t.2.2, .int .i64 (heldG y).pd, .int .i64 (heldG y).x.1, .int .i64 (heldG y).x.2.1, .bool (heldG y).x.2.2.1, .int .i64 (heldG y).x.2.2.2, .bool (heldG y).hl, .slice A15_3 (heldG y).seen.length c15_3] F15, vr b [.slice A0 x.mem.length c0, .slice A1 x.gs.length c1, .slice A2 x.outs.length c2, .int .i64 x.pd, .slice B0 y.prog.length d0, .int .i64 y.a, .int .i64 y.pc, .slice B1 y.wr.length d1, .slice B2 y.lv.length d2, .int .i64 y.t.1, .int .i64 y.t.2.1, .bool y.t.2.2, .int .i64 y.pd, .int .i64 y.x.1, .int .i64 y.x.2.1, .bool y.x.2.2.1, .int .i64 y.x.2.2.2, .bool y.hl, .slice B3 y.seen.length d3], vr b12 [.slice A15_0 (heldG y).prog.length c15_0, .int .i64 (heldG y).a, .int .i64 (heldG y).pc, .slice A15_1 (heldG y).wr.length c15_1, .slice A15_2 (heldG y).lv.length c15_2, .int .i64 (heldG y).t.1, .int .i64 (heldG y).t.2.1, .bool (heldG y).t.2.2, .int .i64 (heldG y).pd, .int .i64 (heldG y).x.1, .int .i64 (heldG y).x.2.1, .bool (heldG y).x.2.2.1, .int .i64 (heldG y).x.2.2.2, .bool (heldG y).hl, .slice A15_3 (heldG y).seen.length c15_3], vr b11 [.slice B0 y.prog.length d0, .int .i64 y.a, .int .i64 y.pc, .slice B1 y.wr.length d1, .slice B2 y.lv.length d2, .int .i64 y.t.1, .int .i64 y.t.2.1, .bool y.t.2.2, .int .i64 y.pd, .int .i64 y.x.1, .int .i64 y.x.2.1, .bool y.x.2.2.1, .int .i64 y.x.2.2.2, .bool y.hl, .slice B3 y.seen.length d3]] [_, _, _] S [1, 2, 0] rfl (by decide)⟩
 ·
  have hb14 := hc14
  refine Sx.C.yy (Sx.C.seq (Sx.C.region ?_))
  refine Sx.G.lw .m2 ?_
  refine Sx.G.p (.agg #[.int .i64 4, .int .i64 0, .bool false, .int .i64 0]) ?_
  refine Sx.G.c 107 #[.agg #[.slice B0 y.prog.length d0, .int .i64 y.a, .int .i64 y.pc, .slice B1 y.wr.length d1, .slice B2 y.lv.length d2, .int .i64 y.t.1, .int .i64 y.t.2.1, .bool y.t.2.2, .int .i64 y.pd, .int .i64 y.x.1, .int .i64 y.x.2.1, .bool y.x.2.2.1, .int .i64 y.x.2.2.2, .bool y.hl, .slice B3 y.seen.length d3], .agg #[.int .i64 4, .int .i64 0, .bool false, .int .i64 0]] (fun w16 S => (((Guests.impl_stop_g y _ (4, 0, false, 0) _ (cap_G hcy) (rd_G (St.old S hy))).mono weak_G)).mono fun e w16' hp => ?_)
  obtain ⟨cs, F, rfl, ho, hF, hb⟩ := hp
  obtain ⟨P16_0, P16_1, P16_2, P16_3, rfl, f16_0, f16_1, f16_2, f16_3⟩ := wG_rd (wG.reads ho)
  obtain ⟨A16_0, c16_0, e16_0, -⟩ := lst_val f16_0
  subst e16_0
  obtain ⟨A16_1, c16_1, e16_1, -⟩ := lst_val f16_1
  subst e16_1
  obtain ⟨A16_2, c16_2, e16_2, -⟩ := lst_val f16_2
  subst e16_2
  obtain ⟨A16_3, c16_3, e16_3, -⟩ := lst_val f16_3
  subst e16_3
  generalize F = F16 at ho hF
  refine ⟨_, _, rfl, (St.got S hb ho hF), ?_⟩
  clear S hb ho hF f16_0 f16_1 f16_2 f16_3
  refine Sx.G.sw [.slice A16_0 (stopG y (4, 0, false, 0)).prog.length c16_0, .int .i64 (stopG y (4, 0, false, 0)).a, .int .i64 (stopG y (4, 0, false, 0)).pc, .slice A16_1 (stopG y (4, 0, false, 0)).wr.length c16_1, .slice A16_2 (stopG y (4, 0, false, 0)).lv.length c16_2, .int .i64 (stopG y (4, 0, false, 0)).t.1, .int .i64 (stopG y (4, 0, false, 0)).t.2.1, .bool (stopG y (4, 0, false, 0)).t.2.2, .int .i64 (stopG y (4, 0, false, 0)).pd, .int .i64 (stopG y (4, 0, false, 0)).x.1, .int .i64 (stopG y (4, 0, false, 0)).x.2.1, .bool (stopG y (4, 0, false, 0)).x.2.2.1, .int .i64 (stopG y (4, 0, false, 0)).x.2.2.2, .bool (stopG y (4, 0, false, 0)).hl, .slice A16_3 (stopG y (4, 0, false, 0)).seen.length c16_3] .a2 ?_
  refine Sx.G.nil (Sx.E.next (Sx.C.ret (Sx.E.then_ret ?_)))
  refine Sx.E.retc b12 2 [.slice A16_0 (stopG y (4, 0, false, 0)).prog.length c16_0, .int .i64 (stopG y (4, 0, false, 0)).a, .int .i64 (stopG y (4, 0, false, 0)).pc, .slice A16_1 (stopG y (4, 0, false, 0)).wr.length c16_1, .slice A16_2 (stopG y (4, 0, false, 0)).lv.length c16_2, .int .i64 (stopG y (4, 0, false, 0)).t.1, .int .i64 (stopG y (4, 0, false, 0)).t.2.1, .bool (stopG y (4, 0, false, 0)).t.2.2, .int .i64 (stopG y (4, 0, false, 0)).pd, .int .i64 (stopG y (4, 0, false, 0)).x.1, .int .i64 (stopG y (4, 0, false, 0)).x.2.1, .bool (stopG y (4, 0, false, 0)).x.2.2.1, .int .i64 (stopG y (4, 0, false, 0)).x.2.2.2, .bool (stopG y (4, 0, false, 0)).hl, .slice A16_3 (stopG y (4, 0, false, 0)).seen.length c16_3] rfl (by kernel_rfl) rfl (by kernel_rfl) (by kernel_rfl) (fun w S => ?_)
  replace S := mix_old S hx
  have HP : haltP x y = (x, (stopG y (4, 0, false, 0))) := by simp only [haltP, hb14, Bool.and_true, Bool.and_false, Bool.false_and, Bool.true_and, Bool.or_true, Bool.or_false, Bool.true_or, Bool.false_or, Bool.not_true, Bool.not_false, Bool.false_eq_true, if_true, if_false, ite_true, ite_false, reduceIte]
  rw [HP]
  exact ⟨_, _, _, _, _, _, _, _, _, _, _, _, _, rfl, Sx.St.pickT [mix wB w0 _ _ x [.slice A0 x.mem.length c0, .slice A1 x.gs.length c1, .slice A2 x.outs.length c2, .int .i64 x.pd] [], ow wG w16.heap.size w16'.heap.size (stopG y (4, 0, false, 0)) [.slice A16_0 (stopG y (4, 0, false, 0)).prog.length c16_0, .int .i64 (stopG y (4, 0, false, 0)).a, .int .i64 (stopG y (4, 0, false, 0)).pc, .slice A16_1 (stopG y (4, 0, false, 0)).wr.length c16_1, .slice A16_2 (stopG y (4, 0, false, 0)).lv.length c16_2, .int .i64 (stopG y (4, 0, false, 0)).t.1, .int .i64 (stopG y (4, 0, false, 0)).t.2.1, .bool (stopG y (4, 0, false, 0)).t.2.2, .int .i64 (stopG y (4, 0, false, 0)).pd, .int .i64 (stopG y (4, 0, false, 0)).x.1, .int .i64 (stopG y (4, 0, false, 0)).x.2.1, .bool (stopG y (4, 0, false, 0)).x.2.2.1, .int .i64 (stopG y (4, 0, false, 0)).x.2.2.2, .bool (stopG y (4, 0, false, 0)).hl, .slice A16_3 (stopG y (4, 0, false, 0)).seen.length c16_3] F16, vr b [.slice A0 x.mem.length c0, .slice A1 x.gs.length c1, .slice A2 x.outs.length c2, .int .i64 x.pd, .slice B0 y.prog.length d0, .int .i64 y.a, .int .i64 y.pc, .slice B1 y.wr.length d1, .slice B2 y.lv.length d2, .int .i64 y.t.1, .int .i64 y.t.2.1, .bool y.t.2.2, .int .i64 y.pd, .int .i64 y.x.1, .int .i64 y.x.2.1, .bool y.x.2.2.1, .int .i64 y.x.2.2.2, .bool y.hl, .slice B3 y.seen.length d3], vr b12 [.slice A16_0 (stopG y (4, 0, false, 0)).prog.length c16_0, .int .i64 (stopG y (4, 0, false, 0)).a, .int .i64 (stopG y (4, 0, false, 0)).pc, .slice A16_1 (stopG y (4, 0, false, 0)).wr.length c16_1, .slice A16_2 (stopG y (4, 0, false, 0)).lv.length c16_2, .int .i64 (stopG y (4, 0, false, 0)).t.1, .int .i64 (stopG y (4, 0, false, 0)).t.2.1, .bool (stopG y (4, 0, false, 0)).t.2.2, .int .i64 (stopG y (4, 0, false, 0)).pd, .int .i64 (stopG y (4, 0, false, 0)).x.1, .int .i64 (stopG y (4, 0, false, 0)).x.2.1, .bool (stopG y (4, 0, false, 0)).x.2.2.1, .int .i64 (stopG y (4, 0, false, 0)).x.2.2.2, .bool (stopG y (4, 0, false, 0)).hl, .slice A16_3 (stopG y (4, 0, false, 0)).seen.length c16_3], vr b11 [.slice B0 y.prog.length d0, .int .i64 y.a, .int .i64 y.pc, .slice B1 y.wr.length d1, .slice B2 y.lv.length d2, .int .i64 y.t.1, .int .i64 y.t.2.1, .bool y.t.2.2, .int .i64 y.pd, .int .i64 y.x.1, .int .i64 y.x.2.1, .bool y.x.2.2.1, .int .i64 y.x.2.2.2, .bool y.hl, .slice B3 y.seen.length d3]] [_, _, _] S [1, 2, 0] rfl (by decide)⟩
theorem plat_stepOn {w0 w : World} {b : Nat} {R : List Res} {A0 A1 A2 B0 B1 B2 B3 : Option Addr} {c0 c1 c2 d0 d1 d2 d3 : Nat} (x : bT) (y : gT)  (hn : wB.wf x) (hc : wB.cap x) (hny : wfGuest y) (hcy : wG.cap y) (hx : wB.rd w0 0 w0.heap.size x [.slice A0 x.mem.length c0, .slice A1 x.gs.length c1, .slice A2 x.outs.length c2, .int .i64 x.pd]) (hy : wG.rd w0 0 w0.heap.size y [.slice B0 y.prog.length d0, .int .i64 y.a, .int .i64 y.pc, .slice B1 y.wr.length d1, .slice B2 y.lv.length d2, .int .i64 y.t.1, .int .i64 y.t.2.1, .bool y.t.2.2, .int .i64 y.pd, .int .i64 y.x.1, .int .i64 y.x.2.1, .bool y.x.2.2.1, .int .i64 y.x.2.2.2, .bool y.hl, .slice B3 y.seen.length d3]) (hwk : WalksOk w0 y) (S : St w0 w (vr b [.slice A0 x.mem.length c0, .slice A1 x.gs.length c1, .slice A2 x.outs.length c2, .int .i64 x.pd, .slice B0 y.prog.length d0, .int .i64 y.a, .int .i64 y.pc, .slice B1 y.wr.length d1, .slice B2 y.lv.length d2, .int .i64 y.t.1, .int .i64 y.t.2.1, .bool y.t.2.2, .int .i64 y.pd, .int .i64 y.x.1, .int .i64 y.x.2.1, .bool y.x.2.2.1, .int .i64 y.x.2.2.2, .bool y.hl, .slice B3 y.seen.length d3] :: R)) : Calls Tryz.prog 46 #[.iface 77 (.pointer (some ⟨b, 0, none⟩)), .agg #[.slice B0 y.prog.length d0, .int .i64 y.a, .int .i64 y.pc, .slice B1 y.wr.length d1, .slice B2 y.lv.length d2, .int .i64 y.t.1, .int .i64 y.t.2.1, .bool y.t.2.2, .int .i64 y.pd, .int .i64 y.x.1, .int .i64 y.x.2.1, .bool y.x.2.2.1, .int .i64 y.x.2.2.2, .bool y.hl, .slice B3 y.seen.length d3]] w (fun e w' => ∃ zs lo hi F A0' c0' A1' c1' A2' c2' lo2 hi2 F2, e = .returned (.agg (zs : List Value).toArray) ∧ St w0 w' (ow wG lo hi (platB x y).2 zs F :: vr b [.slice A0' (platB x y).1.mem.length c0', .slice A1' (platB x y).1.gs.length c1', .slice A2' (platB x y).1.outs.length c2', .int .i64 (platB x y).1.pd, .slice B0 y.prog.length d0, .int .i64 y.a, .int .i64 y.pc, .slice B1 y.wr.length d1, .slice B2 y.lv.length d2, .int .i64 y.t.1, .int .i64 y.t.2.1, .bool y.t.2.2, .int .i64 y.pd, .int .i64 y.x.1, .int .i64 y.x.2.1, .bool y.x.2.2.1, .int .i64 y.x.2.2.2, .bool y.hl, .slice B3 y.seen.length d3] :: mix wB w0 lo2 hi2 (platB x y).1 [.slice A0' (platB x y).1.mem.length c0', .slice A1' (platB x y).1.gs.length c1', .slice A2' (platB x y).1.outs.length c2', .int .i64 (platB x y).1.pd] F2 :: R)) := by
 have hx0 := wB_part0 hx
 have hx1 := wB_part1 hx
 have hx2 := wB_part2 hx
 have hy0 := wG_part0 hy
 have hy1 := wG_part1 hy
 have hy2 := wG_part2 hy
 have hy3 := wG_part3 hy
 have hylv : y.lv.length ≤ 1048576 := hcy.2.2.2.2.1.1
 have hyprog : y.prog.length ≤ 1048576 := hcy.1.1
 have hwl : Slots.wfL y.lv := hny.2.2.2.2.1.2
 have hwa : (Lit.int .i64 (addrG y)).wf = true := wf_addr hny
 refine Sx.enterS (args := [.iface 77 (.pointer (some ⟨b, 0, none⟩)), .agg #[.slice B0 y.prog.length d0, .int .i64 y.a, .int .i64 y.pc, .slice B1 y.wr.length d1, .slice B2 y.lv.length d2, .int .i64 y.t.1, .int .i64 y.t.2.1, .bool y.t.2.2, .int .i64 y.pd, .int .i64 y.x.1, .int .i64 y.x.2.1, .bool y.x.2.2.1, .int .i64 y.x.2.2.2, .bool y.hl, .slice B3 y.seen.length d3]]) S Tryz.func46 rfl Tryz.ntmps46 rfl ?_
 refine Sx.C.seq (Sx.C.region ?_)
 refine Sx.G.b [.slice B0 y.prog.length d0, .int .i64 y.a, .int .i64 y.pc, .slice B1 y.wr.length d1, .slice B2 y.lv.length d2, .int .i64 y.t.1, .int .i64 y.t.2.1, .bool y.t.2.2, .int .i64 y.pd, .int .i64 y.x.1, .int .i64 y.x.2.1, .bool y.x.2.2.1, .int .i64 y.x.2.2.2, .bool y.hl, .slice B3 y.seen.length d3] (fun b11 => ?_)
 refine Sx.G.ar [.slice none 0 0, .int .i64 0, .int .i64 0, .slice none 0 0, .slice none 0 0, .int .i64 0, .int .i64 0, .bool false, .int .i64 0, .int .i64 0, .int .i64 0, .bool false, .int .i64 0, .bool false, .slice none 0 0] (fun b12 => ?_)
 refine Sx.G.nil (Sx.E.next (Sx.C.seq (Sx.C.region ?_)))
 refine Sx.G.lw .m1 ?_
 refine Sx.G.cp 99 #[.agg #[.slice B0 y.prog.length d0, .int .i64 y.a, .int .i64 y.pc, .slice B1 y.wr.length d1, .slice B2 y.lv.length d2, .int .i64 y.t.1, .int .i64 y.t.2.1, .bool y.t.2.2, .int .i64 y.pd, .int .i64 y.x.1, .int .i64 y.x.2.1, .bool y.x.2.2.1, .int .i64 y.x.2.2.2, .bool y.hl, .slice B3 y.seen.length d3]] (.int .i64 (wantG y)) (fun w S => by exact Guests.impl_want y _ _ hny (cap_G hcy) (rd_G (St.old S hy))) ?_
 refine Sx.G.nil (Sx.E.next (Sx.C.block (Sx.C.seq (Sx.C.region ?_))))
 refine Sx.G.p (.bool ((wantG y) == 1)) ?_
 refine Sx.G.p (.bool ((wantG y) == 1)) ?_
 refine Sx.G.nil (Sx.E.next ?_)
 cases hc13 : ((wantG y) == 1)
 ·
  have hb13 := hc13
  refine Sx.C.nn (Sx.C.seq (Sx.C.region ?_))
  refine Sx.G.p (.bool ((wantG y) == 3)) ?_
  refine Sx.G.p (.bool ((wantG y) == 3)) ?_
  refine Sx.G.nil (Sx.E.next ?_)
  cases hc14 : ((wantG y) == 3)
  ·
   have hb14 := hc14
   refine Sx.C.nn (Sx.C.seq (Sx.C.region ?_))
   refine Sx.G.p (.bool ((wantG y) == 4)) ?_
   refine Sx.G.p (.bool ((wantG y) == 4)) ?_
   refine Sx.G.nil (Sx.E.next ?_)
   cases hc15 : ((wantG y) == 4)
   ·
    have hb15 := hc15
    refine Sx.C.nn (Sx.C.seq (Sx.C.region ?_))
    refine Sx.G.p (.bool ((wantG y) == 5)) ?_
    refine Sx.G.p (.bool ((wantG y) == 5)) ?_
    refine Sx.G.nil (Sx.E.next ?_)
    cases hc16 : ((wantG y) == 5)
    ·
     have hb16 := hc16
     refine Sx.C.nn (Sx.C.seq (Sx.C.region ?_))
     refine Sx.G.p (.bool ((wantG y) == 6)) ?_
     refine Sx.G.p (.bool ((wantG y) == 6)) ?_
     refine Sx.G.nil (Sx.E.next ?_)
     cases hc17 : ((wantG y) == 6)
     ·
      have hb17 := hc17
      refine Sx.C.nn (Sx.C.seq (Sx.C.region ?_))
      refine Sx.G.p (.bool ((wantG y) == 7)) ?_
      refine Sx.G.p (.bool ((wantG y) == 7)) ?_
      refine Sx.G.nil (Sx.E.next ?_)
      cases hc18 : ((wantG y) == 7)
      ·
       have hb18 := hc18
       refine Sx.C.nn (Sx.C.seq ?_)
       refine Sx.C.sl [(3, .pointer (some ⟨b11, 0, none⟩)), (4, .pointer (some ⟨b12, 0, none⟩))] ?_
       refine Sx.C.region ?_
       refine Sx.G.lw .m1 ?_
       refine Sx.G.c 111 #[.agg #[.slice B0 y.prog.length d0, .int .i64 y.a, .int .i64 y.pc, .slice B1 y.wr.length d1, .slice B2 y.lv.length d2, .int .i64 y.t.1, .int .i64 y.t.2.1, .bool y.t.2.2, .int .i64 y.pd, .int .i64 y.x.1, .int .i64 y.x.2.1, .bool y.x.2.2.1, .int .i64 y.x.2.2.2, .bool y.hl, .slice B3 y.seen.length d3]] (fun w19 S => (((Guests.impl_plain_g y _ _ hny (cap_G hcy) (rd_G (St.old S hy))).mono weak_G)).mono fun e w19' hp => ?_)
       obtain ⟨cs, F, rfl, ho, hF, hb⟩ := hp
       obtain ⟨P19_0, P19_1, P19_2, P19_3, rfl, f19_0, f19_1, f19_2, f19_3⟩ := wG_rd (wG.reads ho)
       obtain ⟨A19_0, c19_0, e19_0, -⟩ := lst_val f19_0
       subst e19_0
       obtain ⟨A19_1, c19_1, e19_1, -⟩ := lst_val f19_1
       subst e19_1
       obtain ⟨A19_2, c19_2, e19_2, -⟩ := lst_val f19_2
       subst e19_2
       obtain ⟨A19_3, c19_3, e19_3, -⟩ := lst_val f19_3
       subst e19_3
       generalize F = F19 at ho hF
       refine ⟨_, _, rfl, (St.got S hb ho hF), ?_⟩
       clear S hb ho hF f19_0 f19_1 f19_2 f19_3
       refine Sx.G.sw [.slice A19_0 (plainG y).prog.length c19_0, .int .i64 (plainG y).a, .int .i64 (plainG y).pc, .slice A19_1 (plainG y).wr.length c19_1, .slice A19_2 (plainG y).lv.length c19_2, .int .i64 (plainG y).t.1, .int .i64 (plainG y).t.2.1, .bool (plainG y).t.2.2, .int .i64 (plainG y).pd, .int .i64 (plainG y).x.1, .int .i64 (plainG y).x.2.1, .bool (plainG y).x.2.2.1, .int .i64 (plainG y).x.2.2.2, .bool (plainG y).hl, .slice A19_3 (plainG y).seen.length c19_3] .a1 ?_
       refine Sx.G.nil (Sx.E.next (Sx.C.ret (Sx.E.block_ret ?_)))
       refine Sx.E.retc b12 1 [.slice A19_0 (plainG y).prog.length c19_0, .int .i64 (plainG y).a, .int .i64 (plainG y).pc, .slice A19_1 (plainG y).wr.length c19_1, .slice A19_2 (plainG y).lv.length c19_2, .int .i64 (plainG y).t.1, .int .i64 (plainG y).t.2.1, .bool (plainG y).t.2.2, .int .i64 (plainG y).pd, .int .i64 (plainG y).x.1, .int .i64 (plainG y).x.2.1, .bool (plainG y).x.2.2.1, .int .i64 (plainG y).x.2.2.2, .bool (plainG y).hl, .slice A19_3 (plainG y).seen.length c19_3] rfl (by kernel_rfl) rfl (by kernel_rfl) (by kernel_rfl) (fun w S => ?_)
       replace S := mix_old S hx
       have HP : platB x y = (x, (plainG y)) := by simp only [platB, hb13, hb14, hb15, hb16, hb17, hb18, Bool.and_true, Bool.and_false, Bool.false_and, Bool.true_and, Bool.or_true, Bool.or_false, Bool.true_or, Bool.false_or, Bool.not_true, Bool.not_false, Bool.false_eq_true, if_true, if_false, ite_true, ite_false, reduceIte]
       rw [HP]
       exact ⟨_, _, _, _, _, _, _, _, _, _, _, _, _, rfl, Sx.St.pickT [mix wB w0 _ _ x [.slice A0 x.mem.length c0, .slice A1 x.gs.length c1, .slice A2 x.outs.length c2, .int .i64 x.pd] [], ow wG w19.heap.size w19'.heap.size (plainG y) [.slice A19_0 (plainG y).prog.length c19_0, .int .i64 (plainG y).a, .int .i64 (plainG y).pc, .slice A19_1 (plainG y).wr.length c19_1, .slice A19_2 (plainG y).lv.length c19_2, .int .i64 (plainG y).t.1, .int .i64 (plainG y).t.2.1, .bool (plainG y).t.2.2, .int .i64 (plainG y).pd, .int .i64 (plainG y).x.1, .int .i64 (plainG y).x.2.1, .bool (plainG y).x.2.2.1, .int .i64 (plainG y).x.2.2.2, .bool (plainG y).hl, .slice A19_3 (plainG y).seen.length c19_3] F19, vr b12 [.slice A19_0 (plainG y).prog.length c19_0, .int .i64 (plainG y).a, .int .i64 (plainG y).pc, .slice A19_1 (plainG y).wr.length c19_1, .slice A19_2 (plainG y).lv.length c19_2, .int .i64 (plainG y).t.1, .int .i64 (plainG y).t.2.1, .bool (plainG y).t.2.2, .int .i64 (plainG y).pd, .int .i64 (plainG y).x.1, .int .i64 (plainG y).x.2.1, .bool (plainG y).x.2.2.1, .int .i64 (plainG y).x.2.2.2, .bool (plainG y).hl, .slice A19_3 (plainG y).seen.length c19_3], vr b11 [.slice B0 y.prog.length d0, .int .i64 y.a, .int .i64 y.pc, .slice B1 y.wr.length d1, .slice B2 y.lv.length d2, .int .i64 y.t.1, .int .i64 y.t.2.1, .bool y.t.2.2, .int .i64 y.pd, .int .i64 y.x.1, .int .i64 y.x.2.1, .bool y.x.2.2.1, .int .i64 y.x.2.2.2, .bool y.hl, .slice B3 y.seen.length d3], vr b [.slice A0 x.mem.length c0, .slice A1 x.gs.length c1, .slice A2 x.outs.length c2, .int .i64 x.pd, .slice B0 y.prog.length d0, .int .i64 y.a, .int .i64 y.pc, .slice B1 y.wr.length d1, .slice B2 y.lv.length d2, .int .i64 y.t.1, .int .i64 y.t.2.1, .bool y.t.2.2, .int .i64 y.pd, .int .i64 y.x.1, .int .i64 y.x.2.1, .bool y.x.2.2.1, .int .i64 y.x.2.2.2, .bool y.hl, .slice B3 y.seen.length d3]] [_, _, _] S [1, 4, 0] rfl (by decide)⟩
      ·
       have hb18 := hc18
       have hw0 : ((wantG y) == 0) = false := want_other hc18 rfl
       have hw1 : ((wantG y) == 1) = false := want_other hc18 rfl
       have hw2 : ((wantG y) == 2) = false := want_other hc18 rfl
       have hw3 : ((wantG y) == 3) = false := want_other hc18 rfl
       have hw4 : ((wantG y) == 4) = false := want_other hc18 rfl
       have hw5 : ((wantG y) == 5) = false := want_other hc18 rfl
       have hw6 : ((wantG y) == 6) = false := want_other hc18 rfl
       refine Sx.C.yy (Sx.C.seq ?_)
       refine Sx.C.sl [(0, .iface 77 (.pointer (some ⟨b, 0, none⟩))), (3, .pointer (some ⟨b11, 0, none⟩)), (4, .pointer (some ⟨b12, 0, none⟩))] ?_
       refine Sx.C.region ?_
       refine Sx.G.p (.iface 77 (.pointer (some ⟨b, 0, none⟩))) ?_
       refine Sx.G.lw .m1 ?_
       refine Sx.G.c 110 #[.iface 77 (.pointer (some ⟨b, 0, none⟩)), .agg #[.slice B0 y.prog.length d0, .int .i64 y.a, .int .i64 y.pc, .slice B1 y.wr.length d1, .slice B2 y.lv.length d2, .int .i64 y.t.1, .int .i64 y.t.2.1, .bool y.t.2.2, .int .i64 y.pd, .int .i64 y.x.1, .int .i64 y.x.2.1, .bool y.x.2.2.1, .int .i64 y.x.2.2.2, .bool y.hl, .slice B3 y.seen.length d3]] (fun w20 S => (plat_haltOn x y hn hc hny hcy hx hy hwk (Sx.St.pickT [vr b12 [.slice none 0 0, .int .i64 0, .int .i64 0, .slice none 0 0, .slice none 0 0, .int .i64 0, .int .i64 0, .bool false, .int .i64 0, .int .i64 0, .int .i64 0, .bool false, .int .i64 0, .bool false, .slice none 0 0], vr b11 [.slice B0 y.prog.length d0, .int .i64 y.a, .int .i64 y.pc, .slice B1 y.wr.length d1, .slice B2 y.lv.length d2, .int .i64 y.t.1, .int .i64 y.t.2.1, .bool y.t.2.2, .int .i64 y.pd, .int .i64 y.x.1, .int .i64 y.x.2.1, .bool y.x.2.2.1, .int .i64 y.x.2.2.2, .bool y.hl, .slice B3 y.seen.length d3], vr b [.slice A0 x.mem.length c0, .slice A1 x.gs.length c1, .slice A2 x.outs.length c2, .int .i64 x.pd, .slice B0 y.prog.length d0, .int .i64 y.a, .int .i64 y.pc, .slice B1 y.wr.length d1, .slice B2 y.lv.length d2, .int .i64 y.t.1, .int .i64 y.t.2.1, .bool y.t.2.2, .int .i64 y.pd, .int .i64 y.x.1, .int .i64 y.x.2.1, .bool y.x.2.2.1, .int .i64 y.x.2.2.2, .bool y.hl, .slice B3 y.seen.length d3]] [vr b [.slice A0 x.mem.length c0, .slice A1 x.gs.length c1, .slice A2 x.outs.length c2, .int .i64 x.pd, .slice B0 y.prog.length d0, .int .i64 y.a, .int .i64 y.pc, .slice B1 y.wr.length d1, .slice B2 y.lv.length d2, .int .i64 y.t.1, .int .i64 y.t.2.1, .bool y.t.2.2, .int .i64 y.pd, .int .i64 y.x.1, .int .i64 y.x.2.1, .bool y.x.2.2.1, .int .i64 y.x.2.2.2, .bool y.hl, .slice B3 y.seen.length d3], vr b12 [.slice none 0 0, .int .i64 0, .int .i64 0, .slice none 0 0, .slice none 0 0, .int .i64 0, .int .i64 0, .bool false, .int .i64 0, .int .i64 0, .int .i64 0, .bool false, .int .i64 0, .bool false, .slice none 0 0], vr b11 [.slice B0 y.prog.length d0, .int .i64 y.a, .int .i64 y.pc, .slice B1 y.wr.length d1, .slice B2 y.lv.length d2, .int .i64 y.t.1, .int .i64 y.t.2.1, .bool y.t.2.2, .int .i64 y.pd, .int .i64 y.x.1, .int .i64 y.x.2.1, .bool y.x.2.2.1, .int .i64 y.x.2.2.2, .bool y.hl, .slice B3 y.seen.length d3]] S [2, 0, 1] rfl (by decide))).mono fun e w20' hp => ?_)
       obtain ⟨zs, lo20, hi20, F20, A20, c20, A20', c20', A20'', c20'', l20, h20, G20, rfl, S'⟩ := hp
       obtain ⟨m20, hX20⟩ : ∃ z, z = (haltP x y).1 := ⟨_, rfl⟩
       obtain ⟨g20, hZ20⟩ : ∃ z, z = (haltP x y).2 := ⟨_, rfl⟩
       rw [← hX20, ← hZ20] at S'
       obtain ⟨P20_0, P20_1, P20_2, P20_3, rfl, f20_0, f20_1, f20_2, f20_3⟩ := wG_rd (St.reads S' 0 rfl)
       obtain ⟨A20_0, c20_0, e20_0, -⟩ := lst_val f20_0
       subst e20_0
       obtain ⟨A20_1, c20_1, e20_1, -⟩ := lst_val f20_1
       subst e20_1
       obtain ⟨A20_2, c20_2, e20_2, -⟩ := lst_val f20_2
       subst e20_2
       obtain ⟨A20_3, c20_3, e20_3, -⟩ := lst_val f20_3
       subst e20_3
       refine ⟨_, _, rfl, S', ?_⟩
       clear S S' f20_0 f20_1 f20_2 f20_3
       refine Sx.G.sw [.slice A20_0 g20.prog.length c20_0, .int .i64 g20.a, .int .i64 g20.pc, .slice A20_1 g20.wr.length c20_1, .slice A20_2 g20.lv.length c20_2, .int .i64 g20.t.1, .int .i64 g20.t.2.1, .bool g20.t.2.2, .int .i64 g20.pd, .int .i64 g20.x.1, .int .i64 g20.x.2.1, .bool g20.x.2.2.1, .int .i64 g20.x.2.2.2, .bool g20.hl, .slice A20_3 g20.seen.length c20_3] .a3 ?_
       refine Sx.G.nil (Sx.E.next (Sx.C.ret (Sx.E.block_ret ?_)))
       refine Sx.E.retc b12 3 [.slice A20_0 g20.prog.length c20_0, .int .i64 g20.a, .int .i64 g20.pc, .slice A20_1 g20.wr.length c20_1, .slice A20_2 g20.lv.length c20_2, .int .i64 g20.t.1, .int .i64 g20.t.2.1, .bool g20.t.2.2, .int .i64 g20.pd, .int .i64 g20.x.1, .int .i64 g20.x.2.1, .bool g20.x.2.2.1, .int .i64 g20.x.2.2.2, .bool g20.hl, .slice A20_3 g20.seen.length c20_3] rfl (by kernel_rfl) rfl (by kernel_rfl) (by kernel_rfl) (fun w S => ?_)
       have HP : platB x y = (haltP x y) := by simp only [platB, hb13, hb14, hb15, hb16, hb17, hb18, hw0, hw1, hw2, hw3, hw4, hw5, hw6, Bool.and_true, Bool.and_false, Bool.false_and, Bool.true_and, Bool.or_true, Bool.or_false, Bool.true_or, Bool.false_or, Bool.not_true, Bool.not_false, Bool.false_eq_true, if_true, if_false, ite_true, ite_false, reduceIte]
       rw [HP, ← hX20, ← hZ20]
       exact ⟨_, _, _, _, _, _, _, _, _, _, _, _, _, rfl, Sx.St.pickT [ow wG lo20 hi20 g20 [.slice A20_0 g20.prog.length c20_0, .int .i64 g20.a, .int .i64 g20.pc, .slice A20_1 g20.wr.length c20_1, .slice A20_2 g20.lv.length c20_2, .int .i64 g20.t.1, .int .i64 g20.t.2.1, .bool g20.t.2.2, .int .i64 g20.pd, .int .i64 g20.x.1, .int .i64 g20.x.2.1, .bool g20.x.2.2.1, .int .i64 g20.x.2.2.2, .bool g20.hl, .slice A20_3 g20.seen.length c20_3] F20, vr b [.slice A20 m20.mem.length c20, .slice A20' m20.gs.length c20', .slice A20'' m20.outs.length c20'', .int .i64 m20.pd, .slice B0 y.prog.length d0, .int .i64 y.a, .int .i64 y.pc, .slice B1 y.wr.length d1, .slice B2 y.lv.length d2, .int .i64 y.t.1, .int .i64 y.t.2.1, .bool y.t.2.2, .int .i64 y.pd, .int .i64 y.x.1, .int .i64 y.x.2.1, .bool y.x.2.2.1, .int .i64 y.x.2.2.2, .bool y.hl, .slice B3 y.seen.length d3], mix wB w0 l20 h20 m20 [.slice A20 m20.mem.length c20, .slice A20' m20.gs.length c20', .slice A20'' m20.outs.length c20'', .int .i64 m20.pd] G20, vr b12 [.slice A20_0 g20.prog.length c20_0, .int .i64 g20.a, .int .i64 g20.pc, .slice A20_1 g20.wr.length c20_1, .slice A20_2 g20.lv.length c20_2, .int .i64 g20.t.1, .int .i64 g20.t.2.1, .bool g20.t.2.2, .int .i64 g20.pd, .int .i64 g20.x.1, .int .i64 g20.x.2.1, .bool g20.x.2.2.1, .int .i64 g20.x.2.2.2, .bool g20.hl, .slice A20_3 g20.seen.length c20_3], vr b11 [.slice B0 y.prog.length d0, .int .i64 y.a, .int .i64 y.pc, .slice B1 y.wr.length d1, .slice B2 y.lv.length d2, .int .i64 y.t.1, .int .i64 y.t.2.1, .bool y.t.2.2, .int .i64 y.pd, .int .i64 y.x.1, .int .i64 y.x.2.1, .bool y.x.2.2.1, .int .i64 y.x.2.2.2, .bool y.hl, .slice B3 y.seen.length d3]] [_, _, _] S [0, 1, 2] rfl (by decide)⟩
     ·
      have hb17 := hc17
      have hw0 : ((wantG y) == 0) = false := want_other hc17 rfl
      have hw1 : ((wantG y) == 1) = false := want_other hc17 rfl
      have hw2 : ((wantG y) == 2) = false := want_other hc17 rfl
      have hw3 : ((wantG y) == 3) = false := want_other hc17 rfl
      have hw4 : ((wantG y) == 4) = false := want_other hc17 rfl
      have hw5 : ((wantG y) == 5) = false := want_other hc17 rfl
      have hw7 : ((wantG y) == 7) = false := want_other hc17 rfl
      refine Sx.C.yy (Sx.C.seq ?_)
      refine Sx.C.draw (.take 0 (.take 1 (.alone 2 (.take 3 (.alone 4 (.alone 5 (.alone 6 .nil))))))) [vr b11 [.slice B0 y.prog.length d0, .int .i64 y.a, .int .i64 y.pc, .slice B1 y.wr.length d1, .slice B2 y.lv.length d2, .int .i64 y.t.1, .int .i64 y.t.2.1, .bool y.t.2.2, .int .i64 y.pd, .int .i64 y.x.1, .int .i64 y.x.2.1, .bool y.x.2.2.1, .int .i64 y.x.2.2.2, .bool y.hl, .slice B3 y.seen.length d3]] (fun w S => St.pick S [1] _ rfl (by decide)) (by kernel_rfl) (by kernel_rfl) (by kernel_rfl) ?_
      refine Sx.GT.lw .m0 ?_
      refine Sx.GT.lw .m0 ?_
      refine Sx.GT.alone (Sx.Alone.cp 109 #[.agg #[.slice B0 y.prog.length d0, .int .i64 y.a, .int .i64 y.pc, .slice B1 y.wr.length d1, .slice B2 y.lv.length d2, .int .i64 y.t.1, .int .i64 y.t.2.1, .bool y.t.2.2, .int .i64 y.pd, .int .i64 y.x.1, .int .i64 y.x.2.1, .bool y.x.2.2.1, .int .i64 y.x.2.2.2, .bool y.hl, .slice B3 y.seen.length d3]] (.agg #[.int .i64 (insAt y.prog y.pc).1, .int .i64 (insAt y.prog y.pc).2]) (fun w S => by exact Guests.impl_next y _ _ hny (cap_G hcy) (rd_G (St.old S hy))) (fun w S => St.pick S [1] _ rfl (by decide)) ?_)
      refine Sx.GT.p (.int .i64 (insAt y.prog y.pc).2) ?_
      refine Sx.GT.alone (Sx.Alone.cp 108 #[.int .i64 (insAt y.prog y.pc).2] (.agg #[.int .i64 2, .int .i64 0, .bool false, .int .i64 ((insAt y.prog y.pc).2)]) (fun w S => by exact Exits.impl_call' ((insAt y.prog y.pc).2) _) (fun w S => St.pick S [1] _ rfl (by decide)) ?_)
      refine Sx.GT.alone (Sx.Alone.c 107 #[.agg #[.slice B0 y.prog.length d0, .int .i64 y.a, .int .i64 y.pc, .slice B1 y.wr.length d1, .slice B2 y.lv.length d2, .int .i64 y.t.1, .int .i64 y.t.2.1, .bool y.t.2.2, .int .i64 y.pd, .int .i64 y.x.1, .int .i64 y.x.2.1, .bool y.x.2.2.1, .int .i64 y.x.2.2.2, .bool y.hl, .slice B3 y.seen.length d3], .agg #[.int .i64 2, .int .i64 0, .bool false, .int .i64 ((insAt y.prog y.pc).2)]] (fun w21 S => (((Guests.impl_stop_g y _ (2, 0, false, ((insAt y.prog y.pc).2)) _ (cap_G hcy) (rd_G (St.old S hy))).mono weak_G)).mono fun e w21' hp => ?_))
      obtain ⟨cs, F, rfl, ho, hF, hb⟩ := hp
      obtain ⟨P21_0, P21_1, P21_2, P21_3, rfl, f21_0, f21_1, f21_2, f21_3⟩ := wG_rd (wG.reads ho)
      obtain ⟨A21_0, c21_0, e21_0, -⟩ := lst_val f21_0
      subst e21_0
      obtain ⟨A21_1, c21_1, e21_1, -⟩ := lst_val f21_1
      subst e21_1
      obtain ⟨A21_2, c21_2, e21_2, -⟩ := lst_val f21_2
      subst e21_2
      obtain ⟨A21_3, c21_3, e21_3, -⟩ := lst_val f21_3
      subst e21_3
      generalize F = F21 at ho hF
      refine ⟨_, _, rfl, (St.got S hb ho hF), (fun w S => St.pick S [2] _ rfl (by decide)), ?_⟩
      clear S hb ho hF f21_0 f21_1 f21_2 f21_3
      refine Sx.GT.alone (Sx.Alone.sw [.slice A21_0 (stopG y (2, 0, false, ((insAt y.prog y.pc).2))).prog.length c21_0, .int .i64 (stopG y (2, 0, false, ((insAt y.prog y.pc).2))).a, .int .i64 (stopG y (2, 0, false, ((insAt y.prog y.pc).2))).pc, .slice A21_1 (stopG y (2, 0, false, ((insAt y.prog y.pc).2))).wr.length c21_1, .slice A21_2 (stopG y (2, 0, false, ((insAt y.prog y.pc).2))).lv.length c21_2, .int .i64 (stopG y (2, 0, false, ((insAt y.prog y.pc).2))).t.1, .int .i64 (stopG y (2, 0, false, ((insAt y.prog y.pc).2))).t.2.1, .bool (stopG y (2, 0, false, ((insAt y.prog y.pc).2))).t.2.2, .int .i64 (stopG y (2, 0, false, ((insAt y.prog y.pc).2))).pd, .int .i64 (stopG y (2, 0, false, ((insAt y.prog y.pc).2))).x.1, .int .i64 (stopG y (2, 0, false, ((insAt y.prog y.pc).2))).x.2.1, .bool (stopG y (2, 0, false, ((insAt y.prog y.pc).2))).x.2.2.1, .int .i64 (stopG y (2, 0, false, ((insAt y.prog y.pc).2))).x.2.2.2, .bool (stopG y (2, 0, false, ((insAt y.prog y.pc).2))).hl, .slice A21_3 (stopG y (2, 0, false, ((insAt y.prog y.pc).2))).seen.length c21_3] .a1 (fun w S => St.pick S [2] _ rfl (by decide)) ?_)
      refine Sx.GT.nil (Sx.E.next (Sx.C.ret (Sx.E.block_ret ?_)))
      refine Sx.E.retc b12 1 [.slice A21_0 (stopG y (2, 0, false, ((insAt y.prog y.pc).2))).prog.length c21_0, .int .i64 (stopG y (2, 0, false, ((insAt y.prog y.pc).2))).a, .int .i64 (stopG y (2, 0, false, ((insAt y.prog y.pc).2))).pc, .slice A21_1 (stopG y (2, 0, false, ((insAt y.prog y.pc).2))).wr.length c21_1, .slice A21_2 (stopG y (2, 0, false, ((insAt y.prog y.pc).2))).lv.length c21_2, .int .i64 (stopG y (2, 0, false, ((insAt y.prog y.pc).2))).t.1, .int .i64 (stopG y (2, 0, false, ((insAt y.prog y.pc).2))).t.2.1, .bool (stopG y (2, 0, false, ((insAt y.prog y.pc).2))).t.2.2, .int .i64 (stopG y (2, 0, false, ((insAt y.prog y.pc).2))).pd, .int .i64 (stopG y (2, 0, false, ((insAt y.prog y.pc).2))).x.1, .int .i64 (stopG y (2, 0, false, ((insAt y.prog y.pc).2))).x.2.1, .bool (stopG y (2, 0, false, ((insAt y.prog y.pc).2))).x.2.2.1, .int .i64 (stopG y (2, 0, false, ((insAt y.prog y.pc).2))).x.2.2.2, .bool (stopG y (2, 0, false, ((insAt y.prog y.pc).2))).hl, .slice A21_3 (stopG y (2, 0, false, ((insAt y.prog y.pc).2))).seen.length c21_3] rfl (by kernel_rfl) rfl (by kernel_rfl) (by kernel_rfl) (fun w S => ?_)
      replace S := mix_old S hx
      have HP : platB x y = (x, (stopG y (2, 0, false, ((insAt y.prog y.pc).2)))) := by simp only [platB, hb13, hb14, hb15, hb16, hb17, hw0, hw1, hw2, hw3, hw4, hw5, hw7, Bool.and_true, Bool.and_false, Bool.false_and, Bool.true_and, Bool.or_true, Bool.or_false, Bool.true_or, Bool.false_or, Bool.not_true, Bool.not_false, Bool.false_eq_true, if_true, if_false, ite_true, ite_false, reduceIte]
      rw [HP]
      exact ⟨_, _, _, _, _, _, _, _, _, _, _, _, _, rfl, Sx.St.pickT [mix wB w0 _ _ x [.slice A0 x.mem.length c0, .slice A1 x.gs.length c1, .slice A2 x.outs.length c2, .int .i64 x.pd] [], ow wG w21.heap.size w21'.heap.size (stopG y (2, 0, false, ((insAt y.prog y.pc).2))) [.slice A21_0 (stopG y (2, 0, false, ((insAt y.prog y.pc).2))).prog.length c21_0, .int .i64 (stopG y (2, 0, false, ((insAt y.prog y.pc).2))).a, .int .i64 (stopG y (2, 0, false, ((insAt y.prog y.pc).2))).pc, .slice A21_1 (stopG y (2, 0, false, ((insAt y.prog y.pc).2))).wr.length c21_1, .slice A21_2 (stopG y (2, 0, false, ((insAt y.prog y.pc).2))).lv.length c21_2, .int .i64 (stopG y (2, 0, false, ((insAt y.prog y.pc).2))).t.1, .int .i64 (stopG y (2, 0, false, ((insAt y.prog y.pc).2))).t.2.1, .bool (stopG y (2, 0, false, ((insAt y.prog y.pc).2))).t.2.2, .int .i64 (stopG y (2, 0, false, ((insAt y.prog y.pc).2))).pd, .int .i64 (stopG y (2, 0, false, ((insAt y.prog y.pc).2))).x.1, .int .i64 (stopG y (2, 0, false, ((insAt y.prog y.pc).2))).x.2.1, .bool (stopG y (2, 0, false, ((insAt y.prog y.pc).2))).x.2.2.1, .int .i64 (stopG y (2, 0, false, ((insAt y.prog y.pc).2))).x.2.2.2, .bool (stopG y (2, 0, false, ((insAt y.prog y.pc).2))).hl, .slice A21_3 (stopG y (2, 0, false, ((insAt y.prog y.pc).2))).seen.length c21_3] F21, vr b12 [.slice A21_0 (stopG y (2, 0, false, ((insAt y.prog y.pc).2))).prog.length c21_0, .int .i64 (stopG y (2, 0, false, ((insAt y.prog y.pc).2))).a, .int .i64 (stopG y (2, 0, false, ((insAt y.prog y.pc).2))).pc, .slice A21_1 (stopG y (2, 0, false, ((insAt y.prog y.pc).2))).wr.length c21_1, .slice A21_2 (stopG y (2, 0, false, ((insAt y.prog y.pc).2))).lv.length c21_2, .int .i64 (stopG y (2, 0, false, ((insAt y.prog y.pc).2))).t.1, .int .i64 (stopG y (2, 0, false, ((insAt y.prog y.pc).2))).t.2.1, .bool (stopG y (2, 0, false, ((insAt y.prog y.pc).2))).t.2.2, .int .i64 (stopG y (2, 0, false, ((insAt y.prog y.pc).2))).pd, .int .i64 (stopG y (2, 0, false, ((insAt y.prog y.pc).2))).x.1, .int .i64 (stopG y (2, 0, false, ((insAt y.prog y.pc).2))).x.2.1, .bool (stopG y (2, 0, false, ((insAt y.prog y.pc).2))).x.2.2.1, .int .i64 (stopG y (2, 0, false, ((insAt y.prog y.pc).2))).x.2.2.2, .bool (stopG y (2, 0, false, ((insAt y.prog y.pc).2))).hl, .slice A21_3 (stopG y (2, 0, false, ((insAt y.prog y.pc).2))).seen.length c21_3], vr b11 [.slice B0 y.prog.length d0, .int .i64 y.a, .int .i64 y.pc, .slice B1 y.wr.length d1, .slice B2 y.lv.length d2, .int .i64 y.t.1, .int .i64 y.t.2.1, .bool y.t.2.2, .int .i64 y.pd, .int .i64 y.x.1, .int .i64 y.x.2.1, .bool y.x.2.2.1, .int .i64 y.x.2.2.2, .bool y.hl, .slice B3 y.seen.length d3], vr b [.slice A0 x.mem.length c0, .slice A1 x.gs.length c1, .slice A2 x.outs.length c2, .int .i64 x.pd, .slice B0 y.prog.length d0, .int .i64 y.a, .int .i64 y.pc, .slice B1 y.wr.length d1, .slice B2 y.lv.length d2, .int .i64 y.t.1, .int .i64 y.t.2.1, .bool y.t.2.2, .int .i64 y.pd, .int .i64 y.x.1, .int .i64 y.x.2.1, .bool y.x.2.2.1, .int .i64 y.x.2.2.2, .bool y.hl, .slice B3 y.seen.length d3]] [_, _, _] S [1, 4, 0] rfl (by decide)⟩
    ·
     have hb16 := hc16
     have hw0 : ((wantG y) == 0) = false := want_other hc16 rfl
     have hw1 : ((wantG y) == 1) = false := want_other hc16 rfl
     have hw2 : ((wantG y) == 2) = false := want_other hc16 rfl
     have hw3 : ((wantG y) == 3) = false := want_other hc16 rfl
     have hw4 : ((wantG y) == 4) = false := want_other hc16 rfl
     have hw6 : ((wantG y) == 6) = false := want_other hc16 rfl
     have hw7 : ((wantG y) == 7) = false := want_other hc16 rfl
     refine Sx.C.yy (Sx.C.seq (Sx.C.region ?_))
     refine Sx.G.p (.iface 77 (.pointer (some ⟨b, 0, none⟩))) ?_
     refine Sx.G.lw .m1 ?_
     refine Sx.G.c 106 #[.iface 77 (.pointer (some ⟨b, 0, none⟩)), .agg #[.slice B0 y.prog.length d0, .int .i64 y.a, .int .i64 y.pc, .slice B1 y.wr.length d1, .slice B2 y.lv.length d2, .int .i64 y.t.1, .int .i64 y.t.2.1, .bool y.t.2.2, .int .i64 y.pd, .int .i64 y.x.1, .int .i64 y.x.2.1, .bool y.x.2.2.1, .int .i64 y.x.2.2.2, .bool y.hl, .slice B3 y.seen.length d3]] (fun w22 S => (plat_putOutTo x y hn hc hny hcy hx hy hwk (Sx.St.pickT [vr b12 [.slice none 0 0, .int .i64 0, .int .i64 0, .slice none 0 0, .slice none 0 0, .int .i64 0, .int .i64 0, .bool false, .int .i64 0, .int .i64 0, .int .i64 0, .bool false, .int .i64 0, .bool false, .slice none 0 0], vr b11 [.slice B0 y.prog.length d0, .int .i64 y.a, .int .i64 y.pc, .slice B1 y.wr.length d1, .slice B2 y.lv.length d2, .int .i64 y.t.1, .int .i64 y.t.2.1, .bool y.t.2.2, .int .i64 y.pd, .int .i64 y.x.1, .int .i64 y.x.2.1, .bool y.x.2.2.1, .int .i64 y.x.2.2.2, .bool y.hl, .slice B3 y.seen.length d3], vr b [.slice A0 x.mem.length c0, .slice A1 x.gs.length c1, .slice A2 x.outs.length c2, .int .i64 x.pd, .slice B0 y.prog.length d0, .int .i64 y.a, .int .i64 y.pc, .slice B1 y.wr.length d1, .slice B2 y.lv.length d2, .int .i64 y.t.1, .int .i64 y.t.2.1, .bool y.t.2.2, .int .i64 y.pd, .int .i64 y.x.1, .int .i64 y.x.2.1, .bool y.x.2.2.1, .int .i64 y.x.2.2.2, .bool y.hl, .slice B3 y.seen.length d3]] [vr b [.slice A0 x.mem.length c0, .slice A1 x.gs.length c1, .slice A2 x.outs.length c2, .int .i64 x.pd, .slice B0 y.prog.length d0, .int .i64 y.a, .int .i64 y.pc, .slice B1 y.wr.length d1, .slice B2 y.lv.length d2, .int .i64 y.t.1, .int .i64 y.t.2.1, .bool y.t.2.2, .int .i64 y.pd, .int .i64 y.x.1, .int .i64 y.x.2.1, .bool y.x.2.2.1, .int .i64 y.x.2.2.2, .bool y.hl, .slice B3 y.seen.length d3], vr b12 [.slice none 0 0, .int .i64 0, .int .i64 0, .slice none 0 0, .slice none 0 0, .int .i64 0, .int .i64 0, .bool false, .int .i64 0, .int .i64 0, .int .i64 0, .bool false, .int .i64 0, .bool false, .slice none 0 0], vr b11 [.slice B0 y.prog.length d0, .int .i64 y.a, .int .i64 y.pc, .slice B1 y.wr.length d1, .slice B2 y.lv.length d2, .int .i64 y.t.1, .int .i64 y.t.2.1, .bool y.t.2.2, .int .i64 y.pd, .int .i64 y.x.1, .int .i64 y.x.2.1, .bool y.x.2.2.1, .int .i64 y.x.2.2.2, .bool y.hl, .slice B3 y.seen.length d3]] S [2, 0, 1] rfl (by decide))).mono fun e w22' hp => ?_)
     obtain ⟨zs, lo22, hi22, F22, A22, c22, A22', c22', A22'', c22'', l22, h22, G22, rfl, S'⟩ := hp
     obtain ⟨m22, hX22⟩ : ∃ z, z = (outP x y).1 := ⟨_, rfl⟩
     obtain ⟨g22, hZ22⟩ : ∃ z, z = (outP x y).2 := ⟨_, rfl⟩
     rw [← hX22, ← hZ22] at S'
     obtain ⟨P22_0, P22_1, P22_2, P22_3, rfl, f22_0, f22_1, f22_2, f22_3⟩ := wG_rd (St.reads S' 0 rfl)
     obtain ⟨A22_0, c22_0, e22_0, -⟩ := lst_val f22_0
     subst e22_0
     obtain ⟨A22_1, c22_1, e22_1, -⟩ := lst_val f22_1
     subst e22_1
     obtain ⟨A22_2, c22_2, e22_2, -⟩ := lst_val f22_2
     subst e22_2
     obtain ⟨A22_3, c22_3, e22_3, -⟩ := lst_val f22_3
     subst e22_3
     refine ⟨_, _, rfl, S', ?_⟩
     clear S S' f22_0 f22_1 f22_2 f22_3
     refine Sx.G.sw [.slice A22_0 g22.prog.length c22_0, .int .i64 g22.a, .int .i64 g22.pc, .slice A22_1 g22.wr.length c22_1, .slice A22_2 g22.lv.length c22_2, .int .i64 g22.t.1, .int .i64 g22.t.2.1, .bool g22.t.2.2, .int .i64 g22.pd, .int .i64 g22.x.1, .int .i64 g22.x.2.1, .bool g22.x.2.2.1, .int .i64 g22.x.2.2.2, .bool g22.hl, .slice A22_3 g22.seen.length c22_3] .a3 ?_
     refine Sx.G.nil (Sx.E.next (Sx.C.ret (Sx.E.block_ret ?_)))
     refine Sx.E.retc b12 3 [.slice A22_0 g22.prog.length c22_0, .int .i64 g22.a, .int .i64 g22.pc, .slice A22_1 g22.wr.length c22_1, .slice A22_2 g22.lv.length c22_2, .int .i64 g22.t.1, .int .i64 g22.t.2.1, .bool g22.t.2.2, .int .i64 g22.pd, .int .i64 g22.x.1, .int .i64 g22.x.2.1, .bool g22.x.2.2.1, .int .i64 g22.x.2.2.2, .bool g22.hl, .slice A22_3 g22.seen.length c22_3] rfl (by kernel_rfl) rfl (by kernel_rfl) (by kernel_rfl) (fun w S => ?_)
     have HP : platB x y = (outP x y) := by simp only [platB, hb13, hb14, hb15, hb16, hw0, hw1, hw2, hw3, hw4, hw6, hw7, Bool.and_true, Bool.and_false, Bool.false_and, Bool.true_and, Bool.or_true, Bool.or_false, Bool.true_or, Bool.false_or, Bool.not_true, Bool.not_false, Bool.false_eq_true, if_true, if_false, ite_true, ite_false, reduceIte]
     rw [HP, ← hX22, ← hZ22]
     exact ⟨_, _, _, _, _, _, _, _, _, _, _, _, _, rfl, Sx.St.pickT [ow wG lo22 hi22 g22 [.slice A22_0 g22.prog.length c22_0, .int .i64 g22.a, .int .i64 g22.pc, .slice A22_1 g22.wr.length c22_1, .slice A22_2 g22.lv.length c22_2, .int .i64 g22.t.1, .int .i64 g22.t.2.1, .bool g22.t.2.2, .int .i64 g22.pd, .int .i64 g22.x.1, .int .i64 g22.x.2.1, .bool g22.x.2.2.1, .int .i64 g22.x.2.2.2, .bool g22.hl, .slice A22_3 g22.seen.length c22_3] F22, vr b [.slice A22 m22.mem.length c22, .slice A22' m22.gs.length c22', .slice A22'' m22.outs.length c22'', .int .i64 m22.pd, .slice B0 y.prog.length d0, .int .i64 y.a, .int .i64 y.pc, .slice B1 y.wr.length d1, .slice B2 y.lv.length d2, .int .i64 y.t.1, .int .i64 y.t.2.1, .bool y.t.2.2, .int .i64 y.pd, .int .i64 y.x.1, .int .i64 y.x.2.1, .bool y.x.2.2.1, .int .i64 y.x.2.2.2, .bool y.hl, .slice B3 y.seen.length d3], mix wB w0 l22 h22 m22 [.slice A22 m22.mem.length c22, .slice A22' m22.gs.length c22', .slice A22'' m22.outs.length c22'', .int .i64 m22.pd] G22, vr b12 [.slice A22_0 g22.prog.length c22_0, .int .i64 g22.a, .int .i64 g22.pc, .slice A22_1 g22.wr.length c22_1, .slice A22_2 g22.lv.length c22_2, .int .i64 g22.t.1, .int .i64 g22.t.2.1, .bool g22.t.2.2, .int .i64 g22.pd, .int .i64 g22.x.1, .int .i64 g22.x.2.1, .bool g22.x.2.2.1, .int .i64 g22.x.2.2.2, .bool g22.hl, .slice A22_3 g22.seen.length c22_3], vr b11 [.slice B0 y.prog.length d0, .int .i64 y.a, .int .i64 y.pc, .slice B1 y.wr.length d1, .slice B2 y.lv.length d2, .int .i64 y.t.1, .int .i64 y.t.2.1, .bool y.t.2.2, .int .i64 y.pd, .int .i64 y.x.1, .int .i64 y.x.2.1, .bool y.x.2.2.1, .int .i64 y.x.2.2.2, .bool y.hl, .slice B3 y.seen.length d3]] [_, _, _] S [0, 1, 2] rfl (by decide)⟩
   ·
    have hb15 := hc15
    have hw0 : ((wantG y) == 0) = false := want_other hc15 rfl
    have hw1 : ((wantG y) == 1) = false := want_other hc15 rfl
    have hw2 : ((wantG y) == 2) = false := want_other hc15 rfl
    have hw3 : ((wantG y) == 3) = false := want_other hc15 rfl
    have hw5 : ((wantG y) == 5) = false := want_other hc15 rfl
    have hw6 : ((wantG y) == 6) = false := want_other hc15 rfl
    have hw7 : ((wantG y) == 7) = false := want_other hc15 rfl
    refine Sx.C.yy (Sx.C.seq (Sx.C.region ?_))
    refine Sx.G.p (.iface 77 (.pointer (some ⟨b, 0, none⟩))) ?_
    refine Sx.G.lw .m1 ?_
    refine Sx.G.c 105 #[.iface 77 (.pointer (some ⟨b, 0, none⟩)), .agg #[.slice B0 y.prog.length d0, .int .i64 y.a, .int .i64 y.pc, .slice B1 y.wr.length d1, .slice B2 y.lv.length d2, .int .i64 y.t.1, .int .i64 y.t.2.1, .bool y.t.2.2, .int .i64 y.pd, .int .i64 y.x.1, .int .i64 y.x.2.1, .bool y.x.2.2.1, .int .i64 y.x.2.2.2, .bool y.hl, .slice B3 y.seen.length d3]] (fun w23 S => (plat_storeTo x y hn hc hny hcy hx hy hwk (Sx.St.pickT [vr b12 [.slice none 0 0, .int .i64 0, .int .i64 0, .slice none 0 0, .slice none 0 0, .int .i64 0, .int .i64 0, .bool false, .int .i64 0, .int .i64 0, .int .i64 0, .bool false, .int .i64 0, .bool false, .slice none 0 0], vr b11 [.slice B0 y.prog.length d0, .int .i64 y.a, .int .i64 y.pc, .slice B1 y.wr.length d1, .slice B2 y.lv.length d2, .int .i64 y.t.1, .int .i64 y.t.2.1, .bool y.t.2.2, .int .i64 y.pd, .int .i64 y.x.1, .int .i64 y.x.2.1, .bool y.x.2.2.1, .int .i64 y.x.2.2.2, .bool y.hl, .slice B3 y.seen.length d3], vr b [.slice A0 x.mem.length c0, .slice A1 x.gs.length c1, .slice A2 x.outs.length c2, .int .i64 x.pd, .slice B0 y.prog.length d0, .int .i64 y.a, .int .i64 y.pc, .slice B1 y.wr.length d1, .slice B2 y.lv.length d2, .int .i64 y.t.1, .int .i64 y.t.2.1, .bool y.t.2.2, .int .i64 y.pd, .int .i64 y.x.1, .int .i64 y.x.2.1, .bool y.x.2.2.1, .int .i64 y.x.2.2.2, .bool y.hl, .slice B3 y.seen.length d3]] [vr b [.slice A0 x.mem.length c0, .slice A1 x.gs.length c1, .slice A2 x.outs.length c2, .int .i64 x.pd, .slice B0 y.prog.length d0, .int .i64 y.a, .int .i64 y.pc, .slice B1 y.wr.length d1, .slice B2 y.lv.length d2, .int .i64 y.t.1, .int .i64 y.t.2.1, .bool y.t.2.2, .int .i64 y.pd, .int .i64 y.x.1, .int .i64 y.x.2.1, .bool y.x.2.2.1, .int .i64 y.x.2.2.2, .bool y.hl, .slice B3 y.seen.length d3], vr b12 [.slice none 0 0, .int .i64 0, .int .i64 0, .slice none 0 0, .slice none 0 0, .int .i64 0, .int .i64 0, .bool false, .int .i64 0, .int .i64 0, .int .i64 0, .bool false, .int .i64 0, .bool false, .slice none 0 0], vr b11 [.slice B0 y.prog.length d0, .int .i64 y.a, .int .i64 y.pc, .slice B1 y.wr.length d1, .slice B2 y.lv.length d2, .int .i64 y.t.1, .int .i64 y.t.2.1, .bool y.t.2.2, .int .i64 y.pd, .int .i64 y.x.1, .int .i64 y.x.2.1, .bool y.x.2.2.1, .int .i64 y.x.2.2.2, .bool y.hl, .slice B3 y.seen.length d3]] S [2, 0, 1] rfl (by decide)) (beq_iff_eq.1 hb15)).mono fun e w23' hp => ?_)
    obtain ⟨zs, lo23, hi23, F23, A23, c23, A23', c23', A23'', c23'', l23, h23, G23, rfl, S'⟩ := hp
    obtain ⟨m23, hX23⟩ : ∃ z, z = (storeP x y).1 := ⟨_, rfl⟩
    obtain ⟨g23, hZ23⟩ : ∃ z, z = (storeP x y).2 := ⟨_, rfl⟩
    rw [← hX23, ← hZ23] at S'
    obtain ⟨P23_0, P23_1, P23_2, P23_3, rfl, f23_0, f23_1, f23_2, f23_3⟩ := wG_rd (St.reads S' 0 rfl)
    obtain ⟨A23_0, c23_0, e23_0, -⟩ := lst_val f23_0
    subst e23_0
    obtain ⟨A23_1, c23_1, e23_1, -⟩ := lst_val f23_1
    subst e23_1
    obtain ⟨A23_2, c23_2, e23_2, -⟩ := lst_val f23_2
    subst e23_2
    obtain ⟨A23_3, c23_3, e23_3, -⟩ := lst_val f23_3
    subst e23_3
    refine ⟨_, _, rfl, S', ?_⟩
    clear S S' f23_0 f23_1 f23_2 f23_3
    refine Sx.G.sw [.slice A23_0 g23.prog.length c23_0, .int .i64 g23.a, .int .i64 g23.pc, .slice A23_1 g23.wr.length c23_1, .slice A23_2 g23.lv.length c23_2, .int .i64 g23.t.1, .int .i64 g23.t.2.1, .bool g23.t.2.2, .int .i64 g23.pd, .int .i64 g23.x.1, .int .i64 g23.x.2.1, .bool g23.x.2.2.1, .int .i64 g23.x.2.2.2, .bool g23.hl, .slice A23_3 g23.seen.length c23_3] .a3 ?_
    refine Sx.G.nil (Sx.E.next (Sx.C.ret (Sx.E.block_ret ?_)))
    refine Sx.E.retc b12 3 [.slice A23_0 g23.prog.length c23_0, .int .i64 g23.a, .int .i64 g23.pc, .slice A23_1 g23.wr.length c23_1, .slice A23_2 g23.lv.length c23_2, .int .i64 g23.t.1, .int .i64 g23.t.2.1, .bool g23.t.2.2, .int .i64 g23.pd, .int .i64 g23.x.1, .int .i64 g23.x.2.1, .bool g23.x.2.2.1, .int .i64 g23.x.2.2.2, .bool g23.hl, .slice A23_3 g23.seen.length c23_3] rfl (by kernel_rfl) rfl (by kernel_rfl) (by kernel_rfl) (fun w S => ?_)
    have HP : platB x y = (storeP x y) := by simp only [platB, hb13, hb14, hb15, hw0, hw1, hw2, hw3, hw5, hw6, hw7, Bool.and_true, Bool.and_false, Bool.false_and, Bool.true_and, Bool.or_true, Bool.or_false, Bool.true_or, Bool.false_or, Bool.not_true, Bool.not_false, Bool.false_eq_true, if_true, if_false, ite_true, ite_false, reduceIte]
    rw [HP, ← hX23, ← hZ23]
    exact ⟨_, _, _, _, _, _, _, _, _, _, _, _, _, rfl, Sx.St.pickT [ow wG lo23 hi23 g23 [.slice A23_0 g23.prog.length c23_0, .int .i64 g23.a, .int .i64 g23.pc, .slice A23_1 g23.wr.length c23_1, .slice A23_2 g23.lv.length c23_2, .int .i64 g23.t.1, .int .i64 g23.t.2.1, .bool g23.t.2.2, .int .i64 g23.pd, .int .i64 g23.x.1, .int .i64 g23.x.2.1, .bool g23.x.2.2.1, .int .i64 g23.x.2.2.2, .bool g23.hl, .slice A23_3 g23.seen.length c23_3] F23, vr b [.slice A23 m23.mem.length c23, .slice A23' m23.gs.length c23', .slice A23'' m23.outs.length c23'', .int .i64 m23.pd, .slice B0 y.prog.length d0, .int .i64 y.a, .int .i64 y.pc, .slice B1 y.wr.length d1, .slice B2 y.lv.length d2, .int .i64 y.t.1, .int .i64 y.t.2.1, .bool y.t.2.2, .int .i64 y.pd, .int .i64 y.x.1, .int .i64 y.x.2.1, .bool y.x.2.2.1, .int .i64 y.x.2.2.2, .bool y.hl, .slice B3 y.seen.length d3], mix wB w0 l23 h23 m23 [.slice A23 m23.mem.length c23, .slice A23' m23.gs.length c23', .slice A23'' m23.outs.length c23'', .int .i64 m23.pd] G23, vr b12 [.slice A23_0 g23.prog.length c23_0, .int .i64 g23.a, .int .i64 g23.pc, .slice A23_1 g23.wr.length c23_1, .slice A23_2 g23.lv.length c23_2, .int .i64 g23.t.1, .int .i64 g23.t.2.1, .bool g23.t.2.2, .int .i64 g23.pd, .int .i64 g23.x.1, .int .i64 g23.x.2.1, .bool g23.x.2.2.1, .int .i64 g23.x.2.2.2, .bool g23.hl, .slice A23_3 g23.seen.length c23_3], vr b11 [.slice B0 y.prog.length d0, .int .i64 y.a, .int .i64 y.pc, .slice B1 y.wr.length d1, .slice B2 y.lv.length d2, .int .i64 y.t.1, .int .i64 y.t.2.1, .bool y.t.2.2, .int .i64 y.pd, .int .i64 y.x.1, .int .i64 y.x.2.1, .bool y.x.2.2.1, .int .i64 y.x.2.2.2, .bool y.hl, .slice B3 y.seen.length d3]] [_, _, _] S [0, 1, 2] rfl (by decide)⟩
  ·
   have hb14 := hc14
   have hw0 : ((wantG y) == 0) = false := want_other hc14 rfl
   have hw1 : ((wantG y) == 1) = false := want_other hc14 rfl
   have hw2 : ((wantG y) == 2) = false := want_other hc14 rfl
   have hw4 : ((wantG y) == 4) = false := want_other hc14 rfl
   have hw5 : ((wantG y) == 5) = false := want_other hc14 rfl
   have hw6 : ((wantG y) == 6) = false := want_other hc14 rfl
   have hw7 : ((wantG y) == 7) = false := want_other hc14 rfl
   refine Sx.C.yy (Sx.C.seq (Sx.C.region ?_))
   refine Sx.G.p (.iface 77 (.pointer (some ⟨b, 0, none⟩))) ?_
   refine Sx.G.lw .m1 ?_
   refine Sx.G.c 104 #[.iface 77 (.pointer (some ⟨b, 0, none⟩)), .agg #[.slice B0 y.prog.length d0, .int .i64 y.a, .int .i64 y.pc, .slice B1 y.wr.length d1, .slice B2 y.lv.length d2, .int .i64 y.t.1, .int .i64 y.t.2.1, .bool y.t.2.2, .int .i64 y.pd, .int .i64 y.x.1, .int .i64 y.x.2.1, .bool y.x.2.2.1, .int .i64 y.x.2.2.2, .bool y.hl, .slice B3 y.seen.length d3]] (fun w24 S => (plat_loadFrom x y hn hc hny hcy hx hy hwk (Sx.St.pickT [vr b12 [.slice none 0 0, .int .i64 0, .int .i64 0, .slice none 0 0, .slice none 0 0, .int .i64 0, .int .i64 0, .bool false, .int .i64 0, .int .i64 0, .int .i64 0, .bool false, .int .i64 0, .bool false, .slice none 0 0], vr b11 [.slice B0 y.prog.length d0, .int .i64 y.a, .int .i64 y.pc, .slice B1 y.wr.length d1, .slice B2 y.lv.length d2, .int .i64 y.t.1, .int .i64 y.t.2.1, .bool y.t.2.2, .int .i64 y.pd, .int .i64 y.x.1, .int .i64 y.x.2.1, .bool y.x.2.2.1, .int .i64 y.x.2.2.2, .bool y.hl, .slice B3 y.seen.length d3], vr b [.slice A0 x.mem.length c0, .slice A1 x.gs.length c1, .slice A2 x.outs.length c2, .int .i64 x.pd, .slice B0 y.prog.length d0, .int .i64 y.a, .int .i64 y.pc, .slice B1 y.wr.length d1, .slice B2 y.lv.length d2, .int .i64 y.t.1, .int .i64 y.t.2.1, .bool y.t.2.2, .int .i64 y.pd, .int .i64 y.x.1, .int .i64 y.x.2.1, .bool y.x.2.2.1, .int .i64 y.x.2.2.2, .bool y.hl, .slice B3 y.seen.length d3]] [vr b [.slice A0 x.mem.length c0, .slice A1 x.gs.length c1, .slice A2 x.outs.length c2, .int .i64 x.pd, .slice B0 y.prog.length d0, .int .i64 y.a, .int .i64 y.pc, .slice B1 y.wr.length d1, .slice B2 y.lv.length d2, .int .i64 y.t.1, .int .i64 y.t.2.1, .bool y.t.2.2, .int .i64 y.pd, .int .i64 y.x.1, .int .i64 y.x.2.1, .bool y.x.2.2.1, .int .i64 y.x.2.2.2, .bool y.hl, .slice B3 y.seen.length d3], vr b12 [.slice none 0 0, .int .i64 0, .int .i64 0, .slice none 0 0, .slice none 0 0, .int .i64 0, .int .i64 0, .bool false, .int .i64 0, .int .i64 0, .int .i64 0, .bool false, .int .i64 0, .bool false, .slice none 0 0], vr b11 [.slice B0 y.prog.length d0, .int .i64 y.a, .int .i64 y.pc, .slice B1 y.wr.length d1, .slice B2 y.lv.length d2, .int .i64 y.t.1, .int .i64 y.t.2.1, .bool y.t.2.2, .int .i64 y.pd, .int .i64 y.x.1, .int .i64 y.x.2.1, .bool y.x.2.2.1, .int .i64 y.x.2.2.2, .bool y.hl, .slice B3 y.seen.length d3]] S [2, 0, 1] rfl (by decide)) (beq_iff_eq.1 hb14)).mono fun e w24' hp => ?_)
   obtain ⟨zs, lo24, hi24, F24, A24, c24, A24', c24', A24'', c24'', l24, h24, G24, rfl, S'⟩ := hp
   obtain ⟨m24, hX24⟩ : ∃ z, z = (loadP x y).1 := ⟨_, rfl⟩
   obtain ⟨g24, hZ24⟩ : ∃ z, z = (loadP x y).2 := ⟨_, rfl⟩
   rw [← hX24, ← hZ24] at S'
   obtain ⟨P24_0, P24_1, P24_2, P24_3, rfl, f24_0, f24_1, f24_2, f24_3⟩ := wG_rd (St.reads S' 0 rfl)
   obtain ⟨A24_0, c24_0, e24_0, -⟩ := lst_val f24_0
   subst e24_0
   obtain ⟨A24_1, c24_1, e24_1, -⟩ := lst_val f24_1
   subst e24_1
   obtain ⟨A24_2, c24_2, e24_2, -⟩ := lst_val f24_2
   subst e24_2
   obtain ⟨A24_3, c24_3, e24_3, -⟩ := lst_val f24_3
   subst e24_3
   refine ⟨_, _, rfl, S', ?_⟩
   clear S S' f24_0 f24_1 f24_2 f24_3
   refine Sx.G.sw [.slice A24_0 g24.prog.length c24_0, .int .i64 g24.a, .int .i64 g24.pc, .slice A24_1 g24.wr.length c24_1, .slice A24_2 g24.lv.length c24_2, .int .i64 g24.t.1, .int .i64 g24.t.2.1, .bool g24.t.2.2, .int .i64 g24.pd, .int .i64 g24.x.1, .int .i64 g24.x.2.1, .bool g24.x.2.2.1, .int .i64 g24.x.2.2.2, .bool g24.hl, .slice A24_3 g24.seen.length c24_3] .a3 ?_
   refine Sx.G.nil (Sx.E.next (Sx.C.ret (Sx.E.block_ret ?_)))
   refine Sx.E.retc b12 3 [.slice A24_0 g24.prog.length c24_0, .int .i64 g24.a, .int .i64 g24.pc, .slice A24_1 g24.wr.length c24_1, .slice A24_2 g24.lv.length c24_2, .int .i64 g24.t.1, .int .i64 g24.t.2.1, .bool g24.t.2.2, .int .i64 g24.pd, .int .i64 g24.x.1, .int .i64 g24.x.2.1, .bool g24.x.2.2.1, .int .i64 g24.x.2.2.2, .bool g24.hl, .slice A24_3 g24.seen.length c24_3] rfl (by kernel_rfl) rfl (by kernel_rfl) (by kernel_rfl) (fun w S => ?_)
   have HP : platB x y = (loadP x y) := by simp only [platB, hb13, hb14, hw0, hw1, hw2, hw4, hw5, hw6, hw7, Bool.and_true, Bool.and_false, Bool.false_and, Bool.true_and, Bool.or_true, Bool.or_false, Bool.true_or, Bool.false_or, Bool.not_true, Bool.not_false, Bool.false_eq_true, if_true, if_false, ite_true, ite_false, reduceIte]
   rw [HP, ← hX24, ← hZ24]
   exact ⟨_, _, _, _, _, _, _, _, _, _, _, _, _, rfl, Sx.St.pickT [ow wG lo24 hi24 g24 [.slice A24_0 g24.prog.length c24_0, .int .i64 g24.a, .int .i64 g24.pc, .slice A24_1 g24.wr.length c24_1, .slice A24_2 g24.lv.length c24_2, .int .i64 g24.t.1, .int .i64 g24.t.2.1, .bool g24.t.2.2, .int .i64 g24.pd, .int .i64 g24.x.1, .int .i64 g24.x.2.1, .bool g24.x.2.2.1, .int .i64 g24.x.2.2.2, .bool g24.hl, .slice A24_3 g24.seen.length c24_3] F24, vr b [.slice A24 m24.mem.length c24, .slice A24' m24.gs.length c24', .slice A24'' m24.outs.length c24'', .int .i64 m24.pd, .slice B0 y.prog.length d0, .int .i64 y.a, .int .i64 y.pc, .slice B1 y.wr.length d1, .slice B2 y.lv.length d2, .int .i64 y.t.1, .int .i64 y.t.2.1, .bool y.t.2.2, .int .i64 y.pd, .int .i64 y.x.1, .int .i64 y.x.2.1, .bool y.x.2.2.1, .int .i64 y.x.2.2.2, .bool y.hl, .slice B3 y.seen.length d3], mix wB w0 l24 h24 m24 [.slice A24 m24.mem.length c24, .slice A24' m24.gs.length c24', .slice A24'' m24.outs.length c24'', .int .i64 m24.pd] G24, vr b12 [.slice A24_0 g24.prog.length c24_0, .int .i64 g24.a, .int .i64 g24.pc, .slice A24_1 g24.wr.length c24_1, .slice A24_2 g24.lv.length c24_2, .int .i64 g24.t.1, .int .i64 g24.t.2.1, .bool g24.t.2.2, .int .i64 g24.pd, .int .i64 g24.x.1, .int .i64 g24.x.2.1, .bool g24.x.2.2.1, .int .i64 g24.x.2.2.2, .bool g24.hl, .slice A24_3 g24.seen.length c24_3], vr b11 [.slice B0 y.prog.length d0, .int .i64 y.a, .int .i64 y.pc, .slice B1 y.wr.length d1, .slice B2 y.lv.length d2, .int .i64 y.t.1, .int .i64 y.t.2.1, .bool y.t.2.2, .int .i64 y.pd, .int .i64 y.x.1, .int .i64 y.x.2.1, .bool y.x.2.2.1, .int .i64 y.x.2.2.2, .bool y.hl, .slice B3 y.seen.length d3]] [_, _, _] S [0, 1, 2] rfl (by decide)⟩
 ·
  have hb13 := hc13
  have hw0 : ((wantG y) == 0) = false := want_other hc13 rfl
  have hw2 : ((wantG y) == 2) = false := want_other hc13 rfl
  have hw3 : ((wantG y) == 3) = false := want_other hc13 rfl
  have hw4 : ((wantG y) == 4) = false := want_other hc13 rfl
  have hw5 : ((wantG y) == 5) = false := want_other hc13 rfl
  have hw6 : ((wantG y) == 6) = false := want_other hc13 rfl
  have hw7 : ((wantG y) == 7) = false := want_other hc13 rfl
  refine Sx.C.yy (Sx.C.seq (Sx.C.region ?_))
  refine Sx.G.lw .m1 ?_
  refine Sx.G.c 103 #[.agg #[.slice B0 y.prog.length d0, .int .i64 y.a, .int .i64 y.pc, .slice B1 y.wr.length d1, .slice B2 y.lv.length d2, .int .i64 y.t.1, .int .i64 y.t.2.1, .bool y.t.2.2, .int .i64 y.pd, .int .i64 y.x.1, .int .i64 y.x.2.1, .bool y.x.2.2.1, .int .i64 y.x.2.2.2, .bool y.hl, .slice B3 y.seen.length d3]] (fun w25 S => (((Guests.impl_int_g y _ _ hny (cap_G hcy) (rd_G (St.old S hy))).mono weak_G)).mono fun e w25' hp => ?_)
  obtain ⟨cs, F, rfl, ho, hF, hb⟩ := hp
  obtain ⟨P25_0, P25_1, P25_2, P25_3, rfl, f25_0, f25_1, f25_2, f25_3⟩ := wG_rd (wG.reads ho)
  obtain ⟨A25_0, c25_0, e25_0, -⟩ := lst_val f25_0
  subst e25_0
  obtain ⟨A25_1, c25_1, e25_1, -⟩ := lst_val f25_1
  subst e25_1
  obtain ⟨A25_2, c25_2, e25_2, -⟩ := lst_val f25_2
  subst e25_2
  obtain ⟨A25_3, c25_3, e25_3, -⟩ := lst_val f25_3
  subst e25_3
  generalize F = F25 at ho hF
  refine ⟨_, _, rfl, (St.got S hb ho hF), ?_⟩
  clear S hb ho hF f25_0 f25_1 f25_2 f25_3
  refine Sx.G.sw [.slice A25_0 (intG y).prog.length c25_0, .int .i64 (intG y).a, .int .i64 (intG y).pc, .slice A25_1 (intG y).wr.length c25_1, .slice A25_2 (intG y).lv.length c25_2, .int .i64 (intG y).t.1, .int .i64 (intG y).t.2.1, .bool (intG y).t.2.2, .int .i64 (intG y).pd, .int .i64 (intG y).x.1, .int .i64 (intG y).x.2.1, .bool (intG y).x.2.2.1, .int .i64 (intG y).x.2.2.2, .bool (intG y).hl, .slice A25_3 (intG y).seen.length c25_3] .a1 ?_
  refine Sx.G.nil (Sx.E.next (Sx.C.ret (Sx.E.block_ret ?_)))
  refine Sx.E.retc b12 1 [.slice A25_0 (intG y).prog.length c25_0, .int .i64 (intG y).a, .int .i64 (intG y).pc, .slice A25_1 (intG y).wr.length c25_1, .slice A25_2 (intG y).lv.length c25_2, .int .i64 (intG y).t.1, .int .i64 (intG y).t.2.1, .bool (intG y).t.2.2, .int .i64 (intG y).pd, .int .i64 (intG y).x.1, .int .i64 (intG y).x.2.1, .bool (intG y).x.2.2.1, .int .i64 (intG y).x.2.2.2, .bool (intG y).hl, .slice A25_3 (intG y).seen.length c25_3] rfl (by kernel_rfl) rfl (by kernel_rfl) (by kernel_rfl) (fun w S => ?_)
  replace S := mix_old S hx
  have HP : platB x y = (x, (intG y)) := by simp only [platB, hb13, hw0, hw2, hw3, hw4, hw5, hw6, hw7, Bool.and_true, Bool.and_false, Bool.false_and, Bool.true_and, Bool.or_true, Bool.or_false, Bool.true_or, Bool.false_or, Bool.not_true, Bool.not_false, Bool.false_eq_true, if_true, if_false, ite_true, ite_false, reduceIte]
  rw [HP]
  exact ⟨_, _, _, _, _, _, _, _, _, _, _, _, _, rfl, Sx.St.pickT [mix wB w0 _ _ x [.slice A0 x.mem.length c0, .slice A1 x.gs.length c1, .slice A2 x.outs.length c2, .int .i64 x.pd] [], ow wG w25.heap.size w25'.heap.size (intG y) [.slice A25_0 (intG y).prog.length c25_0, .int .i64 (intG y).a, .int .i64 (intG y).pc, .slice A25_1 (intG y).wr.length c25_1, .slice A25_2 (intG y).lv.length c25_2, .int .i64 (intG y).t.1, .int .i64 (intG y).t.2.1, .bool (intG y).t.2.2, .int .i64 (intG y).pd, .int .i64 (intG y).x.1, .int .i64 (intG y).x.2.1, .bool (intG y).x.2.2.1, .int .i64 (intG y).x.2.2.2, .bool (intG y).hl, .slice A25_3 (intG y).seen.length c25_3] F25, vr b12 [.slice A25_0 (intG y).prog.length c25_0, .int .i64 (intG y).a, .int .i64 (intG y).pc, .slice A25_1 (intG y).wr.length c25_1, .slice A25_2 (intG y).lv.length c25_2, .int .i64 (intG y).t.1, .int .i64 (intG y).t.2.1, .bool (intG y).t.2.2, .int .i64 (intG y).pd, .int .i64 (intG y).x.1, .int .i64 (intG y).x.2.1, .bool (intG y).x.2.2.1, .int .i64 (intG y).x.2.2.2, .bool (intG y).hl, .slice A25_3 (intG y).seen.length c25_3], vr b11 [.slice B0 y.prog.length d0, .int .i64 y.a, .int .i64 y.pc, .slice B1 y.wr.length d1, .slice B2 y.lv.length d2, .int .i64 y.t.1, .int .i64 y.t.2.1, .bool y.t.2.2, .int .i64 y.pd, .int .i64 y.x.1, .int .i64 y.x.2.1, .bool y.x.2.2.1, .int .i64 y.x.2.2.2, .bool y.hl, .slice B3 y.seen.length d3], vr b [.slice A0 x.mem.length c0, .slice A1 x.gs.length c1, .slice A2 x.outs.length c2, .int .i64 x.pd, .slice B0 y.prog.length d0, .int .i64 y.a, .int .i64 y.pc, .slice B1 y.wr.length d1, .slice B2 y.lv.length d2, .int .i64 y.t.1, .int .i64 y.t.2.1, .bool y.t.2.2, .int .i64 y.pd, .int .i64 y.x.1, .int .i64 y.x.2.1, .bool y.x.2.2.1, .int .i64 y.x.2.2.2, .bool y.hl, .slice B3 y.seen.length d3]] [_, _, _] S [1, 4, 0] rfl (by decide)⟩
end Go.Proofs.YtmiokacihcpepaaGreat.Kit
namespace Go.Proofs.YtmiokacihcpepaaGreat.Kit
set_option maxHeartbeats 8000000
set_option maxRecDepth 100000
set_option maxRecDepth 100000
open Go.ChangeShapes Go.WideShapes Go.ChangeAt Go.RowKit Go.Deep
open Go.Proofs.YtmiokacihcpepaaGreat.Base Go.Proofs.YtmiokacihcpepaaGreat.Mem Go.Proofs.YtmiokacihcpepaaGreat.Data Go.Proofs.YtmiokacihcpepaaGreat.Stt Go.Proofs.YtmiokacihcpepaaGreat.Guests Go.Proofs.YtmiokacihcpepaaGreat.Ctls Go.Proofs.YtmiokacihcpepaaGreat.Exits
set_option linter.unusedVariables false
set_option linter.unusedSimpArgs false
theorem own_Bool {w : World} {lo hi : Nat} {x : Bool} {es : List Value} {F : List Nat} (h : rBool.own w lo hi x es F) : es = [.bool x] ∧ F = [] := by
 exact h
theorem own_mk_Bool (w : World) (lo hi : Nat) (x : Bool) : rBool.own w lo hi x [.bool x] [] := ⟨rfl, rfl⟩
end Go.Proofs.YtmiokacihcpepaaGreat.Kit
namespace Go.Proofs.YtmiokacihcpepaaGreat.Kit
set_option maxHeartbeats 8000000
set_option maxRecDepth 100000
set_option maxRecDepth 100000
open Go.ChangeShapes Go.WideShapes Go.ChangeAt Go.RowKit Go.Deep
open Go.Proofs.YtmiokacihcpepaaGreat.Base Go.Proofs.YtmiokacihcpepaaGreat.Mem Go.Proofs.YtmiokacihcpepaaGreat.Data Go.Proofs.YtmiokacihcpepaaGreat.Stt Go.Proofs.YtmiokacihcpepaaGreat.Guests Go.Proofs.YtmiokacihcpepaaGreat.Ctls Go.Proofs.YtmiokacihcpepaaGreat.Exits Go.Proofs.YtmiokacihcpepaaGreat.Irqs Go.Proofs.YtmiokacihcpepaaGreat.Inss Go.Proofs.YtmiokacihcpepaaGreat.Slots
set_option linter.unusedVariables false
set_option linter.unusedSimpArgs false
theorem wf_loadV {x : bT} (h : wB.wf x) (y : gT) (a : Int) : (Lit.int .i64 (loadV x y a).1).wf = true := by
 unfold loadV
 split
 ·
  exact wf_cellA h.1 _ _
 ·
  exact z0
theorem plat_cases {P : bT × gT → Prop} (x : bT) (y : gT) (h1 : P (x, intG y)) (h2 : P (x, loadedG y (loadV x y (addrG y)).1)) (h3 : ∀ q : QT, wfQ q ∨ ¬ wfGuest y → P (x, stopG y q)) (h4 : P (storeM x y (addrG y) y.a, movedG y)) (h5 : P (putB x (insAt y.prog y.pc).2, movedG y)) (h6 : P (x, heldG y)) (h7 : P (x, plainG y)) : P (platB x y) := by
 have hs : ∀ q : QT, (wfGuest y → wfQ q) → P (x, stopG y q) := fun q hq => h3 q (by
  by_cases hw : wfGuest y
  ·
   exact .inl (hq hw)
  ·
   exact .inr hw)
 have n1 : (Lit.int .i64 1).wf = true := by decide
 have n2 : (Lit.int .i64 2).wf = true := by decide
 have n3 : (Lit.int .i64 3).wf = true := by decide
 have n4 : (Lit.int .i64 4).wf = true := by decide
 unfold platB
 split
 ·
  exact h1
 split
 ·
  unfold loadP
  split
  ·
   exact h2
  ·
   exact hs _ fun hw => ⟨n1, wf_addrPr (wf_addr hw), trivial, z0⟩
 split
 ·
  unfold storeP
  split
  ·
   exact h4
  ·
   exact hs _ fun hw => ⟨n1, wf_addrPr (wf_addr hw), trivial, z0⟩
 split
 ·
  unfold outP
  split
  ·
   exact hs _ fun hw => ⟨n3, z0, trivial, insAt_wf hw.1.2 _⟩
  ·
   exact h5
 split
 ·
  exact hs _ fun hw => ⟨n2, z0, trivial, insAt_wf hw.1.2 _⟩
 split
 ·
  unfold haltP
  split
  ·
   exact hs _ fun hw => ⟨n4, z0, trivial, z0⟩
  ·
   exact h6
 ·
  exact h7
theorem plat_ok {x : bT} {y : gT} (hn : wB.wf x) (hc : wB.cap x) (hy : wfGuest y) (hcy : wG.cap y) : wB.wf (platB x y).1 ∧ wB.cap (platB x y).1 ∧ wfGuest (platB x y).2 ∧ wG.cap (platB x y).2 := by
 have hk := num_of hy
 have hp : wfJL y.prog := hy.1.2
 refine plat_cases (P := fun p => wB.wf p.1 ∧ wB.cap p.1 ∧ wfGuest p.2 ∧ wG.cap p.2) x y ?_ ?_ ?_ ?_ ?_ ?_ ?_
 ·
  exact ⟨hn, hc, (next_int y).wf hy (num_int hk), (next_int y).cap hcy⟩
 ·
  exact ⟨hn, hc, (next_loaded y _).wf hy (num_loaded hk (wf_loadV hn y _)), (next_loaded y _).cap hcy⟩
 ·
  intro q hq
  exact ⟨hn, hc, (next_stop y q).wf hy (num_stop hk (hq.resolve_right fun h => h hy)), (next_stop y q).cap hcy⟩
 ·
  exact ⟨⟨wf_putC _ _ _ hn.1, hn.2⟩, ⟨cap_putC _ _ _ hc.1, hc.2⟩, (next_moved y).wf hy (num_moved hk), (next_moved y).cap hcy⟩
 ·
  exact ⟨wf_putB hn (insAt_wf hp _), cap_putB _ hc, (next_moved y).wf hy (num_moved hk), (next_moved y).cap hcy⟩
 ·
  exact ⟨hn, hc, (next_held y).wf hy (num_held hk), (next_held y).cap hcy⟩
 ·
  exact ⟨hn, hc, (next_plain y).wf hy (num_plain hk hp), (next_plain y).cap hcy⟩
theorem plat_gs (x : bT) (y : gT) : (platB x y).1.gs = x.gs := plat_cases (P := fun p => p.1.gs = x.gs) x y rfl rfl (fun _ _ => rfl) rfl (putB_gs _ _) rfl rfl
theorem wantG_range (y : gT) : wantG y = 0 ∨ wantG y = 1 ∨ wantG y = 2 ∨ wantG y = 3 ∨ wantG y = 4 ∨ wantG y = 5 ∨ wantG y = 6 ∨ wantG y = 7 := by
 unfold wantG opWant
 (repeat' split) <;> decide
def hasB (x : bT) (g : Int) : Bool := bareOk x && (guestAt x g).2 && (wantG (guestAt x g).1 != 0)
theorem hasB_at {x : bT} {g : Int} (h : hasB x g = true) : (guestAt x g).2 = true := by
 unfold hasB at h
 simp only [Bool.and_eq_true] at h
 exact h.1.2
theorem no_step {x : bT} {g : Int} (h : hasB x g = false) : stepB x g = (x, false) := by
 unfold hasB at h
 unfold stepB
 refine if_pos ?_
 revert h
 unfold bne
 cases (guestAt x g).2 <;> cases bareOk x <;> cases (wantG (guestAt x g).1 == 0) <;> simp
theorem step_plat {x : bT} {g : Int} (h : hasB x g = true) : stepB x g = (withG (platB x (guestAt x g).1).1 g (platB x (guestAt x g).1).2, true) := by
 obtain ⟨j, rfl, hj, e⟩ := guestAt_some (hasB_at h)
 unfold hasB at h
 simp only [Bool.and_eq_true] at h
 obtain ⟨⟨h1, h2⟩, h3⟩ := h
 generalize hy : (guestAt x (j : Int)).1 = y at h3 ⊢
 have hw : ∀ b z, b.gs = x.gs → withG b (j : Int) z = putG b (j : Int) z := fun b z hb => by
  unfold withG putG
  rw [if_pos (inB_iff.2 ⟨by omega, by rw [hb]; omega⟩)]
 rw [hw _ _ (plat_gs x y)]
 unfold stepB
 rw [hy, h1, h2, if_neg (by revert h3; unfold bne; cases (wantG y == 0) <;> simp)]
 refine congrArg (fun z => (z, true)) ?_
 have n0 : wantG y ≠ 0 := fun e => by rw [e] at h3; exact absurd h3 (by decide)
 rcases wantG_range y with q | q | q | q | q | q | q | q
 ·
  exact absurd q n0
 ·
  simp [stepG, platB, q]
 ·
  simp [stepG, platB, q]
 ·
  cases hi : (innerW y.lv (Addrs.addrP (addrG y)) (Rights.need false)).2 <;> simp [stepG, platB, loadP, loadV, q, hi]
 ·
  cases hi : (innerW y.lv (Addrs.addrP (addrG y)) (Rights.need true)).2 <;> simp [stepG, platB, storeP, storeM, q, hi]
 ·
  cases hi : Ctls.hasTrap y.t.1 1 <;> simp [stepG, platB, outP, trapG, q, hi]
 ·
  simp [stepG, platB, trapG, q]
 ·
  cases hi : Ctls.hasTrap y.t.1 2 <;> simp [stepG, platB, haltP, trapG, q, hi]
def GivesBW (w : World) (x : bT × List Bool) (e : Ending) (w' : World) : Prop := ∃ cs v F G, e = .returned (.tuple #[.agg (cs : List Value).toArray, v]) ∧ St w w' [ow wB w.heap.size w'.heap.size x.1 cs F, ow (rLsw rBool) w.heap.size w'.heap.size x.2 [v] G]
theorem implx_hasstep (x : bT) (cs : List Value) (g : Int) (w : World) (hc : wB.cap x) (h : wB.rd w 0 w.heap.size x cs) (hn : wB.wf x) : Calls Tryz.prog 44 #[.agg cs.toArray, .int .i64 g] w (fun e w' => e = .returned (.bool (hasB x g)) ∧ Below w.heap.size w w') := by
 have hgl : x.gs.length ≤ 1048576 := hc.2.1.1
 have hR := h
 obtain ⟨hP0, hP1, hP2, rfl, hf0, hf1, hf2⟩ := wB_rd h
 obtain ⟨hA0, hK0, he0, -⟩ := lst_val hf0
 subst he0
 obtain ⟨hA1, hK1, he1, -⟩ := lst_val hf1
 subst he1
 obtain ⟨hA2, hK2, he2, -⟩ := lst_val hf2
 subst he2
 refine Sx.enter (args := [.agg #[.slice hA0 x.mem.length hK0, .slice hA1 x.gs.length hK1, .slice hA2 x.outs.length hK2, .int .i64 x.pd], .int .i64 g]) Tryz.func44 rfl Tryz.ntmps44 rfl ?_
 refine Sx.C.seq (Sx.C.region ?_)
 refine Sx.G.b [.slice hA0 x.mem.length hK0, .slice hA1 x.gs.length hK1, .slice hA2 x.outs.length hK2, .int .i64 x.pd] (fun b1 => ?_)
 refine Sx.G.p (.bool false) ?_
 refine Sx.G.nil (Sx.E.next (Sx.C.seq (Sx.C.region ?_)))
 refine Sx.G.lw .m0 ?_
 refine Sx.G.cp 97 #[.agg #[.slice hA0 x.mem.length hK0, .slice hA1 x.gs.length hK1, .slice hA2 x.outs.length hK2, .int .i64 x.pd]] (.bool (bareOk x)) (fun w S => by exact impl_bok x _ _ hn hc (St.old S hR)) ?_
 refine Sx.G.p (.bool (bareOk x)) ?_
 cases hc2 : (bareOk x)
 ·
  have hb2 := hc2
  refine Sx.G.k ?_
  refine Sx.G.k ?_
  refine Sx.G.k ?_
  refine Sx.G.k ?_
  refine Sx.G.p (.bool false) ?_
  refine Sx.G.p (.bool false) ?_
  refine Sx.G.k ?_
  refine Sx.G.k ?_
  refine Sx.G.k ?_
  refine Sx.G.k ?_
  refine Sx.G.k ?_
  refine Sx.G.k ?_
  refine Sx.G.k ?_
  refine Sx.G.p (.bool false) ?_
  refine Sx.G.p (.bool false) ?_
  refine Sx.G.nil (Sx.E.next (Sx.C.ret ?_))
  refine Sx.E.ret1 (.bool false) rfl (by kernel_rfl) (fun w S => ?_)
  exact ⟨congrArg Ending.returned (congrArg Value.bool (by simp only [hasB, hb2, Bool.false_and])), S.below⟩
 ·
  have hb2 := hc2
  refine Sx.G.p (.pointer (some ⟨b1, 1, none⟩)) ?_
  refine Sx.G.g (.slice hA1 x.gs.length hK1) .m0 .m1 ?_
  refine Sx.G.p (.int .i64 g) ?_
  refine Sx.G.cp 98 #[.slice hA1 x.gs.length hK1, .int .i64 g] (.bool (inB g 0 (((x.gs.length : Nat) : Int) - 1))) (fun w S => by exact implx_has hA1 x.gs.length hK1 g _) ?_
  refine Sx.G.p (.bool (inB g 0 (((x.gs.length : Nat) : Int) - 1))) ?_
  refine Sx.G.p (.bool (inB g 0 (((x.gs.length : Nat) : Int) - 1))) ?_
  cases hc3 : (inB g 0 (((x.gs.length : Nat) : Int) - 1))
  ·
   have hb3 := hc3
   refine Sx.G.k ?_
   refine Sx.G.k ?_
   refine Sx.G.k ?_
   refine Sx.G.k ?_
   refine Sx.G.k ?_
   refine Sx.G.k ?_
   refine Sx.G.k ?_
   refine Sx.G.p (.bool false) ?_
   refine Sx.G.p (.bool false) ?_
   refine Sx.G.nil (Sx.E.next (Sx.C.ret ?_))
   refine Sx.E.ret1 (.bool false) rfl (by kernel_rfl) (fun w S => ?_)
   have hga : (guestAt x g).2 = false := by unfold guestAt; rw [if_neg (by rw [hc3]; decide)]
   exact ⟨congrArg Ending.returned (congrArg Value.bool (by simp only [hasB, hga, hb2, hb3, Bool.and_false, Bool.false_and])), S.below⟩
  ·
   have hb3 := hc3
   have hin := inB_iff.1 hc3
   obtain ⟨j, hj⟩ : ∃ j : Nat, g = (j : Int) := ⟨g.toNat, by omega⟩
   subst hj
   have hjl : j < x.gs.length := by omega
   refine Sx.G.p (.pointer (some ⟨b1, 1, none⟩)) ?_
   refine Sx.G.g (.slice hA1 x.gs.length hK1) .m0 .m1 ?_
   refine Sx.G.p (.int .i64 (j : Int)) ?_
   obtain ⟨b4, f4, es4, eA4, hr4, hl4, hm4⟩ := Sx.old_elem (by decide) hf1 j (by omega)
   subst eA4
   obtain ⟨x4, hx4⟩ : ∃ z_, z_ = (x.gs[j]'(by omega)) := ⟨_, rfl⟩
   rw [← hx4] at hr4
   have hR4 := hr4
   obtain ⟨P4_0, P4_1, P4_2, P4_3, rfl, hf4_0, hf4_1, hf4_2, hf4_3⟩ := wG_rd hr4
   obtain ⟨A4_0, c4_0, e4_0, -⟩ := lst_val hf4_0
   subst e4_0
   obtain ⟨A4_1, c4_1, e4_1, -⟩ := lst_val hf4_1
   subst e4_1
   obtain ⟨A4_2, c4_2, e4_2, -⟩ := lst_val hf4_2
   subst e4_2
   obtain ⟨A4_3, c4_3, e4_3, -⟩ := lst_val hf4_3
   subst e4_3
   refine Sx.G.elem 25 56 (.tmp 15) (.tmp 16) 15 184 b4 f4 x.gs.length hK1 j rfl (by kernel_rfl) (by kernel_rfl) (by kernel_rfl) (by kernel_rfl) (by omega) ?_
   refine Sx.G.ldr 56 (.tmp 17) b4 (f4 + j * 15) [.slice A4_0 x4.prog.length c4_0, .int .i64 x4.a, .int .i64 x4.pc, .slice A4_1 x4.wr.length c4_1, .slice A4_2 x4.lv.length c4_2, .int .i64 x4.t.1, .int .i64 x4.t.2.1, .bool x4.t.2.2, .int .i64 x4.pd, .int .i64 x4.x.1, .int .i64 x4.x.2.1, .bool x4.x.2.2.1, .int .i64 x4.x.2.2.2, .bool x4.hl, .slice A4_3 x4.seen.length c4_3] rfl (by kernel_rfl) (by kernel_rfl) (fun w S => hm4 w _ S) (by kernel_rfl) (by kernel_rfl) ?_
   refine Sx.G.cp 99 #[.agg #[.slice A4_0 x4.prog.length c4_0, .int .i64 x4.a, .int .i64 x4.pc, .slice A4_1 x4.wr.length c4_1, .slice A4_2 x4.lv.length c4_2, .int .i64 x4.t.1, .int .i64 x4.t.2.1, .bool x4.t.2.2, .int .i64 x4.pd, .int .i64 x4.x.1, .int .i64 x4.x.2.1, .bool x4.x.2.2.1, .int .i64 x4.x.2.2.2, .bool x4.hl, .slice A4_3 x4.seen.length c4_3]] (.int .i64 (wantG x4)) (fun w S => by exact Guests.impl_want x4 _ _ (hn.2.1.2 _ (hx4 ▸ List.getElem_mem _)) (cap_G (hc.2.1.2 _ (hx4 ▸ List.getElem_mem _))) (rd_G (St.old S hR4))) ?_
   refine Sx.G.p (.bool ((wantG x4) != 0)) ?_
   refine Sx.G.p (.bool ((wantG x4) != 0)) ?_
   refine Sx.G.p (.bool ((wantG x4) != 0)) ?_
   refine Sx.G.nil (Sx.E.next (Sx.C.ret ?_))
   refine Sx.E.ret1 (.bool ((wantG x4) != 0)) rfl (by kernel_rfl) (fun w S => ?_)
   have hga : guestAt x (j : Int) = (x4, true) := by rw [hx4]; unfold guestAt; rw [hc3, if_pos rfl]; simp [List.getD_eq_getElem?_getD, hjl]
   exact ⟨congrArg Ending.returned (congrArg Value.bool (by simp only [hasB, hga, hb2, hb3, Bool.true_and])), S.below⟩
theorem implx_step (x : bT) (cs : List Value) (g : Int) (w : World) (hc : wB.cap x) (h : wB.rd w 0 w.heap.size x cs) (hn : wB.wf x) (hg : (Lit.int .i64 g).wf = true) (hwk : WalksOk w (guestAt x g).1) : Calls Tryz.prog 11 #[.agg cs.toArray, .int .i64 g] w (Gives2 wB w (stepB x g)) := by
 have hgl : x.gs.length ≤ 1048576 := hc.2.1.1
 have hR := h
 obtain ⟨hP0, hP1, hP2, rfl, hf0, hf1, hf2⟩ := wB_rd h
 obtain ⟨hA0, hK0, he0, -⟩ := lst_val hf0
 subst he0
 obtain ⟨hA1, hK1, he1, -⟩ := lst_val hf1
 subst he1
 obtain ⟨hA2, hK2, he2, -⟩ := lst_val hf2
 subst he2
 refine Sx.enter (args := [.agg #[.slice hA0 x.mem.length hK0, .slice hA1 x.gs.length hK1, .slice hA2 x.outs.length hK2, .int .i64 x.pd], .int .i64 g]) Tryz.func11 rfl Tryz.ntmps11 rfl ?_
 refine Sx.C.seq (Sx.C.region ?_)
 refine Sx.G.b [.slice hA0 x.mem.length hK0, .slice hA1 x.gs.length hK1, .slice hA2 x.outs.length hK2, .int .i64 x.pd] (fun b1 => ?_)
 refine Sx.G.ar [.slice none 0 0, .slice none 0 0, .slice none 0 0, .int .i64 0] (fun b2 => ?_)
 refine Sx.G.p (.bool false) ?_
 refine Sx.G.nil (Sx.E.next (Sx.C.seq (Sx.C.seq (Sx.C.region ?_))))
 refine Sx.G.lw .m1 ?_
 refine Sx.G.p (.int .i64 g) ?_
 refine Sx.G.cp 44 #[.agg #[.slice hA0 x.mem.length hK0, .slice hA1 x.gs.length hK1, .slice hA2 x.outs.length hK2, .int .i64 x.pd], .int .i64 g] (.bool (hasB x g)) (fun w S => by exact implx_hasstep x _ g _ hc (St.old S hR) hn) ?_
 refine Sx.G.p (.bool (!(hasB x g))) ?_
 refine Sx.G.nil (Sx.E.next ?_)
 cases hc3 : (hasB x g)
 ·
  have hb3 := hc3
  refine Sx.C.yy (Sx.C.seq (Sx.C.region ?_))
  refine Sx.G.lw .m1 ?_
  refine Sx.G.c 45 #[.agg #[.slice hA0 x.mem.length hK0, .slice hA1 x.gs.length hK1, .slice hA2 x.outs.length hK2, .int .i64 x.pd]] (fun w4 S => (implx_copybare x _ _ hc (St.old S hR)).mono fun e w4' hp => ?_)
  obtain ⟨cs, F, rfl, ho, hF, hb⟩ := hp
  obtain ⟨P4_0, P4_1, P4_2, G4_0, G4_1, G4_2, rfl, S'⟩ := rB_open (St.got S hb ho hF)
  obtain ⟨A4_0, c4_0, e4_0, -⟩ := lst_val (S'.reads 0 rfl)
  subst e4_0
  obtain ⟨A4_1, c4_1, e4_1, -⟩ := lst_val (S'.reads 1 rfl)
  subst e4_1
  obtain ⟨A4_2, c4_2, e4_2, -⟩ := lst_val (S'.reads 2 rfl)
  subst e4_2
  refine ⟨_, _, rfl, S', ?_⟩
  clear S S' ho hF hb
  refine Sx.G.sw [.slice A4_0 x.mem.length c4_0, .slice A4_1 x.gs.length c4_1, .slice A4_2 x.outs.length c4_2, .int .i64 x.pd] .a3 ?_
  refine Sx.G.p (.bool false) ?_
  refine Sx.G.nil (Sx.E.next (Sx.C.ret (Sx.E.then_ret ?_)))
  refine Sx.E.retg2 (.agg #[.slice A4_0 x.mem.length c4_0, .slice A4_1 x.gs.length c4_1, .slice A4_2 x.outs.length c4_2, .int .i64 x.pd]) (.bool false) rfl (Sx.IsRes.row b2 3 [.slice A4_0 x.mem.length c4_0, .slice A4_1 x.gs.length c4_1, .slice A4_2 x.outs.length c4_2, .int .i64 x.pd] (by kernel_rfl) rfl (by kernel_rfl) (by kernel_rfl)) (Sx.IsRes.slot (by kernel_rfl)) (fun w S => ?_)
  rw [no_step hb3]
  obtain ⟨GW2, S⟩ := S.weak 2 rfl
  obtain ⟨ho, hF⟩ := wB_shut (g := x) S 0 rfl 1 rfl 2 rfl (by decide) (by decide) (by decide)
  exact ⟨_, _, rfl, ho, hF, S.below⟩
 ·
  have hb3 := hc3
  obtain ⟨j, hj, hjl, hyj⟩ := guestAt_some (hasB_at hc3)
  subst hj
  refine Sx.C.nn (Sx.C.skip (Sx.E.next (Sx.C.seq ?_)))
  obtain ⟨b5, f5, es5, eA5, hr5, hl5, hm5⟩ := Sx.old_elem (by decide) hf1 j (by omega)
  subst eA5
  obtain ⟨x5, hx5⟩ : ∃ z_, z_ = (x.gs[j]'(by omega)) := ⟨_, rfl⟩
  rw [← hx5] at hr5
  have hR5 := hr5
  obtain ⟨P5_0, P5_1, P5_2, P5_3, rfl, hf5_0, hf5_1, hf5_2, hf5_3⟩ := wG_rd hr5
  obtain ⟨A5_0, c5_0, e5_0, -⟩ := lst_val hf5_0
  subst e5_0
  obtain ⟨A5_1, c5_1, e5_1, -⟩ := lst_val hf5_1
  subst e5_1
  obtain ⟨A5_2, c5_2, e5_2, -⟩ := lst_val hf5_2
  subst e5_2
  obtain ⟨A5_3, c5_3, e5_3, -⟩ := lst_val hf5_3
  subst e5_3
  have hyy : (guestAt x (j : Int)).1 = x5 := hyj.trans hx5.symm
  have hwy := hwk
  rw [hyy] at hwy
  have hny : wfGuest x5 := hn.2.1.2 _ (hx5 ▸ List.getElem_mem _)
  have hcy : wG.cap x5 := hc.2.1.2 _ (hx5 ▸ List.getElem_mem _)
  refine Sx.C.draw (.take 0 (.take 1 (.take 2 (.take 3 (.take 4 (.take 5 (.take 6 (.alone 7 (.take 8 .nil))))))))) [vr b1 [.slice hA0 x.mem.length hK0, .slice (some ⟨b5, f5, none⟩) x.gs.length hK1, .slice hA2 x.outs.length hK2, .int .i64 x.pd]] (fun w S => St.pick S [1] _ rfl (by decide)) (by kernel_rfl) (by kernel_rfl) (by kernel_rfl) ?_
  refine Sx.GT.lw .m0 ?_
  refine Sx.GT.p (.pointer (some ⟨b1, 1, none⟩)) ?_
  refine Sx.GT.g (.slice (some ⟨b5, f5, none⟩) x.gs.length hK1) .m0 .m1 ?_
  refine Sx.GT.p (.int .i64 (j : Int)) ?_
  refine Sx.GT.elem 25 56 (.tmp 16) (.tmp 17) 15 184 b5 f5 x.gs.length hK1 j 4 (by rfl) (by rfl) (by kernel_rfl) (by kernel_rfl) (by kernel_rfl) (by kernel_rfl) (by omega) ?_
  refine Sx.GT.ldr 56 (.tmp 18) b5 (f5 + j * 15) [.slice A5_0 x5.prog.length c5_0, .int .i64 x5.a, .int .i64 x5.pc, .slice A5_1 x5.wr.length c5_1, .slice A5_2 x5.lv.length c5_2, .int .i64 x5.t.1, .int .i64 x5.t.2.1, .bool x5.t.2.2, .int .i64 x5.pd, .int .i64 x5.x.1, .int .i64 x5.x.2.1, .bool x5.x.2.2.1, .int .i64 x5.x.2.2.2, .bool x5.hl, .slice A5_3 x5.seen.length c5_3] 5 (by rfl) (by rfl) (by kernel_rfl) (by kernel_rfl) (fun w S => hm5 w _ S) (by kernel_rfl) (by kernel_rfl) ?_
  refine Sx.GT.p (.agg #[.slice hA0 x.mem.length hK0, .slice (some ⟨b5, f5, none⟩) x.gs.length hK1, .slice hA2 x.outs.length hK2, .int .i64 x.pd, .slice A5_0 x5.prog.length c5_0, .int .i64 x5.a, .int .i64 x5.pc, .slice A5_1 x5.wr.length c5_1, .slice A5_2 x5.lv.length c5_2, .int .i64 x5.t.1, .int .i64 x5.t.2.1, .bool x5.t.2.2, .int .i64 x5.pd, .int .i64 x5.x.1, .int .i64 x5.x.2.1, .bool x5.x.2.2.1, .int .i64 x5.x.2.2.2, .bool x5.hl, .slice A5_3 x5.seen.length c5_3]) ?_
  refine Sx.GT.alone (Sx.Alone.b [.slice hA0 x.mem.length hK0, .slice (some ⟨b5, f5, none⟩) x.gs.length hK1, .slice hA2 x.outs.length hK2, .int .i64 x.pd, .slice A5_0 x5.prog.length c5_0, .int .i64 x5.a, .int .i64 x5.pc, .slice A5_1 x5.wr.length c5_1, .slice A5_2 x5.lv.length c5_2, .int .i64 x5.t.1, .int .i64 x5.t.2.1, .bool x5.t.2.2, .int .i64 x5.pd, .int .i64 x5.x.1, .int .i64 x5.x.2.1, .bool x5.x.2.2.1, .int .i64 x5.x.2.2.2, .bool x5.hl, .slice A5_3 x5.seen.length c5_3] (fun w S => St.pick S [1] _ rfl (by decide)) (fun b6 => ?_))
  refine Sx.GT.p (.pointer (some ⟨b6, 0, none⟩)) ?_
  refine Sx.GT.nil (Sx.E.next (Sx.C.seq ?_))
  refine Sx.C.sl [(1, .int .i64 (j : Int)), (4, .pointer (some ⟨b2, 0, none⟩)), (5, .bool false), (6, .pointer (some ⟨b6, 0, none⟩))] ?_
  refine Sx.C.region ?_
  refine Sx.G.p (.pointer (some ⟨b6, 0, none⟩)) ?_
  refine Sx.G.p (.iface 77 (.pointer (some ⟨b6, 0, none⟩))) ?_
  refine Sx.G.p (.pointer (some ⟨b6, 0, none⟩)) ?_
  refine Sx.G.p (.pointer (some ⟨b6, 0, none⟩)) ?_
  refine Sx.G.p (.pointer (some ⟨b6, 4, none⟩)) ?_
  refine Sx.G.lp 4 [.slice A5_0 x5.prog.length c5_0, .int .i64 x5.a, .int .i64 x5.pc, .slice A5_1 x5.wr.length c5_1, .slice A5_2 x5.lv.length c5_2, .int .i64 x5.t.1, .int .i64 x5.t.2.1, .bool x5.t.2.2, .int .i64 x5.pd, .int .i64 x5.x.1, .int .i64 x5.x.2.1, .bool x5.x.2.2.1, .int .i64 x5.x.2.2.2, .bool x5.hl, .slice A5_3 x5.seen.length c5_3] .m0 ?_
  refine Sx.G.c 46 #[.iface 77 (.pointer (some ⟨b6, 0, none⟩)), .agg #[.slice A5_0 x5.prog.length c5_0, .int .i64 x5.a, .int .i64 x5.pc, .slice A5_1 x5.wr.length c5_1, .slice A5_2 x5.lv.length c5_2, .int .i64 x5.t.1, .int .i64 x5.t.2.1, .bool x5.t.2.2, .int .i64 x5.pd, .int .i64 x5.x.1, .int .i64 x5.x.2.1, .bool x5.x.2.2.1, .int .i64 x5.x.2.2.2, .bool x5.hl, .slice A5_3 x5.seen.length c5_3]] (fun w7 S => (plat_stepOn x x5 hn hc hny hcy hR hR5 hwy S).mono fun e w7' hp => ?_)
  obtain ⟨zs, lo7, hi7, F7, A7, c7, A7', c7', A7'', c7'', l7, h7, G7, rfl, S'⟩ := hp
  obtain ⟨m7, hX7⟩ : ∃ z, z = (platB x x5).1 := ⟨_, rfl⟩
  obtain ⟨g7, hZ7⟩ : ∃ z, z = (platB x x5).2 := ⟨_, rfl⟩
  rw [← hX7, ← hZ7] at S'
  obtain ⟨P7_0, P7_1, P7_2, P7_3, rfl, f7_0, f7_1, f7_2, f7_3⟩ := wG_rd (St.reads S' 0 rfl)
  obtain ⟨A7_0, c7_0, e7_0, -⟩ := lst_val f7_0
  subst e7_0
  obtain ⟨A7_1, c7_1, e7_1, -⟩ := lst_val f7_1
  subst e7_1
  obtain ⟨A7_2, c7_2, e7_2, -⟩ := lst_val f7_2
  subst e7_2
  obtain ⟨A7_3, c7_3, e7_3, -⟩ := lst_val f7_3
  subst e7_3
  refine ⟨_, _, rfl, S', ?_⟩
  clear S S' f7_0 f7_1 f7_2 f7_3
  have HO := plat_ok hn hc hny hcy
  rw [← hX7, ← hZ7] at HO
  refine Sx.G.ar [.slice none 0 0, .int .i64 0, .int .i64 0, .slice none 0 0, .slice none 0 0, .int .i64 0, .int .i64 0, .bool false, .int .i64 0, .int .i64 0, .int .i64 0, .bool false, .int .i64 0, .bool false, .slice none 0 0] (fun b8 => ?_)
  refine Sx.G.sw [.slice A7_0 g7.prog.length c7_0, .int .i64 g7.a, .int .i64 g7.pc, .slice A7_1 g7.wr.length c7_1, .slice A7_2 g7.lv.length c7_2, .int .i64 g7.t.1, .int .i64 g7.t.2.1, .bool g7.t.2.2, .int .i64 g7.pd, .int .i64 g7.x.1, .int .i64 g7.x.2.1, .bool g7.x.2.2.1, .int .i64 g7.x.2.2.2, .bool g7.hl, .slice A7_3 g7.seen.length c7_3] .a0 ?_
  refine Sx.G.nil (Sx.E.next (Sx.C.seq ?_))
  refine Sx.C.draw (.take 0 (.take 1 (.take 2 (.take 3 (.take 4 (.take 5 (.alone 6 (.alone 7 (.take 8 .nil))))))))) [vr b8 [.slice A7_0 g7.prog.length c7_0, .int .i64 g7.a, .int .i64 g7.pc, .slice A7_1 g7.wr.length c7_1, .slice A7_2 g7.lv.length c7_2, .int .i64 g7.t.1, .int .i64 g7.t.2.1, .bool g7.t.2.2, .int .i64 g7.pd, .int .i64 g7.x.1, .int .i64 g7.x.2.1, .bool g7.x.2.2.1, .int .i64 g7.x.2.2.2, .bool g7.hl, .slice A7_3 g7.seen.length c7_3], vr b6 [.slice A7 m7.mem.length c7, .slice A7' m7.gs.length c7', .slice A7'' m7.outs.length c7'', .int .i64 m7.pd, .slice A5_0 x5.prog.length c5_0, .int .i64 x5.a, .int .i64 x5.pc, .slice A5_1 x5.wr.length c5_1, .slice A5_2 x5.lv.length c5_2, .int .i64 x5.t.1, .int .i64 x5.t.2.1, .bool x5.t.2.2, .int .i64 x5.pd, .int .i64 x5.x.1, .int .i64 x5.x.2.1, .bool x5.x.2.2.1, .int .i64 x5.x.2.2.2, .bool x5.hl, .slice A5_3 x5.seen.length c5_3]] (fun w S => St.pick S [0, 2] _ rfl (by decide)) (by kernel_rfl) (by kernel_rfl) (by kernel_rfl) ?_
  refine Sx.GT.p (.pointer (some ⟨b6, 0, none⟩)) ?_
  refine Sx.GT.p (.pointer (some ⟨b6, 0, none⟩)) ?_
  refine Sx.GT.p (.pointer (some ⟨b6, 0, none⟩)) ?_
  refine Sx.GT.lp 0 [.slice A7 m7.mem.length c7, .slice A7' m7.gs.length c7', .slice A7'' m7.outs.length c7'', .int .i64 m7.pd] .m1 ?_
  refine Sx.GT.p (.int .i64 (j : Int)) ?_
  refine Sx.GT.lw .m0 ?_
  refine Sx.GT.alone (Sx.Alone.c 47 #[.agg #[.slice A7 m7.mem.length c7, .slice A7' m7.gs.length c7', .slice A7'' m7.outs.length c7'', .int .i64 m7.pd], .int .i64 (j : Int), .agg #[.slice A7_0 g7.prog.length c7_0, .int .i64 g7.a, .int .i64 g7.pc, .slice A7_1 g7.wr.length c7_1, .slice A7_2 g7.lv.length c7_2, .int .i64 g7.t.1, .int .i64 g7.t.2.1, .bool g7.t.2.2, .int .i64 g7.pd, .int .i64 g7.x.1, .int .i64 g7.x.2.1, .bool g7.x.2.2.1, .int .i64 g7.x.2.2.2, .bool g7.hl, .slice A7_3 g7.seen.length c7_3]] (fun w9 S => (impl_withg m7 _ (j : Int) g7 _ _ HO.1 HO.2.1 (mix_rd S 3 rfl) hg HO.2.2.1 HO.2.2.2 (St.reads (r := wG) S 1 rfl)).mono fun e w9' hp => ?_))
  obtain ⟨cs, F, rfl, ho, hF, hb⟩ := hp
  obtain ⟨P9_0, P9_1, P9_2, rfl, f9_0, f9_1, f9_2⟩ := wB_rd (wB.reads ho)
  obtain ⟨A9_0, c9_0, e9_0, -⟩ := lst_val f9_0
  subst e9_0
  obtain ⟨A9_1, c9_1, e9_1, -⟩ := lst_val f9_1
  subst e9_1
  obtain ⟨A9_2, c9_2, e9_2, -⟩ := lst_val f9_2
  subst e9_2
  generalize F = F9 at ho hF
  refine ⟨_, _, rfl, (St.got S hb ho hF), (fun w S => St.pick S [1, 3] _ rfl (by decide)), ?_⟩
  clear S hb ho hF f9_0 f9_1 f9_2
  refine Sx.GT.alone (Sx.Alone.sw [.slice A9_0 (withG m7 (j : Int) g7).mem.length c9_0, .slice A9_1 (withG m7 (j : Int) g7).gs.length c9_1, .slice A9_2 (withG m7 (j : Int) g7).outs.length c9_2, .int .i64 (withG m7 (j : Int) g7).pd] .a5 (fun w S => St.pick S [1, 3] _ rfl (by decide)) ?_)
  refine Sx.GT.p (.bool true) ?_
  refine Sx.GT.nil (Sx.E.next (Sx.C.ret ?_))
  refine Sx.E.retg2 (.agg #[.slice A9_0 (withG m7 (j : Int) g7).mem.length c9_0, .slice A9_1 (withG m7 (j : Int) g7).gs.length c9_1, .slice A9_2 (withG m7 (j : Int) g7).outs.length c9_2, .int .i64 (withG m7 (j : Int) g7).pd]) (.bool true) rfl (Sx.IsRes.row b2 5 [.slice A9_0 (withG m7 (j : Int) g7).mem.length c9_0, .slice A9_1 (withG m7 (j : Int) g7).gs.length c9_1, .slice A9_2 (withG m7 (j : Int) g7).outs.length c9_2, .int .i64 (withG m7 (j : Int) g7).pd] (by kernel_rfl) rfl (by kernel_rfl) (by kernel_rfl)) (Sx.IsRes.slot (by kernel_rfl)) (fun w S => ?_)
  rw [step_plat hb3, hyy, ← hX7, ← hZ7]
  exact ⟨_, _, rfl, S.own 0 rfl, S.nodup 0 rfl, S.below⟩
theorem implx_steps (x : bT) (cs : List Value) (l : List Int) (A : Option Addr) (c : Nat) (w : World) (hc : wB.cap x) (h : wB.rd w 0 w.heap.size x cs) (hn : wB.wf x) (hl : (rLsw rInt).wf l) (hlc : (rLsw rInt).cap l) (k : rdLst rInt w 0 w.heap.size l [.slice A l.length c]) (hwk : ∀ i (hi : i < l.length), WalksOk w (guestAt (stepsB x (l.take i)).1 l[i]).1) : Calls Tryz.prog 14 #[.agg cs.toArray, .slice A l.length c] w (GivesBW w (stepsB x l)) := by
 have hR := h
 obtain ⟨hP0, hP1, hP2, rfl, hf0, hf1, hf2⟩ := wB_rd h
 obtain ⟨hA0, hK0, he0, -⟩ := lst_val hf0
 subst he0
 obtain ⟨hA1, hK1, he1, -⟩ := lst_val hf1
 subst he1
 obtain ⟨hA2, hK2, he2, -⟩ := lst_val hf2
 subst he2
 have hll : l.length ≤ 1048576 := hlc.1
 obtain ⟨n, hln⟩ : ∃ n, n = l.length := ⟨_, rfl⟩
 refine Sx.enter (args := [.agg #[.slice hA0 x.mem.length hK0, .slice hA1 x.gs.length hK1, .slice hA2 x.outs.length hK2, .int .i64 x.pd], .slice A l.length c]) Tryz.func14 rfl Tryz.ntmps14 rfl ?_
 refine Sx.C.seq (Sx.C.region ?_)
 refine Sx.G.b [.slice hA0 x.mem.length hK0, .slice hA1 x.gs.length hK1, .slice hA2 x.outs.length hK2, .int .i64 x.pd] (fun b1 => ?_)
 refine Sx.G.ar [.slice none 0 0, .slice none 0 0, .slice none 0 0, .int .i64 0] (fun b2 => ?_)
 refine Sx.G.p (.slice none 0 0) ?_
 refine Sx.G.nil (Sx.E.next (Sx.C.seq (Sx.C.region ?_)))
 refine Sx.G.lw .m1 ?_
 refine Sx.G.c 45 #[.agg #[.slice hA0 x.mem.length hK0, .slice hA1 x.gs.length hK1, .slice hA2 x.outs.length hK2, .int .i64 x.pd]] (fun w3 S => (((implx_copybare x _ _ hc (St.old S hR)).mono weak_B)).mono fun e w3' hp => ?_)
 obtain ⟨cs, F, rfl, ho, hF, hb⟩ := hp
 obtain ⟨P3_0, P3_1, P3_2, rfl, f3_0, f3_1, f3_2⟩ := wB_rd (wB.reads ho)
 obtain ⟨A3_0, c3_0, e3_0, -⟩ := lst_val f3_0
 subst e3_0
 obtain ⟨A3_1, c3_1, e3_1, -⟩ := lst_val f3_1
 subst e3_1
 obtain ⟨A3_2, c3_2, e3_2, -⟩ := lst_val f3_2
 subst e3_2
 generalize F = F3 at ho hF
 refine ⟨_, _, rfl, (St.got S hb ho hF), ?_⟩
 clear S hb ho hF f3_0 f3_1 f3_2
 refine Sx.G.sw [.slice A3_0 x.mem.length c3_0, .slice A3_1 x.gs.length c3_1, .slice A3_2 x.outs.length c3_2, .int .i64 x.pd] .a2 ?_
 refine Sx.G.nil (Sx.E.next (Sx.C.seq (Sx.C.region ?_)))
 refine Sx.G.p (.slice A l.length c) ?_
 refine Sx.G.p (.int .i64 ((l.length : Nat) : Int)) ?_
 refine Sx.G.mks (r := rBool) false [.bool false] 35 4 (.tmp 12) (.tmp 12) 1 1 l.length rfl (by kernel_rfl) (by kernel_rfl) (by kernel_rfl) rfl rfl (fun w lo hi => Kit.own_mk_Bool w lo hi false) (by kernel_rfl) (by kernel_rfl) (by simp only [maxLen]; omega) (by omega) (fun b4 hi4 F4 => ?_)
 refine Sx.G.p (.slice (some ⟨b4, 0, none⟩) l.length l.length) ?_
 refine Sx.G.nil (Sx.E.next (Sx.C.seq (Sx.C.seq (Sx.C.region ?_))))
 refine Sx.G.p (.slice A l.length c) ?_
 refine Sx.G.p (.int .i64 ((l.length : Nat) : Int)) ?_
 refine Sx.G.p (.int .i64 0) ?_
 refine Sx.G.nil (Sx.E.next (Sx.C.block ?_))
 refine Sx.C.loop (α := Nat × bT × List Bool × Option Addr × Nat × Option Addr × Nat × Option Addr × Nat × Nat × Nat × List Nat × Nat × List Nat) (fun x_ => x_.1 ≤ l.length ∧ x_.2.1 = (stepsB x (l.take x_.1)).1 ∧ x_.2.2.1 = (stepsB x (l.take x_.1)).2) (fun x_ => [(16, .int .i64 (x_.1 : Int)), (2, .pointer (some ⟨b1, 0, none⟩)), (4, .pointer (some ⟨b2, 0, none⟩)), (5, .slice none 0 0), (6, .slice (some ⟨b4, 0, none⟩) l.length l.length), (14, .slice A l.length c), (15, .int .i64 ((l.length : Nat) : Int))]) (fun x_ => [ow (rLsw rBool) w.heap.size x_.2.2.2.2.2.2.2.2.2.2.2.2.1 (x_.2.2.1 ++ List.replicate (l.length - x_.1) false) [.slice (some ⟨b4, 0, none⟩) l.length l.length] x_.2.2.2.2.2.2.2.2.2.2.2.2.2, ow wB x_.2.2.2.2.2.2.2.2.2.1 x_.2.2.2.2.2.2.2.2.2.2.1 x_.2.1 [.slice x_.2.2.2.1 x_.2.1.mem.length x_.2.2.2.2.1, .slice x_.2.2.2.2.2.1 x_.2.1.gs.length x_.2.2.2.2.2.2.1, .slice x_.2.2.2.2.2.2.2.1 x_.2.1.outs.length x_.2.2.2.2.2.2.2.2.1, .int .i64 x_.2.1.pd] x_.2.2.2.2.2.2.2.2.2.2.2.1, vr b1 [.slice x_.2.2.2.1 x_.2.1.mem.length x_.2.2.2.2.1, .slice x_.2.2.2.2.2.1 x_.2.1.gs.length x_.2.2.2.2.2.2.1, .slice x_.2.2.2.2.2.2.2.1 x_.2.1.outs.length x_.2.2.2.2.2.2.2.2.1, .int .i64 x_.2.1.pd], vr b2 [.slice none 0 0, .slice none 0 0, .slice none 0 0, .int .i64 0]]) (fun x_ => l.length - x_.1) (0, x, [], A3_0, c3_0, A3_1, c3_1, A3_2, c3_2, w3.heap.size, w3'.heap.size, F3, hi4, F4) ⟨Nat.zero_le _, rfl, rfl⟩ (fun a hA => (Sx.Ag.sub hA (by kernel_rfl))) (fun w' S => by have S2 := St.pick S [0, 1, 3, 2] [_, _, _, _] rfl (by decide); exact Sx.St.widen S2 0 rfl (Nat.le_refl _) (S2.hi 0 _ rfl)) (fun x_ hx => ?_)
 obtain ⟨i, z, t, A0, c0, A1, c1, A2, c2, lo, hi, F, mh, mF⟩ := x_
 dsimp only at hx
 obtain ⟨hi', hz, ht⟩ := hx
 have hcz : wB.cap z := hz ▸ cap_stepsB _ hc
 have hwz : wB.wf z := hz ▸ wf_stepsB _ hn
 have htl : t.length = i := by rw [ht, stepsB_len, List.length_take]; omega
 refine Sx.C.seq (Sx.C.region ?_)
 refine Sx.G.p (.bool (decide ((i : Int) < ((l.length : Nat) : Int)))) ?_
 refine Sx.G.nil (Sx.E.next (Sx.C.seq ?_))
 cases hc5 : (decide ((i : Int) < ((l.length : Nat) : Int)))
 ·
  have hb5 := hc5
  replace hc5 := of_decide_eq_false hc5
  refine Sx.C.nn (Sx.C.exit (Sx.E.then_exit (Sx.E.then_exit (Sx.E.block_hit (Sx.E.next (Sx.C.seq (Sx.C.region ?_)))))))
  refine Sx.G.lw .m2 ?_
  refine Sx.G.p (.slice (some ⟨b4, 0, none⟩) l.length l.length) ?_
  refine Sx.G.sw [.slice A0 z.mem.length c0, .slice A1 z.gs.length c1, .slice A2 z.outs.length c2, .int .i64 z.pd] .a3 ?_
  refine Sx.G.p (.slice (some ⟨b4, 0, none⟩) l.length l.length) ?_
  refine Sx.G.nil (Sx.E.next (Sx.C.ret ?_))
  refine Sx.E.retg2 (.agg #[.slice A0 z.mem.length c0, .slice A1 z.gs.length c1, .slice A2 z.outs.length c2, .int .i64 z.pd]) (.slice (some ⟨b4, 0, none⟩) l.length l.length) rfl (Sx.IsRes.row b2 3 [.slice A0 z.mem.length c0, .slice A1 z.gs.length c1, .slice A2 z.outs.length c2, .int .i64 z.pd] (by kernel_rfl) rfl (by kernel_rfl) (by kernel_rfl)) (Sx.IsRes.slot (by kernel_rfl)) (fun w S => ?_)
  have htk : l.take i = l := List.take_of_length_le (by omega)
  rw [htk] at hz ht
  rw [show l.length - i = 0 by omega, List.replicate_zero, List.append_nil] at S
  subst hz ht
  have S2 := St.pick S [1, 0] [_, _] rfl (by decide)
  have hll2 : (stepsB x l).2.length = l.length := stepsB_len x l
  exact ⟨_, _, _, _, rfl, Sx.St.widen (Sx.St.widen S2 0 rfl (S2.hi 0 _ rfl) (Nat.le_refl _)) 1 rfl (S2.hi 1 _ rfl) (Nat.le_refl _)⟩
 ·
  have hb5 := hc5
  replace hc5 := of_decide_eq_true hc5
  refine Sx.C.yy (Sx.C.skip (Sx.E.next (Sx.C.seq (Sx.C.block (Sx.C.seq ?_)))))
  obtain ⟨b6, f6, es6, eA6, hr6, hl6, hm6⟩ := Sx.old_elem (by decide) k i (by omega)
  subst eA6
  obtain ⟨x6, hx6⟩ : ∃ z_, z_ = (l[i]'(by omega)) := ⟨_, rfl⟩
  rw [← hx6] at hr6
  obtain rfl := Kit.rd_Int hr6
  refine Sx.C.region ?_
  refine Sx.G.p (.int .i64 (i : Int)) ?_
  refine Sx.G.elem 26 3 (.tmp 14) (.tmp 16) 1 8 b6 f6 l.length c i rfl (by kernel_rfl) (by kernel_rfl) (by kernel_rfl) (by kernel_rfl) (by omega) ?_
  refine Sx.G.ldr1 3 (.tmp 19) b6 ((f6 + i * 1) + 0) (.int .i64 x6) rfl (by kernel_rfl) (by kernel_rfl) (fun w S => hm6 w _ S 0 _ rfl) (by kernel_rfl) ?_
  refine Sx.G.p (.int .i64 (i : Int)) ?_
  refine Sx.G.p (.int .i64 x6) ?_
  refine Sx.G.nil (Sx.E.next ?_)
  refine Sx.C.pk (.c .m0 (.c .m1 (.c .m2 (.c .m3 .n)))) ?_
  have hil : i < l.length := by omega
  have hgi : (Lit.int .i64 x6).wf = true := hl.2 _ (hx6 ▸ List.getElem_mem _)
  have hwi : WalksOk w (guestAt z x6).1 := by have h9 := hwk i hil; rw [← hz, ← hx6] at h9; exact h9
  refine Sx.C.open (r := rBool) (pre := t) (x := false) (post := List.replicate (l.length - (i + 1)) false) (by rw [show l.length - i = (l.length - (i + 1)) + 1 by omega, List.replicate_succ]) (by decide) (fun b off es F1 Fi F2 eA eF hes hm hmc => ?_)
  obtain ⟨rfl, rfl⟩ : b4 = b ∧ 0 = off := by cases eA; exact ⟨rfl, rfl⟩
  subst eF
  refine Sx.C.know (p := es = [.bool false] ∧ Fi = []) (fun w S => Kit.own_Bool (St.at_ S 1 rfl).1) ?_
  rintro ⟨rfl, rfl⟩
  refine Sx.C.sl [(2, .pointer (some ⟨b1, 0, none⟩)), (4, .pointer (some ⟨b2, 0, none⟩)), (5, .slice none 0 0), (6, .slice (some ⟨b4, 0, none⟩) l.length l.length), (7, .int .i64 (i : Int)), (8, .int .i64 x6), (14, .slice (some ⟨b6, f6, none⟩) l.length c), (15, .int .i64 ((l.length : Nat) : Int)), (16, .int .i64 (i : Int))] ?_
  refine Sx.C.region ?_
  refine Sx.G.p (.slice (some ⟨b4, 0, none⟩) l.length l.length) ?_
  refine Sx.G.p (.int .i64 (i : Int)) ?_
  refine Sx.G.lw .m3 ?_
  refine Sx.G.p (.int .i64 x6) ?_
  refine Sx.G.c 11 #[.agg #[.slice A0 z.mem.length c0, .slice A1 z.gs.length c1, .slice A2 z.outs.length c2, .int .i64 z.pd], .int .i64 x6] (fun w7 S => (implx_step z _ x6 _ hcz (St.reads (r := wB) S 2 rfl) hwz hgi (WalksOk.below hwi S.below)).mono fun e w7' hp => ?_)
  obtain ⟨cs, F, rfl, ho, hF, hb⟩ := hp
  obtain ⟨P7_0, P7_1, P7_2, rfl, f7_0, f7_1, f7_2⟩ := wB_rd (wB.reads ho)
  obtain ⟨A7_0, c7_0, e7_0, -⟩ := lst_val f7_0
  subst e7_0
  obtain ⟨A7_1, c7_1, e7_1, -⟩ := lst_val f7_1
  subst e7_1
  obtain ⟨A7_2, c7_2, e7_2, -⟩ := lst_val f7_2
  subst e7_2
  generalize F = F7 at ho hF
  refine ⟨_, _, rfl, (St.got S hb ho hF), ?_⟩
  clear S hb ho hF f7_0 f7_1 f7_2
  refine Sx.G.p (.tuple #[.agg #[.slice A7_0 ((stepB z x6).1).mem.length c7_0, .slice A7_1 ((stepB z x6).1).gs.length c7_1, .slice A7_2 ((stepB z x6).1).outs.length c7_2, .int .i64 ((stepB z x6).1).pd], .bool (stepB z x6).2]) ?_
  refine Sx.G.p (.agg #[.slice A7_0 ((stepB z x6).1).mem.length c7_0, .slice A7_1 ((stepB z x6).1).gs.length c7_1, .slice A7_2 ((stepB z x6).1).outs.length c7_2, .int .i64 ((stepB z x6).1).pd]) ?_
  refine Sx.G.p (.bool ((stepB z x6).2)) ?_
  refine Sx.G.sw [.slice A7_0 ((stepB z x6).1).mem.length c7_0, .slice A7_1 ((stepB z x6).1).gs.length c7_1, .slice A7_2 ((stepB z x6).1).outs.length c7_2, .int .i64 ((stepB z x6).1).pd] .a4 ?_
  refine Sx.G.elem 35 4 (.tmp 22) (.tmp 23) 1 1 b4 0 l.length l.length i rfl (by kernel_rfl) (by kernel_rfl) (by kernel_rfl) (by kernel_rfl) (by omega) ?_
  refine Sx.G.hw i [.bool ((stepB z x6).2)] .a1 htl ?_
  refine Sx.G.nil (Sx.E.block_normal (Sx.E.next (Sx.C.region ?_)))
  refine Sx.G.q (.int .i64 (IntKind.i64.wrap ((i : Int) + 1))) (.int .i64 ((i + 1 : Nat) : Int)) (congrArg (Value.int .i64) (Sx.wrap_up i (by omega))) ?_
  refine Sx.G.p (.int .i64 ((i + 1 : Nat) : Int)) ?_
  refine Sx.G.nil ?_
  have HN : i + 1 ≤ l.length ∧ (stepB z x6).1 = (stepsB x (l.take (i + 1))).1 ∧ t ++ [(stepB z x6).2] = (stepsB x (l.take (i + 1))).2 := by
   rw [stepsB_up (by omega), ← hz, ← ht, hx6]
   exact ⟨by omega, rfl, rfl⟩
  exact Sx.E.again (i + 1, (stepB z x6).1, t ++ [(stepB z x6).2], A7_0, c7_0, A7_1, c7_1, A7_2, c7_2, w7.heap.size, w7'.heap.size, F7, max mh mh, _) HN (by show l.length - (i + 1) < l.length - i; omega) (fun a hA => (Sx.Ag.sub hA (by kernel_rfl))) (fun w' S => by have S2 := St.pick S [1, 2, 0, 4, 5] [_, _, _, _, _] rfl (by decide); have S3 := Sx.St.flat S2 1 rfl (stepB z x6).2 [.bool (stepB z x6).2] (fun w => Kit.own_mk_Bool w _ _ (stepB z x6).2); have S4 := Sx.St.closeW S3 (by decide) l.length l.length (by simp only [List.length_append, List.length_cons, List.length_replicate]; omega) (Nat.le_refl _); rw [show t ++ (stepB z x6).2 :: List.replicate (l.length - (i + 1)) false = (t ++ [(stepB z x6).2]) ++ List.replicate (l.length - (i + 1)) false by simp] at S4; exact S4)
end Go.Proofs.YtmiokacihcpepaaGreat.Kit
namespace Go.Proofs.YtmiokacihcpepaaGreat.Kit
set_option maxHeartbeats 8000000
set_option maxRecDepth 100000
set_option maxRecDepth 100000
open Go.ChangeShapes Go.WideShapes Go.ChangeAt Go.RowKit Go.Deep
open Go.Proofs.YtmiokacihcpepaaGreat.Base Go.Proofs.YtmiokacihcpepaaGreat.Mem Go.Proofs.YtmiokacihcpepaaGreat.Data Go.Proofs.YtmiokacihcpepaaGreat.Stt Go.Proofs.YtmiokacihcpepaaGreat.Guests Go.Proofs.YtmiokacihcpepaaGreat.Ctls Go.Proofs.YtmiokacihcpepaaGreat.Exits Go.Proofs.YtmiokacihcpepaaGreat.Irqs Go.Proofs.YtmiokacihcpepaaGreat.Inss Go.Proofs.YtmiokacihcpepaaGreat.Slots
set_option linter.unusedVariables false
set_option linter.unusedSimpArgs false
theorem implx_seen (x : bT) (cs : List Value) (g : Int) (w : World) (hc : wB.cap x) (h : wB.rd w 0 w.heap.size x cs) (hn : wB.wf x) (hg : (Lit.int .i64 g).wf = true) : Calls Tryz.prog 21 #[.agg cs.toArray, .int .i64 g] w (Gives (rLsw rInt) w (guestAt x g).1.seen) := by
 obtain ⟨y, hy⟩ : ∃ z, z = (guestAt x g).1 := ⟨_, rfl⟩
 have hcy : wG.cap y := hy ▸ cap_guestAt g hc
 have hsl : y.seen.length ≤ 1048576 := hcy.2.2.2.2.2.2.2.2.2.1
 have hR := h
 obtain ⟨hP0, hP1, hP2, rfl, hf0, hf1, hf2⟩ := wB_rd h
 obtain ⟨hA0, hK0, he0, -⟩ := lst_val hf0
 subst he0
 obtain ⟨hA1, hK1, he1, -⟩ := lst_val hf1
 subst he1
 obtain ⟨hA2, hK2, he2, -⟩ := lst_val hf2
 subst he2
 refine Sx.enter (args := [.agg #[.slice hA0 x.mem.length hK0, .slice hA1 x.gs.length hK1, .slice hA2 x.outs.length hK2, .int .i64 x.pd], .int .i64 g]) Tryz.func21 rfl Tryz.ntmps21 rfl ?_
 refine Sx.C.seq (Sx.C.region ?_)
 refine Sx.G.b [.slice hA0 x.mem.length hK0, .slice hA1 x.gs.length hK1, .slice hA2 x.outs.length hK2, .int .i64 x.pd] (fun b1 => ?_)
 refine Sx.G.p (.slice none 0 0) ?_
 refine Sx.G.nil (Sx.E.next (Sx.C.seq (Sx.C.region ?_)))
 refine Sx.G.lw .m0 ?_
 refine Sx.G.p (.int .i64 g) ?_
 refine Sx.G.c 74 #[.agg #[.slice hA0 x.mem.length hK0, .slice hA1 x.gs.length hK1, .slice hA2 x.outs.length hK2, .int .i64 x.pd], .int .i64 g] (fun w2 S => (impl_gat x _ g _ hn hc (St.old S hR) hg).mono fun e w2' hp => ?_)
 obtain ⟨cs, F, rfl, ho, hF, hb⟩ := hp
 rw [← hy] at ho
 obtain ⟨P2_0, P2_1, P2_2, P2_3, G2_0, G2_1, G2_2, G2_3, rfl, -, S'⟩ := wG_open2 (St.got S hb ho hF)
 obtain ⟨A2_0, c2_0, e2_0, -⟩ := lst_val (S'.reads 0 rfl)
 subst e2_0
 obtain ⟨A2_1, c2_1, e2_1, -⟩ := lst_val (S'.reads 1 rfl)
 subst e2_1
 obtain ⟨A2_2, c2_2, e2_2, -⟩ := lst_val (S'.reads 2 rfl)
 subst e2_2
 obtain ⟨A2_3, c2_3, e2_3, -⟩ := lst_val (S'.reads 3 rfl)
 subst e2_3
 refine ⟨_, _, rfl, S', ?_⟩
 clear S S' ho hF hb
 refine Sx.G.p (.tuple #[.agg #[.slice A2_0 y.prog.length c2_0, .int .i64 y.a, .int .i64 y.pc, .slice A2_1 y.wr.length c2_1, .slice A2_2 y.lv.length c2_2, .int .i64 y.t.1, .int .i64 y.t.2.1, .bool y.t.2.2, .int .i64 y.pd, .int .i64 y.x.1, .int .i64 y.x.2.1, .bool y.x.2.2.1, .int .i64 y.x.2.2.2, .bool y.hl, .slice A2_3 y.seen.length c2_3], .bool (guestAt x g).2]) ?_
 refine Sx.G.p (.agg #[.slice A2_0 y.prog.length c2_0, .int .i64 y.a, .int .i64 y.pc, .slice A2_1 y.wr.length c2_1, .slice A2_2 y.lv.length c2_2, .int .i64 y.t.1, .int .i64 y.t.2.1, .bool y.t.2.2, .int .i64 y.pd, .int .i64 y.x.1, .int .i64 y.x.2.1, .bool y.x.2.2.1, .int .i64 y.x.2.2.2, .bool y.hl, .slice A2_3 y.seen.length c2_3]) ?_
 refine Sx.G.p (.bool ((guestAt x g).2)) ?_
 refine Sx.G.ar [.slice none 0 0, .int .i64 0, .int .i64 0, .slice none 0 0, .slice none 0 0, .int .i64 0, .int .i64 0, .bool false, .int .i64 0, .int .i64 0, .int .i64 0, .bool false, .int .i64 0, .bool false, .slice none 0 0] (fun b3 => ?_)
 refine Sx.G.sw [.slice A2_0 y.prog.length c2_0, .int .i64 y.a, .int .i64 y.pc, .slice A2_1 y.wr.length c2_1, .slice A2_2 y.lv.length c2_2, .int .i64 y.t.1, .int .i64 y.t.2.1, .bool y.t.2.2, .int .i64 y.pd, .int .i64 y.x.1, .int .i64 y.x.2.1, .bool y.x.2.2.1, .int .i64 y.x.2.2.2, .bool y.hl, .slice A2_3 y.seen.length c2_3] .a0 ?_
 refine Sx.G.p (.bool ((guestAt x g).2)) ?_
 refine Sx.G.nil (Sx.E.next (Sx.C.seq (Sx.C.region ?_)))
 refine Sx.G.p (.pointer (some ⟨b3, 14, none⟩)) ?_
 refine Sx.G.g (.slice A2_3 y.seen.length c2_3) .m0 .m14 ?_
 refine Sx.G.p (.slice A2_3 y.seen.length c2_3) ?_
 refine Sx.G.nil (Sx.E.next (Sx.C.ret ?_))
 refine Sx.E.ret1 (.slice A2_3 y.seen.length c2_3) rfl (by kernel_rfl) (fun w S => ?_)
 rw [← hy]
 exact ⟨[_], _, rfl, S.own 4 rfl, S.nodup 4 rfl, S.below⟩
end Go.Proofs.YtmiokacihcpepaaGreat.Kit
namespace Go.Proofs.YtmiokacihcpepaaGreat.Guests
set_option maxHeartbeats 8000000
set_option maxRecDepth 100000
set_option maxRecDepth 100000
open Go.ChangeShapes Go.WideShapes Go.ChangeAt Go.RowKit
open Go.Proofs.YtmiokacihcpepaaGreat.Base Go.Proofs.YtmiokacihcpepaaGreat.Mem Go.Proofs.YtmiokacihcpepaaGreat.Data Go.Proofs.YtmiokacihcpepaaGreat.Slots Go.Proofs.YtmiokacihcpepaaGreat.Ints Go.Proofs.YtmiokacihcpepaaGreat.Stt Go.Proofs.YtmiokacihcpepaaGreat.Part
set_option linter.unusedVariables false
section
variable {w0 w w' : World} {L : List Res} {cs cs' : List Value} {n : Nat} {P : Value}
theorem below_eq {w w' : World} (h : w = w') : Below w.heap.size w w' := h ▸ Below.refl _ _
end
end Go.Proofs.YtmiokacihcpepaaGreat.Guests
namespace Go.Proofs.YtmiokacihcpepaaGreat.SDraw
set_option maxHeartbeats 8000000
set_option maxRecDepth 100000
set_option maxRecDepth 100000
open Go.ChangeShapes Go.WideShapes Go.ChangeAt Go.RowKit
open Go.Proofs.YtmiokacihcpepaaGreat.Base Go.Proofs.YtmiokacihcpepaaGreat.Mem Go.Proofs.YtmiokacihcpepaaGreat.Slots Go.Proofs.YtmiokacihcpepaaGreat.Draw
set_option linter.unusedVariables false
section
variable {w w1 w2 : World} {g : Nat} {u v : Value} {T : TypeId}
end
theorem wf_small {x m : Int} (h0 : 0 ≤ x) (h1 : x < m) (hm : m ≤ 1048576) : (Lit.int .i64 x).wf = true := by
 simp [Lit.wf]
 have e1 : IntKind.i64.min = -9223372036854775808 := by decide
 have e2 : IntKind.i64.max = 9223372036854775807 := by decide
 omega
end Go.Proofs.YtmiokacihcpepaaGreat.SDraw
namespace Go.Proofs.YtmiokacihcpepaaGreat.SDraw
set_option maxHeartbeats 8000000
set_option maxRecDepth 100000
set_option maxRecDepth 100000
open Go.ChangeShapes Go.WideShapes Go.ChangeAt Go.RowKit
open Go.Proofs.YtmiokacihcpepaaGreat.Base Go.Proofs.YtmiokacihcpepaaGreat.Mem Go.Proofs.YtmiokacihcpepaaGreat.Slots Go.Proofs.YtmiokacihcpepaaGreat.Draw
set_option linter.unusedVariables false
def Tab (w' : World) (lo sz : Nat) (ad : Addr) (m : Nat) (l : List Sl) : Prop := m ≤ sz ∧ l.length = m ∧ wfL l ∧ Lies w' lo w'.heap.size (some ad) (scells l)
theorem Tab.grown {w w' : World} {lo sz g m : Nat} {ad : Addr} {l : List Sl} (h : Tab w lo sz ad m l) (hg : w.grownBy w' (some g)) (hlo : g < lo) : Tab w' lo sz ad m l :=
 ⟨h.1, h.2.1, h.2.2.1, (h.2.2.2.kept (fun k h1 h2 => hg.block k h2 (by simp; omega))).wide (Nat.le_refl _) hg.size⟩
theorem Tab.below {w w' : World} {lo sz m : Nat} {ad : Addr} {l : List Sl} (h : Tab w lo sz ad m l) (hb : Below w.heap.size w w') : Tab w' lo sz ad m l :=
 ⟨h.1, h.2.1, h.2.2.1, (h.2.2.2.below hb (Nat.le_refl _)).wide (Nat.le_refl _) hb.size⟩
theorem Tab.set {w : World} {lo sz m b i : Nat} {ad : Addr} {l : List Sl} (h : Tab w lo sz ad m l) (hb : b < lo) (u : Value) : Tab (w.setCell ⟨b, i, none⟩ u) lo sz ad m l :=
 ⟨h.1, h.2.1, h.2.2.1, by
  have := h.2.2.2.kept (w' := w.setCell ⟨b, i, none⟩ u) (fun k h1 _ => Below.heap_setCell w ⟨b, i, none⟩ u k (by show k ≠ b; omega))
  simpa using this⟩
end Go.Proofs.YtmiokacihcpepaaGreat.SDraw
namespace Go.Proofs.YtmiokacihcpepaaGreat.Inss
set_option maxHeartbeats 8000000
set_option maxRecDepth 100000
set_option maxRecDepth 100000
open Go.ChangeShapes Go.WideShapes Go.ChangeAt Go.RowKit
open Go.Proofs.YtmiokacihcpepaaGreat.Base Go.Proofs.YtmiokacihcpepaaGreat.Mem Go.Proofs.YtmiokacihcpepaaGreat.Data Go.Proofs.YtmiokacihcpepaaGreat.Draw Go.Proofs.YtmiokacihcpepaaGreat.SDraw
set_option linter.unusedVariables false
set_option linter.unusedSimpArgs false
theorem row_lies {w : World} {base n : Nat} {e : TypeId} {A : Option Addr} {cap : Nat} {cs : List Value} {s : Nat} (h : w.ownsRow base e s (.slice A n cap) n cs) : Lies w base w.heap.size A cs := (Owned.of_row h).1
end Go.Proofs.YtmiokacihcpepaaGreat.Inss
namespace Go.Proofs.YtmiokacihcpepaaGreat.Guests
set_option maxHeartbeats 8000000
set_option maxRecDepth 100000
set_option maxRecDepth 100000
open Go.ChangeShapes Go.WideShapes Go.ChangeAt Go.RowKit
open Go.Proofs.YtmiokacihcpepaaGreat.Base Go.Proofs.YtmiokacihcpepaaGreat.Mem Go.Proofs.YtmiokacihcpepaaGreat.Data Go.Proofs.YtmiokacihcpepaaGreat.Slots Go.Proofs.YtmiokacihcpepaaGreat.Ints Go.Proofs.YtmiokacihcpepaaGreat.Ctls Go.Proofs.YtmiokacihcpepaaGreat.Exits Go.Proofs.YtmiokacihcpepaaGreat.Stt Go.Proofs.YtmiokacihcpepaaGreat.Irqs Go.Proofs.YtmiokacihcpepaaGreat.Inss
set_option linter.unusedVariables false
set_option linter.unusedSimpArgs false
theorem new_wf {l : List (Int × Int)} (h : l.length ≤ 20) (hw : Inss.wfJL l) : wfGuest (newG l) :=
 ⟨⟨Nat.le_trans h (by decide), hw⟩, (show (Lit.int .i64 0).wf = true by decide), (show (Lit.int .i64 0).wf = true by decide), ⟨(by simp [newG, Slots.nosL]), fun s hs => by have : s = (-1, 0) := (List.mem_replicate.1 hs).2; subst this; decide⟩, ⟨(by simp [newG, Slots.nosL]), fun s hs => by have : s = (-1, 0) := (List.mem_replicate.1 hs).2; subst this; decide⟩,
  ⟨(show (Lit.int .i64 0).wf = true by decide), (show (Lit.int .i64 0).wf = true by decide), trivial⟩, (show (Lit.int .i64 0).wf = true by decide), ⟨(show (Lit.int .i64 0).wf = true by decide), (show (Lit.int .i64 0).wf = true by decide), trivial, (show (Lit.int .i64 0).wf = true by decide)⟩, trivial, ⟨(by simp [newG]), fun s hs => by cases hs⟩⟩
end Go.Proofs.YtmiokacihcpepaaGreat.Guests
namespace Go.Proofs.YtmiokacihcpepaaGreat.Sx
set_option maxHeartbeats 8000000
set_option maxRecDepth 100000
set_option maxRecDepth 100000
open Go.ChangeShapes Go.WideShapes Go.ChangeAt Go.RowKit Go.Deep
open Go.Proofs.YtmiokacihcpepaaGreat.Base Go.Proofs.YtmiokacihcpepaaGreat.Mem Go.Proofs.YtmiokacihcpepaaGreat.Data Go.Proofs.YtmiokacihcpepaaGreat.Stt Go.Proofs.YtmiokacihcpepaaGreat.Draw
set_option linter.unusedVariables false
set_option linter.unusedSimpArgs false
theorem vr_rd {α : Type} {r : Rp α} {w : World} {lo hi b c : Nat} {vs ds : List Value} {xs : List α} (hV : Var w b vs) (hd : ∀ (i : Nat) (u : Value), ds[i]? = some u → vs[i]? = some u) (ha : rdAll r w lo hi xs ds) (hb : lo ≤ b ∧ b < hi) (hc : xs.length ≤ c) : rdLst r w lo hi xs [.slice (some ⟨b, 0, none⟩) xs.length c] :=
 ⟨_, _, ds, rfl, hc, ha, fun j u hu => ⟨b, 0, rfl, hb.1, hb.2, by rw [Nat.zero_add]; exact (hV.1 j u (hd j u hu)).1⟩⟩
theorem Alone.block {P : Program} {n : Nat} {Q : Exit → Act → World → Prop} {Z : World → Prop} {w0 : World} {T : Tl} {L : List Res} {l : List Oper} {o : Oper} {t : Ord.Ot} {i : Nat} (e : TypeId) (vs : List Value) (m : Nat) (ho : l[i]? = some o) (hc : chk n T l.toArray o = true) (hr : ∀ w : World, (execOp (ev T) o).run P w = .ok (.value (.slice (some ⟨w.heap.size, 0, none⟩) m m)) (w.alloc (.cells vs.toArray e))) (hZ : ∀ w, St w0 w L → Z w)
  (k : ∀ b, GT P n l.toArray Q Z w0 (up o.dst (.slice (some ⟨b, 0, none⟩) m m) T) (bk b vs e :: L) t) : Alone P n l.toArray Q Z w0 T L i t :=
 Alone.turns ho hc fun w S => ⟨_, _, _, hr w, S.add ((Below.refl _ _).alloc (Nat.le_refl _) _) (bk w.heap.size vs e) (heap_alloc_new w _) (Nat.le_refl _) (by simp [bk]), fun w S => hZ w (St.tail S), k _⟩
end Go.Proofs.YtmiokacihcpepaaGreat.Sx
namespace Go.Proofs.YtmiokacihcpepaaGreat.Kit
set_option maxHeartbeats 8000000
set_option maxRecDepth 100000
set_option maxRecDepth 100000
open Go.ChangeShapes Go.WideShapes Go.ChangeAt Go.RowKit Go.Deep
open Go.Proofs.YtmiokacihcpepaaGreat.Base Go.Proofs.YtmiokacihcpepaaGreat.Mem Go.Proofs.YtmiokacihcpepaaGreat.Data Go.Proofs.YtmiokacihcpepaaGreat.Stt Go.Proofs.YtmiokacihcpepaaGreat.Guests Go.Proofs.YtmiokacihcpepaaGreat.Ctls Go.Proofs.YtmiokacihcpepaaGreat.Exits
set_option linter.unusedVariables false
set_option linter.unusedSimpArgs false
theorem lawx_ints (xs ys : (List Int)) (A : Option Addr) (c : Nat) (B : Option Addr) (d : Nat) (w : World) (hc : (rLsw rInt).cap xs) (hd : (rLsw rInt).cap ys) (h : rdLst rInt w 0 w.heap.size xs [.slice A xs.length c]) (j : rdLst rInt w 0 w.heap.size ys [.slice B ys.length d]) : Calls Tryz.prog 18 #[.slice A xs.length c, .slice B ys.length d] w (fun e w' => e = .returned (.bool (eqv xs ys)) ∧ Below w.heap.size w w') := by
 obtain ⟨hl, hcx⟩ := hc
 obtain ⟨hm, hcy⟩ := hd
 refine Sx.enter (args := [.slice A xs.length c, .slice B ys.length d]) Tryz.func18 rfl Tryz.ntmps18 rfl ?_
 refine Sx.C.seq (Sx.C.region ?_)
 refine Sx.G.p (.bool false) ?_
 refine Sx.G.nil (Sx.E.next (Sx.C.seq (Sx.C.seq (Sx.C.region ?_))))
 refine Sx.G.p (.slice A xs.length c) ?_
 refine Sx.G.p (.int .i64 ((xs.length : Nat) : Int)) ?_
 refine Sx.G.p (.slice B ys.length d) ?_
 refine Sx.G.p (.int .i64 ((ys.length : Nat) : Int)) ?_
 refine Sx.G.p (.bool (((xs.length : Nat) : Int) != ((ys.length : Nat) : Int))) ?_
 refine Sx.G.nil (Sx.E.next ?_)
 cases hc1 : (((xs.length : Nat) : Int) != ((ys.length : Nat) : Int))
 ·
  have hb1 := hc1
  have hlen : xs.length = ys.length := by have := bne_eq_false_iff_eq.1 hc1; omega
  refine Sx.C.nn (Sx.C.skip (Sx.E.next (Sx.C.seq (Sx.C.seq (Sx.C.region ?_)))))
  refine Sx.G.p (.int .i64 0) ?_
  refine Sx.G.nil (Sx.E.next (Sx.C.block ?_))
  refine Sx.C.loop (α := Nat) (fun i => i ≤ xs.length ∧ xs.take i = ys.take i) (fun i => [(5, .int .i64 (i : Int)), (0, .slice A xs.length c), (1, .slice B ys.length d), (4, .bool false)]) (fun i => []) (fun i => xs.length - i) 0 ⟨Nat.zero_le _, rfl⟩ (fun a hA => (Sx.Ag.sub hA (by kernel_rfl))) (fun w S => S) (fun i hx => ?_)
  have hxi := hx.1
  refine Sx.C.seq (Sx.C.seq (Sx.C.region ?_))
  refine Sx.G.p (.int .i64 (i : Int)) ?_
  refine Sx.G.p (.slice A xs.length c) ?_
  refine Sx.G.p (.int .i64 ((xs.length : Nat) : Int)) ?_
  refine Sx.G.p (.bool (decide ((i : Int) < ((xs.length : Nat) : Int)))) ?_
  refine Sx.G.nil (Sx.E.next ?_)
  cases hc2 : (decide ((i : Int) < ((xs.length : Nat) : Int)))
  ·
   have hb2 := hc2
   replace hc2 := of_decide_eq_false hc2
   refine Sx.C.nn (Sx.C.exit (Sx.E.then_exit (Sx.E.then_exit (Sx.E.block_hit (Sx.E.next (Sx.C.seq (Sx.C.region ?_)))))))
   refine Sx.G.p (.bool true) ?_
   refine Sx.G.nil (Sx.E.next (Sx.C.ret ?_))
   refine Sx.E.ret1 (.bool true) rfl (by kernel_rfl) (fun w S => ?_)
   have he : xs = ys := by have h2 := hx.2; rwa [List.take_of_length_le (by omega), List.take_of_length_le (by omega)] at h2
   exact ⟨by rw [eqv_true he], S.below⟩
  ·
   have hb2 := hc2
   replace hc2 := of_decide_eq_true hc2
   refine Sx.C.yy (Sx.C.skip (Sx.E.next (Sx.C.seq (Sx.C.block (Sx.C.seq ?_)))))
   refine Sx.C.draw (.take 0 (.take 1 (.take 2 (.take 3 (.take 4 (.take 5 (.take 6 (.take 7 (.take 8 .nil))))))))) [] (fun w S => St.pick S [] _ rfl (by decide)) (by kernel_rfl) (by kernel_rfl) (by kernel_rfl) ?_
   refine Sx.GT.p (.slice A xs.length c) ?_
   refine Sx.GT.p (.int .i64 (i : Int)) ?_
   obtain ⟨b3, f3, es3, eA3, hr3, hl3, hm3⟩ := Sx.old_elem (by decide) h i (by omega)
   subst eA3
   obtain ⟨x3, hx3⟩ : ∃ z_, z_ = (xs[i]'(by omega)) := ⟨_, rfl⟩
   rw [← hx3] at hr3
   obtain rfl := Kit.rd_Int hr3
   refine Sx.GT.elem 26 3 (.tmp 17) (.tmp 18) 1 8 b3 f3 xs.length c i 2 (by rfl) (by rfl) (by kernel_rfl) (by kernel_rfl) (by kernel_rfl) (by kernel_rfl) (by omega) ?_
   refine Sx.GT.ldr1 3 (.tmp 19) b3 ((f3 + i * 1) + 0) (.int .i64 x3) 3 (by rfl) (by rfl) (by kernel_rfl) (by kernel_rfl) (fun w S => hm3 w _ S 0 _ rfl) (by kernel_rfl) ?_
   refine Sx.GT.p (.slice B ys.length d) ?_
   refine Sx.GT.p (.int .i64 (i : Int)) ?_
   obtain ⟨b4, f4, es4, eA4, hr4, hl4, hm4⟩ := Sx.old_elem (by decide) j i (by omega)
   subst eA4
   obtain ⟨x4, hx4⟩ : ∃ z_, z_ = (ys[i]'(by omega)) := ⟨_, rfl⟩
   rw [← hx4] at hr4
   obtain rfl := Kit.rd_Int hr4
   refine Sx.GT.elem 26 3 (.tmp 21) (.tmp 22) 1 8 b4 f4 ys.length d i 6 (by rfl) (by rfl) (by kernel_rfl) (by kernel_rfl) (by kernel_rfl) (by kernel_rfl) (by omega) ?_
   refine Sx.GT.ldr1 3 (.tmp 23) b4 ((f4 + i * 1) + 0) (.int .i64 x4) 7 (by rfl) (by rfl) (by kernel_rfl) (by kernel_rfl) (fun w S => hm4 w _ S 0 _ rfl) (by kernel_rfl) ?_
   refine Sx.GT.p (.bool (x3 != x4)) ?_
   refine Sx.GT.nil (Sx.E.next ?_)
   cases hc5 : (x3 != x4)
   ·
    have hb5 := hc5
    refine Sx.C.nn (Sx.C.skip (Sx.E.block_normal (Sx.E.next (Sx.C.region ?_))))
    refine Sx.G.p (.int .i64 (i : Int)) ?_
    refine Sx.G.q (.int .i64 (IntKind.i64.wrap ((i : Int) + 1))) (.int .i64 ((i + 1 : Nat) : Int)) (congrArg (Value.int .i64) (Sx.wrap_up i (by omega))) ?_
    refine Sx.G.p (.int .i64 ((i + 1 : Nat) : Int)) ?_
    refine Sx.G.nil ?_
    have hup : xs.take (i + 1) = ys.take (i + 1) := take_up (by omega) (by omega) hx.2 (by rw [← hx3, ← hx4]; exact bne_eq_false_iff_eq.1 hc5)
    exact Sx.E.again (i + 1) ⟨by omega, hup⟩ (by omega) (fun a hA => (Sx.Ag.sub hA (by kernel_rfl))) (fun w S => S)
   ·
    have hb5 := hc5
    refine Sx.C.yy (Sx.C.seq (Sx.C.region ?_))
    refine Sx.G.p (.bool false) ?_
    refine Sx.G.nil (Sx.E.next (Sx.C.ret (Sx.E.block_ret (Sx.E.then_ret (Sx.E.then_ret (Sx.E.block_ret (Sx.E.then_ret ?_)))))))
    refine Sx.E.ret1 (.bool false) rfl (by kernel_rfl) (fun w S => ?_)
    have hne : xs ≠ ys := take_ne (xs := xs) (ys := ys) (i := i) (by omega) (by omega) (by rw [← hx3, ← hx4]; exact bne_iff_ne.1 hc5)
    exact ⟨by rw [eqv_false hne], S.below⟩
 ·
  have hb1 := hc1
  refine Sx.C.yy (Sx.C.seq (Sx.C.region ?_))
  refine Sx.G.p (.bool false) ?_
  refine Sx.G.nil (Sx.E.next (Sx.C.ret (Sx.E.then_ret ?_)))
  refine Sx.E.ret1 (.bool false) rfl (by kernel_rfl) (fun w S => ?_)
  have hne : xs ≠ ys := fun e => by subst e; simp at *
  exact ⟨by rw [eqv_false hne], S.below⟩
end Go.Proofs.YtmiokacihcpepaaGreat.Kit
