/-
  For every slice of bytes the law FnProgram returns true: a program that stores and loads observes the stored value where its page table leads. No condition.
-/
import Derived.Test.YtmiokacihcpepaaGreatFnProgramB4
import Derived.HandedShaped
namespace Go.Proofs.YtmiokacihcpepaaGreat.Slots
set_option maxHeartbeats 8000000
set_option maxRecDepth 100000
set_option maxRecDepth 100000
open Go.ChangeShapes Go.WideShapes Go.ChangeAt Go.RowKit
open Go.Proofs.YtmiokacihcpepaaGreat.Base Go.Proofs.YtmiokacihcpepaaGreat.Mem
theorem impl_inner_yes (A : Option Addr) (n c : Nat) (page need : Int) (l : List Sl) (w : World) (fv : Value) (hn : n ≤ 1048576) (hl : l.length = n) (wl : wfL l) (hneed : (Lit.int .i64 need).wf = true) (h1 : Lies w 0 w.heap.size A (scells l)) (hs : w.cell? ⟨0, 0, none⟩ = some fv) (hp : perm (atS l page) need = true) :
  Calls Tryz.prog 266 #[.slice A n c, .int .i64 page, .int .i64 need] w fun e w' => e = .returned (.tuple #[.int .i64 (innerW l page need).1, .bool (innerW l page need).2]) ∧ Below w.heap.size w w' := by
 have HK := Lib.hid (fun f : Value => impl_level_yes A n c page need l w f hn hl wl hneed h1 hp)
 rw [innerW_yes hp]
 clear h1 hl hp
 generalize (atS l page).1 = x at HK ⊢
 go_enter Tryz.func266, Tryz.ntmps266
 go_wp2_with (go_at_call 270; refine (HK.out _).mono ?_; rintro e w1 ⟨rfl, hb1⟩)
 go_region
 go_wp2_with fail
 go_ret2
 exact ⟨rfl, hb1.drew⟩
end Go.Proofs.YtmiokacihcpepaaGreat.Slots
namespace Go.Proofs.YtmiokacihcpepaaGreat.Kit
set_option maxHeartbeats 8000000
set_option maxRecDepth 100000
open Go.ChangeShapes Go.WideShapes Go.ChangeAt Go.RowKit Go.Deep
open Go.Proofs.YtmiokacihcpepaaGreat.Base Go.Proofs.YtmiokacihcpepaaGreat.Mem Go.Proofs.YtmiokacihcpepaaGreat.Data Go.Proofs.YtmiokacihcpepaaGreat.Stt Go.Proofs.YtmiokacihcpepaaGreat.Guests Go.Proofs.YtmiokacihcpepaaGreat.Ctls Go.Proofs.YtmiokacihcpepaaGreat.Exits Go.Proofs.YtmiokacihcpepaaGreat.Irqs Go.Proofs.YtmiokacihcpepaaGreat.Inss Go.Proofs.YtmiokacihcpepaaGreat.Slots
set_option linter.unusedVariables false
set_option linter.unusedSimpArgs false
def HasI (w : World) : Prop := ∃ fv, w.cell? ⟨0, 0, none⟩ = some fv
theorem HasI.below {w w' : World} (h : HasI w) (hb : Below w.heap.size w w') : HasI w' := by
 obtain ⟨fv, h⟩ := h
 exact ⟨fv, (hb.cell (World.block_lt_of_cell? w _ h)).trans h⟩
theorem walks_yes {w0 : World} {y : gT} (hc : y.lv.length ≤ 1048576) (hl : wfL y.lv) (hs : HasI w0) (hp : ∀ wr : Bool, wantG y = (if wr = true then 4 else 3) → perm (atS y.lv (Addrs.addrP (addrG y))) (Rights.need wr) = true) : WalksOk w0 y := fun wr hw w A c hb h1 => by
 obtain ⟨fv, h⟩ := hs.below hb
 exact impl_inner_yes A y.lv.length c _ _ y.lv w fv hc rfl hl (need_wf wr) h1 h (hp wr hw)
def mayB (b : bT) (g : Int) : Bool :=
 if (wantG (guestAt b g).1 == 3) = true then perm (atS (guestAt b g).1.lv (Addrs.addrP (addrG (guestAt b g).1))) (Rights.need false) else if (wantG (guestAt b g).1 == 4) = true then perm (atS (guestAt b g).1.lv (Addrs.addrP (addrG (guestAt b g).1))) (Rights.need true) else true
theorem mayB_perm {b : bT} {g : Int} (h : mayB b g = true) (wr : Bool) (hw : wantG (guestAt b g).1 = (if wr = true then 4 else 3)) : perm (atS (guestAt b g).1.lv (Addrs.addrP (addrG (guestAt b g).1))) (Rights.need wr) = true := by
 unfold mayB at h
 cases wr
 ·
  rw [hw] at h; exact h
 ·
  rw [hw] at h; exact h
def goB : bT → List Int → List Bool → (bT → Bool) → Bool
 | b, [], [], f => f b
 | b, g :: l, t :: ts, f => mayB b g && ((stepB b g).2 == t) && goB (stepB b g).1 l ts f
 | _, _, _, _ => false
theorem foldl_acc (l : List Int) : ∀ (b : bT) (acc : List Bool), l.foldl (fun p g => ((stepB p.1 g).1, p.2 ++ [(stepB p.1 g).2])) (b, acc) = ((stepsB b l).1, acc ++ (stepsB b l).2) := by
 induction l with
 | nil => intro b acc; simp [stepsB]
 | cons g l ih =>
  intro b acc
  unfold stepsB
  rw [List.foldl_cons, List.foldl_cons, ih, ih]
  simp
theorem stepsB_cons (b : bT) (g : Int) (l : List Int) : stepsB b (g :: l) = ((stepsB (stepB b g).1 l).1, (stepB b g).2 :: (stepsB (stepB b g).1 l).2) := by
 conv => lhs; unfold stepsB
 rw [List.foldl_cons, foldl_acc]; rfl
theorem goB_all {f : bT → Bool} : ∀ {l : List Int} {ts : List Bool} {b : bT}, goB b l ts f = true → (stepsB b l).2 = ts ∧ f (stepsB b l).1 = true ∧ ∀ i (hi : i < l.length), mayB (stepsB b (l.take i)).1 l[i] = true
 | [], [], b, h => ⟨rfl, h, fun i hi => absurd hi (by simp)⟩
 | g :: l, t :: ts, b, h => by
  unfold goB at h
  simp only [Bool.and_eq_true] at h
  obtain ⟨⟨h1, h2⟩, h3⟩ := h
  obtain ⟨k1, k2, k3⟩ := goB_all h3
  rw [stepsB_cons]
  refine ⟨by rw [k1, beq_iff_eq.1 h2], k2, fun i hi => ?_⟩
  cases i with
  | zero => exact h1
  | succ i =>
   have := k3 i (by simpa using hi)
   simp only [List.take_succ_cons, List.getElem_cons_succ, stepsB_cons]
   exact this
 | [], _ :: _, _, h => by simp [goB] at h
 | _ :: _, [], _, h => by simp [goB] at h
theorem lv_of {b : bT} (g : Int) (hc : wB.cap b) (hn : wB.wf b) : (guestAt b g).1.lv.length ≤ 1048576 ∧ wfL (guestAt b g).1.lv := ⟨(cap_guestAt g hc).2.2.2.2.1.1, (wf_guestAt g hn).2.2.2.2.1.2⟩
theorem goB_walks {f : bT → Bool} {l : List Int} {ts : List Bool} {b : bT} {w : World} (h : goB b l ts f = true) (hc : wB.cap b) (hn : wB.wf b) (hs : HasI w) : ∀ i (hi : i < l.length), WalksOk w (guestAt (stepsB b (l.take i)).1 l[i]).1 := fun i hi =>
 walks_yes (lv_of _ (cap_stepsB _ hc) (wf_stepsB _ hn)).1 (lv_of _ (cap_stepsB _ hc) (wf_stepsB _ hn)).2 hs (mayB_perm ((goB_all h).2.2 i hi))
theorem rem_nat {l : List Int} (h : ∀ x ∈ l, 0 ≤ x) (k m : Nat) (hm : 0 < m) : ∃ q : Nat, q < m ∧ (l.getD k 0).tmod (m : Int) = (q : Int) := by
 have h0 : 0 ≤ l.getD k 0 := by
  rw [List.getD_eq_getElem?_getD]
  rcases Nat.lt_or_ge k l.length with hk | hk
  ·
   rw [List.getElem?_eq_getElem hk]; exact h _ (List.getElem_mem hk)
  ·
   rw [List.getElem?_eq_none hk]; exact Int.le_refl _
 have h1 := Int.emod_nonneg (l.getD k 0) (show (m : Int) ≠ 0 by omega)
 have h2 := Int.emod_lt_of_pos (l.getD k 0) (show (0 : Int) < m by omega)
 exact ⟨((l.getD k 0) % m).toNat, by omega, by rw [Int.tmod_eq_emod_of_nonneg h0]; omega⟩
theorem tmod_nat (q m : Nat) : ((q : Int)).tmod (m : Int) = ((q % m : Nat) : Int) := by rw [Int.tmod_eq_emod_of_nonneg (by omega)]; rfl
theorem tdiv_nat (q m : Nat) : ((q : Int)).tdiv (m : Int) = ((q / m : Nat) : Int) := by rw [Int.tdiv_eq_ediv_of_nonneg (by omega)]; rfl
theorem pl_cell (l : List Int) (k : Nat) (h : k < l.length) : (Stt.icells l)[k]? = some (.int .i64 (l.getD k 0)) := by simp [Stt.icells, List.getD_eq_getElem?_getD, h]
section
variable {w0 w : World} {L : List Res} {b d : Nat} {t : TypeId}
theorem bk_in (S : St w0 w L) (i : Nat) {cs : List Value} (h : L[i]? = some (Sx.bk b cs t)) : b < w.heap.size ∧ ∀ (j : Nat) (u : Value), cs[j]? = some u → w.cell? ⟨b, j, none⟩ = some u := by
 have hb : w.heap[b]? = some (.cells cs.toArray t (0, 0)) := S.at_ i h
 exact ⟨by rw [Array.getElem?_eq_some_iff] at hb; exact hb.1, fun j u hu => by simp [World.cell?, hb, hu]⟩
theorem bk_lst {α : Type} {r : Rp α} (S : St w0 w L) (i : Nat) {cs : List Value} (h : L[i]? = some (Sx.bk b cs t)) {xs : List α} (hall : rdAll r w 0 w.heap.size xs cs) : rdLst r w 0 w.heap.size xs [.slice (some ⟨b, 0, none⟩) xs.length xs.length] := by
 obtain ⟨h1, h2⟩ := bk_in S i h
 exact ⟨_, _, cs, rfl, Nat.le_refl _, hall, fun q u hu => ⟨b, 0, rfl, Nat.zero_le _, h1, by rw [Nat.zero_add]; exact h2 q u hu⟩⟩
theorem vr_prog (S : St w0 w L) (i : Nat) {p : List (Int × Int)} (h : L[i]? = some (vr d (pcells p))) : rdLst (rPair rInt rInt) w 0 w.heap.size p [.slice (some ⟨d, 0, none⟩) p.length p.length] := by
 have hV : Var w d (pcells p) := S.at_ i h
 exact Sx.vr_rd (ds := pcells p) hV (fun _ _ h => h) (p2_all _ _ _ _) ⟨Nat.zero_le _, hV.2⟩ (Nat.le_refl _)
end
theorem ints_all (w : World) (lo hi : Nat) : ∀ l : List Int, rdAll rInt w lo hi l (Stt.icells l)
 | [] => rfl
 | s :: l => ⟨[.int .i64 s], Stt.icells l, rfl, rfl, ints_all w lo hi l⟩
theorem wf_newB {l : List (List (Int × Int))} (h : ∀ p ∈ l, Inss.wfJL p ∧ p.length ≤ 20) : wB.wf (newB l) := by
 refine ⟨⟨(by simp [newB]; decide), fun p hp => ?_⟩, ⟨?_, fun g hg => ?_⟩, ⟨by simp [newB], fun s hs => by simp [newB] at hs⟩, (show (Lit.int .i64 0).wf = true by decide)⟩
 ·
  have : p = [0, 0, 0, 0] := (List.mem_replicate.1 hp).2
  subst this
  exact ⟨by decide, fun x hx => by simp only [List.mem_cons, List.not_mem_nil, or_false] at hx; rcases hx with h | h | h | h <;> (rw [h]; exact (show (Lit.int .i64 0).wf = true by decide))⟩
 ·
  simp only [newB, List.length_map, List.length_take, maxLen]; omega
 ·
  obtain ⟨p, hp, rfl⟩ := List.mem_map.1 hg
  have := h p (List.mem_of_mem_take hp)
  exact new_wf this.2 this.1
theorem cap_prgs {l : List (List (Int × Int))} (h : ∀ p ∈ l, Inss.wfJL p ∧ p.length ≤ 20) (hl : l.length ≤ 20) : (rLsw (rLsw (rPair rInt rInt))).cap l := ⟨by omega, fun p hp => ⟨by have := (h p hp).2; omega, fun _ _ => ⟨trivial, trivial⟩⟩⟩
theorem wfN (q : Nat) (h : q < 100000) : (Lit.int .i64 (q : Int)).wf = true := wfI.2 (by omega)
theorem lst_some {α : Type} {r : Rp α} {w : World} {lo hi : Nat} {x : α} {xs : List α} {A : Option Addr} {n c : Nat} (hs : 0 < r.sz) (h : rdLst r w lo hi (x :: xs) [.slice A n c]) : ∃ b off, A = some ⟨b, off, none⟩ := by
 obtain ⟨A', c', ds, e, _, h1, h2⟩ := h
 cases e
 obtain ⟨d1, d2, rfl, h3, h4⟩ := h1
 have hl := r.len h3
 obtain ⟨b, off, e, -⟩ := h2 0 _ (List.getElem?_eq_getElem (by simp; omega))
 exact ⟨b, off, e⟩
theorem elem_b {w : World} {lo hi : Nat} {xs : List Bool} {A : Option Addr} {m c : Nat} (h : rdLst rBool w lo hi xs [.slice A m c]) (k : Nat) (hk : k < xs.length) : ∃ b off, A = some ⟨b, off, none⟩ ∧ w.cell? ⟨b, off + k, none⟩ = some (.bool xs[k]) := by
 obtain ⟨A', c', ds, e, _, h1, h2⟩ := h
 cases e
 have hds : ∀ (xs : List Bool) (ds : List Value), rdAll rBool w lo hi xs ds → ds = xs.map Value.bool := fun xs => by
  induction xs with
  | nil => intro ds h; exact h
  | cons x xs ih => intro ds h; obtain ⟨d1, d2, rfl, h3, h4⟩ := h; rw [ih d2 h4]; obtain rfl := show d1 = [.bool x] from h3; rfl
 obtain rfl := hds xs ds h1
 obtain ⟨b, off, e, _, _, hc⟩ := h2 k (.bool xs[k]) (by simp [hk])
 exact ⟨b, off, e, hc⟩
end Go.Proofs.YtmiokacihcpepaaGreat.Kit
namespace Go.Proofs.YtmiokacihcpepaaGreat.Kit
set_option maxHeartbeats 8000000
set_option maxRecDepth 100000
set_option maxRecDepth 100000
open Go.ChangeShapes Go.WideShapes Go.ChangeAt Go.RowKit Go.Deep
open Go.Proofs.YtmiokacihcpepaaGreat.Base Go.Proofs.YtmiokacihcpepaaGreat.Mem Go.Proofs.YtmiokacihcpepaaGreat.Data Go.Proofs.YtmiokacihcpepaaGreat.Stt Go.Proofs.YtmiokacihcpepaaGreat.Guests Go.Proofs.YtmiokacihcpepaaGreat.Ctls Go.Proofs.YtmiokacihcpepaaGreat.Exits Go.Proofs.YtmiokacihcpepaaGreat.Irqs
set_option linter.unusedVariables false
set_option linter.unusedSimpArgs false
theorem lawx_gof (x : bT) (cs : List Value) (g : Int) (w : World) (hc : wB.cap x) (h : wB.rd w 0 w.heap.size x cs) : Calls Tryz.prog 31 #[.agg cs.toArray, .int .i64 g] w (Gives wG w (guestAt x g).1) := by
 have hR := h
 obtain ⟨hP0, hP1, hP2, rfl, hf0, hf1, hf2⟩ := wB_rd h
 obtain ⟨hA0, hK0, he0, -⟩ := lst_val hf0
 subst he0
 obtain ⟨hA1, hK1, he1, -⟩ := lst_val hf1
 subst he1
 obtain ⟨hA2, hK2, he2, -⟩ := lst_val hf2
 subst he2
 obtain ⟨y, hy⟩ : ∃ z, z = (guestAt x g).1 := ⟨_, rfl⟩
 refine Sx.enter (args := [.agg #[.slice hA0 x.mem.length hK0, .slice hA1 x.gs.length hK1, .slice hA2 x.outs.length hK2, .int .i64 x.pd], .int .i64 g]) Tryz.func31 rfl Tryz.ntmps31 rfl ?_
 refine Sx.C.seq (Sx.C.region ?_)
 refine Sx.G.b [.slice hA0 x.mem.length hK0, .slice hA1 x.gs.length hK1, .slice hA2 x.outs.length hK2, .int .i64 x.pd] (fun b1 => ?_)
 refine Sx.G.ar [.slice none 0 0, .int .i64 0, .int .i64 0, .slice none 0 0, .slice none 0 0, .int .i64 0, .int .i64 0, .bool false, .int .i64 0, .int .i64 0, .int .i64 0, .bool false, .int .i64 0, .bool false, .slice none 0 0] (fun b2 => ?_)
 refine Sx.G.nil (Sx.E.next (Sx.C.seq (Sx.C.region ?_)))
 refine Sx.G.lw .m1 ?_
 refine Sx.G.p (.int .i64 g) ?_
 refine Sx.G.c 49 #[.agg #[.slice hA0 x.mem.length hK0, .slice hA1 x.gs.length hK1, .slice hA2 x.outs.length hK2, .int .i64 x.pd], .int .i64 g] (fun w3 S => (specx_gat x _ g _ hc (St.old S hR)).mono fun e w3' hp => ?_)
 obtain ⟨cs, F, rfl, ho, hF, hb⟩ := hp; rw [← hy] at ho
 obtain ⟨P3_0, P3_1, P3_2, P3_3, rfl, f3_0, f3_1, f3_2, f3_3⟩ := wG_rd (wG.reads ho)
 obtain ⟨A3_0, c3_0, e3_0, -⟩ := lst_val f3_0
 subst e3_0
 obtain ⟨A3_1, c3_1, e3_1, -⟩ := lst_val f3_1
 subst e3_1
 obtain ⟨A3_2, c3_2, e3_2, -⟩ := lst_val f3_2
 subst e3_2
 obtain ⟨A3_3, c3_3, e3_3, -⟩ := lst_val f3_3
 subst e3_3
 generalize F = F3 at ho hF
 refine ⟨_, _, rfl, (St.got S hb ho hF), ?_⟩
 clear S hb ho hF f3_0 f3_1 f3_2 f3_3
 refine Sx.G.p (.tuple #[.agg #[.slice A3_0 y.prog.length c3_0, .int .i64 y.a, .int .i64 y.pc, .slice A3_1 y.wr.length c3_1, .slice A3_2 y.lv.length c3_2, .int .i64 y.t.1, .int .i64 y.t.2.1, .bool y.t.2.2, .int .i64 y.pd, .int .i64 y.x.1, .int .i64 y.x.2.1, .bool y.x.2.2.1, .int .i64 y.x.2.2.2, .bool y.hl, .slice A3_3 y.seen.length c3_3], .bool (guestAt x g).2]) ?_
 refine Sx.G.p (.agg #[.slice A3_0 y.prog.length c3_0, .int .i64 y.a, .int .i64 y.pc, .slice A3_1 y.wr.length c3_1, .slice A3_2 y.lv.length c3_2, .int .i64 y.t.1, .int .i64 y.t.2.1, .bool y.t.2.2, .int .i64 y.pd, .int .i64 y.x.1, .int .i64 y.x.2.1, .bool y.x.2.2.1, .int .i64 y.x.2.2.2, .bool y.hl, .slice A3_3 y.seen.length c3_3]) ?_
 refine Sx.G.p (.bool ((guestAt x g).2)) ?_
 refine Sx.G.ar [.slice none 0 0, .int .i64 0, .int .i64 0, .slice none 0 0, .slice none 0 0, .int .i64 0, .int .i64 0, .bool false, .int .i64 0, .int .i64 0, .int .i64 0, .bool false, .int .i64 0, .bool false, .slice none 0 0] (fun b4 => ?_)
 refine Sx.G.sw [.slice A3_0 y.prog.length c3_0, .int .i64 y.a, .int .i64 y.pc, .slice A3_1 y.wr.length c3_1, .slice A3_2 y.lv.length c3_2, .int .i64 y.t.1, .int .i64 y.t.2.1, .bool y.t.2.2, .int .i64 y.pd, .int .i64 y.x.1, .int .i64 y.x.2.1, .bool y.x.2.2.1, .int .i64 y.x.2.2.2, .bool y.hl, .slice A3_3 y.seen.length c3_3] .a0 ?_
 refine Sx.G.p (.bool ((guestAt x g).2)) ?_
 refine Sx.G.nil (Sx.E.next (Sx.C.seq (Sx.C.region ?_)))
 refine Sx.G.lw .m0 ?_
 refine Sx.G.sw [.slice A3_0 y.prog.length c3_0, .int .i64 y.a, .int .i64 y.pc, .slice A3_1 y.wr.length c3_1, .slice A3_2 y.lv.length c3_2, .int .i64 y.t.1, .int .i64 y.t.2.1, .bool y.t.2.2, .int .i64 y.pd, .int .i64 y.x.1, .int .i64 y.x.2.1, .bool y.x.2.2.1, .int .i64 y.x.2.2.2, .bool y.hl, .slice A3_3 y.seen.length c3_3] .a2 ?_
 refine Sx.G.nil (Sx.E.next (Sx.C.ret ?_))
 refine Sx.E.retc b2 2 [.slice A3_0 y.prog.length c3_0, .int .i64 y.a, .int .i64 y.pc, .slice A3_1 y.wr.length c3_1, .slice A3_2 y.lv.length c3_2, .int .i64 y.t.1, .int .i64 y.t.2.1, .bool y.t.2.2, .int .i64 y.pd, .int .i64 y.x.1, .int .i64 y.x.2.1, .bool y.x.2.2.1, .int .i64 y.x.2.2.2, .bool y.hl, .slice A3_3 y.seen.length c3_3] rfl (by kernel_rfl) rfl (by kernel_rfl) (by kernel_rfl) (fun w S => ?_)
 rw [← hy]
 exact ⟨_, _, rfl, S.own 1 rfl, S.nodup 1 rfl, S.below⟩
end Go.Proofs.YtmiokacihcpepaaGreat.Kit
namespace Go.Proofs.YtmiokacihcpepaaGreat.Kit
set_option maxHeartbeats 8000000
set_option maxRecDepth 100000
set_option maxRecDepth 100000
open Go.ChangeShapes Go.WideShapes Go.ChangeAt Go.RowKit Go.Deep
open Go.Proofs.YtmiokacihcpepaaGreat.Base Go.Proofs.YtmiokacihcpepaaGreat.Mem Go.Proofs.YtmiokacihcpepaaGreat.Data Go.Proofs.YtmiokacihcpepaaGreat.Stt Go.Proofs.YtmiokacihcpepaaGreat.Guests Go.Proofs.YtmiokacihcpepaaGreat.Ctls Go.Proofs.YtmiokacihcpepaaGreat.Exits Go.Proofs.YtmiokacihcpepaaGreat.Irqs Go.Proofs.YtmiokacihcpepaaGreat.Inss Go.Proofs.YtmiokacihcpepaaGreat.Slots
def lvS (i : Nat) : List (Int × Int) := [(7, 3), (6, 3), (5, 3), (4, 3)].take i ++ (List.replicate 4 ((-1, 0) : Int × Int)).drop i
def pgP (a v : Int) : List (Int × Int) := [(1, v), (4, a), (1, 0), (3, a), (5, 5), (7, 0)]
def pgM (a v : Int) : bT := { newB [pgP a v] with gs := [{ newG (pgP a v) with lv := lvS 4 }] }
def pgL : List Int := [0, 0, 0, 0, 0, 0, 0]
def pgT : List Bool := [true, true, true, true, true, true, false]
def pgF (a v : Nat) (x : bT) : Bool := decide ((guestAt x 0).1.seen = [(v : Int)]) && decide (x.outs = [5]) && (cellA x.mem (7 - ((a / 4 : Nat) : Int)) ((a % 4 : Nat) : Int) == (v : Int)) && (guestAt x 0).1.hl
end Go.Proofs.YtmiokacihcpepaaGreat.Kit
namespace Go.Proofs.YtmiokacihcpepaaGreat.Kit
set_option maxHeartbeats 8000000
set_option maxRecDepth 100000
set_option maxRecDepth 100000
open Go.ChangeShapes Go.WideShapes Go.ChangeAt Go.RowKit Go.Deep
open Go.Proofs.YtmiokacihcpepaaGreat.Base Go.Proofs.YtmiokacihcpepaaGreat.Mem Go.Proofs.YtmiokacihcpepaaGreat.Data Go.Proofs.YtmiokacihcpepaaGreat.Stt Go.Proofs.YtmiokacihcpepaaGreat.Guests Go.Proofs.YtmiokacihcpepaaGreat.Ctls Go.Proofs.YtmiokacihcpepaaGreat.Exits Go.Proofs.YtmiokacihcpepaaGreat.Irqs Go.Proofs.YtmiokacihcpepaaGreat.Inss Go.Proofs.YtmiokacihcpepaaGreat.Slots
theorem pg_0 : ∀ v : Fin 100, goB (pgM 0 (v.val : Int)) pgL pgT (pgF 0 v.val) = true := by decide +kernel
theorem pg_1 : ∀ v : Fin 100, goB (pgM 1 (v.val : Int)) pgL pgT (pgF 1 v.val) = true := by decide +kernel
theorem pg_2 : ∀ v : Fin 100, goB (pgM 2 (v.val : Int)) pgL pgT (pgF 2 v.val) = true := by decide +kernel
theorem pg_3 : ∀ v : Fin 100, goB (pgM 3 (v.val : Int)) pgL pgT (pgF 3 v.val) = true := by decide +kernel
end Go.Proofs.YtmiokacihcpepaaGreat.Kit
namespace Go.Proofs.YtmiokacihcpepaaGreat.Kit
set_option maxHeartbeats 8000000
set_option maxRecDepth 100000
set_option maxRecDepth 100000
open Go.ChangeShapes Go.WideShapes Go.ChangeAt Go.RowKit Go.Deep
open Go.Proofs.YtmiokacihcpepaaGreat.Base Go.Proofs.YtmiokacihcpepaaGreat.Mem Go.Proofs.YtmiokacihcpepaaGreat.Data Go.Proofs.YtmiokacihcpepaaGreat.Stt Go.Proofs.YtmiokacihcpepaaGreat.Guests Go.Proofs.YtmiokacihcpepaaGreat.Ctls Go.Proofs.YtmiokacihcpepaaGreat.Exits Go.Proofs.YtmiokacihcpepaaGreat.Irqs Go.Proofs.YtmiokacihcpepaaGreat.Inss Go.Proofs.YtmiokacihcpepaaGreat.Slots
theorem pg_4 : ∀ v : Fin 100, goB (pgM 4 (v.val : Int)) pgL pgT (pgF 4 v.val) = true := by decide +kernel
theorem pg_5 : ∀ v : Fin 100, goB (pgM 5 (v.val : Int)) pgL pgT (pgF 5 v.val) = true := by decide +kernel
theorem pg_6 : ∀ v : Fin 100, goB (pgM 6 (v.val : Int)) pgL pgT (pgF 6 v.val) = true := by decide +kernel
theorem pg_7 : ∀ v : Fin 100, goB (pgM 7 (v.val : Int)) pgL pgT (pgF 7 v.val) = true := by decide +kernel
end Go.Proofs.YtmiokacihcpepaaGreat.Kit
namespace Go.Proofs.YtmiokacihcpepaaGreat.Kit
set_option maxHeartbeats 8000000
set_option maxRecDepth 100000
set_option maxRecDepth 100000
open Go.ChangeShapes Go.WideShapes Go.ChangeAt Go.RowKit Go.Deep
open Go.Proofs.YtmiokacihcpepaaGreat.Base Go.Proofs.YtmiokacihcpepaaGreat.Mem Go.Proofs.YtmiokacihcpepaaGreat.Data Go.Proofs.YtmiokacihcpepaaGreat.Stt Go.Proofs.YtmiokacihcpepaaGreat.Guests Go.Proofs.YtmiokacihcpepaaGreat.Ctls Go.Proofs.YtmiokacihcpepaaGreat.Exits Go.Proofs.YtmiokacihcpepaaGreat.Irqs Go.Proofs.YtmiokacihcpepaaGreat.Inss Go.Proofs.YtmiokacihcpepaaGreat.Slots
theorem pg_8 : ∀ v : Fin 100, goB (pgM 8 (v.val : Int)) pgL pgT (pgF 8 v.val) = true := by decide +kernel
theorem pg_9 : ∀ v : Fin 100, goB (pgM 9 (v.val : Int)) pgL pgT (pgF 9 v.val) = true := by decide +kernel
theorem pg_10 : ∀ v : Fin 100, goB (pgM 10 (v.val : Int)) pgL pgT (pgF 10 v.val) = true := by decide +kernel
theorem pg_11 : ∀ v : Fin 100, goB (pgM 11 (v.val : Int)) pgL pgT (pgF 11 v.val) = true := by decide +kernel
end Go.Proofs.YtmiokacihcpepaaGreat.Kit
namespace Go.Proofs.YtmiokacihcpepaaGreat.Kit
set_option maxHeartbeats 8000000
set_option maxRecDepth 100000
set_option maxRecDepth 100000
open Go.ChangeShapes Go.WideShapes Go.ChangeAt Go.RowKit Go.Deep
open Go.Proofs.YtmiokacihcpepaaGreat.Base Go.Proofs.YtmiokacihcpepaaGreat.Mem Go.Proofs.YtmiokacihcpepaaGreat.Data Go.Proofs.YtmiokacihcpepaaGreat.Stt Go.Proofs.YtmiokacihcpepaaGreat.Guests Go.Proofs.YtmiokacihcpepaaGreat.Ctls Go.Proofs.YtmiokacihcpepaaGreat.Exits Go.Proofs.YtmiokacihcpepaaGreat.Irqs Go.Proofs.YtmiokacihcpepaaGreat.Inss Go.Proofs.YtmiokacihcpepaaGreat.Slots
theorem pg_12 : ∀ v : Fin 100, goB (pgM 12 (v.val : Int)) pgL pgT (pgF 12 v.val) = true := by decide +kernel
theorem pg_13 : ∀ v : Fin 100, goB (pgM 13 (v.val : Int)) pgL pgT (pgF 13 v.val) = true := by decide +kernel
theorem pg_14 : ∀ v : Fin 100, goB (pgM 14 (v.val : Int)) pgL pgT (pgF 14 v.val) = true := by decide +kernel
theorem pg_15 : ∀ v : Fin 100, goB (pgM 15 (v.val : Int)) pgL pgT (pgF 15 v.val) = true := by decide +kernel
end Go.Proofs.YtmiokacihcpepaaGreat.Kit
namespace Go.Proofs.YtmiokacihcpepaaGreat.Kit
set_option maxHeartbeats 8000000
set_option maxRecDepth 100000
set_option maxRecDepth 100000
open Go.ChangeShapes Go.WideShapes Go.ChangeAt Go.RowKit Go.Deep
open Go.Proofs.YtmiokacihcpepaaGreat.Base Go.Proofs.YtmiokacihcpepaaGreat.Mem Go.Proofs.YtmiokacihcpepaaGreat.Data Go.Proofs.YtmiokacihcpepaaGreat.Stt Go.Proofs.YtmiokacihcpepaaGreat.Guests Go.Proofs.YtmiokacihcpepaaGreat.Ctls Go.Proofs.YtmiokacihcpepaaGreat.Exits Go.Proofs.YtmiokacihcpepaaGreat.Irqs Go.Proofs.YtmiokacihcpepaaGreat.Inss Go.Proofs.YtmiokacihcpepaaGreat.Slots
theorem pg_all (a v : Nat) (ha : a < 16) (hv : v < 100) : goB (pgM (a : Int) (v : Int)) pgL pgT (pgF a v) = true := by
 rcases (show a = 0 ∨ a = 1 ∨ a = 2 ∨ a = 3 ∨ a = 4 ∨ a = 5 ∨ a = 6 ∨ a = 7 ∨ a = 8 ∨ a = 9 ∨ a = 10 ∨ a = 11 ∨ a = 12 ∨ a = 13 ∨ a = 14 ∨ a = 15 by omega) with rfl | rfl | rfl | rfl | rfl | rfl | rfl | rfl | rfl | rfl | rfl | rfl | rfl | rfl | rfl | rfl
 ·
  exact pg_0 ⟨v, hv⟩
 ·
  exact pg_1 ⟨v, hv⟩
 ·
  exact pg_2 ⟨v, hv⟩
 ·
  exact pg_3 ⟨v, hv⟩
 ·
  exact pg_4 ⟨v, hv⟩
 ·
  exact pg_5 ⟨v, hv⟩
 ·
  exact pg_6 ⟨v, hv⟩
 ·
  exact pg_7 ⟨v, hv⟩
 ·
  exact pg_8 ⟨v, hv⟩
 ·
  exact pg_9 ⟨v, hv⟩
 ·
  exact pg_10 ⟨v, hv⟩
 ·
  exact pg_11 ⟨v, hv⟩
 ·
  exact pg_12 ⟨v, hv⟩
 ·
  exact pg_13 ⟨v, hv⟩
 ·
  exact pg_14 ⟨v, hv⟩
 ·
  exact pg_15 ⟨v, hv⟩
end Go.Proofs.YtmiokacihcpepaaGreat.Kit
namespace Go.Proofs.YtmiokacihcpepaaGreat.Kit
set_option maxHeartbeats 8000000
set_option maxRecDepth 100000
set_option maxRecDepth 100000
theorem hasI_shaped {W : World} (h : W.ShapedOpen Tryz.prog) : HasI W := by
 obtain ⟨cs, hh, hs, -⟩ := h.1 0 #[.nilIface] 234 (by decide +kernel) (by kernel_rfl)
 have h1 : 0 < cs.size := by rw [hs]; decide
 exact ⟨cs[0], by simp [World.cell?, hh, h1]⟩
end Go.Proofs.YtmiokacihcpepaaGreat.Kit
namespace Go.Proofs.YtmiokacihcpepaaGreat.Draw
set_option maxHeartbeats 8000000
set_option maxRecDepth 100000
set_option maxRecDepth 100000
open Go.ChangeShapes Go.WideShapes Go.ChangeAt Go.RowKit
open Go.Proofs.YtmiokacihcpepaaGreat.Base
theorem big_yes (A : Option Addr) (n c : Nat) (w : World) (hn : n ≤ 9223372036854775807) (h : 1048576 < n) :
  Calls Tryz.prog 9 #[.slice A n c] w fun e w' => e = .returned (.bool true) ∧ w = w' := by
 go_enter Tryz.func9, Tryz.ntmps9
 go_wp2
 go_ret
 exact ⟨by simp; omega, rfl⟩
theorem big_no (A : Option Addr) (n c : Nat) (w : World) (h : n ≤ 1048576) :
  Calls Tryz.prog 9 #[.slice A n c] w fun e w' => e = .returned (.bool false) ∧ w = w' := by
 go_enter Tryz.func9, Tryz.ntmps9
 go_wp2
 go_ret
 exact ⟨by simp; omega, rfl⟩
end Go.Proofs.YtmiokacihcpepaaGreat.Draw
namespace Go.Proofs.YtmiokacihcpepaaGreat.Draw
set_option maxHeartbeats 8000000
set_option maxRecDepth 100000
set_option maxRecDepth 100000
open Go.ChangeShapes Go.WideShapes Go.ChangeAt Go.RowKit
open Go.Proofs.YtmiokacihcpepaaGreat.Base
theorem Tryz.infoInt : (Tryz.prog.info? 3).map (fun i => (i.zero, i.size, i.bytes)) = some (some (.int .i64 0), 1, 8) := by kernel_rfl
def icells (l : List Int) : List Value := l.map (Value.int .i64)
def PlacesPost (w : World) (e : Ending) (w' : World) : Prop :=
 ∃ (g' cap' : Nat) (l : List Int), e = .returned (.slice (some ⟨g', 0, none⟩) 12 cap') ∧ l.length = 12 ∧ (∀ x ∈ l, 0 ≤ x ∧ x < 10000) ∧ w'.ownsRow w.heap.size 3 1 (.slice (some ⟨g', 0, none⟩) 12 cap') 12 (icells l) ∧ Below w.heap.size w w'
theorem places_any (A : Option Addr) (n c : Nat) (w : World) (hn : n ≤ 1048576) (hcode : CodeAt w A n) :
  Calls Tryz.prog 29 #[.slice A n c] w (PlacesPost w) := by
 obtain ⟨i0, hi0, hz0, hz1, hz2⟩ := info_parts Tryz.infoInt
 have HC := Lib.hid hcode
 clear hcode
 go_enter Tryz.func29, Tryz.ntmps29
 go_wp2_with fail
 refine (new_any A n c _ hn HC.out).mono ?_
 rintro e w0 ⟨rfl, hcur, hsz⟩
 have HU := Lib.hid hcur
 have hsz1 : w.heap.size + 1 ≤ w0.heap.size := by omega
 have hb0 := hcur.1
 clear hcur hsz
 go_wp2_with fail
 go_loopw [4, 5] (fun v i wr => ∃ (k g cap : Nat) (l : List Int), k ≤ 12 ∧ i = .int .i64 k ∧ v = .slice (some ⟨g, 0, none⟩) k cap ∧ l.length = k ∧ (∀ x ∈ l, 0 ≤ x ∧ x < 10000) ∧ wr.ownsRow w.heap.size 3 1 (.slice (some ⟨g, 0, none⟩) k cap) k (icells l) ∧ Cur w A n c wr w.heap.size) (fun _ i _ => 12 - (intOf i).toNat)
 case atStart =>
  exact ⟨0, w0.heap.size, 0, [], Nat.zero_le _, rfl, rfl, rfl, (fun _ h => by cases h), World.ownsRow_made w0 #[] 0 hb0.size (Nat.zero_le _) rfl, HU.out.alloc _⟩
 case round =>
  obtain ⟨k, g, cap, l, hk, rfl, rfl, hl, hall, hown, hcur⟩ := hrel
  have HL := Lib.hid hl
  have HA := Lib.hid hall
  have HU := Lib.hid hcur
  have hbs := hcur.1.size
  clear hl hall hcur
  by_cases hlt : k < 12
  ·
   go_wp2_with fail
   refine (below_any w A n c w.heap.size _ 10000 (by omega) (by omega) hn HC.out HU.out).mono ?_
   rintro e w1 ⟨x, rfl, hx0, hx1, hc1, hg1⟩
   have hown1 := hown.kept hg1 (.inr (HU.out.ne hown (by decide)))
   have HU1 := Lib.hid hc1
   have hbs1 := hc1.1.size
   clear hc1 hg1
   go_wp2_with (at_builtin; refine wpList_append_lies _ rfl _ _ 26 rfl w.heap.size 3 i0 _ 1 8 Tryz.underlying26 hi0 hz0 hz1 hz2 rfl (by omega) (.slice (some ⟨g, 0, none⟩) k cap) k _ rfl (hown1.alloc _) ⟨w1.heap.size, 0, none⟩ 1 1 [.int .i64 x] rfl rfl (World.news_of_block (heap_alloc_new w1 _)) (by simp [Value.oneCell']) (by omega) (by simp only [maxLen]; omega) (by omega) (by simp; omega) (w1.heap.size + 1) (by simp) ?_; intro g' cap' w2 hown2 hgrow hat hg2)
   have hcur2 : Cur w A n c w2 w.heap.size := (HU1.out.alloc _).grown hgrow (HU1.out.ne hown1 (by decide)) (fun j hj => (hown1.lt j hj).1)
   have hall2 : ∀ y ∈ l ++ [x], 0 ≤ y ∧ y < 10000 := fun y hy => by
    rcases List.mem_append.1 hy with h | h
    ·
     exact HA.out y h
    ·
     have : y = x := by simpa using h
     subst this; exact ⟨hx0, hx1⟩
   have hown3 : w2.ownsRow w.heap.size 3 1 (.slice (some ⟨g', 0, none⟩) (k + 1) cap') (k + 1) (icells (l ++ [x])) := by simpa [icells] using hown2
   have hlen : (l ++ [x]).length = k + 1 := by simp [HL.out]
   have HF := Lib.hid (And.intro hcur2 (And.intro hall2 hlen))
   clear hown2 hgrow hat hg2 hcur2 hall2 hlen
   go_roundw
   case rel => exact ⟨k + 1, g', cap', l ++ [x], by omega, by go_num, rfl, HF.out.2.2, HF.out.2.1, hown3, HF.out.1⟩
   case measure => simp [intOf]; omega
  ·
   obtain rfl : k = 12 := by omega
   go_wp2_with fail
   go_ret
   exact ⟨g, cap, l, rfl, HL.out, HA.out, hown, HU.out.1⟩
end Go.Proofs.YtmiokacihcpepaaGreat.Draw
namespace Go.Proofs.YtmiokacihcpepaaGreat.fnProgram
set_option maxHeartbeats 8000000
set_option maxRecDepth 100000
set_option maxRecDepth 100000
open Go.ChangeShapes Go.WideShapes Go.ChangeAt Go.RowKit
open Go.Proofs.YtmiokacihcpepaaGreat.Base Go.Proofs.YtmiokacihcpepaaGreat.Mem Go.Proofs.YtmiokacihcpepaaGreat.Data Go.Proofs.YtmiokacihcpepaaGreat.Slots Go.Proofs.YtmiokacihcpepaaGreat.Ints Go.Proofs.YtmiokacihcpepaaGreat.Ctls Go.Proofs.YtmiokacihcpepaaGreat.Exits Go.Proofs.YtmiokacihcpepaaGreat.Stt Go.Proofs.YtmiokacihcpepaaGreat.Irqs Go.Proofs.YtmiokacihcpepaaGreat.Inss Go.Proofs.YtmiokacihcpepaaGreat.Draw Go.Proofs.YtmiokacihcpepaaGreat.Guests Go.Proofs.YtmiokacihcpepaaGreat.Kit
set_option linter.unusedVariables false
set_option linter.unusedSimpArgs false
theorem n_1 : (Lit.int .i64 1).wf = true := by decide
theorem n_3 : (Lit.int .i64 3).wf = true := by decide
theorem n_4 : (Lit.int .i64 4).wf = true := by decide
theorem n_5 : (Lit.int .i64 5).wf = true := by decide
theorem n_6 : (Lit.int .i64 6).wf = true := by decide
theorem n_7 : (Lit.int .i64 7).wf = true := by decide
theorem wf_small {l : List Int} (hl : l.length ≤ 100) (h : l.all (fun x => decide (-100 ≤ x) && decide (x ≤ 100)) = true) : (rLsw rInt).wf l := ⟨Nat.le_trans hl (by decide), fun x hx => by
 have := List.all_eq_true.1 h x hx
 simp only [Bool.and_eq_true, decide_eq_true_eq] at this
 exact wfI.2 (by omega)⟩
theorem lst_pos {α : Type} {r : Rp α} {w : World} {lo hi : Nat} {xs : List α} {A : Option Addr} {n c : Nat} (hs : 0 < r.sz) (hl : 0 < xs.length) (h : rdLst r w lo hi xs [.slice A n c]) : ∃ b off, A = some ⟨b, off, none⟩ := by
 cases xs with
 | nil => simp at hl
 | cons x xs => exact lst_some hs h
theorem lvS_len : ∀ i : Nat, i < 5 → (lvS i).length = 4 := by decide
theorem lvS_split : ∀ i : Nat, i < 4 → lvS i = (lvS i).take i ++ ((-1, 0) : Int × Int) :: (lvS i).drop (i + 1) := by decide
theorem lvS_set (i : Nat) (h : i < 4) : (lvS i).take i ++ ((7 - (i : Int), 3) : Int × Int) :: (lvS i).drop (i + 1) = lvS (i + 1) := by
 rcases (show i = 0 ∨ i = 1 ∨ i = 2 ∨ i = 3 by omega) with rfl | rfl | rfl | rfl <;> decide
theorem lvS_wf : ∀ s ∈ lvS 4, (Lit.int .i64 s.1).wf = true ∧ (Lit.int .i64 s.2).wf = true := fun s hs => by
 have hs' : s ∈ [((7, 3) : Int × Int), (6, 3), (5, 3), (4, 3)] := hs
 simp only [List.mem_cons, List.not_mem_nil, or_false] at hs'
 rcases hs' with rfl | rfl | rfl | rfl <;> exact ⟨by decide, by decide⟩
theorem one_gs {m : bT} {x : gT} (hm : wB.wf m) (hc : wB.cap m) (hx : wfGuest x) (hcx : wG.cap x) : wB.wf { m with gs := [x] } ∧ wB.cap { m with gs := [x] } :=
 ⟨⟨hm.1, ⟨by simp [maxLen], fun y hy => by rw [List.mem_singleton.1 hy]; exact hx⟩, hm.2.2⟩, ⟨hc.1, ⟨by simp, fun y hy => by rw [List.mem_singleton.1 hy]; exact hcx⟩, hc.2.2⟩⟩
theorem set_lv {g : gT} {l : List (Int × Int)} (h : wfGuest g) (hc : wG.cap g) (hl : l.length ≤ 1048576) (hw : ∀ s ∈ l, (Lit.int .i64 s.1).wf = true ∧ (Lit.int .i64 s.2).wf = true) : wfGuest { g with lv := l } ∧ wG.cap { g with lv := l } :=
 ⟨⟨h.1, h.2.1, h.2.2.1, h.2.2.2.1, ⟨Nat.le_trans hl (by decide), hw⟩, h.2.2.2.2.2⟩, ⟨hc.1, hc.2.1, hc.2.2.1, hc.2.2.2.1, ⟨hl, fun _ _ => ⟨trivial, trivial⟩⟩, hc.2.2.2.2.2⟩⟩
theorem pgP_ok (a v : Nat) (ha : a < 16) (hv : v < 100) : ∀ p ∈ [pgP (a : Int) (v : Int)], Inss.wfJL p ∧ p.length ≤ 20 := fun p hp => by
 rw [List.mem_singleton.1 hp]
 refine ⟨fun s hs => ?_, by simp [pgP]⟩
 simp only [pgP, List.mem_cons, List.not_mem_nil, or_false] at hs
 rcases hs with rfl | rfl | rfl | rfl | rfl | rfl
 ·
  exact ⟨n_1, wfN v (by omega)⟩
 ·
  exact ⟨n_4, wfN a (by omega)⟩
 ·
  exact ⟨n_1, z0⟩
 ·
  exact ⟨n_3, wfN a (by omega)⟩
 ·
  exact ⟨n_5, n_5⟩
 ·
  exact ⟨n_7, z0⟩
theorem pgM_ok (a v : Nat) (ha : a < 16) (hv : v < 100) : wB.wf (pgM (a : Int) (v : Int)) ∧ wB.cap (pgM (a : Int) (v : Int)) := by
 have hw := pgP_ok a v ha hv
 have h1 := wf_newB hw
 have h2 := cap_newB (cap_prgs hw (by simp))
 have h3 : wfGuest (newG (pgP (a : Int) (v : Int))) := h1.2.1.2 (newG (pgP (a : Int) (v : Int))) (by simp [newB])
 have h4 : wG.cap (newG (pgP (a : Int) (v : Int))) := h2.2.1.2 (newG (pgP (a : Int) (v : Int))) (by simp [newB])
 have h5 := set_lv h3 h4 (l := lvS 4) (by decide) lvS_wf
 exact one_gs h1 h2 h5.1 h5.2
theorem walk (A : Option Addr) (n c : Nat) (hn : n ≤ maxLen) {w : World} (hcode : CodeAt w A n) (hsi : HasI w) :
  Calls Tryz.prog 4 #[.slice A n c] w fun e w' => e = .returned (.bool true) ∧ Below w.heap.size w w' := by
 replace hn : n ≤ 9223372036854775807 := hn
 by_cases h1 : 1048576 < n
 ·
  refine Sx.enter (args := [.slice A n c]) Tryz.func4 rfl Tryz.ntmps4 rfl ?_
  refine Sx.C.seq (Sx.C.region ?_)
  refine Sx.G.p (.bool false) ?_
  refine Sx.G.nil (Sx.E.next (Sx.C.seq (Sx.C.seq (Sx.C.region ?_))))
  refine Sx.G.p (.slice A n c) ?_
  refine Sx.G.cp 9 #[.slice A n c] (.bool true) (fun w S => by exact ((big_yes A n c _ hn h1).mono fun e w' h => And.intro h.1 (below_eq h.2))) ?_
  refine Sx.G.nil (Sx.E.next (Sx.C.yy (Sx.C.seq (Sx.C.region ?_))))
  refine Sx.G.p (.bool true) ?_
  refine Sx.G.nil (Sx.E.next (Sx.C.ret (Sx.E.then_ret ?_)))
  refine Sx.E.ret1 (.bool true) rfl (by kernel_rfl) (fun w S => ?_)
  exact ⟨rfl, S.below⟩
 ·
  have hn2 : n ≤ 1048576 := by omega
  refine Sx.enter (args := [.slice A n c]) Tryz.func4 rfl Tryz.ntmps4 rfl ?_
  refine Sx.C.seq (Sx.C.region ?_)
  refine Sx.G.p (.bool false) ?_
  refine Sx.G.nil (Sx.E.next (Sx.C.seq (Sx.C.seq (Sx.C.region ?_))))
  refine Sx.G.p (.slice A n c) ?_
  refine Sx.G.cp 9 #[.slice A n c] (.bool false) (fun w S => by exact ((big_no A n c _ hn2).mono fun e w' h => And.intro h.1 (below_eq h.2))) ?_
  refine Sx.G.nil (Sx.E.next (Sx.C.nn (Sx.C.skip (Sx.E.next (Sx.C.seq (Sx.C.region ?_))))))
  refine Sx.G.p (.slice A n c) ?_
  refine Sx.G.c 29 #[.slice A n c] (fun w1 S => (places_any A n c _ hn2 (hcode.below S.below)).mono fun e w1' hp => ?_)
  obtain ⟨gp, cp, l, rfl, hl, hall, hown, hb⟩ := hp
  have hl0 : ∀ x ∈ l, 0 ≤ x := fun x hx => (hall x hx).1
  obtain ⟨hv1, hv2, hv3⟩ := Sx.row_vr hown
  obtain ⟨p0, hp0, hq0⟩ := rem_nat hl0 0 16 (by decide)
  obtain ⟨p1, hp1, hq1⟩ := rem_nat hl0 1 100 (by decide)
  refine ⟨_, _, rfl, (S.add hb (vr gp (Stt.icells l)) hv1 hv2 hv3), ?_⟩
  clear S hb hv1 hv2 hv3 hown hall
  have hprg : ∀ p ∈ [[(1, (p1 : Int)), (4, (p0 : Int)), (1, 0), (3, (p0 : Int)), (5, 5), (7, 0)]], Inss.wfJL p ∧ p.length ≤ 20 := pgP_ok p0 p1 hp0 hp1
  obtain ⟨M0, hM⟩ : ∃ M, M = (newB [[(1, (p1 : Int)), (4, (p0 : Int)), (1, 0), (3, (p0 : Int)), (5, 5), (7, 0)]]).mem := ⟨_, rfl⟩
  have hM0 : (newB [[(1, (p1 : Int)), (4, (p0 : Int)), (1, 0), (3, (p0 : Int)), (5, 5), (7, 0)]]).mem = M0 := hM.symm
  obtain ⟨g0, hg0⟩ : ∃ g, g = newG (pgP (p0 : Int) (p1 : Int)) := ⟨_, rfl⟩
  have hgs : (newB [[(1, (p1 : Int)), (4, (p0 : Int)), (1, 0), (3, (p0 : Int)), (5, 5), (7, 0)]]).gs = [({ g0 with lv := lvS 0 } : gT)] := by rw [hg0]; rfl
  have hos : (newB [[(1, (p1 : Int)), (4, (p0 : Int)), (1, 0), (3, (p0 : Int)), (5, 5), (7, 0)]]).outs = [] := rfl
  obtain ⟨m1, hm1⟩ : ∃ m, m = pgM (p0 : Int) (p1 : Int) := ⟨_, rfl⟩
  have hpt : m1 = ({ mem := M0, gs := [({ g0 with lv := lvS 4 } : gT)], outs := [], pd := 0 } : bT) := by rw [hm1, hM, hg0]; rfl
  have hok := pgM_ok p0 p1 hp0 hp1
  have hst0 := pg_all p0 p1 hp0 hp1
  rw [← hm1] at hok
  have hst : goB m1 pgL pgT (pgF p0 p1) = true := hm1 ▸ hst0
  have hmc := hok.2
  have hmn := hok.1
  have hlw : (rLsw rInt).wf pgL := wf_small (by decide) (by decide)
  have hlc : (rLsw rInt).cap pgL := ⟨by decide, fun _ _ => trivial⟩
  obtain ⟨z, hz⟩ : ∃ z, z = (stepsB m1 pgL).1 := ⟨_, rfl⟩
  obtain ⟨hz2', hzf, -⟩ := goB_all hst
  have hz2 : (stepsB m1 pgL).2 = [true, true, true, true, true, true, false] := hz2'
  rw [← hz] at hzf
  have hzc : wB.cap z := hz ▸ cap_stepsB _ hmc
  have hzn : wB.wf z := hz ▸ wf_stepsB _ hmn
  unfold pgF at hzf
  simp only [Bool.and_eq_true, decide_eq_true_eq, beq_iff_eq] at hzf
  obtain ⟨⟨⟨hs0, hxo⟩, hcl⟩, hh0⟩ := hzf
  clear hst0 hz2' hok
  refine Sx.G.p (.slice (some ⟨gp, 0, none⟩) 12 cp) ?_
  refine Sx.G.nil (Sx.E.next (Sx.C.seq (Sx.C.region ?_)))
  refine Sx.G.p (.slice (some ⟨gp, 0, none⟩) 12 cp) ?_
  refine Sx.G.pure (.pointer (some ⟨gp, 0 + 0 * 1, none⟩)) (by kernel_rfl) (fun w => Sx.run_elemO 3 1 8 gp 0 12 cp 0 rfl (by kernel_rfl) (by kernel_rfl) (by kernel_rfl) (by omega) w) ?_
  refine Sx.G.reads (.int .i64 (l.getD 0 0)) (by kernel_rfl) (fun w S => Sx.run_ldr1 rfl (by kernel_rfl) (by kernel_rfl) (show w.cell? ⟨gp, 0 + 0 * 1, none⟩ = some (.int .i64 (l.getD 0 0)) by rw [Nat.zero_add, Nat.mul_one]; exact St.cell S 0 rfl 0 (pl_cell l 0 (by omega)))) ?_
  refine Sx.G.q (.int .i64 ((l.getD 0 0).tmod 16)) (.int .i64 (p0 : Int)) (congrArg (Value.int .i64) hq0) ?_
  refine Sx.G.p (.int .i64 (p0 : Int)) ?_
  refine Sx.G.nil (Sx.E.next (Sx.C.seq (Sx.C.region ?_)))
  refine Sx.G.p (.slice (some ⟨gp, 0, none⟩) 12 cp) ?_
  refine Sx.G.pure (.pointer (some ⟨gp, 0 + 1 * 1, none⟩)) (by kernel_rfl) (fun w => Sx.run_elemO 3 1 8 gp 0 12 cp 1 rfl (by kernel_rfl) (by kernel_rfl) (by kernel_rfl) (by omega) w) ?_
  refine Sx.G.reads (.int .i64 (l.getD 1 0)) (by kernel_rfl) (fun w S => Sx.run_ldr1 rfl (by kernel_rfl) (by kernel_rfl) (show w.cell? ⟨gp, 0 + 1 * 1, none⟩ = some (.int .i64 (l.getD 1 0)) by rw [Nat.zero_add, Nat.mul_one]; exact St.cell S 0 rfl 1 (pl_cell l 1 (by omega)))) ?_
  refine Sx.G.q (.int .i64 ((l.getD 1 0).tmod 100)) (.int .i64 (p1 : Int)) (congrArg (Value.int .i64) hq1) ?_
  refine Sx.G.p (.int .i64 (p1 : Int)) ?_
  refine Sx.G.nil (Sx.E.next (Sx.C.seq (Sx.C.region ?_)))
  refine Sx.G.p (.int .i64 (p1 : Int)) ?_
  refine Sx.G.p (.agg #[.int .i64 1, .int .i64 (p1 : Int)]) ?_
  refine Sx.G.p (.int .i64 (p0 : Int)) ?_
  refine Sx.G.p (.agg #[.int .i64 4, .int .i64 (p0 : Int)]) ?_
  refine Sx.G.p (.agg #[.int .i64 1, .int .i64 0]) ?_
  refine Sx.G.p (.int .i64 (p0 : Int)) ?_
  refine Sx.G.p (.agg #[.int .i64 3, .int .i64 (p0 : Int)]) ?_
  refine Sx.G.p (.agg #[.int .i64 5, .int .i64 5]) ?_
  refine Sx.G.p (.agg #[.int .i64 7, .int .i64 0]) ?_
  refine Sx.G.made 48 [.int .i64 1, .int .i64 (p1 : Int), .int .i64 4, .int .i64 (p0 : Int), .int .i64 1, .int .i64 0, .int .i64 3, .int .i64 (p0 : Int), .int .i64 5, .int .i64 5, .int .i64 7, .int .i64 0] 6 (by kernel_rfl) (fun w => by kernel_rfl) (fun b2 => ?_)
  refine Sx.G.block 49 [.slice (some ⟨b2, 0, none⟩) 6 6] 1 (by kernel_rfl) (fun w => by kernel_rfl) (fun b3 => ?_)
  refine Sx.G.c 25 #[.slice (some ⟨b3, 0, none⟩) 1 1] (fun w4 S => (specx_bnew [[(1, (p1 : Int)), (4, (p0 : Int)), (1, 0), (3, (p0 : Int)), (5, 5), (7, 0)]] (some ⟨b3, 0, none⟩) 1 _ (cap_prgs hprg (by simp)) (bk_lst (r := rLsw (rPair rInt rInt)) (xs := [[(1, (p1 : Int)), (4, (p0 : Int)), (1, 0), (3, (p0 : Int)), (5, 5), (7, 0)]]) S 0 rfl ⟨[_], _, rfl, (vr_prog (p := [(1, (p1 : Int)), (4, (p0 : Int)), (1, 0), (3, (p0 : Int)), (5, 5), (7, 0)]) S 1 rfl), rfl⟩)).mono fun e w4' hp => ?_)
  obtain ⟨cs, F, rfl, ho, hF, hb⟩ := hp
  obtain ⟨P4_0, P4_1, P4_2, G4_0, G4_1, G4_2, rfl, S'⟩ := rB_open (St.got S hb ho hF)
  rw [hM0, hgs, hos] at S'
  obtain ⟨A4_0, c4_0, e4_0, -⟩ := lst_val (S'.reads 0 rfl)
  subst e4_0
  obtain ⟨A4_1, c4_1, e4_1, -⟩ := lst_val (S'.reads 1 rfl)
  subst e4_1
  obtain ⟨A4_2, c4_2, e4_2, -⟩ := lst_val (S'.reads 2 rfl)
  subst e4_2
  refine ⟨_, _, rfl, S', ?_⟩
  clear S S' ho hF hb
  refine Sx.G.ar [.slice none 0 0, .slice none 0 0, .slice none 0 0, .int .i64 0] (fun b5 => ?_)
  refine Sx.G.sw [.slice A4_0 M0.length c4_0, .slice A4_1 1 c4_1, .slice A4_2 0 c4_2, .int .i64 0] .a0 ?_
  refine Sx.G.nil (Sx.E.next (Sx.C.seq (Sx.C.seq ?_)))
  refine Sx.C.know (p := ∃ b o, A4_1 = some ⟨b, o, none⟩) (fun w S => lst_some (by decide) (show rdLst wG _ _ _ _ _ from St.reads S 2 rfl)) ?_
  rintro ⟨gb, go, rfl⟩
  refine Sx.C.region ?_
  refine Sx.G.p (.int .i64 0) ?_
  refine Sx.G.nil (Sx.E.next (Sx.C.block ?_))
  refine Sx.C.loop (α := Nat × Nat × List Nat) (fun x => x.1 ≤ 4) (fun x => [(7, .int .i64 (x.1 : Int)), (2, .bool false), (4, .int .i64 (p0 : Int)), (5, .int .i64 (p1 : Int)), (6, .pointer (some ⟨b5, 0, none⟩))]) (fun x => [ow (rLsw wG) w.heap.size x.2.1 [({ g0 with lv := lvS x.1 } : gT)] [.slice (some ⟨gb, go, none⟩) 1 c4_1] x.2.2, vr b5 [.slice A4_0 M0.length c4_0, .slice (some ⟨gb, go, none⟩) 1 c4_1, .slice A4_2 0 c4_2, .int .i64 0], ow (rLsw (rLsw rInt)) w4.heap.size w4'.heap.size M0 [.slice A4_0 M0.length c4_0] G4_0, ow (rLst 3 rInt) w4.heap.size (w4'.heap.size) (([] : List Int)) [.slice A4_2 0 c4_2] G4_2, Sx.bk b3 [.slice (some ⟨b2, 0, none⟩) 6 6] 49, vr b2 [.int .i64 1, .int .i64 (p1 : Int), .int .i64 4, .int .i64 (p0 : Int), .int .i64 1, .int .i64 0, .int .i64 3, .int .i64 (p0 : Int), .int .i64 5, .int .i64 5, .int .i64 7, .int .i64 0], vr gp (Stt.icells l)]) (fun x => 4 - x.1) (0, w4'.heap.size, G4_1) (Nat.zero_le _) (fun a hA => (Sx.Ag.sub hA (by kernel_rfl))) (fun w' S => by have S2 := St.pick S [2, 0, 1, 3, 4, 5, 6] (_ :: [vr b5 [.slice A4_0 M0.length c4_0, .slice (some ⟨gb, go, none⟩) 1 c4_1, .slice A4_2 0 c4_2, .int .i64 0], ow (rLsw (rLsw rInt)) w4.heap.size w4'.heap.size M0 [.slice A4_0 M0.length c4_0] G4_0, ow (rLst 3 rInt) w4.heap.size (w4'.heap.size) (([] : List Int)) [.slice A4_2 0 c4_2] G4_2, Sx.bk b3 [.slice (some ⟨b2, 0, none⟩) 6 6] 49, vr b2 [.int .i64 1, .int .i64 (p1 : Int), .int .i64 4, .int .i64 (p0 : Int), .int .i64 1, .int .i64 0, .int .i64 3, .int .i64 (p0 : Int), .int .i64 5, .int .i64 5, .int .i64 7, .int .i64 0], vr gp (Stt.icells l)]) rfl (by decide); exact Sx.St.widen S2 0 rfl (Nat.le_refl _) (S2.hi 0 _ rfl)) (fun x hx => ?_)
  obtain ⟨i, hi, hF⟩ := x
  dsimp only at hx
  refine Sx.C.seq (Sx.C.seq (Sx.C.region ?_))
  refine Sx.G.p (.int .i64 (i : Int)) ?_
  refine Sx.G.p (.bool (decide ((i : Int) < 4))) ?_
  refine Sx.G.nil (Sx.E.next ?_)
  cases hc6 : (decide ((i : Int) < 4))
  ·
   have hb6 := hc6
   replace hc6 := of_decide_eq_false hc6
   refine Sx.C.nn (Sx.C.exit (Sx.E.then_exit (Sx.E.then_exit (Sx.E.block_hit (Sx.E.next (Sx.C.seq ?_))))))
   obtain rfl : i = 4 := by omega
   refine Sx.C.region ?_
   refine Sx.G.lw .m1 ?_
   refine Sx.G.block 3 [.int .i64 0, .int .i64 0, .int .i64 0, .int .i64 0, .int .i64 0, .int .i64 0, .int .i64 0] 7 (by kernel_rfl) (fun w => by kernel_rfl) (fun b7 => ?_)
   refine Sx.G.c 14 #[.agg #[.slice A4_0 M0.length c4_0, .slice (some ⟨gb, go, none⟩) 1 c4_1, .slice A4_2 0 c4_2, .int .i64 0], .slice (some ⟨b7, 0, none⟩) 7 7] (fun w8 S => (implx_steps m1 _ pgL (some ⟨b7, 0, none⟩) 7 _ hmc (by rw [hpt]; exact wB_rd_mk (g := ({ mem := M0, gs := [({ g0 with lv := lvS 4 } : gT)], outs := [], pd := 0 } : bT)) (St.reads S 3 rfl) (St.reads S 1 rfl) (show rdLst rInt _ _ _ _ _ from St.reads (r := rLst 3 rInt) S 4 rfl)) hmn hlw hlc (bk_lst (r := rInt) (xs := [0, 0, 0, 0, 0, 0, 0]) S 0 rfl (ints_all _ _ _ [0, 0, 0, 0, 0, 0, 0])) (goB_walks hst hmc hmn (hsi.below S.below))).mono fun e w8' hp => ?_)
   obtain ⟨cs, u, F, G, rfl, S1⟩ := hp
   rw [hz2, ← hz] at S1
   obtain ⟨P8_0, P8_1, P8_2, rfl, f8_0, f8_1, f8_2⟩ := wB_rd (St.reads S1 0 rfl)
   obtain ⟨A8_0, c8_0, e8_0, -⟩ := lst_val f8_0
   subst e8_0
   obtain ⟨A8_1, c8_1, e8_1, -⟩ := lst_val f8_1
   subst e8_1
   obtain ⟨A8_2, c8_2, e8_2, -⟩ := lst_val f8_2
   subst e8_2
   obtain ⟨tA8, tc8, te8, -⟩ := lst_val (St.reads S1 1 rfl)
   subst te8
   obtain ⟨tb8, to8, tq8⟩ := lst_some (by decide) (show rdLst rBool _ _ _ _ _ from St.reads S1 1 rfl)
   subst tq8
   generalize F = F8 at S1
   generalize G = G8 at S1
   refine ⟨_, _, rfl, (Sx.St.join S S1), ?_⟩
   clear S S1 f8_0 f8_1 f8_2
   refine Sx.G.p (.tuple #[.agg #[.slice A8_0 z.mem.length c8_0, .slice A8_1 z.gs.length c8_1, .slice A8_2 z.outs.length c8_2, .int .i64 z.pd], .slice (some ⟨tb8, to8, none⟩) 7 tc8]) ?_
   refine Sx.G.p (.agg #[.slice A8_0 z.mem.length c8_0, .slice A8_1 z.gs.length c8_1, .slice A8_2 z.outs.length c8_2, .int .i64 z.pd]) ?_
   refine Sx.G.p (.slice (some ⟨tb8, to8, none⟩) 7 tc8) ?_
   refine Sx.G.ar [.slice none 0 0, .slice none 0 0, .slice none 0 0, .int .i64 0] (fun b9 => ?_)
   refine Sx.G.sw [.slice A8_0 z.mem.length c8_0, .slice A8_1 z.gs.length c8_1, .slice A8_2 z.outs.length c8_2, .int .i64 z.pd] .a0 ?_
   refine Sx.G.p (.slice (some ⟨tb8, to8, none⟩) 7 tc8) ?_
   refine Sx.G.nil (Sx.E.next (Sx.C.seq (Sx.C.region ?_)))
   refine Sx.G.p (.slice (some ⟨tb8, to8, none⟩) 7 tc8) ?_
   refine Sx.G.p (.int .i64 7) ?_
   refine Sx.G.p (.bool true) ?_
   refine Sx.G.p (.bool true) ?_
   refine Sx.G.p (.slice (some ⟨tb8, to8, none⟩) 7 tc8) ?_
   refine Sx.G.pure (.pointer (some ⟨tb8, to8 + 5 * 1, none⟩)) (by kernel_rfl) (fun w => Sx.run_elemO 4 1 1 tb8 to8 7 tc8 5 rfl (by kernel_rfl) (by kernel_rfl) (by kernel_rfl) (by decide) w) ?_
   refine Sx.G.reads (.bool true) (by kernel_rfl) (fun w S => Sx.run_ldr1 rfl (by kernel_rfl) (by kernel_rfl) (show w.cell? ⟨tb8, to8 + 5 * 1, none⟩ = some (.bool true) by obtain ⟨b9, o9, e9, h9⟩ := elem_b (St.reads S 2 rfl) 5 (by decide); cases e9; rw [Nat.mul_one]; exact h9)) ?_
   refine Sx.G.p (.bool true) ?_
   refine Sx.G.p (.bool true) ?_
   refine Sx.G.p (.slice (some ⟨tb8, to8, none⟩) 7 tc8) ?_
   refine Sx.G.pure (.pointer (some ⟨tb8, to8 + 6 * 1, none⟩)) (by kernel_rfl) (fun w => Sx.run_elemO 4 1 1 tb8 to8 7 tc8 6 rfl (by kernel_rfl) (by kernel_rfl) (by kernel_rfl) (by decide) w) ?_
   refine Sx.G.reads (.bool false) (by kernel_rfl) (fun w S => Sx.run_ldr1 rfl (by kernel_rfl) (by kernel_rfl) (show w.cell? ⟨tb8, to8 + 6 * 1, none⟩ = some (.bool false) by obtain ⟨b9, o9, e9, h9⟩ := elem_b (St.reads S 2 rfl) 6 (by decide); cases e9; rw [Nat.mul_one]; exact h9)) ?_
   refine Sx.G.p (.bool true) ?_
   refine Sx.G.p (.bool true) ?_
   refine Sx.G.p (.bool true) ?_
   refine Sx.G.lw .m0 ?_
   refine Sx.G.c 21 #[.agg #[.slice A8_0 z.mem.length c8_0, .slice A8_1 z.gs.length c8_1, .slice A8_2 z.outs.length c8_2, .int .i64 z.pd], .int .i64 0] (fun w10 S => (implx_seen z _ 0 _ hzc (St.reads (r := wB) S 1 rfl) hzn (by decide)).mono fun e w10' hp => ?_)
   rw [hs0] at hp
   obtain ⟨cs, F, rfl, ho, hF, hb⟩ := hp
   obtain ⟨u10, rfl⟩ := lsw_own ho
   obtain ⟨A10, c10, e10, -⟩ := lst_val ((rLsw _).reads ho)
   subst e10
   generalize F = F10 at ho hF
   refine ⟨_, _, rfl, (St.got S hb ho hF), ?_⟩
   clear S hb ho hF
   refine Sx.G.p (.int .i64 (p1 : Int)) ?_
   refine Sx.G.block 3 [.int .i64 (p1 : Int)] 1 (by kernel_rfl) (fun w => by kernel_rfl) (fun b11 => ?_)
   refine Sx.G.cp 18 #[.slice A10 1 c10, .slice (some ⟨b11, 0, none⟩) 1 1] (.bool true) (fun w S => by exact ((lawx_ints ([(p1 : Int)] : List Int) ([(p1 : Int)] : List Int) A10 c10 (some ⟨b11, 0, none⟩) 1 _ (by exact ⟨by simp, fun _ _ => trivial⟩) (by exact ⟨by simp, fun _ _ => trivial⟩) (show rdLst rInt _ _ _ _ _ from St.reads S 1 rfl) (bk_lst (r := rInt) (xs := [(p1 : Int)]) S 0 rfl (ints_all _ _ _ [(p1 : Int)]))).mono fun e w' h => And.intro (h.1.trans (by rw [eqv_true rfl])) h.2)) ?_
   refine Sx.G.p (.bool true) ?_
   refine Sx.G.p (.bool true) ?_
   refine Sx.G.p (.pointer (some ⟨b9, 2, none⟩)) ?_
   refine Sx.G.g (.slice A8_2 z.outs.length c8_2) .m2 .m2 ?_
   refine Sx.G.block 3 [.int .i64 5] 1 (by kernel_rfl) (fun w => by kernel_rfl) (fun b12 => ?_)
   refine Sx.G.cp 18 #[.slice A8_2 z.outs.length c8_2, .slice (some ⟨b12, 0, none⟩) 1 1] (.bool true) (fun w S => by exact ((lawx_ints z.outs ([5] : List Int) A8_2 c8_2 (some ⟨b12, 0, none⟩) 1 _ hzc.2.2.1 (by exact ⟨by simp, fun _ _ => trivial⟩) (wB_part2 (St.reads (r := wB) S 4 rfl)) (bk_lst (r := rInt) (xs := [5]) S 0 rfl (ints_all _ _ _ [5]))).mono fun e w' h => And.intro (h.1.trans (by rw [eqv_true hxo])) h.2)) ?_
   refine Sx.G.p (.bool true) ?_
   refine Sx.G.p (.bool true) ?_
   refine Sx.G.p (.pointer (some ⟨b9, 0, none⟩)) ?_
   refine Sx.G.g (.slice A8_0 z.mem.length c8_0) .m3 .m0 ?_
   refine Sx.G.p (.int .i64 (p0 : Int)) ?_
   refine Sx.G.q (.int .i64 (IntKind.i64.wrap ((p0 : Int).tdiv 4))) (.int .i64 ((p0 / 4 : Nat) : Int)) (congrArg (Value.int .i64) (by show IntKind.i64.wrap ((p0 : Int).tdiv ((4 : Nat) : Int)) = _; rw [tdiv_nat p0 4, IntKind.wrap_i64]; omega)) ?_
   refine Sx.G.q (.int .i64 (IntKind.i64.wrap (7 - ((p0 / 4 : Nat) : Int)))) (.int .i64 (7 - ((p0 / 4 : Nat) : Int))) (congrArg (Value.int .i64) (by rw [IntKind.wrap_i64]; omega)) ?_
   refine Sx.G.p (.int .i64 (p0 : Int)) ?_
   refine Sx.G.q (.int .i64 ((p0 : Int).tmod 4)) (.int .i64 ((p0 % 4 : Nat) : Int)) (congrArg (Value.int .i64) (tmod_nat p0 4)) ?_
   refine Sx.G.cp 30 #[.slice A8_0 z.mem.length c8_0, .int .i64 (7 - ((p0 / 4 : Nat) : Int)), .int .i64 ((p0 % 4 : Nat) : Int)] (.int .i64 (p1 : Int)) (fun w S => by exact ((specx_cellat z.mem A8_0 c8_0 (7 - ((p0 / 4 : Nat) : Int)) ((p0 % 4 : Nat) : Int) _ hzc.1 (wB_part0 (St.reads (r := wB) S 4 rfl))).mono fun e w' h => And.intro (h.1.trans (by rw [hcl])) h.2)) ?_
   refine Sx.G.p (.int .i64 (p1 : Int)) ?_
   refine Sx.G.q (.bool ((p1 : Int) == (p1 : Int))) (.bool true) (congrArg Value.bool (beq_self_eq_true _)) ?_
   refine Sx.G.p (.bool true) ?_
   refine Sx.G.p (.bool true) ?_
   refine Sx.G.lw .m3 ?_
   refine Sx.G.c 31 #[.agg #[.slice A8_0 z.mem.length c8_0, .slice A8_1 z.gs.length c8_1, .slice A8_2 z.outs.length c8_2, .int .i64 z.pd], .int .i64 0] (fun w13 S => (lawx_gof z _ 0 _ hzc (St.reads (r := wB) S 4 rfl)).mono fun e w13' hp => ?_)
   obtain ⟨cs, F, rfl, ho, hF, hb⟩ := hp
   obtain ⟨y13, hy13⟩ : ∃ y, y = (guestAt z 0).1 := ⟨_, rfl⟩
   have hh13 := hh0
   rw [← hy13] at ho hh13
   obtain ⟨P13_0, P13_1, P13_2, P13_3, rfl, f13_0, f13_1, f13_2, f13_3⟩ := wG_rd (wG.reads ho)
   rw [hh13] at ho
   obtain ⟨A13_0, c13_0, e13_0, -⟩ := lst_val f13_0
   subst e13_0
   obtain ⟨A13_1, c13_1, e13_1, -⟩ := lst_val f13_1
   subst e13_1
   obtain ⟨A13_2, c13_2, e13_2, -⟩ := lst_val f13_2
   subst e13_2
   obtain ⟨A13_3, c13_3, e13_3, -⟩ := lst_val f13_3
   subst e13_3
   rw [hh13]
   generalize F = F13 at ho hF
   refine ⟨_, _, rfl, (St.got S hb ho hF), ?_⟩
   clear S hb ho hF f13_0 f13_1 f13_2 f13_3
   refine Sx.G.p (.bool true) ?_
   refine Sx.G.p (.bool true) ?_
   refine Sx.G.p (.bool true) ?_
   refine Sx.G.nil (Sx.E.next (Sx.C.ret ?_))
   refine Sx.E.ret1 (.bool true) rfl (by kernel_rfl) (fun w S => ?_)
   exact ⟨rfl, S.below⟩
  ·
   have hb6 := hc6
   replace hc6 := of_decide_eq_true hc6
   refine Sx.C.yy (Sx.C.skip (Sx.E.next (Sx.C.seq (Sx.C.block ?_))))
   refine Sx.C.pk (.c .m0 (.c .m1 (.c .m2 (.c .m3 (.c .m4 (.c .m5 (.c .m6 .n))))))) ?_
   refine Sx.C.open (r := wG) (pre := []) (x := ({ g0 with lv := lvS i } : gT)) (post := []) rfl (by decide) (fun b14 o14 es G114 Gi14 G214 eA eF hes hm hmc14 => ?_)
   obtain ⟨rfl, rfl⟩ : gb = b14 ∧ go = o14 := by cases eA; exact ⟨rfl, rfl⟩
   subst eF
   refine Kit.copen_Guest (fun P14_0 P14_1 P14_2 P14_3 H14_0 H14_1 H14_2 H14_3 e1 e2 => ?_)
   subst e1 e2
   have hi4 : i < 4 := by omega
   refine Sx.C.know (p := ∃ b o c, P14_2 = .slice (some ⟨b, o, none⟩) 4 c) (fun w S => by obtain ⟨A9, c9, e9, -⟩ := lst_val (show rdLst (rPair rInt rInt) _ _ _ _ _ from St.reads S 3 rfl); have h9 : rdLst (rPair rInt rInt) _ _ _ (lvS i) _ := St.reads S 3 rfl; rw [e9] at h9; obtain ⟨b9, o9, e8⟩ := lst_pos (by decide) (by rw [lvS_len i (by omega)]; decide) h9; subst e8; exact ⟨b9, o9, c9, by rw [e9]; show Value.slice _ (lvS i).length _ = _; rw [lvS_len i (by omega)]⟩) ?_
   rintro ⟨lb14, lq14, lc14, rfl⟩
   refine Sx.C.pk (.c .m3 (.c .m0 (.c .m1 (.c .m2 (.c .m4 (.c .m5 (.c .m6 (.c .m7 (.c .m8 (.c .m9 (.c .m10 .n))))))))))) ?_
   refine Sx.C.open (r := rPair rInt rInt) (pre := (lvS i).take i) (x := ((-1, 0) : Int × Int)) (post := (lvS i).drop (i + 1)) (lvS_split i hi4) (by decide) (fun b3 o3 es2 I1 Ii I2 eA2 eF2 hes2 hm2 hmd14 => ?_)
   obtain ⟨rfl, rfl⟩ : lb14 = b3 ∧ lq14 = o3 := by cases eA2; exact ⟨rfl, rfl⟩
   subst eF2
   refine Sx.C.know (p := es2 = [.int .i64 (-1), .int .i64 0] ∧ Ii = []) (fun w S => Kit.own_Slot (St.at_ S 1 rfl).1) ?_
   rintro ⟨rfl, rfl⟩
   refine Sx.C.region ?_
   refine Sx.G.p (.pointer (some ⟨b5, 1, none⟩)) ?_
   refine Sx.G.g (.slice (some ⟨gb, go, none⟩) 1 c4_1) .m6 .m1 ?_
   refine Sx.G.elem 25 56 (.tmp 39) (.const (.int .i64 0)) 15 184 gb go 1 c4_1 0 rfl (by kernel_rfl) (by kernel_rfl) (by kernel_rfl) (by kernel_rfl) (by omega) ?_
   refine Sx.G.p (.pointer (some ⟨gb, (go + 0 * 15) + 4, none⟩)) ?_
   refine Sx.G.hld1 (k := 0) (size := 15) 52 (.tmp 41) gb ((go + 0 * 15) + 4) 4 2 (.slice (some ⟨lb14, lq14, none⟩) 4 lc14) rfl (by kernel_rfl) (by kernel_rfl) rfl rfl rfl rfl rfl (by kernel_rfl) ?_
   refine Sx.G.p (.int .i64 (i : Int)) ?_
   refine Sx.G.p (.int .i64 (i : Int)) ?_
   refine Sx.G.q (.int .i64 (IntKind.i64.wrap (7 - (i : Int)))) (.int .i64 (7 - (i : Int))) (congrArg (Value.int .i64) (by rw [IntKind.wrap_i64]; omega)) ?_
   refine Sx.G.p (.agg #[.int .i64 (7 - (i : Int)), .int .i64 3]) ?_
   refine Sx.G.elem 52 58 (.tmp 42) (.tmp 43) 2 16 lb14 lq14 4 lc14 i rfl (by kernel_rfl) (by kernel_rfl) (by kernel_rfl) (by kernel_rfl) (by omega) ?_
   refine Sx.G.hw i [.int .i64 (7 - (i : Int)), .int .i64 3] .a0 (by rw [List.length_take, lvS_len i (by omega)]; omega) ?_
   refine Sx.G.nil (Sx.E.block_normal (Sx.E.next ?_))
   refine Sx.C.turn (ι := List Nat) (p := fun _ => True) (fun Z14 => [ow (rLsw wG) w.heap.size hi [({ g0 with lv := lvS (i + 1) } : gT)] [.slice (some ⟨gb, go, none⟩) 1 c4_1] Z14, vr b5 [.slice A4_0 M0.length c4_0, .slice (some ⟨gb, go, none⟩) 1 c4_1, .slice A4_2 0 c4_2, .int .i64 0], ow (rLsw (rLsw rInt)) w4.heap.size w4'.heap.size M0 [.slice A4_0 M0.length c4_0] G4_0, ow (rLst 3 rInt) w4.heap.size (w4'.heap.size) (([] : List Int)) [.slice A4_2 0 c4_2] G4_2, Sx.bk b3 [.slice (some ⟨b2, 0, none⟩) 6 6] 49, vr b2 [.int .i64 1, .int .i64 (p1 : Int), .int .i64 4, .int .i64 (p0 : Int), .int .i64 1, .int .i64 0, .int .i64 3, .int .i64 (p0 : Int), .int .i64 5, .int .i64 5, .int .i64 7, .int .i64 0], vr gp (Stt.icells l)]) (fun w' S => by
    have S2 := St.pick S [0, 1, 2, 3, 4, 5, 6, 7, 8, 9, 10, 11] (_ :: _ :: _ :: _ :: _ :: _ :: [vr b5 [.slice A4_0 M0.length c4_0, .slice (some ⟨gb, go, none⟩) 1 c4_1, .slice A4_2 0 c4_2, .int .i64 0], ow (rLsw (rLsw rInt)) w4.heap.size w4'.heap.size M0 [.slice A4_0 M0.length c4_0] G4_0, ow (rLst 3 rInt) w4.heap.size (w4'.heap.size) (([] : List Int)) [.slice A4_2 0 c4_2] G4_2, Sx.bk b3 [.slice (some ⟨b2, 0, none⟩) 6 6] 49, vr b2 [.int .i64 1, .int .i64 (p1 : Int), .int .i64 4, .int .i64 (p0 : Int), .int .i64 1, .int .i64 0, .int .i64 3, .int .i64 (p0 : Int), .int .i64 5, .int .i64 5, .int .i64 7, .int .i64 0], vr gp (Stt.icells l)]) rfl (by decide)
    have S3 := Sx.St.flat S2 1 rfl ((7 - (i : Int), 3) : Int × Int) [.int .i64 (7 - (i : Int)), .int .i64 3] (fun w => Kit.own_mk_Slot w _ _ (7 - (i : Int), 3))
    have S4 := Sx.St.close S3 (by decide) 4 _ (by rw [lvS_set i hi4, lvS_len _ (by omega)]) hmd14
    rw [lvS_set i hi4] at S4
    have S5 := St.pick S4 [1, 2, 3, 0, 4, 5, 6, 7, 8, 9, 10] (_ :: _ :: _ :: _ :: _ :: [vr b5 [.slice A4_0 M0.length c4_0, .slice (some ⟨gb, go, none⟩) 1 c4_1, .slice A4_2 0 c4_2, .int .i64 0], ow (rLsw (rLsw rInt)) w4.heap.size w4'.heap.size M0 [.slice A4_0 M0.length c4_0] G4_0, ow (rLst 3 rInt) w4.heap.size (w4'.heap.size) (([] : List Int)) [.slice A4_2 0 c4_2] G4_2, Sx.bk b3 [.slice (some ⟨b2, 0, none⟩) 6 6] 49, vr b2 [.int .i64 1, .int .i64 (p1 : Int), .int .i64 4, .int .i64 (p0 : Int), .int .i64 1, .int .i64 0, .int .i64 3, .int .i64 (p0 : Int), .int .i64 5, .int .i64 5, .int .i64 7, .int .i64 0], vr gp (Stt.icells l)]) rfl (by decide)
    have S6 := Kit.cshut_Guest (g := ({ g0 with lv := lvS (i + 1) } : gT)) S5
    have S7 := Sx.St.close S6 (by decide) 1 _ rfl hmc14
    exact ⟨_, trivial, S7⟩) (fun Z14 _ => ?_)
   refine Sx.C.region ?_
   refine Sx.G.p (.int .i64 (i : Int)) ?_
   refine Sx.G.q (.int .i64 (IntKind.i64.wrap ((i : Int) + 1))) (.int .i64 ((i + 1 : Nat) : Int)) (congrArg (Value.int .i64) (Sx.wrap_up i (by omega))) ?_
   refine Sx.G.p (.int .i64 ((i + 1 : Nat) : Int)) ?_
   refine Sx.G.nil ?_
   exact Sx.E.again (i + 1, hi, Z14) (show i + 1 ≤ 4 by omega) (by show 4 - (i + 1) < 4 - i; omega) (fun a hA => (Sx.Ag.sub hA (by kernel_rfl))) (fun w' S => St.pick S [0, 1, 2, 3, 4, 5, 6] _ rfl (by decide))
theorem lifted (os : Os) (started : os.Started) (H : Type) (enc : TypeId × Value → H) :
  ReturnsInHanded {} Tryz.checked os 4 .any (Rows.fnProgramSpec.pre6 enc Tryz.prog Tryz.f4 Rows.fnProgramRow.domain false) (Rows.fnProgramSpec.post enc Tryz.prog Tryz.f4 false true false false) := by
 refine returnsInHanded_of_change_shaped (C := Tryz.checked) Base.own started (by kernel_rfl) Tryz.func4
  (ChangeSpec.witness6 (enc := enc) (C := Tryz.checked) false ⟨#[], #[.slice none 0 0], []⟩ 8 (by kernel_rfl) (by kernel_rfl) (by kernel_rfl) (by kernel_rfl)) ?_
 intro W base args ds gs before hval0 hW hcnd _ hsh _
 have hval : ∀ (j : Nat) t v, Tryz.f4.params[j]? = some t → args[j]? = some v → Value.okWide Tryz.prog W .any base t v := hval0
 have hW' := hW
 obtain ⟨p, q, hA0, hV, rfl, hfz, hnd⟩ := hW
 have hA : DataW.TrodAll enc Tryz.prog W 0 (fun _ => true) true Tryz.f4.params.toList args.toList ds p := hA0
 have hA1 := hA
 rw [Tryz.params4] at hA hval
 obtain ⟨v0, vs0, d0, ds0, p0, q0, hargs, rfl, rfl, h0, r0⟩ := trodAll_cons hA
 obtain ⟨rfl, rfl, rfl⟩ := trodAll_nil r0
 obtain rfl : args = #[v0] := by cases args; simp_all
 obtain ⟨rfl, rfl⟩ := trodVars_none hV
 obtain ⟨A0, n0, c0, rfl, hn0, hcode0, _⟩ := Draw.open_code (hval 0 22 v0 rfl rfl) h0
 clear hA0 hval0
 rw [List.append_nil] at hW'
 refine (walk A0 n0 c0 hn0 hcode0 (hasI_shaped hsh)).mono fun e W' ⟨he, hg⟩ => ?_
 subst he
 exact ⟨_, rfl, Mem.post_args Slots.laid (by kernel_rfl) rfl rfl rfl hW' hA1 hg (fun _ _ _ => (trodAll_cons_mk (shut_bool Tryz.underlying4 _) trodAll_mk0)) (ok_one (by kernel_rfl) rfl (okWide_bool_mk Tryz.underlying4 _))⟩
theorem over : Rows.fnProgramRow.holds Tryz.pinned (OpenSpec.ofChange Rows.fnProgramSpec) :=
 OpenClaim.holds_of_wide 4 Tryz.f4 rfl rfl rfl rfl rfl rfl rfl ⟨rfl, rfl, rfl, rfl, rfl⟩ rfl rfl rfl rfl rfl (by kernel_rfl) Tryz.func4 (by kernel_rfl)
  (of_decide_eq_true (by kernel_rfl)) (by unfold Func.isWrapper; first | (rw [if_pos (by decide +kernel)]; kernel_rfl) | (rw [if_neg (by decide +kernel)]; exact ⟨rfl, rfl⟩))
  (fun os started H enc _ => lifted os started H enc)
theorem proved : Rows.FnProgramSaid :=
 over
#print axioms proved
end Go.Proofs.YtmiokacihcpepaaGreat.fnProgram
