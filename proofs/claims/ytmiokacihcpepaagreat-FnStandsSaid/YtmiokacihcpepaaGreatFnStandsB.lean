/-
  For every slice of bytes the law FnStands returns true: a guest that makes a call stays stopped, however often it is given its turn. No condition.
-/
import Derived.Test.YtmiokacihcpepaaGreatFnStandsB4
namespace Go.Proofs.YtmiokacihcpepaaGreat.Guests
set_option maxHeartbeats 8000000
set_option maxRecDepth 100000
set_option maxRecDepth 100000
open Go.ChangeShapes Go.WideShapes Go.ChangeAt Go.RowKit
open Go.Proofs.YtmiokacihcpepaaGreat.Base Go.Proofs.YtmiokacihcpepaaGreat.Mem Go.Proofs.YtmiokacihcpepaaGreat.Data Go.Proofs.YtmiokacihcpepaaGreat.Slots Go.Proofs.YtmiokacihcpepaaGreat.Ints Go.Proofs.YtmiokacihcpepaaGreat.Ctls Go.Proofs.YtmiokacihcpepaaGreat.Exits Go.Proofs.YtmiokacihcpepaaGreat.Stt Go.Proofs.YtmiokacihcpepaaGreat.Irqs Go.Proofs.YtmiokacihcpepaaGreat.Inss
set_option linter.unusedVariables false
set_option linter.unusedSimpArgs false
theorem new_wf {l : List (Int × Int)} (h : l.length ≤ 20) (hw : Inss.wfJL l) : wfGuest (newG l) :=
 ⟨⟨Nat.le_trans h (by decide), hw⟩, (show (Lit.int .i64 0).wf = true by decide), (show (Lit.int .i64 0).wf = true by decide), ⟨(by simp [newG, Slots.nosL]), fun s hs => by have : s = (-1, 0) := (List.mem_replicate.1 hs).2; subst this; decide⟩, ⟨(by simp [newG, Slots.nosL]), fun s hs => by have : s = (-1, 0) := (List.mem_replicate.1 hs).2; subst this; decide⟩,
  ⟨(show (Lit.int .i64 0).wf = true by decide), (show (Lit.int .i64 0).wf = true by decide), trivial⟩, (show (Lit.int .i64 0).wf = true by decide), ⟨(show (Lit.int .i64 0).wf = true by decide), (show (Lit.int .i64 0).wf = true by decide), trivial, (show (Lit.int .i64 0).wf = true by decide)⟩, trivial, ⟨(by simp [newG]), fun s hs => by cases hs⟩⟩
theorem rd_nil (w : World) (lo hi : Nat) : rdLst (rPair rInt rInt) w lo hi [] [.slice none 0 0] := ⟨none, 0, [], rfl, Nat.le_refl _, rfl, Lies.nil⟩
end Go.Proofs.YtmiokacihcpepaaGreat.Guests
namespace Go.Proofs.YtmiokacihcpepaaGreat.Sx
set_option maxHeartbeats 8000000
set_option maxRecDepth 100000
set_option maxRecDepth 100000
open Go.ChangeShapes Go.WideShapes Go.ChangeAt Go.RowKit Go.Deep
open Go.Proofs.YtmiokacihcpepaaGreat.Base Go.Proofs.YtmiokacihcpepaaGreat.Mem Go.Proofs.YtmiokacihcpepaaGreat.Data Go.Proofs.YtmiokacihcpepaaGreat.Stt Go.Proofs.YtmiokacihcpepaaGreat.Draw
set_option linter.unusedVariables false
set_option linter.unusedSimpArgs false
theorem vr_rd {α : Type} {r : Rp α} {w : World} {lo hi b c : Nat} {vs ds : List Value} {xs : List α} (hV : Var w b vs) (hd : ∀ (i : Nat) (u : Value), ds[i]? = some u → vs[i]? = some u) (ha : rdAll r w lo hi xs ds) (hb : lo ≤ b ∧ b < hi) (hc : xs.length ≤ c) : rdLst r w lo hi xs [.slice (some ⟨b, 0, none⟩) xs.length c] :=
 ⟨_, _, ds, rfl, hc, ha, fun j u hu => ⟨b, 0, rfl, hb.1, hb.2, by rw [Nat.zero_add]; exact (hV.1 j u (hd j u hu)).1⟩⟩
theorem Alone.block {P : Program} {n : Nat} {Q : Exit → Act → World → Prop} {Z : World → Prop} {w0 : World} {T : Tl} {L : List Res} {l : List Oper} {o : Oper} {t : Ord.Ot} {i : Nat} (e : TypeId) (vs : List Value) (m : Nat) (ho : l[i]? = some o) (hc : chk n T l.toArray o = true) (hr : ∀ w : World, (execOp (ev T) o).run P w = .ok (.value (.slice (some ⟨w.heap.size, 0, none⟩) m m)) (w.alloc (.cells vs.toArray e))) (hZ : ∀ w, St w0 w L → Z w)
  (k : ∀ b, GT P n l.toArray Q Z w0 (up o.dst (.slice (some ⟨b, 0, none⟩) m m) T) (bk b vs e :: L) t) : Alone P n l.toArray Q Z w0 T L i t :=
 Alone.turns ho hc fun w S => ⟨_, _, _, hr w, S.add ((Below.refl _ _).alloc (Nat.le_refl _) _) (bk w.heap.size vs e) (heap_alloc_new w _) (Nat.le_refl _) (by simp [bk]), fun w S => hZ w (St.tail S), k _⟩
end Go.Proofs.YtmiokacihcpepaaGreat.Sx
namespace Go.Proofs.YtmiokacihcpepaaGreat.Kit
set_option maxHeartbeats 8000000
set_option maxRecDepth 100000
set_option maxRecDepth 100000
open Go.ChangeShapes Go.WideShapes Go.ChangeAt Go.RowKit Go.Deep
open Go.Proofs.YtmiokacihcpepaaGreat.Base Go.Proofs.YtmiokacihcpepaaGreat.Mem Go.Proofs.YtmiokacihcpepaaGreat.Data Go.Proofs.YtmiokacihcpepaaGreat.Stt Go.Proofs.YtmiokacihcpepaaGreat.Guests Go.Proofs.YtmiokacihcpepaaGreat.Ctls Go.Proofs.YtmiokacihcpepaaGreat.Exits
set_option linter.unusedVariables false
set_option linter.unusedSimpArgs false
theorem lawx_ints (xs ys : (List Int)) (A : Option Addr) (c : Nat) (B : Option Addr) (d : Nat) (w : World) (hc : (rLsw rInt).cap xs) (hd : (rLsw rInt).cap ys) (h : rdLst rInt w 0 w.heap.size xs [.slice A xs.length c]) (j : rdLst rInt w 0 w.heap.size ys [.slice B ys.length d]) : Calls Tryz.prog 18 #[.slice A xs.length c, .slice B ys.length d] w (fun e w' => e = .returned (.bool (eqv xs ys)) ∧ Below w.heap.size w w') := by
 obtain ⟨hl, hcx⟩ := hc
 obtain ⟨hm, hcy⟩ := hd
 refine Sx.enter (args := [.slice A xs.length c, .slice B ys.length d]) Tryz.func18 rfl Tryz.ntmps18 rfl ?_
 refine Sx.C.seq (Sx.C.region ?_)
 refine Sx.G.p (.bool false) ?_
 refine Sx.G.nil (Sx.E.next (Sx.C.seq (Sx.C.seq (Sx.C.region ?_))))
 refine Sx.G.p (.slice A xs.length c) ?_
 refine Sx.G.p (.int .i64 ((xs.length : Nat) : Int)) ?_
 refine Sx.G.p (.slice B ys.length d) ?_
 refine Sx.G.p (.int .i64 ((ys.length : Nat) : Int)) ?_
 refine Sx.G.p (.bool (((xs.length : Nat) : Int) != ((ys.length : Nat) : Int))) ?_
 refine Sx.G.nil (Sx.E.next ?_)
 cases hc1 : (((xs.length : Nat) : Int) != ((ys.length : Nat) : Int))
 ·
  have hb1 := hc1
  have hlen : xs.length = ys.length := by have := bne_eq_false_iff_eq.1 hc1; omega
  refine Sx.C.nn (Sx.C.skip (Sx.E.next (Sx.C.seq (Sx.C.seq (Sx.C.region ?_)))))
  refine Sx.G.p (.int .i64 0) ?_
  refine Sx.G.nil (Sx.E.next (Sx.C.block ?_))
  refine Sx.C.loop (α := Nat) (fun i => i ≤ xs.length ∧ xs.take i = ys.take i) (fun i => [(5, .int .i64 (i : Int)), (0, .slice A xs.length c), (1, .slice B ys.length d), (4, .bool false)]) (fun i => []) (fun i => xs.length - i) 0 ⟨Nat.zero_le _, rfl⟩ (fun a hA => (Sx.Ag.sub hA (by kernel_rfl))) (fun w S => S) (fun i hx => ?_)
  have hxi := hx.1
  refine Sx.C.seq (Sx.C.seq (Sx.C.region ?_))
  refine Sx.G.p (.int .i64 (i : Int)) ?_
  refine Sx.G.p (.slice A xs.length c) ?_
  refine Sx.G.p (.int .i64 ((xs.length : Nat) : Int)) ?_
  refine Sx.G.p (.bool (decide ((i : Int) < ((xs.length : Nat) : Int)))) ?_
  refine Sx.G.nil (Sx.E.next ?_)
  cases hc2 : (decide ((i : Int) < ((xs.length : Nat) : Int)))
  ·
   have hb2 := hc2
   replace hc2 := of_decide_eq_false hc2
   refine Sx.C.nn (Sx.C.exit (Sx.E.then_exit (Sx.E.then_exit (Sx.E.block_hit (Sx.E.next (Sx.C.seq (Sx.C.region ?_)))))))
   refine Sx.G.p (.bool true) ?_
   refine Sx.G.nil (Sx.E.next (Sx.C.ret ?_))
   refine Sx.E.ret1 (.bool true) rfl (by kernel_rfl) (fun w S => ?_)
   have he : xs = ys := by have h2 := hx.2; rwa [List.take_of_length_le (by omega), List.take_of_length_le (by omega)] at h2
   exact ⟨by rw [eqv_true he], S.below⟩
  ·
   have hb2 := hc2
   replace hc2 := of_decide_eq_true hc2
   refine Sx.C.yy (Sx.C.skip (Sx.E.next (Sx.C.seq (Sx.C.block (Sx.C.seq ?_)))))
   refine Sx.C.draw (.take 0 (.take 1 (.take 2 (.take 3 (.take 4 (.take 5 (.take 6 (.take 7 (.take 8 .nil))))))))) [] (fun w S => St.pick S [] _ rfl (by decide)) (by kernel_rfl) (by kernel_rfl) (by kernel_rfl) ?_
   refine Sx.GT.p (.slice A xs.length c) ?_
   refine Sx.GT.p (.int .i64 (i : Int)) ?_
   obtain ⟨b3, f3, es3, eA3, hr3, hl3, hm3⟩ := Sx.old_elem (by decide) h i (by omega)
   subst eA3
   obtain ⟨x3, hx3⟩ : ∃ z_, z_ = (xs[i]'(by omega)) := ⟨_, rfl⟩
   rw [← hx3] at hr3
   obtain rfl := Kit.rd_Int hr3
   refine Sx.GT.elem 26 3 (.tmp 17) (.tmp 18) 1 8 b3 f3 xs.length c i 2 (by rfl) (by rfl) (by kernel_rfl) (by kernel_rfl) (by kernel_rfl) (by kernel_rfl) (by omega) ?_
   refine Sx.GT.ldr1 3 (.tmp 19) b3 ((f3 + i * 1) + 0) (.int .i64 x3) 3 (by rfl) (by rfl) (by kernel_rfl) (by kernel_rfl) (fun w S => hm3 w _ S 0 _ rfl) (by kernel_rfl) ?_
   refine Sx.GT.p (.slice B ys.length d) ?_
   refine Sx.GT.p (.int .i64 (i : Int)) ?_
   obtain ⟨b4, f4, es4, eA4, hr4, hl4, hm4⟩ := Sx.old_elem (by decide) j i (by omega)
   subst eA4
   obtain ⟨x4, hx4⟩ : ∃ z_, z_ = (ys[i]'(by omega)) := ⟨_, rfl⟩
   rw [← hx4] at hr4
   obtain rfl := Kit.rd_Int hr4
   refine Sx.GT.elem 26 3 (.tmp 21) (.tmp 22) 1 8 b4 f4 ys.length d i 6 (by rfl) (by rfl) (by kernel_rfl) (by kernel_rfl) (by kernel_rfl) (by kernel_rfl) (by omega) ?_
   refine Sx.GT.ldr1 3 (.tmp 23) b4 ((f4 + i * 1) + 0) (.int .i64 x4) 7 (by rfl) (by rfl) (by kernel_rfl) (by kernel_rfl) (fun w S => hm4 w _ S 0 _ rfl) (by kernel_rfl) ?_
   refine Sx.GT.p (.bool (x3 != x4)) ?_
   refine Sx.GT.nil (Sx.E.next ?_)
   cases hc5 : (x3 != x4)
   ·
    have hb5 := hc5
    refine Sx.C.nn (Sx.C.skip (Sx.E.block_normal (Sx.E.next (Sx.C.region ?_))))
    refine Sx.G.p (.int .i64 (i : Int)) ?_
    refine Sx.G.q (.int .i64 (IntKind.i64.wrap ((i : Int) + 1))) (.int .i64 ((i + 1 : Nat) : Int)) (congrArg (Value.int .i64) (Sx.wrap_up i (by omega))) ?_
    refine Sx.G.p (.int .i64 ((i + 1 : Nat) : Int)) ?_
    refine Sx.G.nil ?_
    have hup : xs.take (i + 1) = ys.take (i + 1) := take_up (by omega) (by omega) hx.2 (by rw [← hx3, ← hx4]; exact bne_eq_false_iff_eq.1 hc5)
    exact Sx.E.again (i + 1) ⟨by omega, hup⟩ (by omega) (fun a hA => (Sx.Ag.sub hA (by kernel_rfl))) (fun w S => S)
   ·
    have hb5 := hc5
    refine Sx.C.yy (Sx.C.seq (Sx.C.region ?_))
    refine Sx.G.p (.bool false) ?_
    refine Sx.G.nil (Sx.E.next (Sx.C.ret (Sx.E.block_ret (Sx.E.then_ret (Sx.E.then_ret (Sx.E.block_ret (Sx.E.then_ret ?_)))))))
    refine Sx.E.ret1 (.bool false) rfl (by kernel_rfl) (fun w S => ?_)
    have hne : xs ≠ ys := take_ne (xs := xs) (ys := ys) (i := i) (by omega) (by omega) (by rw [← hx3, ← hx4]; exact bne_iff_ne.1 hc5)
    exact ⟨by rw [eqv_false hne], S.below⟩
 ·
  have hb1 := hc1
  refine Sx.C.yy (Sx.C.seq (Sx.C.region ?_))
  refine Sx.G.p (.bool false) ?_
  refine Sx.G.nil (Sx.E.next (Sx.C.ret (Sx.E.then_ret ?_)))
  refine Sx.E.ret1 (.bool false) rfl (by kernel_rfl) (fun w S => ?_)
  have hne : xs ≠ ys := fun e => by subst e; simp at *
  exact ⟨by rw [eqv_false hne], S.below⟩
end Go.Proofs.YtmiokacihcpepaaGreat.Kit
namespace Go.Proofs.YtmiokacihcpepaaGreat.Slots
set_option maxHeartbeats 8000000
set_option maxRecDepth 100000
set_option maxRecDepth 100000
open Go.ChangeShapes Go.WideShapes Go.ChangeAt Go.RowKit
open Go.Proofs.YtmiokacihcpepaaGreat.Base Go.Proofs.YtmiokacihcpepaaGreat.Mem
end Go.Proofs.YtmiokacihcpepaaGreat.Slots
namespace Go.Proofs.YtmiokacihcpepaaGreat.Kit
set_option maxHeartbeats 8000000
set_option maxRecDepth 100000
open Go.ChangeShapes Go.WideShapes Go.ChangeAt Go.RowKit Go.Deep
open Go.Proofs.YtmiokacihcpepaaGreat.Base Go.Proofs.YtmiokacihcpepaaGreat.Mem Go.Proofs.YtmiokacihcpepaaGreat.Data Go.Proofs.YtmiokacihcpepaaGreat.Stt Go.Proofs.YtmiokacihcpepaaGreat.Guests Go.Proofs.YtmiokacihcpepaaGreat.Ctls Go.Proofs.YtmiokacihcpepaaGreat.Exits Go.Proofs.YtmiokacihcpepaaGreat.Irqs Go.Proofs.YtmiokacihcpepaaGreat.Inss Go.Proofs.YtmiokacihcpepaaGreat.Slots
set_option linter.unusedVariables false
set_option linter.unusedSimpArgs false
def HasI (w : World) : Prop := ∃ fv, w.cell? ⟨0, 0, none⟩ = some fv
theorem HasI.below {w w' : World} (h : HasI w) (hb : Below w.heap.size w w') : HasI w' := by
 obtain ⟨fv, h⟩ := h
 exact ⟨fv, (hb.cell (World.block_lt_of_cell? w _ h)).trans h⟩
theorem foldl_acc (l : List Int) : ∀ (b : bT) (acc : List Bool), l.foldl (fun p g => ((stepB p.1 g).1, p.2 ++ [(stepB p.1 g).2])) (b, acc) = ((stepsB b l).1, acc ++ (stepsB b l).2) := by
 induction l with
 | nil => intro b acc; simp [stepsB]
 | cons g l ih =>
  intro b acc
  unfold stepsB
  rw [List.foldl_cons, List.foldl_cons, ih, ih]
  simp
theorem stepsB_cons (b : bT) (g : Int) (l : List Int) : stepsB b (g :: l) = ((stepsB (stepB b g).1 l).1, (stepB b g).2 :: (stepsB (stepB b g).1 l).2) := by
 conv => lhs; unfold stepsB
 rw [List.foldl_cons, foldl_acc]; rfl
def noB (b : bT) (g : Int) : Bool := (wantG (guestAt b g).1 != 3) && (wantG (guestAt b g).1 != 4)
def stayB : bT → List Int → List Bool → (bT → Bool) → Bool
 | b, [], [], f => f b
 | b, g :: l, t :: ts, f => noB b g && ((stepB b g).2 == t) && stayB (stepB b g).1 l ts f
 | _, _, _, _ => false
theorem stayB_all {f : bT → Bool} : ∀ {l : List Int} {ts : List Bool} {b : bT}, stayB b l ts f = true → (stepsB b l).2 = ts ∧ f (stepsB b l).1 = true ∧ ∀ i (hi : i < l.length), noB (stepsB b (l.take i)).1 l[i] = true
 | [], [], b, h => ⟨rfl, h, fun i hi => absurd hi (by simp)⟩
 | g :: l, t :: ts, b, h => by
  unfold stayB at h
  simp only [Bool.and_eq_true] at h
  obtain ⟨⟨h1, h2⟩, h3⟩ := h
  obtain ⟨k1, k2, k3⟩ := stayB_all h3
  rw [stepsB_cons]
  refine ⟨by rw [k1, beq_iff_eq.1 h2], k2, fun i hi => ?_⟩
  cases i with
  | zero => exact h1
  | succ i =>
   have := k3 i (by simpa using hi)
   simp only [List.take_succ_cons, List.getElem_cons_succ, stepsB_cons]
   exact this
 | [], _ :: _, _, h => by simp [stayB] at h
 | _ :: _, [], _, h => by simp [stayB] at h
theorem noB_walks {b : bT} {g : Int} {w : World} (h : noB b g = true) : WalksOk w (guestAt b g).1 := by
 unfold noB at h
 simp only [Bool.and_eq_true, bne_iff_ne] at h
 exact walks_none h.1 h.2
theorem stayB_walks {f : bT → Bool} {l : List Int} {ts : List Bool} {b : bT} {w : World} (h : stayB b l ts f = true) : ∀ i (hi : i < l.length), WalksOk w (guestAt (stepsB b (l.take i)).1 l[i]).1 := fun i hi => noB_walks ((stayB_all h).2.2 i hi)
theorem rem_nat {l : List Int} (h : ∀ x ∈ l, 0 ≤ x) (k m : Nat) (hm : 0 < m) : ∃ q : Nat, q < m ∧ (l.getD k 0).tmod (m : Int) = (q : Int) := by
 have h0 : 0 ≤ l.getD k 0 := by
  rw [List.getD_eq_getElem?_getD]
  rcases Nat.lt_or_ge k l.length with hk | hk
  ·
   rw [List.getElem?_eq_getElem hk]; exact h _ (List.getElem_mem hk)
  ·
   rw [List.getElem?_eq_none hk]; exact Int.le_refl _
 have h1 := Int.emod_nonneg (l.getD k 0) (show (m : Int) ≠ 0 by omega)
 have h2 := Int.emod_lt_of_pos (l.getD k 0) (show (0 : Int) < m by omega)
 exact ⟨((l.getD k 0) % m).toNat, by omega, by rw [Int.tmod_eq_emod_of_nonneg h0]; omega⟩
theorem pl_cell (l : List Int) (k : Nat) (h : k < l.length) : (Stt.icells l)[k]? = some (.int .i64 (l.getD k 0)) := by simp [Stt.icells, List.getD_eq_getElem?_getD, h]
section
variable {w0 w : World} {L : List Res} {b d : Nat} {t : TypeId}
theorem bk_in (S : St w0 w L) (i : Nat) {cs : List Value} (h : L[i]? = some (Sx.bk b cs t)) : b < w.heap.size ∧ ∀ (j : Nat) (u : Value), cs[j]? = some u → w.cell? ⟨b, j, none⟩ = some u := by
 have hb : w.heap[b]? = some (.cells cs.toArray t (0, 0)) := S.at_ i h
 exact ⟨by rw [Array.getElem?_eq_some_iff] at hb; exact hb.1, fun j u hu => by simp [World.cell?, hb, hu]⟩
theorem bk_lst {α : Type} {r : Rp α} (S : St w0 w L) (i : Nat) {cs : List Value} (h : L[i]? = some (Sx.bk b cs t)) {xs : List α} (hall : rdAll r w 0 w.heap.size xs cs) : rdLst r w 0 w.heap.size xs [.slice (some ⟨b, 0, none⟩) xs.length xs.length] := by
 obtain ⟨h1, h2⟩ := bk_in S i h
 exact ⟨_, _, cs, rfl, Nat.le_refl _, hall, fun q u hu => ⟨b, 0, rfl, Nat.zero_le _, h1, by rw [Nat.zero_add]; exact h2 q u hu⟩⟩
theorem vr_prog (S : St w0 w L) (i : Nat) {p : List (Int × Int)} (h : L[i]? = some (vr d (pcells p))) : rdLst (rPair rInt rInt) w 0 w.heap.size p [.slice (some ⟨d, 0, none⟩) p.length p.length] := by
 have hV : Var w d (pcells p) := S.at_ i h
 exact Sx.vr_rd (ds := pcells p) hV (fun _ _ h => h) (p2_all _ _ _ _) ⟨Nat.zero_le _, hV.2⟩ (Nat.le_refl _)
end
theorem ints_all (w : World) (lo hi : Nat) : ∀ l : List Int, rdAll rInt w lo hi l (Stt.icells l)
 | [] => rfl
 | s :: l => ⟨[.int .i64 s], Stt.icells l, rfl, rfl, ints_all w lo hi l⟩
theorem bools_all (w : World) (lo hi : Nat) : ∀ l : List Bool, rdAll rBool w lo hi l (l.map Value.bool)
 | [] => rfl
 | s :: l => ⟨[.bool s], l.map Value.bool, rfl, rfl, bools_all w lo hi l⟩
theorem wf_newB {l : List (List (Int × Int))} (h : ∀ p ∈ l, Inss.wfJL p ∧ p.length ≤ 20) : wB.wf (newB l) := by
 refine ⟨⟨(by simp [newB]; decide), fun p hp => ?_⟩, ⟨?_, fun g hg => ?_⟩, ⟨by simp [newB], fun s hs => by simp [newB] at hs⟩, (show (Lit.int .i64 0).wf = true by decide)⟩
 ·
  have : p = [0, 0, 0, 0] := (List.mem_replicate.1 hp).2
  subst this
  exact ⟨by decide, fun x hx => by simp only [List.mem_cons, List.not_mem_nil, or_false] at hx; rcases hx with h | h | h | h <;> (rw [h]; exact (show (Lit.int .i64 0).wf = true by decide))⟩
 ·
  simp only [newB, List.length_map, List.length_take, maxLen]; omega
 ·
  obtain ⟨p, hp, rfl⟩ := List.mem_map.1 hg
  have := h p (List.mem_of_mem_take hp)
  exact new_wf this.2 this.1
theorem cap_prgs {l : List (List (Int × Int))} (h : ∀ p ∈ l, Inss.wfJL p ∧ p.length ≤ 20) (hl : l.length ≤ 20) : (rLsw (rLsw (rPair rInt rInt))).cap l := ⟨by omega, fun p hp => ⟨by have := (h p hp).2; omega, fun _ _ => ⟨trivial, trivial⟩⟩⟩
theorem wfN (q : Nat) (h : q < 100000) : (Lit.int .i64 (q : Int)).wf = true := wfI.2 (by omega)
theorem lst_some {α : Type} {r : Rp α} {w : World} {lo hi : Nat} {x : α} {xs : List α} {A : Option Addr} {n c : Nat} (hs : 0 < r.sz) (h : rdLst r w lo hi (x :: xs) [.slice A n c]) : ∃ b off, A = some ⟨b, off, none⟩ := by
 obtain ⟨A', c', ds, e, _, h1, h2⟩ := h
 cases e
 obtain ⟨d1, d2, rfl, h3, h4⟩ := h1
 have hl := r.len h3
 obtain ⟨b, off, e, -⟩ := h2 0 _ (List.getElem?_eq_getElem (by simp; omega))
 exact ⟨b, off, e⟩
end Go.Proofs.YtmiokacihcpepaaGreat.Kit
namespace Go.Proofs.YtmiokacihcpepaaGreat.Kit
set_option maxHeartbeats 8000000
set_option maxRecDepth 100000
set_option maxRecDepth 100000
open Go.ChangeShapes Go.WideShapes Go.ChangeAt Go.RowKit Go.Deep
open Go.Proofs.YtmiokacihcpepaaGreat.Base Go.Proofs.YtmiokacihcpepaaGreat.Mem Go.Proofs.YtmiokacihcpepaaGreat.Data Go.Proofs.YtmiokacihcpepaaGreat.Stt Go.Proofs.YtmiokacihcpepaaGreat.Guests Go.Proofs.YtmiokacihcpepaaGreat.Ctls Go.Proofs.YtmiokacihcpepaaGreat.Exits Go.Proofs.YtmiokacihcpepaaGreat.Irqs
set_option linter.unusedVariables false
set_option linter.unusedSimpArgs false
theorem lawx_bools (xs ys : (List Bool)) (A : Option Addr) (c : Nat) (B : Option Addr) (d : Nat) (w : World) (hc : (rLsw rBool).cap xs) (hd : (rLsw rBool).cap ys) (h : rdLst rBool w 0 w.heap.size xs [.slice A xs.length c]) (j : rdLst rBool w 0 w.heap.size ys [.slice B ys.length d]) : Calls Tryz.prog 17 #[.slice A xs.length c, .slice B ys.length d] w (fun e w' => e = .returned (.bool (eqv xs ys)) ∧ Below w.heap.size w w') := by
 obtain ⟨hl, hcx⟩ := hc
 obtain ⟨hm, hcy⟩ := hd
 refine Sx.enter (args := [.slice A xs.length c, .slice B ys.length d]) Tryz.func17 rfl Tryz.ntmps17 rfl ?_
 refine Sx.C.seq (Sx.C.region ?_)
 refine Sx.G.p (.bool false) ?_
 refine Sx.G.nil (Sx.E.next (Sx.C.seq (Sx.C.seq (Sx.C.region ?_))))
 refine Sx.G.p (.slice A xs.length c) ?_
 refine Sx.G.p (.int .i64 ((xs.length : Nat) : Int)) ?_
 refine Sx.G.p (.slice B ys.length d) ?_
 refine Sx.G.p (.int .i64 ((ys.length : Nat) : Int)) ?_
 refine Sx.G.p (.bool (((xs.length : Nat) : Int) != ((ys.length : Nat) : Int))) ?_
 refine Sx.G.nil (Sx.E.next ?_)
 cases hc1 : (((xs.length : Nat) : Int) != ((ys.length : Nat) : Int))
 ·
  have hb1 := hc1
  have hlen : xs.length = ys.length := by have := bne_eq_false_iff_eq.1 hc1; omega
  refine Sx.C.nn (Sx.C.skip (Sx.E.next (Sx.C.seq (Sx.C.seq (Sx.C.region ?_)))))
  refine Sx.G.p (.int .i64 0) ?_
  refine Sx.G.nil (Sx.E.next (Sx.C.block ?_))
  refine Sx.C.loop (α := Nat) (fun i => i ≤ xs.length ∧ xs.take i = ys.take i) (fun i => [(5, .int .i64 (i : Int)), (0, .slice A xs.length c), (1, .slice B ys.length d), (4, .bool false)]) (fun i => []) (fun i => xs.length - i) 0 ⟨Nat.zero_le _, rfl⟩ (fun a hA => (Sx.Ag.sub hA (by kernel_rfl))) (fun w S => S) (fun i hx => ?_)
  have hxi := hx.1
  refine Sx.C.seq (Sx.C.seq (Sx.C.region ?_))
  refine Sx.G.p (.int .i64 (i : Int)) ?_
  refine Sx.G.p (.slice A xs.length c) ?_
  refine Sx.G.p (.int .i64 ((xs.length : Nat) : Int)) ?_
  refine Sx.G.p (.bool (decide ((i : Int) < ((xs.length : Nat) : Int)))) ?_
  refine Sx.G.nil (Sx.E.next ?_)
  cases hc2 : (decide ((i : Int) < ((xs.length : Nat) : Int)))
  ·
   have hb2 := hc2
   replace hc2 := of_decide_eq_false hc2
   refine Sx.C.nn (Sx.C.exit (Sx.E.then_exit (Sx.E.then_exit (Sx.E.block_hit (Sx.E.next (Sx.C.seq (Sx.C.region ?_)))))))
   refine Sx.G.p (.bool true) ?_
   refine Sx.G.nil (Sx.E.next (Sx.C.ret ?_))
   refine Sx.E.ret1 (.bool true) rfl (by kernel_rfl) (fun w S => ?_)
   have he : xs = ys := by have h2 := hx.2; rwa [List.take_of_length_le (by omega), List.take_of_length_le (by omega)] at h2
   exact ⟨by rw [eqv_true he], S.below⟩
  ·
   have hb2 := hc2
   replace hc2 := of_decide_eq_true hc2
   refine Sx.C.yy (Sx.C.skip (Sx.E.next (Sx.C.seq (Sx.C.block (Sx.C.seq ?_)))))
   refine Sx.C.draw (.take 0 (.take 1 (.take 2 (.take 3 (.take 4 (.take 5 (.take 6 (.take 7 (.take 8 .nil))))))))) [] (fun w S => St.pick S [] _ rfl (by decide)) (by kernel_rfl) (by kernel_rfl) (by kernel_rfl) ?_
   refine Sx.GT.p (.slice A xs.length c) ?_
   refine Sx.GT.p (.int .i64 (i : Int)) ?_
   obtain ⟨b3, f3, es3, eA3, hr3, hl3, hm3⟩ := Sx.old_elem (by decide) h i (by omega)
   subst eA3
   obtain ⟨x3, hx3⟩ : ∃ z_, z_ = (xs[i]'(by omega)) := ⟨_, rfl⟩
   rw [← hx3] at hr3
   obtain rfl := Kit.rd_Bool hr3
   refine Sx.GT.elem 35 4 (.tmp 17) (.tmp 18) 1 1 b3 f3 xs.length c i 2 (by rfl) (by rfl) (by kernel_rfl) (by kernel_rfl) (by kernel_rfl) (by kernel_rfl) (by omega) ?_
   refine Sx.GT.ldr1 4 (.tmp 19) b3 ((f3 + i * 1) + 0) (.bool x3) 3 (by rfl) (by rfl) (by kernel_rfl) (by kernel_rfl) (fun w S => hm3 w _ S 0 _ rfl) (by kernel_rfl) ?_
   refine Sx.GT.p (.slice B ys.length d) ?_
   refine Sx.GT.p (.int .i64 (i : Int)) ?_
   obtain ⟨b4, f4, es4, eA4, hr4, hl4, hm4⟩ := Sx.old_elem (by decide) j i (by omega)
   subst eA4
   obtain ⟨x4, hx4⟩ : ∃ z_, z_ = (ys[i]'(by omega)) := ⟨_, rfl⟩
   rw [← hx4] at hr4
   obtain rfl := Kit.rd_Bool hr4
   refine Sx.GT.elem 35 4 (.tmp 21) (.tmp 22) 1 1 b4 f4 ys.length d i 6 (by rfl) (by rfl) (by kernel_rfl) (by kernel_rfl) (by kernel_rfl) (by kernel_rfl) (by omega) ?_
   refine Sx.GT.ldr1 4 (.tmp 23) b4 ((f4 + i * 1) + 0) (.bool x4) 7 (by rfl) (by rfl) (by kernel_rfl) (by kernel_rfl) (fun w S => hm4 w _ S 0 _ rfl) (by kernel_rfl) ?_
   refine Sx.GT.p (.bool (x3 != x4)) ?_
   refine Sx.GT.nil (Sx.E.next ?_)
   cases hc5 : (x3 != x4)
   ·
    have hb5 := hc5
    refine Sx.C.nn (Sx.C.skip (Sx.E.block_normal (Sx.E.next (Sx.C.region ?_))))
    refine Sx.G.p (.int .i64 (i : Int)) ?_
    refine Sx.G.q (.int .i64 (IntKind.i64.wrap ((i : Int) + 1))) (.int .i64 ((i + 1 : Nat) : Int)) (congrArg (Value.int .i64) (Sx.wrap_up i (by omega))) ?_
    refine Sx.G.p (.int .i64 ((i + 1 : Nat) : Int)) ?_
    refine Sx.G.nil ?_
    have hup : xs.take (i + 1) = ys.take (i + 1) := take_up (by omega) (by omega) hx.2 (by rw [← hx3, ← hx4]; exact bne_eq_false_iff_eq.1 hc5)
    exact Sx.E.again (i + 1) ⟨by omega, hup⟩ (by omega) (fun a hA => (Sx.Ag.sub hA (by kernel_rfl))) (fun w S => S)
   ·
    have hb5 := hc5
    refine Sx.C.yy (Sx.C.seq (Sx.C.region ?_))
    refine Sx.G.p (.bool false) ?_
    refine Sx.G.nil (Sx.E.next (Sx.C.ret (Sx.E.block_ret (Sx.E.then_ret (Sx.E.then_ret (Sx.E.block_ret (Sx.E.then_ret ?_)))))))
    refine Sx.E.ret1 (.bool false) rfl (by kernel_rfl) (fun w S => ?_)
    have hne : xs ≠ ys := take_ne (xs := xs) (ys := ys) (i := i) (by omega) (by omega) (by rw [← hx3, ← hx4]; exact bne_iff_ne.1 hc5)
    exact ⟨by rw [eqv_false hne], S.below⟩
 ·
  have hb1 := hc1
  refine Sx.C.yy (Sx.C.seq (Sx.C.region ?_))
  refine Sx.G.p (.bool false) ?_
  refine Sx.G.nil (Sx.E.next (Sx.C.ret (Sx.E.then_ret ?_)))
  refine Sx.E.ret1 (.bool false) rfl (by kernel_rfl) (fun w S => ?_)
  have hne : xs ≠ ys := fun e => by subst e; simp at *
  exact ⟨by rw [eqv_false hne], S.below⟩
theorem lawx_gof (x : bT) (cs : List Value) (g : Int) (w : World) (hc : wB.cap x) (h : wB.rd w 0 w.heap.size x cs) : Calls Tryz.prog 31 #[.agg cs.toArray, .int .i64 g] w (Gives wG w (guestAt x g).1) := by
 have hR := h
 obtain ⟨hP0, hP1, hP2, rfl, hf0, hf1, hf2⟩ := wB_rd h
 obtain ⟨hA0, hK0, he0, -⟩ := lst_val hf0
 subst he0
 obtain ⟨hA1, hK1, he1, -⟩ := lst_val hf1
 subst he1
 obtain ⟨hA2, hK2, he2, -⟩ := lst_val hf2
 subst he2
 obtain ⟨y, hy⟩ : ∃ z, z = (guestAt x g).1 := ⟨_, rfl⟩
 refine Sx.enter (args := [.agg #[.slice hA0 x.mem.length hK0, .slice hA1 x.gs.length hK1, .slice hA2 x.outs.length hK2, .int .i64 x.pd], .int .i64 g]) Tryz.func31 rfl Tryz.ntmps31 rfl ?_
 refine Sx.C.seq (Sx.C.region ?_)
 refine Sx.G.b [.slice hA0 x.mem.length hK0, .slice hA1 x.gs.length hK1, .slice hA2 x.outs.length hK2, .int .i64 x.pd] (fun b1 => ?_)
 refine Sx.G.ar [.slice none 0 0, .int .i64 0, .int .i64 0, .slice none 0 0, .slice none 0 0, .int .i64 0, .int .i64 0, .bool false, .int .i64 0, .int .i64 0, .int .i64 0, .bool false, .int .i64 0, .bool false, .slice none 0 0] (fun b2 => ?_)
 refine Sx.G.nil (Sx.E.next (Sx.C.seq (Sx.C.region ?_)))
 refine Sx.G.lw .m1 ?_
 refine Sx.G.p (.int .i64 g) ?_
 refine Sx.G.c 49 #[.agg #[.slice hA0 x.mem.length hK0, .slice hA1 x.gs.length hK1, .slice hA2 x.outs.length hK2, .int .i64 x.pd], .int .i64 g] (fun w3 S => (specx_gat x _ g _ hc (St.old S hR)).mono fun e w3' hp => ?_)
 obtain ⟨cs, F, rfl, ho, hF, hb⟩ := hp; rw [← hy] at ho
 obtain ⟨P3_0, P3_1, P3_2, P3_3, rfl, f3_0, f3_1, f3_2, f3_3⟩ := wG_rd (wG.reads ho)
 obtain ⟨A3_0, c3_0, e3_0, -⟩ := lst_val f3_0
 subst e3_0
 obtain ⟨A3_1, c3_1, e3_1, -⟩ := lst_val f3_1
 subst e3_1
 obtain ⟨A3_2, c3_2, e3_2, -⟩ := lst_val f3_2
 subst e3_2
 obtain ⟨A3_3, c3_3, e3_3, -⟩ := lst_val f3_3
 subst e3_3
 generalize F = F3 at ho hF
 refine ⟨_, _, rfl, (St.got S hb ho hF), ?_⟩
 clear S hb ho hF f3_0 f3_1 f3_2 f3_3
 refine Sx.G.p (.tuple #[.agg #[.slice A3_0 y.prog.length c3_0, .int .i64 y.a, .int .i64 y.pc, .slice A3_1 y.wr.length c3_1, .slice A3_2 y.lv.length c3_2, .int .i64 y.t.1, .int .i64 y.t.2.1, .bool y.t.2.2, .int .i64 y.pd, .int .i64 y.x.1, .int .i64 y.x.2.1, .bool y.x.2.2.1, .int .i64 y.x.2.2.2, .bool y.hl, .slice A3_3 y.seen.length c3_3], .bool (guestAt x g).2]) ?_
 refine Sx.G.p (.agg #[.slice A3_0 y.prog.length c3_0, .int .i64 y.a, .int .i64 y.pc, .slice A3_1 y.wr.length c3_1, .slice A3_2 y.lv.length c3_2, .int .i64 y.t.1, .int .i64 y.t.2.1, .bool y.t.2.2, .int .i64 y.pd, .int .i64 y.x.1, .int .i64 y.x.2.1, .bool y.x.2.2.1, .int .i64 y.x.2.2.2, .bool y.hl, .slice A3_3 y.seen.length c3_3]) ?_
 refine Sx.G.p (.bool ((guestAt x g).2)) ?_
 refine Sx.G.ar [.slice none 0 0, .int .i64 0, .int .i64 0, .slice none 0 0, .slice none 0 0, .int .i64 0, .int .i64 0, .bool false, .int .i64 0, .int .i64 0, .int .i64 0, .bool false, .int .i64 0, .bool false, .slice none 0 0] (fun b4 => ?_)
 refine Sx.G.sw [.slice A3_0 y.prog.length c3_0, .int .i64 y.a, .int .i64 y.pc, .slice A3_1 y.wr.length c3_1, .slice A3_2 y.lv.length c3_2, .int .i64 y.t.1, .int .i64 y.t.2.1, .bool y.t.2.2, .int .i64 y.pd, .int .i64 y.x.1, .int .i64 y.x.2.1, .bool y.x.2.2.1, .int .i64 y.x.2.2.2, .bool y.hl, .slice A3_3 y.seen.length c3_3] .a0 ?_
 refine Sx.G.p (.bool ((guestAt x g).2)) ?_
 refine Sx.G.nil (Sx.E.next (Sx.C.seq (Sx.C.region ?_)))
 refine Sx.G.lw .m0 ?_
 refine Sx.G.sw [.slice A3_0 y.prog.length c3_0, .int .i64 y.a, .int .i64 y.pc, .slice A3_1 y.wr.length c3_1, .slice A3_2 y.lv.length c3_2, .int .i64 y.t.1, .int .i64 y.t.2.1, .bool y.t.2.2, .int .i64 y.pd, .int .i64 y.x.1, .int .i64 y.x.2.1, .bool y.x.2.2.1, .int .i64 y.x.2.2.2, .bool y.hl, .slice A3_3 y.seen.length c3_3] .a2 ?_
 refine Sx.G.nil (Sx.E.next (Sx.C.ret ?_))
 refine Sx.E.retc b2 2 [.slice A3_0 y.prog.length c3_0, .int .i64 y.a, .int .i64 y.pc, .slice A3_1 y.wr.length c3_1, .slice A3_2 y.lv.length c3_2, .int .i64 y.t.1, .int .i64 y.t.2.1, .bool y.t.2.2, .int .i64 y.pd, .int .i64 y.x.1, .int .i64 y.x.2.1, .bool y.x.2.2.1, .int .i64 y.x.2.2.2, .bool y.hl, .slice A3_3 y.seen.length c3_3] rfl (by kernel_rfl) rfl (by kernel_rfl) (by kernel_rfl) (fun w S => ?_)
 rw [← hy]
 exact ⟨_, _, rfl, S.own 1 rfl, S.nodup 1 rfl, S.below⟩
end Go.Proofs.YtmiokacihcpepaaGreat.Kit
namespace Go.Proofs.YtmiokacihcpepaaGreat.Draw
set_option maxHeartbeats 8000000
set_option maxRecDepth 100000
set_option maxRecDepth 100000
open Go.ChangeShapes Go.WideShapes Go.ChangeAt Go.RowKit
open Go.Proofs.YtmiokacihcpepaaGreat.Base
theorem big_yes (A : Option Addr) (n c : Nat) (w : World) (hn : n ≤ 9223372036854775807) (h : 1048576 < n) :
  Calls Tryz.prog 9 #[.slice A n c] w fun e w' => e = .returned (.bool true) ∧ w = w' := by
 go_enter Tryz.func9, Tryz.ntmps9
 go_wp2
 go_ret
 exact ⟨by simp; omega, rfl⟩
theorem big_no (A : Option Addr) (n c : Nat) (w : World) (h : n ≤ 1048576) :
  Calls Tryz.prog 9 #[.slice A n c] w fun e w' => e = .returned (.bool false) ∧ w = w' := by
 go_enter Tryz.func9, Tryz.ntmps9
 go_wp2
 go_ret
 exact ⟨by simp; omega, rfl⟩
end Go.Proofs.YtmiokacihcpepaaGreat.Draw
namespace Go.Proofs.YtmiokacihcpepaaGreat.Draw
set_option maxHeartbeats 8000000
set_option maxRecDepth 100000
set_option maxRecDepth 100000
open Go.ChangeShapes Go.WideShapes Go.ChangeAt Go.RowKit
open Go.Proofs.YtmiokacihcpepaaGreat.Base
theorem Tryz.infoInt : (Tryz.prog.info? 3).map (fun i => (i.zero, i.size, i.bytes)) = some (some (.int .i64 0), 1, 8) := by kernel_rfl
def icells (l : List Int) : List Value := l.map (Value.int .i64)
def PlacesPost (w : World) (e : Ending) (w' : World) : Prop :=
 ∃ (g' cap' : Nat) (l : List Int), e = .returned (.slice (some ⟨g', 0, none⟩) 12 cap') ∧ l.length = 12 ∧ (∀ x ∈ l, 0 ≤ x ∧ x < 10000) ∧ w'.ownsRow w.heap.size 3 1 (.slice (some ⟨g', 0, none⟩) 12 cap') 12 (icells l) ∧ Below w.heap.size w w'
theorem places_any (A : Option Addr) (n c : Nat) (w : World) (hn : n ≤ 1048576) (hcode : CodeAt w A n) :
  Calls Tryz.prog 29 #[.slice A n c] w (PlacesPost w) := by
 obtain ⟨i0, hi0, hz0, hz1, hz2⟩ := info_parts Tryz.infoInt
 have HC := Lib.hid hcode
 clear hcode
 go_enter Tryz.func29, Tryz.ntmps29
 go_wp2_with fail
 refine (new_any A n c _ hn HC.out).mono ?_
 rintro e w0 ⟨rfl, hcur, hsz⟩
 have HU := Lib.hid hcur
 have hsz1 : w.heap.size + 1 ≤ w0.heap.size := by omega
 have hb0 := hcur.1
 clear hcur hsz
 go_wp2_with fail
 go_loopw [4, 5] (fun v i wr => ∃ (k g cap : Nat) (l : List Int), k ≤ 12 ∧ i = .int .i64 k ∧ v = .slice (some ⟨g, 0, none⟩) k cap ∧ l.length = k ∧ (∀ x ∈ l, 0 ≤ x ∧ x < 10000) ∧ wr.ownsRow w.heap.size 3 1 (.slice (some ⟨g, 0, none⟩) k cap) k (icells l) ∧ Cur w A n c wr w.heap.size) (fun _ i _ => 12 - (intOf i).toNat)
 case atStart =>
  exact ⟨0, w0.heap.size, 0, [], Nat.zero_le _, rfl, rfl, rfl, (fun _ h => by cases h), World.ownsRow_made w0 #[] 0 hb0.size (Nat.zero_le _) rfl, HU.out.alloc _⟩
 case round =>
  obtain ⟨k, g, cap, l, hk, rfl, rfl, hl, hall, hown, hcur⟩ := hrel
  have HL := Lib.hid hl
  have HA := Lib.hid hall
  have HU := Lib.hid hcur
  have hbs := hcur.1.size
  clear hl hall hcur
  by_cases hlt : k < 12
  ·
   go_wp2_with fail
   refine (below_any w A n c w.heap.size _ 10000 (by omega) (by omega) hn HC.out HU.out).mono ?_
   rintro e w1 ⟨x, rfl, hx0, hx1, hc1, hg1⟩
   have hown1 := hown.kept hg1 (.inr (HU.out.ne hown (by decide)))
   have HU1 := Lib.hid hc1
   have hbs1 := hc1.1.size
   clear hc1 hg1
   go_wp2_with (at_builtin; refine wpList_append_lies _ rfl _ _ 26 rfl w.heap.size 3 i0 _ 1 8 Tryz.underlying26 hi0 hz0 hz1 hz2 rfl (by omega) (.slice (some ⟨g, 0, none⟩) k cap) k _ rfl (hown1.alloc _) ⟨w1.heap.size, 0, none⟩ 1 1 [.int .i64 x] rfl rfl (World.news_of_block (heap_alloc_new w1 _)) (by simp [Value.oneCell']) (by omega) (by simp only [maxLen]; omega) (by omega) (by simp; omega) (w1.heap.size + 1) (by simp) ?_; intro g' cap' w2 hown2 hgrow hat hg2)
   have hcur2 : Cur w A n c w2 w.heap.size := (HU1.out.alloc _).grown hgrow (HU1.out.ne hown1 (by decide)) (fun j hj => (hown1.lt j hj).1)
   have hall2 : ∀ y ∈ l ++ [x], 0 ≤ y ∧ y < 10000 := fun y hy => by
    rcases List.mem_append.1 hy with h | h
    ·
     exact HA.out y h
    ·
     have : y = x := by simpa using h
     subst this; exact ⟨hx0, hx1⟩
   have hown3 : w2.ownsRow w.heap.size 3 1 (.slice (some ⟨g', 0, none⟩) (k + 1) cap') (k + 1) (icells (l ++ [x])) := by simpa [icells] using hown2
   have hlen : (l ++ [x]).length = k + 1 := by simp [HL.out]
   have HF := Lib.hid (And.intro hcur2 (And.intro hall2 hlen))
   clear hown2 hgrow hat hg2 hcur2 hall2 hlen
   go_roundw
   case rel => exact ⟨k + 1, g', cap', l ++ [x], by omega, by go_num, rfl, HF.out.2.2, HF.out.2.1, hown3, HF.out.1⟩
   case measure => simp [intOf]; omega
  ·
   obtain rfl : k = 12 := by omega
   go_wp2_with fail
   go_ret
   exact ⟨g, cap, l, rfl, HL.out, HA.out, hown, HU.out.1⟩
end Go.Proofs.YtmiokacihcpepaaGreat.Draw
namespace Go.Proofs.YtmiokacihcpepaaGreat.fnStands
set_option maxHeartbeats 8000000
set_option maxRecDepth 100000
set_option maxRecDepth 100000
open Go.ChangeShapes Go.WideShapes Go.ChangeAt Go.RowKit
open Go.Proofs.YtmiokacihcpepaaGreat.Base Go.Proofs.YtmiokacihcpepaaGreat.Mem Go.Proofs.YtmiokacihcpepaaGreat.Data Go.Proofs.YtmiokacihcpepaaGreat.Slots Go.Proofs.YtmiokacihcpepaaGreat.Ints Go.Proofs.YtmiokacihcpepaaGreat.Ctls Go.Proofs.YtmiokacihcpepaaGreat.Exits Go.Proofs.YtmiokacihcpepaaGreat.Stt Go.Proofs.YtmiokacihcpepaaGreat.Irqs Go.Proofs.YtmiokacihcpepaaGreat.Inss Go.Proofs.YtmiokacihcpepaaGreat.Draw Go.Proofs.YtmiokacihcpepaaGreat.Guests Go.Proofs.YtmiokacihcpepaaGreat.Kit
set_option linter.unusedVariables false
set_option linter.unusedSimpArgs false
theorem n_1 : (Lit.int .i64 1).wf = true := by decide
theorem n_3 : (Lit.int .i64 3).wf = true := by decide
theorem n_4 : (Lit.int .i64 4).wf = true := by decide
theorem n_5 : (Lit.int .i64 5).wf = true := by decide
theorem n_6 : (Lit.int .i64 6).wf = true := by decide
theorem n_7 : (Lit.int .i64 7).wf = true := by decide
theorem wf_small {l : List Int} (hl : l.length ≤ 100) (h : l.all (fun x => decide (-100 ≤ x) && decide (x ≤ 100)) = true) : (rLsw rInt).wf l := ⟨Nat.le_trans hl (by decide), fun x hx => by
 have := List.all_eq_true.1 h x hx
 simp only [Bool.and_eq_true, decide_eq_true_eq] at this
 exact wfI.2 (by omega)⟩
def stM (q : Int) : bT := newB [[(6, q), (7, 0)], [(1, 1), (7, 0)]]
def stL : List Int := [0, 0, 0, 1, 0, 1, 1]
def stF (q : Int) (x : bT) : Bool := decide ((guestAt x 0).1.x = (2, 0, false, q)) && decide (runB x = []) && (guestAt x 1).1.hl
theorem st_all : ∀ q : Fin 100, stayB (stM (q.val : Int)) stL [true, false, false, true, false, true, false] (stF (q.val : Int)) = true := by decide +kernel
theorem wf_two {a b : Int × Int} (ha : (Lit.int .i64 a.1).wf = true ∧ (Lit.int .i64 a.2).wf = true) (hb : (Lit.int .i64 b.1).wf = true ∧ (Lit.int .i64 b.2).wf = true) : Inss.wfJL [a, b] ∧ [a, b].length ≤ 20 :=
 ⟨fun s hs => by simp only [List.mem_cons, List.not_mem_nil, or_false] at hs; rcases hs with rfl | rfl; exact ha; exact hb, by simp⟩
theorem walk (A : Option Addr) (n c : Nat) (hn : n ≤ maxLen) {w : World} (hcode : CodeAt w A n) :
  Calls Tryz.prog 5 #[.slice A n c] w fun e w' => e = .returned (.bool true) ∧ Below w.heap.size w w' := by
 replace hn : n ≤ 9223372036854775807 := hn
 by_cases h1 : 1048576 < n
 ·
  refine Sx.enter (args := [.slice A n c]) Tryz.func5 rfl Tryz.ntmps5 rfl ?_
  refine Sx.C.seq (Sx.C.region ?_)
  refine Sx.G.p (.bool false) ?_
  refine Sx.G.nil (Sx.E.next (Sx.C.seq (Sx.C.seq (Sx.C.region ?_))))
  refine Sx.G.p (.slice A n c) ?_
  refine Sx.G.cp 9 #[.slice A n c] (.bool true) (fun w S => by exact ((big_yes A n c _ hn h1).mono fun e w' h => And.intro h.1 (below_eq h.2))) ?_
  refine Sx.G.nil (Sx.E.next (Sx.C.yy (Sx.C.seq (Sx.C.region ?_))))
  refine Sx.G.p (.bool true) ?_
  refine Sx.G.nil (Sx.E.next (Sx.C.ret (Sx.E.then_ret ?_)))
  refine Sx.E.ret1 (.bool true) rfl (by kernel_rfl) (fun w S => ?_)
  exact ⟨rfl, S.below⟩
 ·
  have hn2 : n ≤ 1048576 := by omega
  refine Sx.enter (args := [.slice A n c]) Tryz.func5 rfl Tryz.ntmps5 rfl ?_
  refine Sx.C.seq (Sx.C.region ?_)
  refine Sx.G.p (.bool false) ?_
  refine Sx.G.nil (Sx.E.next (Sx.C.seq (Sx.C.seq (Sx.C.region ?_))))
  refine Sx.G.p (.slice A n c) ?_
  refine Sx.G.cp 9 #[.slice A n c] (.bool false) (fun w S => by exact ((big_no A n c _ hn2).mono fun e w' h => And.intro h.1 (below_eq h.2))) ?_
  refine Sx.G.nil (Sx.E.next (Sx.C.nn (Sx.C.skip (Sx.E.next (Sx.C.seq (Sx.C.region ?_))))))
  refine Sx.G.p (.slice A n c) ?_
  refine Sx.G.c 29 #[.slice A n c] (fun w1 S => (places_any A n c _ hn2 (hcode.below S.below)).mono fun e w1' hp => ?_)
  obtain ⟨gp, cp, l, rfl, hl, hall, hown, hb⟩ := hp
  have hl0 : ∀ x ∈ l, 0 ≤ x := fun x hx => (hall x hx).1
  obtain ⟨hv1, hv2, hv3⟩ := Sx.row_vr hown
  obtain ⟨p0, hp0, hq0⟩ := rem_nat hl0 0 100 (by decide)
  refine ⟨_, _, rfl, (S.add hb (vr gp (Stt.icells l)) hv1 hv2 hv3), ?_⟩
  clear S hb hv1 hv2 hv3 hown hall
  have hst0 := st_all ⟨p0, hp0⟩
  have hprg : ∀ p ∈ [[(6, (p0 : Int)), (7, 0)], [(1, 1), (7, 0)]], Inss.wfJL p ∧ p.length ≤ 20 := fun p hp => by simp only [List.mem_cons, List.not_mem_nil, or_false] at hp; rcases hp with rfl | rfl; exact wf_two ⟨n_6, wfN p0 (by omega)⟩ ⟨n_7, z0⟩; exact wf_two ⟨n_1, n_1⟩ ⟨n_7, z0⟩
  obtain ⟨m0, hm0⟩ : ∃ z, z = newB [[(6, (p0 : Int)), (7, 0)], [(1, 1), (7, 0)]] := ⟨_, rfl⟩
  have hmc : wB.cap m0 := hm0 ▸ cap_newB (cap_prgs hprg (by simp))
  have hmn : wB.wf m0 := hm0 ▸ wf_newB hprg
  have hst : stayB m0 stL [true, false, false, true, false, true, false] (stF (p0 : Int)) = true := hm0 ▸ hst0
  have hlw : (rLsw rInt).wf stL := wf_small (by decide) (by decide)
  have hlc : (rLsw rInt).cap stL := ⟨by decide, fun _ _ => trivial⟩
  obtain ⟨z, hz⟩ : ∃ z, z = (stepsB m0 stL).1 := ⟨_, rfl⟩
  obtain ⟨hz2, hzf, -⟩ := stayB_all hst
  rw [← hz] at hzf
  have hzc : wB.cap z := hz ▸ cap_stepsB _ hmc
  have hzn : wB.wf z := hz ▸ wf_stepsB _ hmn
  unfold stF at hzf
  simp only [Bool.and_eq_true, decide_eq_true_eq] at hzf
  obtain ⟨⟨hx0, hxr⟩, hh1⟩ := hzf
  clear hst0
  refine Sx.G.p (.slice (some ⟨gp, 0, none⟩) 12 cp) ?_
  refine Sx.G.nil (Sx.E.next (Sx.C.seq (Sx.C.region ?_)))
  refine Sx.G.p (.slice (some ⟨gp, 0, none⟩) 12 cp) ?_
  refine Sx.G.pure (.pointer (some ⟨gp, 0 + 0 * 1, none⟩)) (by kernel_rfl) (fun w => Sx.run_elemO 3 1 8 gp 0 12 cp 0 rfl (by kernel_rfl) (by kernel_rfl) (by kernel_rfl) (by omega) w) ?_
  refine Sx.G.reads (.int .i64 (l.getD 0 0)) (by kernel_rfl) (fun w S => Sx.run_ldr1 rfl (by kernel_rfl) (by kernel_rfl) (show w.cell? ⟨gp, 0 + 0 * 1, none⟩ = some (.int .i64 (l.getD 0 0)) by rw [Nat.zero_add, Nat.mul_one]; exact St.cell S 0 rfl 0 (pl_cell l 0 (by omega)))) ?_
  refine Sx.G.q (.int .i64 ((l.getD 0 0).tmod 100)) (.int .i64 (p0 : Int)) (congrArg (Value.int .i64) hq0) ?_
  refine Sx.G.p (.agg #[.int .i64 6, .int .i64 (p0 : Int)]) ?_
  refine Sx.G.p (.agg #[.int .i64 7, .int .i64 0]) ?_
  refine Sx.G.made 48 [.int .i64 6, .int .i64 (p0 : Int), .int .i64 7, .int .i64 0] 2 (by kernel_rfl) (fun w => by kernel_rfl) (fun b2 => ?_)
  refine Sx.G.p (.agg #[.int .i64 1, .int .i64 1]) ?_
  refine Sx.G.p (.agg #[.int .i64 7, .int .i64 0]) ?_
  refine Sx.G.made 48 [.int .i64 1, .int .i64 1, .int .i64 7, .int .i64 0] 2 (by kernel_rfl) (fun w => by kernel_rfl) (fun b3 => ?_)
  refine Sx.G.block 49 [.slice (some ⟨b2, 0, none⟩) 2 2, .slice (some ⟨b3, 0, none⟩) 2 2] 2 (by kernel_rfl) (fun w => by kernel_rfl) (fun b4 => ?_)
  refine Sx.G.c 25 #[.slice (some ⟨b4, 0, none⟩) 2 2] (fun w5 S => (specx_bnew [[(6, (p0 : Int)), (7, 0)], [(1, 1), (7, 0)]] (some ⟨b4, 0, none⟩) 2 _ (cap_prgs hprg (by simp)) (bk_lst (r := rLsw (rPair rInt rInt)) (xs := [[(6, (p0 : Int)), (7, 0)], [(1, 1), (7, 0)]]) S 0 rfl ⟨[_], _, rfl, (vr_prog (p := [(6, (p0 : Int)), (7, 0)]) S 2 rfl), ⟨[_], _, rfl, (vr_prog (p := [(1, 1), (7, 0)]) S 1 rfl), rfl⟩⟩)).mono fun e w5' hp => ?_)
  replace hp := weak_B _ _ hp
  rw [show newB [[(6, (p0 : Int)), (7, 0)], [(1, 1), (7, 0)]] = m0 from hm0.symm] at hp
  obtain ⟨cs, F, rfl, ho, hF, hb⟩ := hp
  obtain ⟨P5_0, P5_1, P5_2, rfl, f5_0, f5_1, f5_2⟩ := wB_rd (wB.reads ho)
  obtain ⟨A5_0, c5_0, e5_0, -⟩ := lst_val f5_0
  subst e5_0
  obtain ⟨A5_1, c5_1, e5_1, -⟩ := lst_val f5_1
  subst e5_1
  obtain ⟨A5_2, c5_2, e5_2, -⟩ := lst_val f5_2
  subst e5_2
  generalize F = F5 at ho hF
  refine ⟨_, _, rfl, (St.got S hb ho hF), ?_⟩
  clear S hb ho hF f5_0 f5_1 f5_2
  refine Sx.G.ar [.slice none 0 0, .slice none 0 0, .slice none 0 0, .int .i64 0] (fun b6 => ?_)
  refine Sx.G.sw [.slice A5_0 m0.mem.length c5_0, .slice A5_1 m0.gs.length c5_1, .slice A5_2 m0.outs.length c5_2, .int .i64 m0.pd] .a0 ?_
  refine Sx.G.nil (Sx.E.next (Sx.C.seq (Sx.C.region ?_)))
  refine Sx.G.lw .m0 ?_
  refine Sx.G.block 3 [.int .i64 0, .int .i64 0, .int .i64 0, .int .i64 1, .int .i64 0, .int .i64 1, .int .i64 1] 7 (by kernel_rfl) (fun w => by kernel_rfl) (fun b7 => ?_)
  refine Sx.G.c 14 #[.agg #[.slice A5_0 m0.mem.length c5_0, .slice A5_1 m0.gs.length c5_1, .slice A5_2 m0.outs.length c5_2, .int .i64 m0.pd], .slice (some ⟨b7, 0, none⟩) 7 7] (fun w8 S => (implx_steps m0 _ stL (some ⟨b7, 0, none⟩) 7 _ hmc (St.reads (r := wB) S 2 rfl) hmn hlw hlc (bk_lst (r := rInt) (xs := [0, 0, 0, 1, 0, 1, 1]) S 0 rfl (ints_all _ _ _ [0, 0, 0, 1, 0, 1, 1])) (stayB_walks hst)).mono fun e w8' hp => ?_)
  obtain ⟨cs, u, F, G, rfl, S1⟩ := hp
  rw [hz2, ← hz] at S1
  obtain ⟨P8_0, P8_1, P8_2, rfl, f8_0, f8_1, f8_2⟩ := wB_rd (St.reads S1 0 rfl)
  obtain ⟨A8_0, c8_0, e8_0, -⟩ := lst_val f8_0
  subst e8_0
  obtain ⟨A8_1, c8_1, e8_1, -⟩ := lst_val f8_1
  subst e8_1
  obtain ⟨A8_2, c8_2, e8_2, -⟩ := lst_val f8_2
  subst e8_2
  obtain ⟨tA8, tc8, te8, -⟩ := lst_val (St.reads S1 1 rfl)
  subst te8
  obtain ⟨tb8, to8, tq8⟩ := lst_some (by decide) (show rdLst rBool _ _ _ _ _ from St.reads S1 1 rfl)
  subst tq8
  generalize F = F8 at S1
  generalize G = G8 at S1
  refine ⟨_, _, rfl, (Sx.St.join S S1), ?_⟩
  clear S S1 f8_0 f8_1 f8_2
  refine Sx.G.p (.tuple #[.agg #[.slice A8_0 z.mem.length c8_0, .slice A8_1 z.gs.length c8_1, .slice A8_2 z.outs.length c8_2, .int .i64 z.pd], .slice (some ⟨tb8, to8, none⟩) 7 tc8]) ?_
  refine Sx.G.p (.agg #[.slice A8_0 z.mem.length c8_0, .slice A8_1 z.gs.length c8_1, .slice A8_2 z.outs.length c8_2, .int .i64 z.pd]) ?_
  refine Sx.G.p (.slice (some ⟨tb8, to8, none⟩) 7 tc8) ?_
  refine Sx.G.ar [.slice none 0 0, .slice none 0 0, .slice none 0 0, .int .i64 0] (fun b9 => ?_)
  refine Sx.G.sw [.slice A8_0 z.mem.length c8_0, .slice A8_1 z.gs.length c8_1, .slice A8_2 z.outs.length c8_2, .int .i64 z.pd] .a0 ?_
  refine Sx.G.p (.slice (some ⟨tb8, to8, none⟩) 7 tc8) ?_
  refine Sx.G.nil (Sx.E.next (Sx.C.seq ?_))
  refine Sx.C.draw (.take 0 (.alone 1 (.alone 2 (.take 3 (.take 4 (.take 6 (.take 7 (.take 8 (.take 9 (.take 10 (.alone 5 (.take 11 (.take 12 (.take 13 (.take 14 (.alone 15 (.alone 16 (.take 17 (.take 18 (.take 19 (.alone 20 (.take 21 (.take 22 (.take 23 .nil)))))))))))))))))))))))) [vr b9 [.slice A8_0 z.mem.length c8_0, .slice A8_1 z.gs.length c8_1, .slice A8_2 z.outs.length c8_2, .int .i64 z.pd], ow (rLsw rBool) w8.heap.size w8'.heap.size [true, false, false, true, false, true, false] [.slice (some ⟨tb8, to8, none⟩) 7 tc8] G8, vr gp (Stt.icells l)] (fun w S => St.pick S [0, 2, 9] _ rfl (by decide)) (by kernel_rfl) (by kernel_rfl) (by kernel_rfl) ?_
  refine Sx.GT.p (.slice (some ⟨tb8, to8, none⟩) 7 tc8) ?_
  refine Sx.GT.alone (Sx.Alone.block 4 [.bool true, .bool false, .bool false, .bool true, .bool false, .bool true, .bool false] 7 (by rfl) (by kernel_rfl) (fun w => by kernel_rfl) (fun w S => St.pick S [0, 2, 9] _ rfl (by decide)) (fun b10 => ?_))
  refine Sx.GT.alone (Sx.Alone.cp 17 #[.slice (some ⟨tb8, to8, none⟩) 7 tc8, .slice (some ⟨b10, 0, none⟩) 7 7] (.bool true) (fun w S => by exact ((lawx_bools [true, false, false, true, false, true, false] ([true, false, false, true, false, true, false] : List Bool) (some ⟨tb8, to8, none⟩) tc8 (some ⟨b10, 0, none⟩) 7 _ (by exact ⟨by decide, fun _ _ => trivial⟩) (by exact ⟨by decide, fun _ _ => trivial⟩) (show rdLst rBool _ _ _ _ _ from St.reads S 3 rfl) (bk_lst (r := rBool) (xs := [true, false, false, true, false, true, false]) S 0 rfl (bools_all _ _ _ [true, false, false, true, false, true, false]))).mono fun e w' h => And.intro (h.1.trans (by rw [eqv_true rfl])) h.2)) (fun w S => St.pick S [1, 3, 10] _ rfl (by decide)) ?_)
  refine Sx.GT.p (.bool true) ?_
  refine Sx.GT.lw .m0 ?_
  refine Sx.GT.p (.slice (some ⟨gp, 0, none⟩) 12 cp) ?_
  refine Sx.GT.pure (.pointer (some ⟨gp, 0 + 0 * 1, none⟩)) 7 (by rfl) (by kernel_rfl) (fun w => Sx.run_elemO 3 1 8 gp 0 12 cp 0 rfl (by kernel_rfl) (by kernel_rfl) (by kernel_rfl) (by omega) w) ?_
  refine Sx.GT.reads (.int .i64 (l.getD 0 0)) 8 (by rfl) (by kernel_rfl) (fun w S => Sx.run_ldr1 rfl (by kernel_rfl) (by kernel_rfl) (show w.cell? ⟨gp, 0 + 0 * 1, none⟩ = some (.int .i64 (l.getD 0 0)) by rw [Nat.zero_add, Nat.mul_one]; exact St.cell S 2 rfl 0 (pl_cell l 0 (by omega)))) ?_
  refine Sx.GT.q (.int .i64 ((l.getD 0 0).tmod 100)) (.int .i64 (p0 : Int)) (congrArg (Value.int .i64) hq0) ?_
  refine Sx.GT.p (.agg #[.int .i64 2, .int .i64 0, .bool false, .int .i64 (p0 : Int)]) ?_
  refine Sx.GT.alone (Sx.Alone.cp 23 #[.agg #[.slice A8_0 z.mem.length c8_0, .slice A8_1 z.gs.length c8_1, .slice A8_2 z.outs.length c8_2, .int .i64 z.pd], .int .i64 0] (.agg #[.int .i64 2, .int .i64 0, .bool false, .int .i64 (p0 : Int)]) (fun w S => by exact ((implx_exit z _ 0 _ hzc (St.reads (r := wB) S 2 rfl) hzn (by decide)).mono fun e w' h => And.intro (h.1.trans (by rw [hx0])) h.2)) (fun w S => St.pick S [1, 3, 10] _ rfl (by decide)) ?_)
  refine Sx.GT.pureq (.bool (2 == 2 && 0 == 0 && false == false && (p0 : Int) == (p0 : Int))) (.bool true) 11 (by rfl) (by kernel_rfl) (fun w => Sx.run_eqs rfl rfl rfl (by kernel_rfl) (fun w => eqv_Exit_eql 2 0 false ((p0 : Int)) 2 0 false ((p0 : Int)) w) w) (congrArg Value.bool (by simp)) ?_
  refine Sx.GT.p (.bool true) ?_
  refine Sx.GT.p (.bool true) ?_
  refine Sx.GT.lw .m0 ?_
  refine Sx.GT.alone (Sx.Alone.c 19 #[.agg #[.slice A8_0 z.mem.length c8_0, .slice A8_1 z.gs.length c8_1, .slice A8_2 z.outs.length c8_2, .int .i64 z.pd]] (fun w11 S => (implx_run z _ _ hzc (St.reads (r := wB) S 2 rfl) hzn).mono fun e w11' hp => ?_))
  rw [hxr] at hp
  obtain ⟨cs, F, rfl, ho, hF, hb⟩ := hp
  obtain ⟨u11, rfl⟩ := lsw_own ho
  obtain ⟨A11, c11, e11, -⟩ := lst_val ((rLsw _).reads ho)
  subst e11
  generalize F = F11 at ho hF
  refine ⟨_, _, rfl, (St.got S hb ho hF), (fun w S => St.pick S [2, 4, 11] _ rfl (by decide)), ?_⟩
  clear S hb ho hF
  refine Sx.GT.alone (Sx.Alone.cp 18 #[.slice A11 0 c11, .slice none 0 0] (.bool true) (fun w S => by exact ((lawx_ints ([] : List Int) ([] : List Int) A11 c11 none 0 _ (by exact ⟨by decide, fun _ _ => trivial⟩) (by exact ⟨by decide, fun _ _ => trivial⟩) (show rdLst rInt _ _ _ _ _ from St.reads S 0 rfl) (Sx.rd_nil _ _ _ _)).mono fun e w' h => And.intro (h.1.trans (by rw [eqv_true rfl])) h.2)) (fun w S => St.pick S [2, 4, 11] _ rfl (by decide)) ?_)
  refine Sx.GT.p (.bool true) ?_
  refine Sx.GT.p (.bool true) ?_
  refine Sx.GT.lw .m0 ?_
  refine Sx.GT.alone (Sx.Alone.c 31 #[.agg #[.slice A8_0 z.mem.length c8_0, .slice A8_1 z.gs.length c8_1, .slice A8_2 z.outs.length c8_2, .int .i64 z.pd], .int .i64 1] (fun w12 S => (lawx_gof z _ 1 _ hzc (St.reads (r := wB) S 3 rfl)).mono fun e w12' hp => ?_))
  obtain ⟨cs, F, rfl, ho, hF, hb⟩ := hp
  obtain ⟨y12, hy12⟩ : ∃ y, y = (guestAt z 1).1 := ⟨_, rfl⟩
  have hh12 := hh1
  rw [← hy12] at ho hh12
  obtain ⟨P12_0, P12_1, P12_2, P12_3, rfl, f12_0, f12_1, f12_2, f12_3⟩ := wG_rd (wG.reads ho)
  rw [hh12] at ho
  obtain ⟨A12_0, c12_0, e12_0, -⟩ := lst_val f12_0
  subst e12_0
  obtain ⟨A12_1, c12_1, e12_1, -⟩ := lst_val f12_1
  subst e12_1
  obtain ⟨A12_2, c12_2, e12_2, -⟩ := lst_val f12_2
  subst e12_2
  obtain ⟨A12_3, c12_3, e12_3, -⟩ := lst_val f12_3
  subst e12_3
  rw [hh12]
  generalize F = F12 at ho hF
  refine ⟨_, _, rfl, (St.got S hb ho hF), (fun w S => St.pick S [3, 5, 12] _ rfl (by decide)), ?_⟩
  clear S hb ho hF f12_0 f12_1 f12_2 f12_3
  refine Sx.GT.p (.bool true) ?_
  refine Sx.GT.p (.bool true) ?_
  refine Sx.GT.p (.bool true) ?_
  refine Sx.GT.nil (Sx.E.next (Sx.C.ret ?_))
  refine Sx.E.ret1 (.bool true) rfl (by kernel_rfl) (fun w S => ?_)
  exact ⟨rfl, S.below⟩
theorem lifted (os : Os) (started : os.Started) (H : Type) (enc : TypeId × Value → H) :
  ReturnsInHanded {} Tryz.checked os 5 .any (Rows.fnStandsSpec.pre6 enc Tryz.prog Tryz.f5 Rows.fnStandsRow.domain false) (Rows.fnStandsSpec.post enc Tryz.prog Tryz.f5 false true false false) := by
 refine returnsInHanded_of_change (C := Tryz.checked) Base.own started (by kernel_rfl) Tryz.func5
  (ChangeSpec.witness6 (enc := enc) (C := Tryz.checked) false ⟨#[], #[.slice none 0 0], []⟩ 8 (by kernel_rfl) (by kernel_rfl) (by kernel_rfl) (by kernel_rfl)) ?_
 intro W base args ds gs before hval0 hW hcnd _
 have hval : ∀ (j : Nat) t v, Tryz.f5.params[j]? = some t → args[j]? = some v → Value.okWide Tryz.prog W .any base t v := hval0
 have hW' := hW
 obtain ⟨p, q, hA0, hV, rfl, hfz, hnd⟩ := hW
 have hA : DataW.TrodAll enc Tryz.prog W 0 (fun _ => true) true Tryz.f5.params.toList args.toList ds p := hA0
 have hA1 := hA
 rw [Tryz.params5] at hA hval
 obtain ⟨v0, vs0, d0, ds0, p0, q0, hargs, rfl, rfl, h0, r0⟩ := trodAll_cons hA
 obtain ⟨rfl, rfl, rfl⟩ := trodAll_nil r0
 obtain rfl : args = #[v0] := by cases args; simp_all
 obtain ⟨rfl, rfl⟩ := trodVars_none hV
 obtain ⟨A0, n0, c0, rfl, hn0, hcode0, _⟩ := Draw.open_code (hval 0 22 v0 rfl rfl) h0
 clear hA0 hval0
 rw [List.append_nil] at hW'
 refine (walk A0 n0 c0 hn0 hcode0).mono fun e W' ⟨he, hg⟩ => ?_
 subst he
 exact ⟨_, rfl, Mem.post_args Slots.laid (by kernel_rfl) rfl rfl rfl hW' hA1 hg (fun _ _ _ => (trodAll_cons_mk (shut_bool Tryz.underlying4 _) trodAll_mk0)) (ok_one (by kernel_rfl) rfl (okWide_bool_mk Tryz.underlying4 _))⟩
theorem over : Rows.fnStandsRow.holds Tryz.pinned (OpenSpec.ofChange Rows.fnStandsSpec) :=
 OpenClaim.holds_of_wide 5 Tryz.f5 rfl rfl rfl rfl rfl rfl rfl ⟨rfl, rfl, rfl, rfl, rfl⟩ rfl rfl rfl rfl rfl (by kernel_rfl) Tryz.func5 (by kernel_rfl)
  (of_decide_eq_true (by kernel_rfl)) (by unfold Func.isWrapper; first | (rw [if_pos (by decide +kernel)]; kernel_rfl) | (rw [if_neg (by decide +kernel)]; exact ⟨rfl, rfl⟩))
  (fun os started H enc _ => lifted os started H enc)
theorem proved : Rows.FnStandsSaid :=
 over
#print axioms proved
end Go.Proofs.YtmiokacihcpepaaGreat.fnStands
