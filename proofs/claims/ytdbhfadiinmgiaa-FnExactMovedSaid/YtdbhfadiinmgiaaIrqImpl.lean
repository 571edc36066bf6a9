/-
  Interrupts: contracts of the project's irqOk, PendOk, PostIrq, pendingIrqs (an iterator), TopIrq, TakeIrq, IrqCount and SplitIrqs. Conditions: ints of 64 bits.
-/
import Derived.RangeFuncFrom
import Derived.RangeFuncBound
import Derived.RangeFuncCalls
import Derived.RangeFuncLeaves
import Derived.Shelf.Abstract
import Derived.WalkKit
import Derived.OwnWalkIn
import Derived.TacticsInMore
import Derived.LoopNIn
import Derived.LoopIn
import Derived.Test.YtdbhfadiinmgiaaIrq
namespace Go.Proofs.Ytdbhfadiinmgiaa.Irqs
set_option maxRecDepth 100000
open Go.ChangeShapes Go.WideShapes Go.ChangeAt Go.RowKit
open Go.Proofs.Ytdbhfadiinmgiaa.Base Go.Proofs.Ytdbhfadiinmgiaa.Mem
set_option linter.unusedVariables false
set_option linter.unusedSimpArgs false
attribute [local go_sem] Oper.semAt_some

/-- The interrupts of p below k, the greatest first. -/
def descI (p : Int) : Nat → List Int
  | 0 => []
  | k + 1 => if bitN p k = 1 then (k : Int) :: descI p k else descI p k
def listI (p : Int) : List Int := if pend p = true then descI p 8 else []
theorem descI_succ (p : Int) (k : Nat) : descI p (k + 1) = if bitN p k = 1 then (k : Int) :: descI p k else descI p k := rfl
theorem descI_len (p : Int) : ∀ k : Nat, (descI p k).length ≤ k
  | 0 => Nat.le_refl _
  | k + 1 => by
    have h := descI_len p k
    unfold descI
    split <;> simp <;> omega
theorem listI_len (p : Int) : (listI p).length ≤ 8 := by
  unfold listI
  split
  · exact descI_len p 8
  · simp
theorem descI_top (p : Int) : ∀ k : Nat, topTo p k = (descI p k).headD (-1)
  | 0 => rfl
  | k + 1 => by
    have h := descI_top p k
    unfold descI topTo
    split
    · rfl
    · exact h
theorem listI_top (p : Int) : topI p = (listI p).headD (-1) := by
  unfold topI listI
  split
  · exact descI_top p 8
  · rfl
theorem descI_cnt {p : Int} (hp : pend p = true) : ∀ k : Nat, k ≤ 8 → cntTo p k = ((descI p k).length : Int)
  | 0, _ => rfl
  | k + 1, hk => by
    have h := descI_cnt hp k (by omega)
    have e : cntTo p (k + 1) = cntTo p k + bitN p k := rfl
    rw [e, h]
    rcases bitN_01 hp (show k < 8 by omega) with hb | hb
    · rw [hb, descI_succ, if_neg (by omega)]; simp
    · rw [descI_succ, if_pos hb, hb]; simp
theorem listI_cnt (p : Int) : cntI p = ((listI p).length : Int) := by
  unfold cntI listI
  split
  · rename_i h; exact descI_cnt h 8 (by omega)
  · rfl

section
variable (p n : Int) (w : World)
theorem impl_postOk' : Calls Try.prog 133 #[.int .i64 n] w fun e w' => e = .returned (.bool (pend n)) ∧ w = w' := by
  have hv : pend n = (decide (n ≥ 0) && decide (n ≤ 255)) := rfl
  cases h1 : decide (n ≥ 0)
  all_goals
    cases h2 : decide (n ≤ 255)
    all_goals
      rw [h1, h2] at hv
      simp only [Bool.and_false, Bool.and_true] at hv
      rw [hv]; clear hv
      go_enter Try.func133, Try.ntmps133
      go_wp2
      go_ret
      exact ⟨rfl, rfl⟩

theorem impl_pend' : Calls Try.prog 132 #[.int .i64 p] w fun e w' => e = .returned (.bool (pend p)) ∧ w = w' := by
  have K := Lib.hid (fun V : World => impl_postOk' p V)
  generalize pend p = x at K ⊢
  go_enter Try.func132, Try.ntmps132
  go_wp2_with fail
  refine (K.out _).mono ?_
  rintro e w' ⟨rfl, rfl⟩
  go_wp2_with fail
  go_ret
  exact ⟨rfl, rfl⟩
theorem impl_pend (wp : (Lit.int .i64 p).wf = true) : Calls Try.prog 132 #[.int .i64 p] w fun e w' => e = .returned (.bool (pend p)) ∧ Below w.heap.size w w' :=
  (impl_pend' p w).mono fun e w' h => ⟨h.1, h.2 ▸ Below.refl _ _⟩

theorem andNot_all : ∀ x y : Fin 256, bits .andNot .i64 (x.val : Int) (y.val : Int) = bits .and .i64 (x.val : Int) (bits .xor .i64 255 (y.val : Int)) := by
  have in_255 : ∀ k : Fin 256, BitVec.ofInt 64 (k.val : Int) &&& BitVec.ofInt 64 255 = BitVec.ofInt 64 (k.val : Int) := by decide +kernel
  have xor_255 : ∀ k : Fin 256, BitVec.ofInt 64 (bits .xor .i64 255 (k.val : Int)) = BitVec.ofInt 64 255 &&& ~~~BitVec.ofInt 64 (k.val : Int) := by decide +kernel
  intro x y
  have h : BitVec.ofInt 64 (x.val : Int) &&& ~~~BitVec.ofInt 64 (y.val : Int) = BitVec.ofInt 64 (x.val : Int) &&& BitVec.ofInt 64 (bits .xor .i64 255 (y.val : Int)) := by
    rw [xor_255 y, ← BitVec.and_assoc, in_255 x]
  exact congrArg (fun z : BitVec 64 => IntKind.i64.wrap z.toNat) h

end

/-- What a round keeps: the cell in which p lies. -/
def KpI (Bn : Nat) (A B : World) : Prop := B.cell? ⟨Bn, 0, none⟩ = A.cell? ⟨Bn, 0, none⟩

set_option maxRecDepth 100000 in
set_option maxHeartbeats 2000000 in
/-- The iterator, over whatever the rounds do. -/
theorem irqs_in (n l Bn : Nat) (p : Int) (J Jx : List Int → World → Prop)
    (hY : ∀ pre x W, J pre W → pre.length < (listI p).length → YieldAt Fence.wide (n - 1) Try.prog l #[.int .i64 x] W fun e W' =>
      (e = .returned (.bool true) ∧ J (pre ++ [x]) W' ∧ KpI Bn W W') ∨ (e = .returned (.bool false) ∧ Jx (pre ++ [x]) W'))
    (W : World) (hBn : W.cell? ⟨Bn, 0, none⟩ = some (.int .i64 p)) (h0 : J [] W) :
    CallsIn Fence.wide n Try.prog 131 #[.func (.yield l) #[] #[], .pointer (some ⟨Bn, 0, none⟩)] W fun e W' => (∃ v, e = .returned v) ∧
      ((∃ ys, ys = listI p ∧ J ys W') ∨ (∃ pre, pre <+: listI p ∧ Jx pre W')) := by
  have K := Lib.hid (fun V : World => impl_pend' p V)
  have hv : listI p = if pend p = true then descI p 8 else [] := rfl
  have hp : pend p = true → 0 ≤ p ∧ p ≤ 255 := pend_iff.1
  generalize listI p = L at hY hv ⊢
  generalize pend p = x at K hv hp
  cases x
  · rw [if_neg (Bool.false_ne_true)] at hv
    subst hv
    refine callsIn_of_wp Try.func131 rfl trivial ?_ rfl
    simp only [Try.ntmps131, List.size_toArray, List.length_cons, List.length_nil, Nat.reduceAdd, Nat.reduceSub, Array.replicate_succ, Array.replicate_zero, List.push_toArray, List.append_toArray, List.nil_append, List.cons_append]
    gi_wp2_with (refine ⟨trivial, fun h => (by cases h), ?_⟩; gi_at_call 132; refine (callsIn_wide.2 (K.out _)).mono ?_; rintro e w' ⟨rfl, rfl⟩)
    refine bodyPost_ret (results_none rfl _ _ _) rfl ?_
    exact ⟨⟨_, rfl⟩, .inl ⟨[], rfl, h0⟩⟩
  · rw [if_pos rfl] at hv
    obtain ⟨p0, p1⟩ := hp rfl
    clear hp
    have hv' := Lib.hid hv
    clear hv
    refine callsIn_of_wp Try.func131 rfl trivial ?_ rfl
    simp only [Try.ntmps131, List.size_toArray, List.length_cons, List.length_nil, Nat.reduceAdd, Nat.reduceSub, Array.replicate_succ, Array.replicate_zero, List.push_toArray, List.append_toArray, List.nil_append, List.cons_append]
    gi_wp2_with (refine ⟨trivial, fun h => (by cases h), ?_⟩; gi_at_call 132; refine (callsIn_wide.2 (K.out _)).mono ?_; rintro e w' ⟨rfl, rfl⟩)
    gi_loopw [3] (fun i wr => ∃ (k : Nat) (pre : List Int), k ≤ 8 ∧ i = .int .i64 ((k : Int) - 1) ∧ L = pre ++ descI p k ∧ wr.cell? ⟨Bn, 0, none⟩ = some (.int .i64 p) ∧ J pre wr)
      (fun i wr => (intOf i + 1).toNat)
    case atStart => exact ⟨8, [], by omega, rfl, hv'.out, hBn, h0⟩
    case round =>
      obtain ⟨k, pre, hk, rfl, hL, hc, hJ⟩ := hrel
      rcases k with _ | k
      · have HL := Lib.hid hL
        clear hL
        gi_wp2
        go_end0
        exact ⟨⟨_, rfl⟩, .inl ⟨pre, by rw [HL.out]; simp [descI], hJ⟩⟩
      · have hL' : L = pre ++ (if bitN p k = 1 then (k : Int) :: descI p k else descI p k) := hL
        rw [show ((k + 1 : Nat) : Int) - 1 = (k : Int) by omega]
        have hk0 : (k : Int) ≥ 0 := by omega
        clear hL
        by_cases hb : bitN p k = 1
        · rw [if_pos hb] at hL'
          obtain ⟨fn, tmps, assign, body, hy, hR⟩ := hY pre (k : Int) wr hJ (by rw [hL']; simp)
          have HL := Lib.hid hL'
          unfold bitN at hb
          clear hL'
          gi_wp2
          refine ⟨fun h => (by cases h), ?_⟩
          refine hR.mono ?_
          rintro e W3 (⟨rfl, hJ3, hk3⟩ | ⟨rfl, hJx3⟩)
          · skip
            gi_wp2
            go_roundw
            case rel => exact ⟨k, pre ++ [(k : Int)], by omega, by go_num, by rw [HL.out]; simp, hk3.trans hc, hJ3⟩
            case measure => simp [intOf]
          · gi_wp2
            refine bodyPost_ret (results_none rfl _ _ _) rfl ?_
            exact ⟨⟨_, rfl⟩, .inr ⟨pre ++ [(k : Int)], ⟨descI p k, by rw [HL.out]; simp⟩, hJx3⟩⟩
        · rw [if_neg hb] at hL'
          have HL := Lib.hid hL'
          have hb' : (bits .and .i64 (p / 2 ^ k) 1 == 1) = false := by unfold bitN at hb; simpa using hb
          clear hL' hb
          gi_wp2
          refine ⟨fun _ h => (by cases h), ?_⟩
          gi_wp2
          go_roundw
          case rel => exact ⟨k, pre, by omega, by go_num, HL.out, hc, hJ⟩
          case measure => simp [intOf]

theorem irqs_of (F : Fence) (hF : F = Fence.wide) (n : Nat) (p : Int) (w : World) :
    CallsIn F n Try.prog 130 #[.int .i64 p] w fun e w' => e = .returned (.func (.func 131) #[] #[.pointer (some ⟨w.heap.size, 0, none⟩)]) ∧ w' = w.alloc (.cells #[.int .i64 p] 3) := by
  subst hF
  refine callsIn_of_wp Try.func130 rfl trivial ?_ rfl
  simp only [Try.ntmps130, List.size_toArray, List.length_cons, List.length_nil, Nat.reduceAdd, Nat.reduceSub, Array.replicate_succ, Array.replicate_zero, List.push_toArray, List.append_toArray, List.nil_append, List.cons_append]
  gi_wp2
  go_ret
  exact ⟨rfl, rfl⟩

theorem irqs_stop (n Bn : Nat) (p : Int) (w : World) (hBn : Bn < w.heap.size) (hc : w.cell? ⟨Bn, 0, none⟩ = some (.int .i64 p)) :
    SeqStopsK Fence.wide n Try.prog 131 #[.pointer (some ⟨Bn, 0, none⟩)] (fun x : Int => #[Value.int .i64 x]) (KpI Bn) (fun ys => ys = listI p) (fun pre => pre <+: listI p) (listI p).length w := fun l J Jx W hW _ _ hY h0 =>
  irqs_in n l Bn p J Jx hY W ((hW.cell (p := ⟨Bn, 0, none⟩) hBn).trans hc) h0
theorem KpI_t {Bn : Nat} {A B C : World} (h : KpI Bn A B) (k : KpI Bn B C) : KpI Bn A C := k.trans h
theorem KpI_b {Bn : Nat} {w : World} (hn : Bn < w.heap.size) (W : World) (l : Nat) (o o' : Obj) (hl : w.heap.size ≤ l) (h : W.heap[l]? = some o) (k1 : o.isCells = false) (k2 : o.isWalk = false) : KpI Bn W (W.putObj l o') :=
  (belowK_b (n₀ := Bn + 1) (w := w) (by omega) W l o o' hl h k1 k2).cell (p := ⟨Bn, 0, none⟩) (by simp)
theorem cell_of_box_l {W : World} {B : Nat} {v : Value} {t : TypeId} (h : W.heap[B]? = some (.cells #[v] t (0, 0))) : W.cell? ⟨B, 0, none⟩ = some v ∧ W.frozen? ⟨B, 0, none⟩ = false := by
  constructor <;> simp [World.cell?, World.frozen?, h]
theorem cell_new_l (W : World) (v : Value) (t : TypeId) : (W.alloc (.cells #[v] t)).cell? ⟨W.heap.size, 0, none⟩ = some v ∧ (W.alloc (.cells #[v] t)).frozen? ⟨W.heap.size, 0, none⟩ = false :=
  cell_of_box_l (World.alloc_heap_new W _)
theorem cell_alloc_l {W : World} {a : Addr} {v : Value} (o : Obj) (h : W.cell? a = some v) : (W.alloc o).cell? a = some v := cell_kept h (World.grownBy_alloc W o none) (fun r e => by cases e)
theorem frozen_alloc_l {W : World} {a : Addr} {v : Value} (o : Obj) (h : W.cell? a = some v) (hf : W.frozen? a = false) : (W.alloc o).frozen? a = false := (frozen_kept h (World.grownBy_alloc W o none) (fun r e => by cases e)).trans hf

set_option maxRecDepth 100000 in
set_option maxHeartbeats 2000000 in
theorem impl_top (p : Int) (w : World) (wp : (Lit.int .i64 p).wf = true) : Calls Try.prog 122 #[.int .i64 p] w fun e w' => e = .returned (.int .i64 (topI p)) ∧ Below w.heap.size w w' := by
  refine (callsIn_wide (n := 3)).1 ?_
  rw [listI_top]
  refine callsIn_of_wp_marks Try.func122 rfl trivial ?_ rfl
  simp only [Try.ntmps122, List.size_toArray, List.length_cons, List.length_nil, Nat.reduceAdd, Nat.reduceSub, Array.replicate_succ, Array.replicate_zero, List.push_toArray, List.append_toArray, List.nil_append, List.cons_append]
  gi_wp2_with (refine ⟨trivial, ?_⟩; gi_at_call 130; refine (irqs_of _ rfl _ _ _).mono ?_; rintro e w' ⟨rfl, rfl⟩)
  have hs := cell_new_l w (.int .i64 0) 3
  have hb := cell_new_l (w.alloc (.cells #[.int .i64 0] 3)) (.int .i64 p) 3
  rw [World.size_alloc] at hb
  have hB0 : Below w.heap.size w ((w.alloc (.cells #[.int .i64 0] 3)).alloc (.cells #[.int .i64 p] 3)) := ((Below.refl _ w).alloc (Nat.le_refl _) _).alloc (by simp) _
  refine wpIn_rangeFunc_ownF rfl (show 1 ≤ 3 by omega) (gf := 131) (lb := #[.pointer (some ⟨w.heap.size + 1, 0, none⟩)]) rfl trivial (enters_of Try.func131 (by kernel_rfl) rfl)
    (irqs_stop _ (w.heap.size + 1) p _ (by simp) hb.1) KpI_t (KpI_b (by simp)) (Below.refl _ _) (fun _ => rfl)
    (fun pre W => (pre = [] ∧ W.cell? ⟨w.heap.size, 0, none⟩ = some (.int .i64 0) ∧ W.frozen? ⟨w.heap.size, 0, none⟩ = false) ∧ Below w.heap.size w W)
    (fun c pre W => (c = .ret ∧ ∃ x : Int, pre = [x] ∧ W.cell? ⟨w.heap.size, 0, none⟩ = some (.int .i64 x)) ∧ Below w.heap.size w W)
    (OwnFrom.and (Own.from (fun s A B row hs hg hr => ⟨hs.1, cell_kept hs.2.1 hg hr, (frozen_kept hs.2.1 hg hr).trans hs.2.2⟩) _) (ownFrom_below (Nat.le_refl _) (by simp; omega)))
    (fun c => OwnFrom.and (Own.from (fun s A B row hs hg hr => by obtain ⟨hc, x, hx, h⟩ := hs; exact ⟨hc, x, hx, cell_kept h hg hr⟩) _) (ownFrom_below (Nat.le_refl _) (by simp; omega)))
    ⟨⟨rfl, cell_alloc_l _ hs.1, frozen_alloc_l _ hs.1 hs.2⟩, hB0⟩
    (fun x => { tmps := #[.int .i64 p, undef, .pointer (some ⟨w.heap.size, 0, none⟩), .int .i64 x, .int .i64 p, .func (.func 131) #[] #[.pointer (some ⟨w.heap.size + 1, 0, none⟩)], .int .i64 x, undef], defers := [] }) ?assign ?body ?done ?stop
  case assign =>
    intro l x W K hK
    gi_wp2
    exact hK
  case body =>
    rintro l pre x W ⟨⟨rfl, hc, hf⟩, hB⟩ _
    gi_wp2
    exact ⟨KeepsOthers.setCell _ _ _, ⟨rfl, x, rfl, World.cell?_setCell_same' _ _ _ (by rw [hc]; rfl)⟩, hB.setCell (p := ⟨w.heap.size, 0, none⟩) (Nat.le_refl _) _⟩
  case done =>
    rintro D ys W hD hys ⟨⟨rfl, hc, hf⟩, hB⟩ hK
    gi_wp2
    have hK' := (KeepsOthers.setCell W ⟨w.heap.size, 0, none⟩ (.int .i64 (-1))).same D _ hK rfl
    refine ⟨by simp, .inl ⟨_, _, rfl, run_takeDeferred hK', ?_⟩⟩
    have hc5 := cell_kept (World.cell?_setCell_same' W ⟨w.heap.size, 0, none⟩ (.int .i64 (-1)) (by rw [hc]; rfl)) (grownBy_putObj' _ D (.deferred none)) (fun r e => by cases e; exact ⟨_, hK', rfl⟩)
    refine ⟨.int .i64 (-1), ?_, by rw [← hys]; rfl, (hB.setCell (p := ⟨w.heap.size, 0, none⟩) (by simp) _).trans (belowK_b (w := w) (Nat.le_refl _) _ D _ _ (by simp at hD; omega) hK' rfl rfl)⟩
    simp [results, Try.f122, go_sem, hc5]
  case stop =>
    rintro D c pre W hD hpre ⟨⟨rfl, x, rfl, hc⟩, hB⟩ hK
    obtain ⟨t, ht⟩ := hpre
    gi_wp2
    refine ⟨by simp, .inl ⟨_, _, rfl, run_takeDeferred hK, ?_⟩⟩
    have hc5 := cell_kept hc (grownBy_putObj' _ D (.deferred none)) (fun r e => by cases e; exact ⟨_, hK, rfl⟩)
    refine ⟨.int .i64 x, ?_, by rw [← ht]; rfl, hB.trans (belowK_b (w := w) (Nat.le_refl _) W D _ _ (by simp at hD; omega) hK rfl rfl)⟩
    simp [results, Try.f122, go_sem, hc5]

theorem andNot_pow : ∀ (x : Fin 256) (k : Fin 8), topI (x.val : Int) = (k.val : Int) → bits .andNot .i64 (x.val : Int) (2 ^ k.val) = (x.val : Int) - 2 ^ k.val := by decide +kernel

end Go.Proofs.Ytdbhfadiinmgiaa.Irqs
