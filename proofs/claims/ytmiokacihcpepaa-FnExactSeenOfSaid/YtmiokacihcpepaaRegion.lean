/-
  A law for a region that draws its order: its first operations (m of them) yield in whatever world, the next ones (up to n) leave the world alone, and the rest follows in one order. No statement about the program stands here. No condition.
-/
import Derived.StillTail
import Derived.Tactics
import Derived.Deep.RegionHeld3
import Derived.Deep.Draws
namespace Go.Proofs.Ytmiokacihcpepaa.Reg
set_option maxRecDepth 100000
open Go

section
variable {P : Program} {ops : Array Oper} {md : Region.Mode} {w : World}

/-- From number m on, each of the first n operations is waited for by a later one of them or by number n. -/
def sinkFrom (md : Region.Mode) (ops : Array Oper) (m n : Nat) : Bool :=
  (List.range n).all fun i => decide (i < m) || (List.range (n + 1)).any fun j => decide (i < j) && Region.waitsFor md ops j i

theorem sinkFrom_spec {m n i : Nat} (h : sinkFrom md ops m n = true) (hm : m ≤ i) (hi : i < n) : ∃ j, i < j ∧ j ≤ n ∧ Region.waitsFor md ops j i = true := by
  have h1 := List.all_eq_true.1 h i (List.mem_range.2 hi)
  rw [Bool.or_eq_true] at h1
  rcases h1 with h1 | h1
  · exact absurd (of_decide_eq_true h1) (by omega)
  · obtain ⟨j, hj, hj2⟩ := List.any_eq_true.1 h1
    rw [Bool.and_eq_true] at hj2
    have := List.mem_range.1 hj
    exact ⟨j, of_decide_eq_true hj2.1, by omega, hj2.2⟩

theorem chain_spec {n t : Nat} (h : Region.chainB md ops n = true) (ht : t < ops.size) (hn : n < t) : Region.waitsFor md ops t (t - 1) = true := by
  have h1 := List.all_eq_true.1 h t (List.mem_range.2 ht)
  rw [Bool.or_eq_true] at h1
  rcases h1 with h1 | h1
  · exact absurd (of_decide_eq_true h1) (by omega)
  · exact h1

/-- While one of the numbers m .. n - 1 is to come, none from n on may come up. -/
theorem later_waits {m n : Nat} {listed : Array Bool} (hs : sinkFrom md ops m n = true) (hc : Region.chainB md ops n = true) (hn : n < ops.size) (inv : HeadInv md ops n listed) :
    ∀ (d i : Nat), n - i ≤ d → m ≤ i → i < n → listed.getD i true = false → ∀ t, n ≤ t → t ∉ Region.ready md ops listed := by
  intro d
  induction d with
  | zero => intro i hd _ hi; omega
  | succ d ih =>
    intro i hd hm hi hun t ht hr
    obtain ⟨_, ot, hot, hall⟩ := mem_ready.1 hr
    have tlt : t < ops.size := (Array.getElem?_eq_some_iff.1 hot).1
    have stop : ∀ k, listed.getD k false = false → Region.waitsFor md ops t k = true → False := fun k hk hw => by
      obtain ⟨o, ho, e, he, hb, hon⟩ := Region.waitsFor_spec hw
      obtain rfl : o = ot := Option.some.inj (ho.symm.trans hot)
      have := hall e he hb
      rw [hon, hk] at this
      cases this
    by_cases htn : n < t
    · exact stop (t - 1) (getD_both (inv.tail (t - 1) (by omega) (by omega))) (chain_spec hc tlt htn)
    · obtain rfl : n = t := by omega
      obtain ⟨j, hij, hjn, hw⟩ := sinkFrom_spec hs hm hi
      by_cases hje : j = n
      · subst hje; exact stop i (getD_both hun) hw
      · obtain ⟨oj, hoj, e, he, hb, hon⟩ := Region.waitsFor_spec hw
        cases hl : listed.getD j false with
        | false => exact ih j (by omega) (by omega) (by omega) (getD_in (by rw [inv.size]; omega) hl) n (Nat.le_refl _) hr
        | true =>
          have := inv.closed j oj hoj hl e he hb
          rw [hon, getD_both hun] at this
          cases this

/-- One of the numbers m .. n - 1 that may come up may be taken first. -/
theorem head_first {m n i : Nat} {oi : Oper} {v : Value} {L : Array Bool → Act → Prop} (hi : ops[i]? = some oi) (hsel : ∀ (j : Nat) (o : Oper) cs b, ops[j]? = some o → o.op ≠ .select cs b)
    (hs : sinkFrom md ops m n = true) (hc : Region.chainB md ops n = true) (hn : n < ops.size) (him : m ≤ i) (hin : i < n)
    (hdone : ∀ listed a, L listed a → ∀ j ∈ Region.ready md ops listed, n ≤ j) :
    ∀ (f : Nat) (listed : Array Bool) (a : Act), HeadInv md ops n listed →
      (∀ j oj, ops[j]? = some oj → j ≠ i → listed.getD j true = false → (∀ e ∈ oj.after, Region.binds md e = true → e.on ≠ i) → oi.apart ops oj = true) →
      i ∈ Region.ready md ops listed → YieldsAt P ops w oi v a →
      wpAnyL P md ops w n L f (listed.setIfInBounds i true) (a.put oi.dst v) → wpAnyL P md ops w n L (f + 1) listed a := by
  intro f
  induction f with
  | zero =>
    intro listed a inv _ hr hy H
    have hun := (mem_ready.1 hr).1
    refine ⟨fun h => (by rw [h] at hr; cases hr), fun j hj => ?_⟩
    have hjn : j < n := Nat.lt_of_not_le fun h => later_waits hs hc hn inv _ i (Nat.le_refl _) him hin hun j h hj
    by_cases hji : j = i
    · subst hji; exact ⟨hjn, hy.stOp hi H⟩
    · exact absurd (hdone _ _ H j (ready_mono hj hji)) (by omega)
  | succ f ih =>
    intro listed a inv free hr hy H
    have hun := (mem_ready.1 hr).1
    refine ⟨fun h => (by rw [h] at hr; cases hr), fun j hj => ?_⟩
    have hjn : j < n := Nat.lt_of_not_le fun h => later_waits hs hc hn inv _ i (Nat.le_refl _) him hin hun j h hj
    refine ⟨hjn, ?_⟩
    by_cases hji : j = i
    · subst hji; exact hy.stOp hi H
    · obtain ⟨hjun, oj, hoj, hall⟩ := mem_ready.1 hj
      have hno : ∀ e ∈ oj.after, Region.binds md e = true → e.on ≠ i := fun e he hb heq => by
        have := hall e he hb
        rw [heq, getD_both hun] at this
        cases this
      have step := stOp_put hoj (free j oj hoj hji hjun hno) (fun cs b => hsel i oi cs b hi) (fun cs b => hsel j oj cs b hoj) hy (H.2 j (ready_mono hj hji)).2
      refine stOp_mono (fun a' h3 => ih (listed.setIfInBounds j true) a' (inv.set hj hjn) (fun k ok hk hki hku hkn => free k ok hk hki ?_ hkn) (ready_mono hr (Ne.symm hji)) h3.1 ?_) step
      · by_cases hjk : j = k
        · subst hjk; exact hjun
        · rw [getD_set_ne true hjk] at hku; exact hku
      · rw [Array.setIfInBounds_comm _ _ hji]; exact h3.2

theorem head_walk {m n g : Nat} {L : Act → Prop} (hsel : Region.noSelect ops = true) (hs : sinkFrom md ops m n = true) (hc : Region.chainB md ops n = true) (hn : n < ops.size) :
    ∀ (l : List Oper) (k : Nat) (listed : Array Bool) (a : Act), m ≤ k → (∀ j, j < l.length → l[j]? = ops[k + j]?) → k + l.length = n → HeadInv md ops n listed →
    Region.lexHead md ops g l.length k listed = true → wpStill P ops w L l a →
    wpAnyL P md ops w n (fun listed' a' => Region.seqB md ops g n listed' = true ∧ L a') l.length listed a
  | [], k, listed, a, _, _, hk, _, hB, h => by
    obtain rfl : k = n := by simpa using hk
    exact ⟨by simpa [Region.lexHead] using hB, h⟩
  | o :: l, k, listed, a, hmk, hl, hk, inv, hB, h => by
    have h0 : ops[k]? = some o := by simpa using (hl 0 (by simp)).symm
    simp only [List.length_cons, Region.lexHead, Bool.and_eq_true] at hB
    simp only [List.length_cons] at hk
    obtain ⟨⟨hr, hf⟩, hB'⟩ := hB
    have hr' : k ∈ Region.ready md ops listed := by simpa using hr
    obtain ⟨v, hy, hK⟩ := yieldsAt_of_stOp h0 (show stOp P ops w k (wpStill P ops w L l) a by unfold stOp; simp only [h0]; exact h)
    have hl' : ∀ j, j < l.length → l[j]? = ops[k + 1 + j]? := fun j hj => by
      have := hl (j + 1) (by simp; omega)
      rw [show k + 1 + j = k + (j + 1) by omega]
      simpa using this
    exact head_first h0 (Region.noSelect_spec hsel) hs hc hn hmk (by omega) (fun _ _ hL => seqB_ready hL.1) l.length listed a inv (Region.free_spec h0 hf) hr' hy
      (head_walk hsel hs hc hn l (k + 1) _ _ (by omega) hl' (by omega) (inv.set hr' (by omega)) hB' hK)

/-- Operations that yield in whatever world, one behind the other. -/
def wpPure (P : Program) (ops : Array Oper) (K : Act → Prop) : List Oper → Act → Prop
  | [], a => K a
  | o :: rest, a => ∃ v, Yields P ops o v a ∧ wpPure P ops K rest (a.put o.dst v)

theorem wpPure_nil {K : Act → Prop} {a : Act} (h : K a) : wpPure P ops K [] a := h
theorem wpPure_cons {K : Act → Prop} {a : Act} {o : Oper} {rest : List Oper} {v : Value} (hw : Region.wanted o (yielded ops a.tmps) = true) (hv : ∀ w, (execOp a.eval o).run P w = .ok (.value v) w)
    (h : wpPure P ops K rest (a.put o.dst v)) : wpPure P ops K (o :: rest) a := ⟨v, .inl ⟨hw, hv⟩, h⟩

/-- The first numbers are free and ready in their order, then the second part's, then the rest follows in one order. -/
def pureHead (md : Region.Mode) (ops : Array Oper) (f2 g : Nat) : Nat → Nat → Array Bool → Bool
  | 0, k, listed => Region.lexHead md ops g f2 k listed
  | f + 1, k, listed => (Region.ready md ops listed).contains k && Region.free md ops listed k && pureHead md ops f2 g f (k + 1) (listed.setIfInBounds k true)

def mixedB (md : Region.Mode) (ops : Array Oper) (m n : Nat) : Bool :=
  Region.noSelect ops && decide (m ≤ n) && decide (n < ops.size) && sinkFrom md ops m n && Region.chainB md ops n && pureHead md ops (n - m) (ops.size - n) m 0 (Array.replicate ops.size false)

theorem pure_walk {m n : Nat} {Q : Exit → Act → World → Prop} (hQ : ∀ (d : Option Tmp) v c a w, Q (.panic c) (Act.put a d v) w → Q (.panic c) a w) (hsel : Region.noSelect ops = true)
    (hs : sinkFrom md ops m n = true) (hc : Region.chainB md ops n = true) (hn : n < ops.size) (rest : List Oper) (hrl : rest.length = ops.size - n) (hrest : ∀ j, rest[j]? = ops[n + j]?)
    (l2 : List Oper) (hl2 : ∀ j, j < l2.length → l2[j]? = ops[m + j]?) (hm2 : m + l2.length = n) :
    ∀ (l : List Oper) (k : Nat) (listed : Array Bool) (a : Act), (∀ j, j < l.length → l[j]? = ops[k + j]?) → k + l.length = m → HeadInv md ops n listed →
    pureHead md ops l2.length (ops.size - n) l.length k listed = true →
    wpPure P ops (fun a1 => wpStill P ops w (fun a2 => wpList P ops Q rest a2 w) l2 a1) l a → wpAny P md ops Q (l.length + (l2.length + rest.length)) listed a w
  | [], k, listed, a, _, hk, inv, hB, h => by
    obtain rfl : k = m := by simpa using hk
    have H := head_walk (P := P) (w := w) (g := ops.size - n) hsel hs hc hn l2 k listed a (Nat.le_refl _) hl2 hm2 inv hB h
    have := wpAny_of_head (Q' := Q) (g := rest.length) (fun listed' a' hL => wpAny_of_seq rest n listed' a' w hrest (by rw [hrl]; exact hL.1) hL.2) _ _ _ H
    simpa using this
  | o :: l, k, listed, a, hl, hk, inv, hB, h => by
    have h0 : ops[k]? = some o := by simpa using (hl 0 (by simp)).symm
    simp only [List.length_cons, pureHead, Bool.and_eq_true] at hB
    simp only [List.length_cons] at hk
    obtain ⟨⟨hr, hf⟩, hB'⟩ := hB
    have hr' : k ∈ Region.ready md ops listed := by simpa using hr
    obtain ⟨v, hy, hK⟩ := h
    have hl' : ∀ j, j < l.length → l[j]? = ops[k + 1 + j]? := fun j hj => by
      have := hl (j + 1) (by simp; omega)
      rw [show k + 1 + j = k + (j + 1) by omega]
      simpa using this
    have := wpAny_first (P := P) (Q := Q) h0 (Region.noSelect_spec hsel) (fun c a w => hQ o.dst v c a w) (l.length + (l2.length + rest.length)) listed a w (Region.free_spec h0 hf) hr' hy
      (pure_walk hQ hsel hs hc hn rest hrl hrest l2 hl2 hm2 l (k + 1) _ _ hl' (by omega) (inv.set hr' (by omega)) hB' hK)
    rw [List.length_cons, show l.length + 1 + (l2.length + rest.length) = l.length + (l2.length + rest.length) + 1 by omega]
    exact this

/-- THE LAW. -/
theorem wp_region_mixed {id : Nat} {Q : Exit → Act → World → Prop} {a : Act} {w : World} {l : List Oper} (m n : Nat) (hm : P.follows .mixedOrders = true) (hB : mixedB .any l.toArray m n = true)
    (h : wpPure P l.toArray (fun a1 => wpStill P l.toArray w.drew (fun a2 => wpList P l.toArray (NoPanic Q) (l.drop n) a2 w.drew) ((l.take n).drop m) a1) (l.take m) a) : (Code.region id l.toArray true).wp P Q a w := by
  simp only [mixedB, Bool.and_eq_true, decide_eq_true_eq] at hB
  obtain ⟨⟨⟨⟨⟨hsel, hmn⟩, hn⟩, hs⟩, hc⟩, hlex⟩ := hB
  have hn' : n < l.length := by simpa using hn
  have inv0 : HeadInv .any l.toArray n (Array.replicate l.toArray.size false) :=
    ⟨by simp, fun j oj _ hl => (by rw [getD_replicate_false] at hl; cases hl), fun t _ ht => getD_in (by simpa using ht) (getD_replicate_false _ _)⟩
  have e1 : (l.take m).length = m := by simp; omega
  have e2 : ((l.take n).drop m).length = n - m := by simp; omega
  have e3 : (l.drop n).length = l.toArray.size - n := by simp
  refine wp_region_noPanic (wp_region_any hm ?_)
  have := pure_walk (P := P) (md := .any) (ops := l.toArray) (w := w.drew) (m := m) (n := n) (Q := NoPanic Q) (fun _ _ _ _ _ h => h.elim) hsel hs hc hn (l.drop n) e3 (fun j => by simp [List.getElem?_drop])
    ((l.take n).drop m) (fun j hj => by rw [e2] at hj; simp [List.getElem?_drop, List.getElem?_take]; omega) (by rw [e2]; omega) (l.take m) 0 _ a (fun j hj => by rw [e1] at hj; simp [List.getElem?_take]; omega) (by simpa using e1) inv0
    (by rw [e1, e2]; exact hlex) h
  rw [e1, e2, e3, show m + (n - m + (l.toArray.size - n)) = l.toArray.size by omega] at this
  exact this
end
end Go.Proofs.Ytmiokacihcpepaa.Reg
