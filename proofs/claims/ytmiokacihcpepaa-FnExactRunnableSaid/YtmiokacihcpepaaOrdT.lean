/-
  A region that draws its order, walked along a tree of orders of the prover's choice: what yields in every world that meets S is taken first; else either one operation stands alone, or two may come up and both ways are walked; no statement about the program stands here. No condition.
-/
import Derived.Test.YtmiokacihcpepaaOrd
namespace Go.Proofs.Ytmiokacihcpepaa.Ord
set_option maxRecDepth 100000
open Go.RowKit

inductive Ot where
  | nil : Ot
  | take : Nat → Ot → Ot
  | alone : Nat → Ot → Ot
  | two : Nat → Ot → Nat → Ot → Ot

section
variable {P : Program} {ops : Array Oper} {Q : Exit → Act → World → Prop} {S : World → Prop}

/-- The tree's own test. -/
def ordT (ops : Array Oper) : Nat → Ot → Array Bool → Bool
  | 0, .nil, listed => (Region.ready .any ops listed).isEmpty
  | f + 1, .take i r, listed => (Region.ready .any ops listed).contains i && Region.free .any ops listed i && ordT ops f r (listed.setIfInBounds i true)
  | f + 1, .alone i r, listed => decide (Region.ready .any ops listed = [i]) && ordT ops f r (listed.setIfInBounds i true)
  | f + 1, .two i r j s, listed => decide (Region.ready .any ops listed = [i, j]) && ordT ops f r (listed.setIfInBounds i true) && ordT ops f s (listed.setIfInBounds j true)
  | _, _, _ => false

def wpOt (P : Program) (ops : Array Oper) (Q : Exit → Act → World → Prop) (S : World → Prop) : Ot → Act → World → Prop
  | .nil, a, w => Q .normal a w
  | .take i r, a, w => ∃ o, ops[i]? = some o ∧ ∃ v, YieldsIf P ops S o v a ∧ wpOt P ops Q S r (a.put o.dst v) w
  | .alone i r, a, w => ∃ o, ops[i]? = some o ∧ ∀ K' : Act → World → Prop, Shut (∀ a w, S w → wpOt P ops Q S r a w → K' a w) → if Region.wanted o (yielded ops a.tmps) = true then Oper.wp P o a w K' Q else K' (a.put o.dst undef) w
  | .two i r j s, a, w => (∃ o, ops[i]? = some o ∧ ∀ K' : Act → World → Prop, Shut (∀ a w, S w → wpOt P ops Q S r a w → K' a w) → if Region.wanted o (yielded ops a.tmps) = true then Oper.wp P o a w K' Q else K' (a.put o.dst undef) w) ∧
    (∃ o, ops[j]? = some o ∧ ∀ K' : Act → World → Prop, Shut (∀ a w, S w → wpOt P ops Q S s a w → K' a w) → if Region.wanted o (yielded ops a.tmps) = true then Oper.wp P o a w K' Q else K' (a.put o.dst undef) w)

theorem wpOt_any (hs : Region.noSelect ops = true) (hQ : ∀ (d : Option Tmp) v c a w, Q (.panic c) (Act.put a d v) w → Q (.panic c) a w) :
    ∀ (f : Nat) (t : Ot) (listed : Array Bool) (a : Act) (w : World), ordT ops f t listed = true → S w → wpOt P ops Q S t a w → wpAnyH P .any ops Q S f listed a w
  | 0, .nil, listed, a, w, hB, _, h => ⟨by simpa [ordT] using hB, h⟩
  | f + 1, .take i r, listed, a, w, hB, hS, ⟨o, ho, v, hy, hK⟩ => by
    simp only [ordT, Bool.and_eq_true] at hB
    exact wpAnyH_take ho hs hB.1.2 hB.1.1 (fun c a w => hQ o.dst v c a w) hy hS (wpOt_any hs hQ f r _ _ _ hB.2 hS hK)
  | f + 1, .alone i r, listed, a, w, hB, hS, ⟨o, ho, h⟩ => by
    simp only [ordT, Bool.and_eq_true, decide_eq_true_eq] at hB
    refine wpAnyH_all hB.1 (by simp) fun j hj => ?_
    have hj' : j = i := by simpa using hj
    subst hj'
    exact wpOp_step ho (fun K' hK => h K' (fun a' w' hS' hW => hK a' w' ⟨hS', wpOt_any hs hQ f r _ _ _ hB.2 hS' hW⟩))
  | f + 1, .two i r j s, listed, a, w, hB, hS, ⟨⟨o, ho, h⟩, ⟨o', ho', h'⟩⟩ => by
    simp only [ordT, Bool.and_eq_true, decide_eq_true_eq] at hB
    refine wpAnyH_all hB.1.1 (by simp) fun k hk => ?_
    simp only [List.mem_cons, List.not_mem_nil, or_false] at hk
    rcases hk with rfl | rfl
    · exact wpOp_step ho (fun K' hK => h K' (fun a' w' hS' hW => hK a' w' ⟨hS', wpOt_any hs hQ f r _ _ _ hB.1.2 hS' hW⟩))
    · exact wpOp_step ho' (fun K' hK => h' K' (fun a' w' hS' hW => hK a' w' ⟨hS', wpOt_any hs hQ f s _ _ _ hB.2 hS' hW⟩))
  | 0, .take _ _, _, _, _, hB, _, _ => by simp [ordT] at hB
  | 0, .alone _ _, _, _, _, hB, _, _ => by simp [ordT] at hB
  | 0, .two _ _ _ _, _, _, _, hB, _, _ => by simp [ordT] at hB
  | _ + 1, .nil, _, _, _, hB, _, _ => by simp [ordT] at hB

/-- THE LAW. -/
theorem wp_region_tree {id : Nat} {a : Act} {w : World} (S : World → Prop) (t : Ot) (hm : P.follows .mixedOrders = true) (hs : Region.noSelect ops = true)
    (hB : ordT ops ops.size t (Array.replicate ops.size false) = true) (hS : S w.drew) (h : wpOt P ops (NoPanic Q) S t a w.drew) : (Code.region id ops true).wp P Q a w :=
  wp_region_noPanic (wp_region_held (S := S) hm (wpOt_any hs (fun _ _ _ _ _ h => h.elim) _ t _ a w.drew hB hS h))

theorem ot_take {i : Nat} {r : Ot} {a : Act} {w : World} {o : Oper} {v : Value} (ho : ops[i]? = some o) (hw : Region.wanted o (yielded ops a.tmps) = true) (hv : ∀ w, S w → (execOp a.eval o).run P w = .ok (.value v) w)
    (h : wpOt P ops Q S r (a.put o.dst v) w) : wpOt P ops Q S (.take i r) a w := ⟨o, ho, v, .inl ⟨hw, hv⟩, h⟩
theorem ot_skip {i : Nat} {r : Ot} {a : Act} {w : World} {o : Oper} (ho : ops[i]? = some o) (hw : Region.wanted o (yielded ops a.tmps) = false)
    (h : wpOt P ops Q S r (a.put o.dst undef) w) : wpOt P ops Q S (.take i r) a w := ⟨o, ho, _, .inr ⟨hw, rfl⟩, h⟩
theorem ot_alone {i : Nat} {r : Ot} {a : Act} {w : World} {o : Oper} (ho : ops[i]? = some o)
    (h : ∀ K' : Act → World → Prop, Shut (∀ a w, S w → wpOt P ops Q S r a w → K' a w) → if Region.wanted o (yielded ops a.tmps) = true then Oper.wp P o a w K' Q else K' (a.put o.dst undef) w) : wpOt P ops Q S (.alone i r) a w := ⟨o, ho, h⟩
theorem ot_two {i j : Nat} {r s : Ot} {a : Act} {w : World} {o o' : Oper} (ho : ops[i]? = some o) (ho' : ops[j]? = some o')
    (h : ∀ K' : Act → World → Prop, Shut (∀ a w, S w → wpOt P ops Q S r a w → K' a w) → if Region.wanted o (yielded ops a.tmps) = true then Oper.wp P o a w K' Q else K' (a.put o.dst undef) w)
    (h' : ∀ K' : Act → World → Prop, Shut (∀ a w, S w → wpOt P ops Q S s a w → K' a w) → if Region.wanted o' (yielded ops a.tmps) = true then Oper.wp P o' a w K' Q else K' (a.put o'.dst undef) w) : wpOt P ops Q S (.two i r j s) a w := ⟨⟨o, ho, h⟩, ⟨o', ho', h'⟩⟩
theorem ot_nil {a : Act} {w : World} (h : Q .normal a w) : wpOt P ops (NoPanic Q) S .nil a w := NoPanic.normal h
end
end Go.Proofs.Ytmiokacihcpepaa.Ord
