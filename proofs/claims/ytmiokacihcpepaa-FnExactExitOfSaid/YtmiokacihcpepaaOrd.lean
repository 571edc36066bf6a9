/-
  A region that draws its order, walked in an order of the prover's choice: operations that yield in every world that meets a condition S (guarded ones that are not wanted among them) and, each alone, operations that may change the world but keep S; no statement about the program stands here. No condition.
-/
import Derived.Test.YtmiokacihcpepaaBase
import Derived.Deep.RegionHeld3
namespace Go.Proofs.Ytmiokacihcpepaa.Ord
set_option maxRecDepth 100000
open Go.RowKit

section
variable {P : Program} {ops : Array Oper} {Q : Exit → Act → World → Prop} {S : World → Prop}

/-- The order's own test: 'true' marks what may be taken first, 'false' what stands alone. -/
def ordB (ops : Array Oper) : List (Nat × Bool) → Array Bool → Bool
  | [], listed => (Region.ready .any ops listed).isEmpty
  | (i, true) :: r, listed => (Region.ready .any ops listed).contains i && Region.free .any ops listed i && ordB ops r (listed.setIfInBounds i true)
  | (i, false) :: r, listed => decide (Region.ready .any ops listed = [i]) && ordB ops r (listed.setIfInBounds i true)

/-- The operations in that order. -/
def ordOps (ops : Array Oper) : List (Nat × Bool) → List (Oper × Bool)
  | [] => []
  | (i, b) :: r => match ops[i]? with
    | some o => (o, b) :: ordOps ops r
    | none => []
theorem ordOps_cons {ops : Array Oper} {i : Nat} {b : Bool} {r : List (Nat × Bool)} {o : Oper} (h : ops[i]? = some o) : ordOps ops ((i, b) :: r) = (o, b) :: ordOps ops r := by simp [ordOps, h]

def wpOrd (P : Program) (ops : Array Oper) (Q : Exit → Act → World → Prop) (S : World → Prop) : List (Oper × Bool) → Act → World → Prop
  | [], a, w => Q .normal a w
  | (o, true) :: r, a, w => ∃ v, YieldsIf P ops S o v a ∧ wpOrd P ops Q S r (a.put o.dst v) w
  | (o, false) :: r, a, w => ∀ K' : Act → World → Prop, Shut (∀ a w, S w → wpOrd P ops Q S r a w → K' a w) → if Region.wanted o (yielded ops a.tmps) = true then Oper.wp P o a w K' Q else K' (a.put o.dst undef) w

theorem wpOrd_any (hs : Region.noSelect ops = true) (hQ : ∀ (d : Option Tmp) v c a w, Q (.panic c) (Act.put a d v) w → Q (.panic c) a w) :
    ∀ (r : List (Nat × Bool)) (listed : Array Bool) (a : Act) (w : World), ordB ops r listed = true → S w → wpOrd P ops Q S (ordOps ops r) a w → wpAnyH P .any ops Q S r.length listed a w
  | [], listed, a, w, hB, _, h => by
    have hr : Region.ready .any ops listed = [] := by simpa [ordB] using hB
    exact ⟨hr, h⟩
  | (i, true) :: r, listed, a, w, hB, hS, h => by
    simp only [ordB, Bool.and_eq_true] at hB
    obtain ⟨_, o, ho, _⟩ := mem_ready.1 (List.contains_iff_mem.1 hB.1.1)
    rw [ordOps_cons ho] at h
    obtain ⟨v, hy, hK⟩ := h
    exact wpAnyH_take ho hs hB.1.2 hB.1.1 (fun c a w => hQ o.dst v c a w) hy hS (wpOrd_any hs hQ r _ _ _ hB.2 hS hK)
  | (i, false) :: r, listed, a, w, hB, hS, h => by
    simp only [ordB, Bool.and_eq_true, decide_eq_true_eq] at hB
    obtain ⟨_, o, ho, _⟩ := mem_ready.1 (show i ∈ Region.ready .any ops listed by rw [hB.1]; simp)
    rw [ordOps_cons ho] at h
    refine wpAnyH_all hB.1 (by simp) fun j hj => ?_
    have hj' : j = i := by simpa using hj
    subst hj'
    exact wpOp_step ho (fun K' hK => h K' (fun a' w' hS' hW => hK a' w' ⟨hS', wpOrd_any hs hQ r _ _ _ hB.2 hS' hW⟩))

/-- THE LAW. -/
theorem wp_region_ord {id : Nat} {a : Act} {w : World} (S : World → Prop) (r : List (Nat × Bool)) (hm : P.follows .mixedOrders = true) (hs : Region.noSelect ops = true) (hr : r.length = ops.size)
    (hB : ordB ops r (Array.replicate ops.size false) = true) (hS : S w.drew) (h : wpOrd P ops (NoPanic Q) S (ordOps ops r) a w.drew) : (Code.region id ops true).wp P Q a w := by
  refine wp_region_noPanic (wp_region_held (S := S) hm ?_)
  have := wpOrd_any (P := P) (S := S) hs (fun _ _ _ _ _ h => h.elim) r _ a w.drew hB hS h
  rw [hr] at this
  exact this

theorem ord_plain {r : List (Oper × Bool)} {a : Act} {w : World} {o : Oper} {v : Value} (hg : o.guard = none) (hv : ∀ w, S w → (execOp a.eval o).run P w = .ok (.value v) w)
    (h : wpOrd P ops Q S r (a.put o.dst v) w) : wpOrd P ops Q S ((o, true) :: r) a w := ⟨v, .inl ⟨by simp [Region.wanted, hg], hv⟩, h⟩
theorem ord_take {r : List (Oper × Bool)} {a : Act} {w : World} {o : Oper} {v : Value} (hw : Region.wanted o (yielded ops a.tmps) = true) (hv : ∀ w, S w → (execOp a.eval o).run P w = .ok (.value v) w)
    (h : wpOrd P ops Q S r (a.put o.dst v) w) : wpOrd P ops Q S ((o, true) :: r) a w := ⟨v, .inl ⟨hw, hv⟩, h⟩
theorem ord_skip {r : List (Oper × Bool)} {a : Act} {w : World} {o : Oper} (hw : Region.wanted o (yielded ops a.tmps) = false)
    (h : wpOrd P ops Q S r (a.put o.dst undef) w) : wpOrd P ops Q S ((o, true) :: r) a w := ⟨_, .inr ⟨hw, rfl⟩, h⟩
theorem ord_call {r : List (Oper × Bool)} {a : Act} {w : World} {o : Oper}
    (h : ∀ K' : Act → World → Prop, Shut (∀ a w, S w → wpOrd P ops Q S r a w → K' a w) → if Region.wanted o (yielded ops a.tmps) = true then Oper.wp P o a w K' Q else K' (a.put o.dst undef) w) : wpOrd P ops Q S ((o, false) :: r) a w := h
theorem ord_not {r : List (Oper × Bool)} {a : Act} {w : World} {o : Oper} (hw : Region.wanted o (yielded ops a.tmps) = false)
    (h : ∀ K' : Act → World → Prop, Shut (∀ a w, S w → wpOrd P ops Q S r a w → K' a w) → K' (a.put o.dst undef) w) : wpOrd P ops Q S ((o, false) :: r) a w :=
  fun K' hK => by rw [if_neg (by simp [hw])]; exact h K' hK
theorem ord_nil {a : Act} {w : World} (h : Q .normal a w) : wpOrd P ops (NoPanic Q) S [] a w := NoPanic.normal h
end
end Go.Proofs.Ytmiokacihcpepaa.Ord
