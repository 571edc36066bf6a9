/-
  Control blocks as text: what CtlText computes, and the given model's function; no statement about the project's code stands here. No condition beyond an int's range.
-/
import Derived.Test.YtcdkagpmepdggaaDoorCtlH
import Derived.Test.YtcdkagpmepdggaaDoorVar
import Derived.Test.YtcdkagpmepdggaaDoorOrdT
import Derived.Test.YtcdkagpmepdggaaDoorDecSpec
import Derived.Lib.ItoaLen
namespace Go.Proofs.YtcdkagpmepdggaaDoor.Ctls
set_option maxRecDepth 100000
open Go.ChangeShapes Go.WideShapes Go.ChangeAt Go.RowKit
open Go.Proofs.YtcdkagpmepdggaaDoor.Base Go.Proofs.YtcdkagpmepdggaaDoor.Mem Go.Proofs.YtcdkagpmepdggaaDoor.Data
set_option linter.unusedVariables false
set_option linter.unusedSimpArgs false

def itoaB (n : Int) : ByteArray := ⟨(Lib.itoa n).toArray⟩
def ctlT (s : CT) : ByteArray := itoaB s.1 ++ ⟨#[32]⟩ ++ itoaB s.2.1 ++ (if s.2.2 = true then ⟨#[32, 111, 112, 101, 110]⟩ else ⟨#[32, 115, 104, 117, 116]⟩)
theorem range {x : Int} (h : (Lit.int .i64 x).wf = true) : -9223372036854775808 ≤ x ∧ x ≤ 9223372036854775807 := by
  have hm : IntKind.i64.min = -9223372036854775808 := by decide
  rw [← hm]; simpa [Lit.wf] using h
theorem itoaB_size {x : Int} (h : (Lit.int .i64 x).wf = true) : (itoaB x).size ≤ 21 := by
  have := Lib.itoa_length_le x (range h).1 (range h).2
  simpa [itoaB, ByteArray.size] using this

set_option maxRecDepth 100000 in
set_option maxHeartbeats 4000000 in
theorem spec_ctlT (a b : Int) (o : Bool) (w : World) (ws : wfC (a, b, o)) :
    Calls Tryd.prog 18 #[.agg #[.int .i64 a, .int .i64 b, .bool o]] w fun e w' => e = .returned (.string (ctlT (a, b, o))) ∧ Below w.heap.size w w' := by
  have h1 := fun V : World => DecW.decimal_any a (range ws.1).1 (range ws.1).2 V
  have h2 := fun V : World => DecW.decimal_any b (range ws.2.1).1 (range ws.2.1).2 V
  have hv : ctlT (a, b, o) = itoaB a ++ ⟨#[32]⟩ ++ itoaB b ++ (if o = true then ⟨#[32, 111, 112, 101, 110]⟩ else ⟨#[32, 115, 104, 117, 116]⟩) := rfl
  change ∀ V : World, Calls Tryd.prog 29 #[.int .i64 a] V (fun e w' => e = .returned (.string (itoaB a)) ∧ Below V.heap.size V w') at h1
  change ∀ V : World, Calls Tryd.prog 29 #[.int .i64 b] V (fun e w' => e = .returned (.string (itoaB b)) ∧ Below V.heap.size V w') at h2
  have q1 := itoaB_size ws.1
  have q2 := itoaB_size ws.2.1
  dsimp only at q1 q2
  generalize itoaB a = x at h1 hv q1
  generalize itoaB b = y at h2 hv q2
  have f1 : ¬ 9223372036854775807 < x.size + 1 := by omega
  have f2 : ¬ 9223372036854775807 < x.size + 1 + y.size := by omega
  have f3 : ¬ 9223372036854775807 < x.size + 1 + y.size + 5 := by omega
  have H1 := Lib.hid h1
  have H2 := Lib.hid h2
  have HV := Lib.hid hv
  clear h1 h2 hv ws
  go_enter Tryd.func18, Tryd.ntmps18
  have hB1 : Below w.heap.size w (w.alloc (.cells #[.int .i64 a, .int .i64 b, .bool o] 25)) := (Below.refl _ _).alloc (Nat.le_refl _) _
  have hS1 : w.heap.size < (w.alloc (.cells #[.int .i64 a, .int .i64 b, .bool o] 25)).heap.size := by simp
  have hOb_1 := Lib.hid (Var.new w [.int .i64 a, .int .i64 b, .bool o] 25)
  go_wp2_with fail
  refine Ord.wp_region_ord (fun w' => w'.cell? ⟨w.heap.size, 0, none⟩ = some (.int .i64 a) ∧ w'.cell? ⟨w.heap.size, 1, none⟩ = some (.int .i64 b) ∧ w'.cell? ⟨w.heap.size, 2, none⟩ = some (.bool o)) [(0, true), (1, true), (4, true), (5, true), (2, false), (3, true), (6, false), (7, true), (8, true)] (by kernel_rfl) (by kernel_rfl) rfl (by kernel_rfl) (⟨hOb_1.out.cell 0 (v := .int .i64 a) rfl, hOb_1.out.cell 1 (v := .int .i64 b) rfl, hOb_1.out.cell 2 (v := .bool o) rfl⟩) ?_
  simp only [Ord.ordOps, List.getElem?_toArray, List.getElem?_cons_zero, List.getElem?_cons_succ]
  repeat (first
    | (refine Ord.ord_plain (v := ?_) rfl (fun w' hS => ?_) ?_; rotate_left; (focus ((try dsimp only at hS); go_simp; first | done | with_reducible rfl)); simp only [Act.put, List.setIfInBounds_toArray, List.set_cons_zero, List.set_cons_succ])
    | (refine Ord.ord_skip (by rfl) ?_; simp only [Act.put, List.setIfInBounds_toArray, List.set_cons_zero, List.set_cons_succ])
    | (refine Ord.ord_take (v := ?_) (by rfl) (fun w' hS => ?_) ?_; rotate_left; (focus ((try dsimp only at hS); go_simp; first | done | with_reducible rfl)); simp only [Act.put, List.setIfInBounds_toArray, List.set_cons_zero, List.set_cons_succ]))
  have hb2 : Below (w.alloc (.cells #[.int .i64 a, .int .i64 b, .bool o] 25)).heap.size (w.alloc (.cells #[.int .i64 a, .int .i64 b, .bool o] 25)) (w.alloc (.cells #[.int .i64 a, .int .i64 b, .bool o] 25)).drew := (Below.refl _ _).drew
  have hB2 := btr hB1 hb2
  have hS2 := hb2.size
  have hOb_2 := Lib.hid (hOb_1.out.below hb2 (by omega))
  clear hOb_1 hb2
  refine Ord.ord_call (fun K hK => ?_)
  go_simp
  refine (H1.out _).mono ?_
  rintro e w3 ⟨rfl, hb3⟩
  have hB3 := btr hB2 hb3
  have hS3 := hb3.size
  have hOb_3 := Lib.hid (hOb_2.out.below hb3 (by omega))
  clear hOb_2 hb3
  refine hK.out _ _ (⟨hOb_3.out.cell 0 (v := .int .i64 a) rfl, hOb_3.out.cell 1 (v := .int .i64 b) rfl, hOb_3.out.cell 2 (v := .bool o) rfl⟩) ?_
  clear hK K
  repeat (first
    | (refine Ord.ord_plain (v := ?_) rfl (fun w' hS => ?_) ?_; rotate_left; (focus ((try dsimp only at hS); go_simp; first | done | with_reducible rfl)); simp only [Act.put, List.setIfInBounds_toArray, List.set_cons_zero, List.set_cons_succ])
    | (refine Ord.ord_skip (by rfl) ?_; simp only [Act.put, List.setIfInBounds_toArray, List.set_cons_zero, List.set_cons_succ])
    | (refine Ord.ord_take (v := ?_) (by rfl) (fun w' hS => ?_) ?_; rotate_left; (focus ((try dsimp only at hS); go_simp; first | done | with_reducible rfl)); simp only [Act.put, List.setIfInBounds_toArray, List.set_cons_zero, List.set_cons_succ]))
  refine Ord.ord_call (fun K hK => ?_)
  go_simp
  refine (H2.out _).mono ?_
  rintro e w4 ⟨rfl, hb4⟩
  have hB4 := btr hB3 hb4
  have hS4 := hb4.size
  have hOb_4 := Lib.hid (hOb_3.out.below hb4 (by omega))
  clear hOb_3 hb4
  refine hK.out _ _ (⟨hOb_4.out.cell 0 (v := .int .i64 a) rfl, hOb_4.out.cell 1 (v := .int .i64 b) rfl, hOb_4.out.cell 2 (v := .bool o) rfl⟩) ?_
  clear hK K
  repeat (first
    | (refine Ord.ord_plain (v := ?_) rfl (fun w' hS => ?_) ?_; rotate_left; (focus ((try dsimp only at hS); go_simp; first | done | with_reducible rfl)); simp only [Act.put, List.setIfInBounds_toArray, List.set_cons_zero, List.set_cons_succ])
    | (refine Ord.ord_skip (by rfl) ?_; simp only [Act.put, List.setIfInBounds_toArray, List.set_cons_zero, List.set_cons_succ])
    | (refine Ord.ord_take (v := ?_) (by rfl) (fun w' hS => ?_) ?_; rotate_left; (focus ((try dsimp only at hS); go_simp; first | done | with_reducible rfl)); simp only [Act.put, List.setIfInBounds_toArray, List.set_cons_zero, List.set_cons_succ]))
  refine Ord.ord_nil ?_
  have zb0 := hOb_4.out.cell 0 (v := .int .i64 a) rfl
  have zb1 := hOb_4.out.cell 1 (v := .int .i64 b) rfl
  have zb2 := hOb_4.out.cell 2 (v := .bool o) rfl
  have HB := Lib.hid hB4
  cases o
  · go_wp2_with fail
    go_ret
    exact ⟨by rw [HV.out]; rfl, HB.out⟩
  · go_wp2_with fail
    go_ret
    exact ⟨by rw [HV.out]; rfl, HB.out⟩
end Go.Proofs.YtcdkagpmepdggaaDoor.Ctls
