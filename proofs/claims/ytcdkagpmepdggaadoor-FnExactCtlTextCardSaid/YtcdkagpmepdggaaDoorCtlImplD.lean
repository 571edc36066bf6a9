/-
  The project's CtlText. Conditions: ints of 64 bits, and the table of powers of ten as the program starts with it.
-/
import Derived.Test.YtcdkagpmepdggaaDoorCtlText
import Derived.Test.YtcdkagpmepdggaaDoorLaid
namespace Go.Proofs.YtcdkagpmepdggaaDoor.Ctls
set_option maxRecDepth 100000
open Go.ChangeShapes Go.WideShapes Go.ChangeAt Go.RowKit
open Go.Proofs.YtcdkagpmepdggaaDoor.Base Go.Proofs.YtcdkagpmepdggaaDoor.Mem Go.Proofs.YtcdkagpmepdggaaDoor.Data
set_option linter.unusedVariables false
set_option linter.unusedSimpArgs false

theorem app_assoc (x y z : ByteArray) : x ++ y ++ z = x ++ (y ++ z) := by ext1; simp

set_option maxRecDepth 100000 in
set_option maxHeartbeats 4000000 in
theorem impl_ctlT_false (a b : Int) (w : World) (ws : wfC (a, b, false)) (hF : Laid.Pow w) :
    Calls Tryd.prog 17 #[.agg #[.int .i64 a, .int .i64 b, .bool false]] w fun e w' => e = .returned (.string (ctlT (a, b, false))) ∧ Below w.heap.size w w' := by
  have h1 := fun (V : World) (hV : Laid.Pow V) => Laid.decimal_any a (range ws.1).1 (range ws.1).2 V hV
  have h2 := fun (V : World) (hV : Laid.Pow V) => Laid.decimal_any b (range ws.2.1).1 (range ws.2.1).2 V hV
  have hv : ctlT (a, b, false) = itoaB a ++ ⟨#[32]⟩ ++ itoaB b ++ ⟨#[32]⟩ ++ ⟨#[115, 104, 117, 116]⟩ := by
    rw [app_assoc (itoaB a ++ ⟨#[32]⟩ ++ itoaB b)]; rfl
  change ∀ (V : World) (hV : Laid.Pow V), Calls Tryd.prog 28 #[.int .i64 a] V (fun e w' => e = .returned (.string (itoaB a)) ∧ Below V.heap.size V w') at h1
  change ∀ (V : World) (hV : Laid.Pow V), Calls Tryd.prog 28 #[.int .i64 b] V (fun e w' => e = .returned (.string (itoaB b)) ∧ Below V.heap.size V w') at h2
  have q1 := itoaB_size ws.1
  have q2 := itoaB_size ws.2.1
  dsimp only at q1 q2
  generalize itoaB a = x at h1 hv q1
  generalize itoaB b = y at h2 hv q2
  have f1 : ¬ 9223372036854775807 < x.size + 1 := by omega
  have f2 : ¬ 9223372036854775807 < x.size + 1 + y.size := by omega
  have f3 : ¬ 9223372036854775807 < x.size + 1 + y.size + 1 := by omega
  have f4 : ¬ 9223372036854775807 < x.size + 1 + y.size + 1 + 4 := by omega
  have H1 := Lib.hid h1
  have H2 := Lib.hid h2
  have HV := Lib.hid hv
  clear h1 h2 hv ws
  go_enter Tryd.func17, Tryd.ntmps17
  have hB1 : Below w.heap.size w (w.alloc (.cells #[.int .i64 a, .int .i64 b, .bool false] 25)) := (Below.refl _ _).alloc (Nat.le_refl _) _
  have hS1 : w.heap.size < (w.alloc (.cells #[.int .i64 a, .int .i64 b, .bool false] 25)).heap.size := by simp
  have hOb_1 := Lib.hid (Var.new w [.int .i64 a, .int .i64 b, .bool false] 25)
  go_wp2_with fail
  refine Ord.wp_region_ord (fun w' => w'.cell? ⟨w.heap.size, 0, none⟩ = some (.int .i64 a) ∧ w'.cell? ⟨w.heap.size, 1, none⟩ = some (.int .i64 b) ∧ w'.cell? ⟨w.heap.size, 2, none⟩ = some (.bool false)) [(0, true), (1, true), (4, true), (5, true), (9, true), (2, false), (3, true), (6, false), (7, true), (8, true), (10, true), (11, true)] (by kernel_rfl) (by kernel_rfl) rfl (by kernel_rfl) (⟨hOb_1.out.cell 0 (v := .int .i64 a) rfl, hOb_1.out.cell 1 (v := .int .i64 b) rfl, hOb_1.out.cell 2 (v := .bool false) rfl⟩) ?_
  simp only [Ord.ordOps, List.getElem?_toArray, List.getElem?_cons_zero, List.getElem?_cons_succ]
  repeat (first
    | (refine Ord.ord_plain (v := ?_) rfl (fun w' hS => ?_) ?_; rotate_left; (focus ((try dsimp only at hS); go_simp; first | done | with_reducible rfl)); simp only [Act.put, List.setIfInBounds_toArray, List.set_cons_zero, List.set_cons_succ])
    | (refine Ord.ord_skip (by rfl) ?_; simp only [Act.put, List.setIfInBounds_toArray, List.set_cons_zero, List.set_cons_succ])
    | (refine Ord.ord_take (v := ?_) (by rfl) (fun w' hS => ?_) ?_; rotate_left; (focus ((try dsimp only at hS); go_simp; first | done | with_reducible rfl)); simp only [Act.put, List.setIfInBounds_toArray, List.set_cons_zero, List.set_cons_succ]))
  have hb2 : Below (w.alloc (.cells #[.int .i64 a, .int .i64 b, .bool false] 25)).heap.size (w.alloc (.cells #[.int .i64 a, .int .i64 b, .bool false] 25)) (w.alloc (.cells #[.int .i64 a, .int .i64 b, .bool false] 25)).drew := (Below.refl _ _).drew
  have hB2 := btr hB1 hb2
  have hS2 := hb2.size
  have hOb_2 := Lib.hid (hOb_1.out.below hb2 (by omega))
  clear hOb_1 hb2
  refine Ord.ord_call (fun K hK => ?_)
  go_simp
  refine (H1.out _ (Laid.pow_below hF hB2)).mono ?_
  rintro e w3 ⟨rfl, hb3⟩
  have hB3 := btr hB2 hb3
  have hS3 := hb3.size
  have hOb_3 := Lib.hid (hOb_2.out.below hb3 (by omega))
  clear hOb_2 hb3
  refine hK.out _ _ (⟨hOb_3.out.cell 0 (v := .int .i64 a) rfl, hOb_3.out.cell 1 (v := .int .i64 b) rfl, hOb_3.out.cell 2 (v := .bool false) rfl⟩) ?_
  clear hK K
  repeat (first
    | (refine Ord.ord_plain (v := ?_) rfl (fun w' hS => ?_) ?_; rotate_left; (focus ((try dsimp only at hS); go_simp; first | done | with_reducible rfl)); simp only [Act.put, List.setIfInBounds_toArray, List.set_cons_zero, List.set_cons_succ])
    | (refine Ord.ord_skip (by rfl) ?_; simp only [Act.put, List.setIfInBounds_toArray, List.set_cons_zero, List.set_cons_succ])
    | (refine Ord.ord_take (v := ?_) (by rfl) (fun w' hS => ?_) ?_; rotate_left; (focus ((try dsimp only at hS); go_simp; first | done | with_reducible rfl)); simp only [Act.put, List.setIfInBounds_toArray, List.set_cons_zero, List.set_cons_succ]))
  refine Ord.ord_call (fun K hK => ?_)
  go_simp
  refine (H2.out _ (Laid.pow_below hF hB3)).mono ?_
  rintro e w4 ⟨rfl, hb4⟩
  have hB4 := btr hB3 hb4
  have hS4 := hb4.size
  have hOb_4 := Lib.hid (hOb_3.out.below hb4 (by omega))
  clear hOb_3 hb4
  refine hK.out _ _ (⟨hOb_4.out.cell 0 (v := .int .i64 a) rfl, hOb_4.out.cell 1 (v := .int .i64 b) rfl, hOb_4.out.cell 2 (v := .bool false) rfl⟩) ?_
  clear hK K
  repeat (first
    | (refine Ord.ord_plain (v := ?_) rfl (fun w' hS => ?_) ?_; rotate_left; (focus ((try dsimp only at hS); go_simp; first | done | with_reducible rfl)); simp only [Act.put, List.setIfInBounds_toArray, List.set_cons_zero, List.set_cons_succ])
    | (refine Ord.ord_skip (by rfl) ?_; simp only [Act.put, List.setIfInBounds_toArray, List.set_cons_zero, List.set_cons_succ])
    | (refine Ord.ord_take (v := ?_) (by rfl) (fun w' hS => ?_) ?_; rotate_left; (focus ((try dsimp only at hS); go_simp; first | done | with_reducible rfl)); simp only [Act.put, List.setIfInBounds_toArray, List.set_cons_zero, List.set_cons_succ]))
  refine Ord.ord_nil ?_
  have HB := Lib.hid hB4
  clear hB1 hB2 hB3 hB4
  go_wp2_with fail
  go_ret
  exact ⟨by rw [HV.out]; rfl, HB.out⟩

set_option maxRecDepth 100000 in
set_option maxHeartbeats 4000000 in
theorem impl_ctlT_true (a b : Int) (w : World) (ws : wfC (a, b, true)) (hF : Laid.Pow w) :
    Calls Tryd.prog 17 #[.agg #[.int .i64 a, .int .i64 b, .bool true]] w fun e w' => e = .returned (.string (ctlT (a, b, true))) ∧ Below w.heap.size w w' := by
  have h1 := fun (V : World) (hV : Laid.Pow V) => Laid.decimal_any a (range ws.1).1 (range ws.1).2 V hV
  have h2 := fun (V : World) (hV : Laid.Pow V) => Laid.decimal_any b (range ws.2.1).1 (range ws.2.1).2 V hV
  have hv : ctlT (a, b, true) = itoaB a ++ ⟨#[32]⟩ ++ itoaB b ++ ⟨#[32]⟩ ++ ⟨#[111, 112, 101, 110]⟩ := by
    rw [app_assoc (itoaB a ++ ⟨#[32]⟩ ++ itoaB b)]; rfl
  change ∀ (V : World) (hV : Laid.Pow V), Calls Tryd.prog 28 #[.int .i64 a] V (fun e w' => e = .returned (.string (itoaB a)) ∧ Below V.heap.size V w') at h1
  change ∀ (V : World) (hV : Laid.Pow V), Calls Tryd.prog 28 #[.int .i64 b] V (fun e w' => e = .returned (.string (itoaB b)) ∧ Below V.heap.size V w') at h2
  have q1 := itoaB_size ws.1
  have q2 := itoaB_size ws.2.1
  dsimp only at q1 q2
  generalize itoaB a = x at h1 hv q1
  generalize itoaB b = y at h2 hv q2
  have f1 : ¬ 9223372036854775807 < x.size + 1 := by omega
  have f2 : ¬ 9223372036854775807 < x.size + 1 + y.size := by omega
  have f3 : ¬ 9223372036854775807 < x.size + 1 + y.size + 1 := by omega
  have f4 : ¬ 9223372036854775807 < x.size + 1 + y.size + 1 + 4 := by omega
  have H1 := Lib.hid h1
  have H2 := Lib.hid h2
  have HV := Lib.hid hv
  clear h1 h2 hv ws
  go_enter Tryd.func17, Tryd.ntmps17
  have hB1 : Below w.heap.size w (w.alloc (.cells #[.int .i64 a, .int .i64 b, .bool true] 25)) := (Below.refl _ _).alloc (Nat.le_refl _) _
  have hS1 : w.heap.size < (w.alloc (.cells #[.int .i64 a, .int .i64 b, .bool true] 25)).heap.size := by simp
  have hOb_1 := Lib.hid (Var.new w [.int .i64 a, .int .i64 b, .bool true] 25)
  go_wp2_with fail
  refine Ord.wp_region_ord (fun w' => w'.cell? ⟨w.heap.size, 0, none⟩ = some (.int .i64 a) ∧ w'.cell? ⟨w.heap.size, 1, none⟩ = some (.int .i64 b) ∧ w'.cell? ⟨w.heap.size, 2, none⟩ = some (.bool true)) [(0, true), (1, true), (4, true), (5, true), (9, true), (2, false), (3, true), (6, false), (7, true), (8, true), (10, true), (11, true)] (by kernel_rfl) (by kernel_rfl) rfl (by kernel_rfl) (⟨hOb_1.out.cell 0 (v := .int .i64 a) rfl, hOb_1.out.cell 1 (v := .int .i64 b) rfl, hOb_1.out.cell 2 (v := .bool true) rfl⟩) ?_
  simp only [Ord.ordOps, List.getElem?_toArray, List.getElem?_cons_zero, List.getElem?_cons_succ]
  repeat (first
    | (refine Ord.ord_plain (v := ?_) rfl (fun w' hS => ?_) ?_; rotate_left; (focus ((try dsimp only at hS); go_simp; first | done | with_reducible rfl)); simp only [Act.put, List.setIfInBounds_toArray, List.set_cons_zero, List.set_cons_succ])
    | (refine Ord.ord_skip (by rfl) ?_; simp only [Act.put, List.setIfInBounds_toArray, List.set_cons_zero, List.set_cons_succ])
    | (refine Ord.ord_take (v := ?_) (by rfl) (fun w' hS => ?_) ?_; rotate_left; (focus ((try dsimp only at hS); go_simp; first | done | with_reducible rfl)); simp only [Act.put, List.setIfInBounds_toArray, List.set_cons_zero, List.set_cons_succ]))
  have hb2 : Below (w.alloc (.cells #[.int .i64 a, .int .i64 b, .bool true] 25)).heap.size (w.alloc (.cells #[.int .i64 a, .int .i64 b, .bool true] 25)) (w.alloc (.cells #[.int .i64 a, .int .i64 b, .bool true] 25)).drew := (Below.refl _ _).drew
  have hB2 := btr hB1 hb2
  have hS2 := hb2.size
  have hOb_2 := Lib.hid (hOb_1.out.below hb2 (by omega))
  clear hOb_1 hb2
  refine Ord.ord_call (fun K hK => ?_)
  go_simp
  refine (H1.out _ (Laid.pow_below hF hB2)).mono ?_
  rintro e w3 ⟨rfl, hb3⟩
  have hB3 := btr hB2 hb3
  have hS3 := hb3.size
  have hOb_3 := Lib.hid (hOb_2.out.below hb3 (by omega))
  clear hOb_2 hb3
  refine hK.out _ _ (⟨hOb_3.out.cell 0 (v := .int .i64 a) rfl, hOb_3.out.cell 1 (v := .int .i64 b) rfl, hOb_3.out.cell 2 (v := .bool true) rfl⟩) ?_
  clear hK K
  repeat (first
    | (refine Ord.ord_plain (v := ?_) rfl (fun w' hS => ?_) ?_; rotate_left; (focus ((try dsimp only at hS); go_simp; first | done | with_reducible rfl)); simp only [Act.put, List.setIfInBounds_toArray, List.set_cons_zero, List.set_cons_succ])
    | (refine Ord.ord_skip (by rfl) ?_; simp only [Act.put, List.setIfInBounds_toArray, List.set_cons_zero, List.set_cons_succ])
    | (refine Ord.ord_take (v := ?_) (by rfl) (fun w' hS => ?_) ?_; rotate_left; (focus ((try dsimp only at hS); go_simp; first | done | with_reducible rfl)); simp only [Act.put, List.setIfInBounds_toArray, List.set_cons_zero, List.set_cons_succ]))
  refine Ord.ord_call (fun K hK => ?_)
  go_simp
  refine (H2.out _ (Laid.pow_below hF hB3)).mono ?_
  rintro e w4 ⟨rfl, hb4⟩
  have hB4 := btr hB3 hb4
  have hS4 := hb4.size
  have hOb_4 := Lib.hid (hOb_3.out.below hb4 (by omega))
  clear hOb_3 hb4
  refine hK.out _ _ (⟨hOb_4.out.cell 0 (v := .int .i64 a) rfl, hOb_4.out.cell 1 (v := .int .i64 b) rfl, hOb_4.out.cell 2 (v := .bool true) rfl⟩) ?_
  clear hK K
  repeat (first
    | (refine Ord.ord_plain (v := ?_) rfl (fun w' hS => ?_) ?_; rotate_left; (focus ((try dsimp only at hS); go_simp; first | done | with_reducible rfl)); simp only [Act.put, List.setIfInBounds_toArray, List.set_cons_zero, List.set_cons_succ])
    | (refine Ord.ord_skip (by rfl) ?_; simp only [Act.put, List.setIfInBounds_toArray, List.set_cons_zero, List.set_cons_succ])
    | (refine Ord.ord_take (v := ?_) (by rfl) (fun w' hS => ?_) ?_; rotate_left; (focus ((try dsimp only at hS); go_simp; first | done | with_reducible rfl)); simp only [Act.put, List.setIfInBounds_toArray, List.set_cons_zero, List.set_cons_succ]))
  refine Ord.ord_nil ?_
  have HB := Lib.hid hB4
  clear hB1 hB2 hB3 hB4
  go_wp2_with fail
  go_ret
  exact ⟨by rw [HV.out]; rfl, HB.out⟩

theorem impl_ctlT (a b : Int) (o : Bool) (w : World) (ws : wfC (a, b, o)) (hF : Laid.Pow w) :
    Calls Tryd.prog 17 #[.agg #[.int .i64 a, .int .i64 b, .bool o]] w fun e w' => e = .returned (.string (ctlT (a, b, o))) ∧ Below w.heap.size w w' := by
  cases o
  · exact impl_ctlT_false a b w ws hF
  · exact impl_ctlT_true a b w ws hF
end Go.Proofs.YtcdkagpmepdggaaDoor.Ctls
