/-
  At every argument the law FnExactGrantsMore returns true: the project's GrantsMore answers as the given model's GrantsMore, changes no argument, and what it returns is its own. No condition.
-/
import Derived.Test.YtgpckcdkehmpiaaOwnImpl
import Derived.Test.YtgpckcdkehmpiaaSlotArgs
import Derived.Test.YtgpckcdkehmpiaaOrdT
namespace Go.Proofs.Ytgpckcdkehmpiaa.fnExactGrantsMore
set_option maxRecDepth 100000
open Go.ChangeShapes Go.WideShapes Go.ChangeAt Go.RowKit
open Go.Proofs.Ytgpckcdkehmpiaa.Base Go.Proofs.Ytgpckcdkehmpiaa.Mem Go.Proofs.Ytgpckcdkehmpiaa.Slots Go.Proofs.Ytgpckcdkehmpiaa.Ints Go.Proofs.Ytgpckcdkehmpiaa.Ctls Go.Proofs.Ytgpckcdkehmpiaa.Owns
set_option linter.unusedVariables false
set_option linter.unusedSimpArgs false

set_option maxRecDepth 100000 in
set_option maxHeartbeats 8000000 in
theorem walk (a00 : Int) (a01 : Int) (a02 : Bool) (a10 : Int) (a11 : Int) (a12 : Bool) (w0 : wfC (a00, a01, a02)) (w1 : wfC (a10, a11, a12)) (w : World) :
    Calls Try.prog 9 #[.agg #[.int .i64 a00, .int .i64 a01, .bool a02], .agg #[.int .i64 a10, .int .i64 a11, .bool a12]] w fun e w' => e = .returned (.bool true) ∧ Below w.heap.size w w' := by
  have HW0 := Lib.hid w0
  clear w0
  have HW1 := Lib.hid w1
  clear w1
  have hK1 := fun V : World => spec_grants a00 a01 a02 a10 a11 a12 V
  have hK2 := fun V : World => impl_grants a00 a01 a02 a10 a11 a12 V HW0.out HW1.out
  generalize grants (a00, a01, a02) (a10, a11, a12) = x at hK1 hK2
  have HK1 := Lib.hid hK1
  have HK2 := Lib.hid hK2
  clear hK1 hK2
  go_enter Try.func9, Try.ntmps9
  have hB1 : Below w.heap.size w (w.alloc (.cells #[.int .i64 a00, .int .i64 a01, .bool a02] 44)) := (Below.refl _ _).alloc (Nat.le_refl _) _
  have hS1 : w.heap.size < (w.alloc (.cells #[.int .i64 a00, .int .i64 a01, .bool a02] 44)).heap.size := by simp
  have hOa_1 := Lib.hid (Var.new w [.int .i64 a00, .int .i64 a01, .bool a02] 44)
  have hb2 : Below (w.alloc (.cells #[.int .i64 a00, .int .i64 a01, .bool a02] 44)).heap.size (w.alloc (.cells #[.int .i64 a00, .int .i64 a01, .bool a02] 44)) ((w.alloc (.cells #[.int .i64 a00, .int .i64 a01, .bool a02] 44)).alloc (.cells #[.int .i64 a10, .int .i64 a11, .bool a12] 44)) := (Below.refl _ _).alloc (Nat.le_refl _) _
  have hB2 := btr hB1 hb2
  have hS2 : (w.alloc (.cells #[.int .i64 a00, .int .i64 a01, .bool a02] 44)).heap.size < ((w.alloc (.cells #[.int .i64 a00, .int .i64 a01, .bool a02] 44)).alloc (.cells #[.int .i64 a10, .int .i64 a11, .bool a12] 44)).heap.size := by simp
  have hOa_2 := Lib.hid (hOa_1.out.below hb2 (by omega))
  have hOb_2 := Lib.hid (Var.new (w.alloc (.cells #[.int .i64 a00, .int .i64 a01, .bool a02] 44)) [.int .i64 a10, .int .i64 a11, .bool a12] 44)
  clear hOa_1 hb2
  rw [show (w.alloc (.cells #[.int .i64 a00, .int .i64 a01, .bool a02] 44)).heap.size = w.heap.size + 1 by simp] at hOb_2
  go_wp2_with fail
  refine Ord.wp_region_ord (fun w' => w'.cell? ⟨w.heap.size, 0, none⟩ = some (.int .i64 a00) ∧ w'.cell? ⟨w.heap.size, 1, none⟩ = some (.int .i64 a01) ∧ w'.cell? ⟨w.heap.size, 2, none⟩ = some (.bool a02) ∧ w'.cell? ⟨w.heap.size + 1, 0, none⟩ = some (.int .i64 a10) ∧ w'.cell? ⟨w.heap.size + 1, 1, none⟩ = some (.int .i64 a11) ∧ w'.cell? ⟨w.heap.size + 1, 2, none⟩ = some (.bool a12)) [(0, true), (2, true), (1, false), (3, false), (4, false), (5, true)] (by kernel_rfl) (by kernel_rfl) rfl (by kernel_rfl) (⟨hOa_2.out.cell 0 (v := .int .i64 a00) rfl, hOa_2.out.cell 1 (v := .int .i64 a01) rfl, hOa_2.out.cell 2 (v := .bool a02) rfl, hOb_2.out.cell 0 (v := .int .i64 a10) rfl, hOb_2.out.cell 1 (v := .int .i64 a11) rfl, hOb_2.out.cell 2 (v := .bool a12) rfl⟩) ?_
  simp only [Ord.ordOps, List.getElem?_toArray, List.getElem?_cons_zero, List.getElem?_cons_succ]
  repeat (first
    | (refine Ord.ord_plain (v := ?_) rfl (fun w' hS => ?_) ?_; rotate_left; (focus ((try dsimp only at hS); go_simp; first | done | with_reducible rfl)); simp only [Act.put, List.setIfInBounds_toArray, List.set_cons_zero, List.set_cons_succ])
    | (refine Ord.ord_skip (by rfl) ?_; simp only [Act.put, List.setIfInBounds_toArray, List.set_cons_zero, List.set_cons_succ])
    | (refine Ord.ord_take (v := ?_) (by rfl) (fun w' hS => ?_) ?_; rotate_left; (focus ((try dsimp only at hS); go_simp; first | done | with_reducible rfl)); simp only [Act.put, List.setIfInBounds_toArray, List.set_cons_zero, List.set_cons_succ]))
  have hb3 : Below ((w.alloc (.cells #[.int .i64 a00, .int .i64 a01, .bool a02] 44)).alloc (.cells #[.int .i64 a10, .int .i64 a11, .bool a12] 44)).heap.size ((w.alloc (.cells #[.int .i64 a00, .int .i64 a01, .bool a02] 44)).alloc (.cells #[.int .i64 a10, .int .i64 a11, .bool a12] 44)) ((w.alloc (.cells #[.int .i64 a00, .int .i64 a01, .bool a02] 44)).alloc (.cells #[.int .i64 a10, .int .i64 a11, .bool a12] 44)).drew := (Below.refl _ _).drew
  have hB3 := btr hB2 hb3
  have hS3 := hb3.size
  have hOa_3 := Lib.hid (hOa_2.out.below hb3 (by omega))
  have hOb_3 := Lib.hid (hOb_2.out.below hb3 (by omega))
  clear hOa_2 hOb_2 hb3
  refine Ord.ord_call (fun K hK => ?_)
  go_simp
  refine (toCtl_any a00 a01 a02 _).mono ?_
  rintro e w4 ⟨rfl, hb4⟩
  have hB4 := btr hB3 hb4
  have hS4 := hb4.size
  have hOa_4 := Lib.hid (hOa_3.out.below hb4 (by omega))
  have hOb_4 := Lib.hid (hOb_3.out.below hb4 (by omega))
  clear hOa_3 hOb_3 hb4
  refine hK.out _ _ (⟨hOa_4.out.cell 0 (v := .int .i64 a00) rfl, hOa_4.out.cell 1 (v := .int .i64 a01) rfl, hOa_4.out.cell 2 (v := .bool a02) rfl, hOb_4.out.cell 0 (v := .int .i64 a10) rfl, hOb_4.out.cell 1 (v := .int .i64 a11) rfl, hOb_4.out.cell 2 (v := .bool a12) rfl⟩) ?_
  clear hK K
  repeat (first
    | (refine Ord.ord_plain (v := ?_) rfl (fun w' hS => ?_) ?_; rotate_left; (focus ((try dsimp only at hS); go_simp; first | done | with_reducible rfl)); simp only [Act.put, List.setIfInBounds_toArray, List.set_cons_zero, List.set_cons_succ])
    | (refine Ord.ord_skip (by rfl) ?_; simp only [Act.put, List.setIfInBounds_toArray, List.set_cons_zero, List.set_cons_succ])
    | (refine Ord.ord_take (v := ?_) (by rfl) (fun w' hS => ?_) ?_; rotate_left; (focus ((try dsimp only at hS); go_simp; first | done | with_reducible rfl)); simp only [Act.put, List.setIfInBounds_toArray, List.set_cons_zero, List.set_cons_succ]))
  refine Ord.ord_call (fun K hK => ?_)
  go_simp
  refine (toCtl_any a10 a11 a12 _).mono ?_
  rintro e w5 ⟨rfl, hb5⟩
  have hB5 := btr hB4 hb5
  have hS5 := hb5.size
  have hOa_5 := Lib.hid (hOa_4.out.below hb5 (by omega))
  have hOb_5 := Lib.hid (hOb_4.out.below hb5 (by omega))
  clear hOa_4 hOb_4 hb5
  refine hK.out _ _ (⟨hOa_5.out.cell 0 (v := .int .i64 a00) rfl, hOa_5.out.cell 1 (v := .int .i64 a01) rfl, hOa_5.out.cell 2 (v := .bool a02) rfl, hOb_5.out.cell 0 (v := .int .i64 a10) rfl, hOb_5.out.cell 1 (v := .int .i64 a11) rfl, hOb_5.out.cell 2 (v := .bool a12) rfl⟩) ?_
  clear hK K
  repeat (first
    | (refine Ord.ord_plain (v := ?_) rfl (fun w' hS => ?_) ?_; rotate_left; (focus ((try dsimp only at hS); go_simp; first | done | with_reducible rfl)); simp only [Act.put, List.setIfInBounds_toArray, List.set_cons_zero, List.set_cons_succ])
    | (refine Ord.ord_skip (by rfl) ?_; simp only [Act.put, List.setIfInBounds_toArray, List.set_cons_zero, List.set_cons_succ])
    | (refine Ord.ord_take (v := ?_) (by rfl) (fun w' hS => ?_) ?_; rotate_left; (focus ((try dsimp only at hS); go_simp; first | done | with_reducible rfl)); simp only [Act.put, List.setIfInBounds_toArray, List.set_cons_zero, List.set_cons_succ]))
  refine Ord.ord_call (fun K hK => ?_)
  go_simp
  refine (HK1.out _).mono ?_
  rintro e w6 ⟨rfl, hb6⟩
  have hB6 := btr hB5 hb6
  have hS6 := hb6.size
  have hOa_6 := Lib.hid (hOa_5.out.below hb6 (by omega))
  have hOb_6 := Lib.hid (hOb_5.out.below hb6 (by omega))
  clear hOa_5 hOb_5 hb6
  refine hK.out _ _ (⟨hOa_6.out.cell 0 (v := .int .i64 a00) rfl, hOa_6.out.cell 1 (v := .int .i64 a01) rfl, hOa_6.out.cell 2 (v := .bool a02) rfl, hOb_6.out.cell 0 (v := .int .i64 a10) rfl, hOb_6.out.cell 1 (v := .int .i64 a11) rfl, hOb_6.out.cell 2 (v := .bool a12) rfl⟩) ?_
  clear hK K
  repeat (first
    | (refine Ord.ord_plain (v := ?_) rfl (fun w' hS => ?_) ?_; rotate_left; (focus ((try dsimp only at hS); go_simp; first | done | with_reducible rfl)); simp only [Act.put, List.setIfInBounds_toArray, List.set_cons_zero, List.set_cons_succ])
    | (refine Ord.ord_skip (by rfl) ?_; simp only [Act.put, List.setIfInBounds_toArray, List.set_cons_zero, List.set_cons_succ])
    | (refine Ord.ord_take (v := ?_) (by rfl) (fun w' hS => ?_) ?_; rotate_left; (focus ((try dsimp only at hS); go_simp; first | done | with_reducible rfl)); simp only [Act.put, List.setIfInBounds_toArray, List.set_cons_zero, List.set_cons_succ]))
  refine Ord.ord_nil ?_
  go_wp2_with fail
  refine Ord.wp_region_ord (fun w' => w'.cell? ⟨w.heap.size, 0, none⟩ = some (.int .i64 a00) ∧ w'.cell? ⟨w.heap.size, 1, none⟩ = some (.int .i64 a01) ∧ w'.cell? ⟨w.heap.size, 2, none⟩ = some (.bool a02) ∧ w'.cell? ⟨w.heap.size + 1, 0, none⟩ = some (.int .i64 a10) ∧ w'.cell? ⟨w.heap.size + 1, 1, none⟩ = some (.int .i64 a11) ∧ w'.cell? ⟨w.heap.size + 1, 2, none⟩ = some (.bool a12)) [(0, true), (2, true), (1, false), (3, false), (4, false), (5, true)] (by kernel_rfl) (by kernel_rfl) rfl (by kernel_rfl) (⟨hOa_6.out.cell 0 (v := .int .i64 a00) rfl, hOa_6.out.cell 1 (v := .int .i64 a01) rfl, hOa_6.out.cell 2 (v := .bool a02) rfl, hOb_6.out.cell 0 (v := .int .i64 a10) rfl, hOb_6.out.cell 1 (v := .int .i64 a11) rfl, hOb_6.out.cell 2 (v := .bool a12) rfl⟩) ?_
  simp only [Ord.ordOps, List.getElem?_toArray, List.getElem?_cons_zero, List.getElem?_cons_succ]
  repeat (first
    | (refine Ord.ord_plain (v := ?_) rfl (fun w' hS => ?_) ?_; rotate_left; (focus ((try dsimp only at hS); go_simp; first | done | with_reducible rfl)); simp only [Act.put, List.setIfInBounds_toArray, List.set_cons_zero, List.set_cons_succ])
    | (refine Ord.ord_skip (by rfl) ?_; simp only [Act.put, List.setIfInBounds_toArray, List.set_cons_zero, List.set_cons_succ])
    | (refine Ord.ord_take (v := ?_) (by rfl) (fun w' hS => ?_) ?_; rotate_left; (focus ((try dsimp only at hS); go_simp; first | done | with_reducible rfl)); simp only [Act.put, List.setIfInBounds_toArray, List.set_cons_zero, List.set_cons_succ]))
  have hb7 : Below w6.heap.size w6 w6.drew := (Below.refl _ _).drew
  have hB7 := btr hB6 hb7
  have hS7 := hb7.size
  have hOa_7 := Lib.hid (hOa_6.out.below hb7 (by omega))
  have hOb_7 := Lib.hid (hOb_6.out.below hb7 (by omega))
  clear hOa_6 hOb_6 hb7
  refine Ord.ord_call (fun K hK => ?_)
  go_simp
  refine (toCtl_any a00 a01 a02 _).mono ?_
  rintro e w8 ⟨rfl, hb8⟩
  have hB8 := btr hB7 hb8
  have hS8 := hb8.size
  have hOa_8 := Lib.hid (hOa_7.out.below hb8 (by omega))
  have hOb_8 := Lib.hid (hOb_7.out.below hb8 (by omega))
  clear hOa_7 hOb_7 hb8
  refine hK.out _ _ (⟨hOa_8.out.cell 0 (v := .int .i64 a00) rfl, hOa_8.out.cell 1 (v := .int .i64 a01) rfl, hOa_8.out.cell 2 (v := .bool a02) rfl, hOb_8.out.cell 0 (v := .int .i64 a10) rfl, hOb_8.out.cell 1 (v := .int .i64 a11) rfl, hOb_8.out.cell 2 (v := .bool a12) rfl⟩) ?_
  clear hK K
  repeat (first
    | (refine Ord.ord_plain (v := ?_) rfl (fun w' hS => ?_) ?_; rotate_left; (focus ((try dsimp only at hS); go_simp; first | done | with_reducible rfl)); simp only [Act.put, List.setIfInBounds_toArray, List.set_cons_zero, List.set_cons_succ])
    | (refine Ord.ord_skip (by rfl) ?_; simp only [Act.put, List.setIfInBounds_toArray, List.set_cons_zero, List.set_cons_succ])
    | (refine Ord.ord_take (v := ?_) (by rfl) (fun w' hS => ?_) ?_; rotate_left; (focus ((try dsimp only at hS); go_simp; first | done | with_reducible rfl)); simp only [Act.put, List.setIfInBounds_toArray, List.set_cons_zero, List.set_cons_succ]))
  refine Ord.ord_call (fun K hK => ?_)
  go_simp
  refine (toCtl_any a10 a11 a12 _).mono ?_
  rintro e w9 ⟨rfl, hb9⟩
  have hB9 := btr hB8 hb9
  have hS9 := hb9.size
  have hOa_9 := Lib.hid (hOa_8.out.below hb9 (by omega))
  have hOb_9 := Lib.hid (hOb_8.out.below hb9 (by omega))
  clear hOa_8 hOb_8 hb9
  refine hK.out _ _ (⟨hOa_9.out.cell 0 (v := .int .i64 a00) rfl, hOa_9.out.cell 1 (v := .int .i64 a01) rfl, hOa_9.out.cell 2 (v := .bool a02) rfl, hOb_9.out.cell 0 (v := .int .i64 a10) rfl, hOb_9.out.cell 1 (v := .int .i64 a11) rfl, hOb_9.out.cell 2 (v := .bool a12) rfl⟩) ?_
  clear hK K
  repeat (first
    | (refine Ord.ord_plain (v := ?_) rfl (fun w' hS => ?_) ?_; rotate_left; (focus ((try dsimp only at hS); go_simp; first | done | with_reducible rfl)); simp only [Act.put, List.setIfInBounds_toArray, List.set_cons_zero, List.set_cons_succ])
    | (refine Ord.ord_skip (by rfl) ?_; simp only [Act.put, List.setIfInBounds_toArray, List.set_cons_zero, List.set_cons_succ])
    | (refine Ord.ord_take (v := ?_) (by rfl) (fun w' hS => ?_) ?_; rotate_left; (focus ((try dsimp only at hS); go_simp; first | done | with_reducible rfl)); simp only [Act.put, List.setIfInBounds_toArray, List.set_cons_zero, List.set_cons_succ]))
  refine Ord.ord_call (fun K hK => ?_)
  go_simp
  refine (HK2.out _).mono ?_
  rintro e w10 ⟨rfl, hb10⟩
  have hB10 := btr hB9 hb10
  have hS10 := hb10.size
  have hOa_10 := Lib.hid (hOa_9.out.below hb10 (by omega))
  have hOb_10 := Lib.hid (hOb_9.out.below hb10 (by omega))
  clear hOa_9 hOb_9 hb10
  refine hK.out _ _ (⟨hOa_10.out.cell 0 (v := .int .i64 a00) rfl, hOa_10.out.cell 1 (v := .int .i64 a01) rfl, hOa_10.out.cell 2 (v := .bool a02) rfl, hOb_10.out.cell 0 (v := .int .i64 a10) rfl, hOb_10.out.cell 1 (v := .int .i64 a11) rfl, hOb_10.out.cell 2 (v := .bool a12) rfl⟩) ?_
  clear hK K
  repeat (first
    | (refine Ord.ord_plain (v := ?_) rfl (fun w' hS => ?_) ?_; rotate_left; (focus ((try dsimp only at hS); go_simp; first | done | with_reducible rfl)); simp only [Act.put, List.setIfInBounds_toArray, List.set_cons_zero, List.set_cons_succ])
    | (refine Ord.ord_skip (by rfl) ?_; simp only [Act.put, List.setIfInBounds_toArray, List.set_cons_zero, List.set_cons_succ])
    | (refine Ord.ord_take (v := ?_) (by rfl) (fun w' hS => ?_) ?_; rotate_left; (focus ((try dsimp only at hS); go_simp; first | done | with_reducible rfl)); simp only [Act.put, List.setIfInBounds_toArray, List.set_cons_zero, List.set_cons_succ]))
  refine Ord.ord_nil ?_
  go_wp2_with fail
  go_ret
  exact ⟨rfl, hB10⟩

/-! ### The row's step -/
set_option maxRecDepth 100000 in
theorem lifted (os : Os) (started : os.Started) (H : Type) (enc : TypeId × Value → H) :
    ReturnsInHanded {} Try.checked os 9 .any (Rows.fnExactGrantsMoreSpec.pre6 enc Try.prog Try.f9 Rows.fnExactGrantsMoreRow.domain false) (Rows.fnExactGrantsMoreSpec.post enc Try.prog Try.f9 false true false false) := by
  refine returnsInHanded_of_change (C := Try.checked) Base.own started (by kernel_rfl) Try.func9
    (ChangeSpec.witness6 (enc := enc) (C := Try.checked) false ⟨#[], #[.agg #[.int .i64 0, .int .i64 0, .bool false], .agg #[.int .i64 0, .int .i64 0, .bool false]], []⟩ 8 (by kernel_rfl) (by kernel_rfl) (by kernel_rfl) (by kernel_rfl)) ?_
  intro W base args ds gs before hval0 hW hcnd _
  have hval : ∀ (j : Nat) t v, Try.f9.params[j]? = some t → args[j]? = some v → Value.okWide Try.prog W .any base t v := hval0
  have hW' := hW
  obtain ⟨p, q, hA0, hV, rfl, hfz, hnd⟩ := hW
  have hA : DataW.TrodAll enc Try.prog W 0 (fun _ => true) true Try.f9.params.toList args.toList ds p := hA0
  have hA1 := hA
  rw [Try.params9] at hA hval
  obtain ⟨v0, vs0, d0, ds0, p0, q0, hargs, rfl, rfl, h0, r0⟩ := trodAll_cons hA
  obtain ⟨v1, vs1, d1, ds1, p1, q1, rfl, rfl, rfl, h1, r1⟩ := trodAll_cons r0
  obtain ⟨rfl, rfl, rfl⟩ := trodAll_nil r1
  obtain rfl : args = #[v0, v1] := by cases args; simp_all
  obtain ⟨rfl, rfl⟩ := trodVars_none hV
  obtain ⟨a00, a01, a02, rfl, w0⟩ := Ctls.open_ctl (hval 0 44 v0 rfl rfl) h0
  obtain ⟨a10, a11, a12, rfl, w1⟩ := Ctls.open_ctl (hval 1 44 v1 rfl rfl) h1
  clear hA0 hval0
  rw [List.append_nil] at hW'
  refine (walk a00 a01 a02 a10 a11 a12 w0 w1 W).mono fun e W' ⟨he, hg⟩ => ?_
  subst he
  exact ⟨_, rfl, Mem.post_args Slots.laid (by kernel_rfl) rfl rfl rfl hW' hA1 hg (fun _ _ _ => (trodAll_cons_mk (shut_bool Try.underlying4 _) trodAll_mk0)) (ok_one (by kernel_rfl) rfl (okWide_bool_mk Try.underlying4 _))⟩

theorem over : Rows.fnExactGrantsMoreRow.holds Try.pinned (OpenSpec.ofChange Rows.fnExactGrantsMoreSpec) :=
  OpenClaim.holds_of_wide 9 Try.f9 rfl rfl rfl rfl rfl rfl rfl ⟨rfl, rfl, rfl, rfl, rfl⟩ rfl rfl rfl rfl rfl (by kernel_rfl) Try.func9 (by kernel_rfl)
    (of_decide_eq_true (by kernel_rfl)) (by unfold Func.isWrapper; first | (rw [if_pos (by decide +kernel)]; kernel_rfl) | (rw [if_neg (by decide +kernel)]; exact ⟨rfl, rfl⟩))
    (fun os started H enc _ => lifted os started H enc)

/-- The given statement. -/
theorem proved : Rows.FnExactGrantsMoreSaid :=
  over
#print axioms proved
end Go.Proofs.Ytgpckcdkehmpiaa.fnExactGrantsMore
