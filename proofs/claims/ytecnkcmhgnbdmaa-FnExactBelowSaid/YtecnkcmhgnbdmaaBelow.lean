/-
  At every argument the law FnExactBelow returns true: the project's Below answers as the given model's Below, changes no argument, and what it returns is its own. No condition.
-/
import Derived.Test.YtecnkcmhgnbdmaaTwoBelow
import Derived.Test.YtecnkcmhgnbdmaaSlotArgs
namespace Go.Proofs.Ytecnkcmhgnbdmaa.fnExactBelow
open Go.ChangeShapes Go.WideShapes Go.ChangeAt Go.RowKit
open Go.Proofs.Ytecnkcmhgnbdmaa.Base Go.Proofs.Ytecnkcmhgnbdmaa.Mem Go.Proofs.Ytecnkcmhgnbdmaa.Slots Go.Proofs.Ytecnkcmhgnbdmaa.Ints
set_option linter.unusedVariables false

set_option maxRecDepth 100000 in
set_option maxHeartbeats 4000000 in
theorem walk (a0 b0 : Int) (a1 b1 : Int) (w0 : wfS (a0, b0)) (w1 : wfS (a1, b1)) (w : World) :
    Calls Try.prog 8 #[.agg #[.int .i64 a0, .int .i64 b0], .agg #[.int .i64 a1, .int .i64 b1]] w fun e w' => e = .returned (.bool true) ∧ Below w.heap.size w w' := by
  have HW0 := Lib.hid w0
  clear w0
  have HW1 := Lib.hid w1
  clear w1
  obtain ⟨t1, t2, hb2⟩ := two_two w (.int .i64 a0) (.int .i64 b0) (.int .i64 a1) (.int .i64 b1) 47 47
  have hK1 := fun V : World => spec_below a0 b0 a1 b1 V
  have hK2 := fun V : World => impl_below a0 b0 a1 b1 V HW0.out.2 HW1.out.2
  generalize belowS (a0, b0) (a1, b1) = z at hK1 hK2
  have HK1 := Lib.hid hK1
  have HK2 := Lib.hid hK2
  clear hK1 hK2
  go_enter Try.func8, Try.ntmps8
  go_wp2_with fail
  generalize (w.alloc (.cells #[.int .i64 a0, .int .i64 b0] 47)).alloc (.cells #[.int .i64 a1, .int .i64 b1] 47) = W0 at t1 t2 hb2 ⊢
  have hs0 : (fun w' => (w'.cell? ⟨w.heap.size, 0, none⟩ = some (.int .i64 a0) ∧ w'.cell? ⟨w.heap.size, 1, none⟩ = some (.int .i64 b0)) ∧ w'.cell? ⟨w.heap.size + 1, 0, none⟩ = some (.int .i64 a1) ∧ w'.cell? ⟨w.heap.size + 1, 1, none⟩ = some (.int .i64 b1)) W0 := ⟨⟨t1.1, t1.2.1⟩, t2.1, t2.2.1⟩
  have hi0 := t1.2.2.2.2
  have hj0 := t2.2.2.2.2
  have HB0 := Lib.hid hb2
  clear t1 t2 hb2
  refine Ord.wp_region_ord (fun w' => (w'.cell? ⟨w.heap.size, 0, none⟩ = some (.int .i64 a0) ∧ w'.cell? ⟨w.heap.size, 1, none⟩ = some (.int .i64 b0)) ∧ w'.cell? ⟨w.heap.size + 1, 0, none⟩ = some (.int .i64 a1) ∧ w'.cell? ⟨w.heap.size + 1, 1, none⟩ = some (.int .i64 b1)) [(0, true), (2, true), (1, false), (3, false), (4, false), (5, true)] (by kernel_rfl) (by kernel_rfl) rfl (by kernel_rfl) (hs0) ?_
  simp only [Ord.ordOps, List.getElem?_toArray, List.getElem?_cons_zero, List.getElem?_cons_succ]
  repeat (first
    | (refine Ord.ord_plain (v := ?_) rfl (fun w' hS => ?_) ?_; rotate_left; (focus ((try dsimp only at hS); go_simp; first | done | with_reducible rfl)); simp only [Act.put, List.setIfInBounds_toArray, List.set_cons_zero, List.set_cons_succ])
    | (refine Ord.ord_skip (by rfl) ?_; simp only [Act.put, List.setIfInBounds_toArray, List.set_cons_zero, List.set_cons_succ])
    | (refine Ord.ord_take (v := ?_) (by rfl) (fun w' hS => ?_) ?_; rotate_left; (focus ((try dsimp only at hS); go_simp; first | done | with_reducible rfl)); simp only [Act.put, List.setIfInBounds_toArray, List.set_cons_zero, List.set_cons_succ]))
  refine Ord.ord_call (fun K hK => ?_)
  go_simp
  go_wp2_with fail
  refine (toSlot_any a0 b0 _).mono ?_
  rintro e W1 ⟨rfl, hb1⟩
  have hs1 := (show (fun w' => (w'.cell? ⟨w.heap.size, 0, none⟩ = some (.int .i64 a0) ∧ w'.cell? ⟨w.heap.size, 1, none⟩ = some (.int .i64 b0)) ∧ w'.cell? ⟨w.heap.size + 1, 0, none⟩ = some (.int .i64 a1) ∧ w'.cell? ⟨w.heap.size + 1, 1, none⟩ = some (.int .i64 b1)) W1 from ⟨⟨(hb1.cell (p := ⟨w.heap.size, 0, none⟩) hi0).trans hs0.1.1, (hb1.cell (p := ⟨w.heap.size, 1, none⟩) hi0).trans hs0.1.2⟩, (hb1.cell (p := ⟨w.heap.size + 1, 0, none⟩) hj0).trans hs0.2.1, (hb1.cell (p := ⟨w.heap.size + 1, 1, none⟩) hj0).trans hs0.2.2⟩)
  have hi1 := Nat.lt_of_lt_of_le hi0 hb1.size
  have hj1 := Nat.lt_of_lt_of_le hj0 hb1.size
  have HB1 := Lib.hid (btr HB0.out.drew hb1)
  clear hb1
  refine hK.out _ _ (hs1) ?_
  clear hK K
  repeat (first
    | (refine Ord.ord_plain (v := ?_) rfl (fun w' hS => ?_) ?_; rotate_left; (focus ((try dsimp only at hS); go_simp; first | done | with_reducible rfl)); simp only [Act.put, List.setIfInBounds_toArray, List.set_cons_zero, List.set_cons_succ])
    | (refine Ord.ord_skip (by rfl) ?_; simp only [Act.put, List.setIfInBounds_toArray, List.set_cons_zero, List.set_cons_succ])
    | (refine Ord.ord_take (v := ?_) (by rfl) (fun w' hS => ?_) ?_; rotate_left; (focus ((try dsimp only at hS); go_simp; first | done | with_reducible rfl)); simp only [Act.put, List.setIfInBounds_toArray, List.set_cons_zero, List.set_cons_succ]))
  refine Ord.ord_call (fun K hK => ?_)
  go_simp
  go_wp2_with fail
  refine (toSlot_any a1 b1 _).mono ?_
  rintro e W2 ⟨rfl, hb2⟩
  have hs2 := (show (fun w' => (w'.cell? ⟨w.heap.size, 0, none⟩ = some (.int .i64 a0) ∧ w'.cell? ⟨w.heap.size, 1, none⟩ = some (.int .i64 b0)) ∧ w'.cell? ⟨w.heap.size + 1, 0, none⟩ = some (.int .i64 a1) ∧ w'.cell? ⟨w.heap.size + 1, 1, none⟩ = some (.int .i64 b1)) W2 from ⟨⟨(hb2.cell (p := ⟨w.heap.size, 0, none⟩) hi1).trans hs1.1.1, (hb2.cell (p := ⟨w.heap.size, 1, none⟩) hi1).trans hs1.1.2⟩, (hb2.cell (p := ⟨w.heap.size + 1, 0, none⟩) hj1).trans hs1.2.1, (hb2.cell (p := ⟨w.heap.size + 1, 1, none⟩) hj1).trans hs1.2.2⟩)
  have hi2 := Nat.lt_of_lt_of_le hi1 hb2.size
  have hj2 := Nat.lt_of_lt_of_le hj1 hb2.size
  have HB2 := Lib.hid (btr HB1.out hb2)
  clear hb2
  refine hK.out _ _ (hs2) ?_
  clear hK K
  repeat (first
    | (refine Ord.ord_plain (v := ?_) rfl (fun w' hS => ?_) ?_; rotate_left; (focus ((try dsimp only at hS); go_simp; first | done | with_reducible rfl)); simp only [Act.put, List.setIfInBounds_toArray, List.set_cons_zero, List.set_cons_succ])
    | (refine Ord.ord_skip (by rfl) ?_; simp only [Act.put, List.setIfInBounds_toArray, List.set_cons_zero, List.set_cons_succ])
    | (refine Ord.ord_take (v := ?_) (by rfl) (fun w' hS => ?_) ?_; rotate_left; (focus ((try dsimp only at hS); go_simp; first | done | with_reducible rfl)); simp only [Act.put, List.setIfInBounds_toArray, List.set_cons_zero, List.set_cons_succ]))
  refine Ord.ord_call (fun K hK => ?_)
  go_simp
  go_wp2_with fail
  refine (HK1.out _).mono ?_
  rintro e W3 ⟨rfl, hb3⟩
  have hs3 := (show (fun w' => (w'.cell? ⟨w.heap.size, 0, none⟩ = some (.int .i64 a0) ∧ w'.cell? ⟨w.heap.size, 1, none⟩ = some (.int .i64 b0)) ∧ w'.cell? ⟨w.heap.size + 1, 0, none⟩ = some (.int .i64 a1) ∧ w'.cell? ⟨w.heap.size + 1, 1, none⟩ = some (.int .i64 b1)) W3 from ⟨⟨(hb3.cell (p := ⟨w.heap.size, 0, none⟩) hi2).trans hs2.1.1, (hb3.cell (p := ⟨w.heap.size, 1, none⟩) hi2).trans hs2.1.2⟩, (hb3.cell (p := ⟨w.heap.size + 1, 0, none⟩) hj2).trans hs2.2.1, (hb3.cell (p := ⟨w.heap.size + 1, 1, none⟩) hj2).trans hs2.2.2⟩)
  have hi3 := Nat.lt_of_lt_of_le hi2 hb3.size
  have hj3 := Nat.lt_of_lt_of_le hj2 hb3.size
  have HB3 := Lib.hid (btr HB2.out hb3)
  clear hb3
  refine hK.out _ _ (hs3) ?_
  clear hK K
  repeat (first
    | (refine Ord.ord_plain (v := ?_) rfl (fun w' hS => ?_) ?_; rotate_left; (focus ((try dsimp only at hS); go_simp; first | done | with_reducible rfl)); simp only [Act.put, List.setIfInBounds_toArray, List.set_cons_zero, List.set_cons_succ])
    | (refine Ord.ord_skip (by rfl) ?_; simp only [Act.put, List.setIfInBounds_toArray, List.set_cons_zero, List.set_cons_succ])
    | (refine Ord.ord_take (v := ?_) (by rfl) (fun w' hS => ?_) ?_; rotate_left; (focus ((try dsimp only at hS); go_simp; first | done | with_reducible rfl)); simp only [Act.put, List.setIfInBounds_toArray, List.set_cons_zero, List.set_cons_succ]))
  refine Ord.ord_nil ?_
  go_wp2_with fail
  refine Ord.wp_region_ord (fun w' => (w'.cell? ⟨w.heap.size, 0, none⟩ = some (.int .i64 a0) ∧ w'.cell? ⟨w.heap.size, 1, none⟩ = some (.int .i64 b0)) ∧ w'.cell? ⟨w.heap.size + 1, 0, none⟩ = some (.int .i64 a1) ∧ w'.cell? ⟨w.heap.size + 1, 1, none⟩ = some (.int .i64 b1)) [(0, true), (2, true), (1, false), (3, false), (4, false), (5, true)] (by kernel_rfl) (by kernel_rfl) rfl (by kernel_rfl) (hs3) ?_
  simp only [Ord.ordOps, List.getElem?_toArray, List.getElem?_cons_zero, List.getElem?_cons_succ]
  repeat (first
    | (refine Ord.ord_plain (v := ?_) rfl (fun w' hS => ?_) ?_; rotate_left; (focus ((try dsimp only at hS); go_simp; first | done | with_reducible rfl)); simp only [Act.put, List.setIfInBounds_toArray, List.set_cons_zero, List.set_cons_succ])
    | (refine Ord.ord_skip (by rfl) ?_; simp only [Act.put, List.setIfInBounds_toArray, List.set_cons_zero, List.set_cons_succ])
    | (refine Ord.ord_take (v := ?_) (by rfl) (fun w' hS => ?_) ?_; rotate_left; (focus ((try dsimp only at hS); go_simp; first | done | with_reducible rfl)); simp only [Act.put, List.setIfInBounds_toArray, List.set_cons_zero, List.set_cons_succ]))
  refine Ord.ord_call (fun K hK => ?_)
  go_simp
  go_wp2_with fail
  refine (toSlot_any a0 b0 _).mono ?_
  rintro e W4 ⟨rfl, hb4⟩
  have hs4 := (show (fun w' => (w'.cell? ⟨w.heap.size, 0, none⟩ = some (.int .i64 a0) ∧ w'.cell? ⟨w.heap.size, 1, none⟩ = some (.int .i64 b0)) ∧ w'.cell? ⟨w.heap.size + 1, 0, none⟩ = some (.int .i64 a1) ∧ w'.cell? ⟨w.heap.size + 1, 1, none⟩ = some (.int .i64 b1)) W4 from ⟨⟨(hb4.cell (p := ⟨w.heap.size, 0, none⟩) hi3).trans hs3.1.1, (hb4.cell (p := ⟨w.heap.size, 1, none⟩) hi3).trans hs3.1.2⟩, (hb4.cell (p := ⟨w.heap.size + 1, 0, none⟩) hj3).trans hs3.2.1, (hb4.cell (p := ⟨w.heap.size + 1, 1, none⟩) hj3).trans hs3.2.2⟩)
  have hi4 := Nat.lt_of_lt_of_le hi3 hb4.size
  have hj4 := Nat.lt_of_lt_of_le hj3 hb4.size
  have HB4 := Lib.hid (btr HB3.out.drew hb4)
  clear hb4
  refine hK.out _ _ (hs4) ?_
  clear hK K
  repeat (first
    | (refine Ord.ord_plain (v := ?_) rfl (fun w' hS => ?_) ?_; rotate_left; (focus ((try dsimp only at hS); go_simp; first | done | with_reducible rfl)); simp only [Act.put, List.setIfInBounds_toArray, List.set_cons_zero, List.set_cons_succ])
    | (refine Ord.ord_skip (by rfl) ?_; simp only [Act.put, List.setIfInBounds_toArray, List.set_cons_zero, List.set_cons_succ])
    | (refine Ord.ord_take (v := ?_) (by rfl) (fun w' hS => ?_) ?_; rotate_left; (focus ((try dsimp only at hS); go_simp; first | done | with_reducible rfl)); simp only [Act.put, List.setIfInBounds_toArray, List.set_cons_zero, List.set_cons_succ]))
  refine Ord.ord_call (fun K hK => ?_)
  go_simp
  go_wp2_with fail
  refine (toSlot_any a1 b1 _).mono ?_
  rintro e W5 ⟨rfl, hb5⟩
  have hs5 := (show (fun w' => (w'.cell? ⟨w.heap.size, 0, none⟩ = some (.int .i64 a0) ∧ w'.cell? ⟨w.heap.size, 1, none⟩ = some (.int .i64 b0)) ∧ w'.cell? ⟨w.heap.size + 1, 0, none⟩ = some (.int .i64 a1) ∧ w'.cell? ⟨w.heap.size + 1, 1, none⟩ = some (.int .i64 b1)) W5 from ⟨⟨(hb5.cell (p := ⟨w.heap.size, 0, none⟩) hi4).trans hs4.1.1, (hb5.cell (p := ⟨w.heap.size, 1, none⟩) hi4).trans hs4.1.2⟩, (hb5.cell (p := ⟨w.heap.size + 1, 0, none⟩) hj4).trans hs4.2.1, (hb5.cell (p := ⟨w.heap.size + 1, 1, none⟩) hj4).trans hs4.2.2⟩)
  have hi5 := Nat.lt_of_lt_of_le hi4 hb5.size
  have hj5 := Nat.lt_of_lt_of_le hj4 hb5.size
  have HB5 := Lib.hid (btr HB4.out hb5)
  clear hb5
  refine hK.out _ _ (hs5) ?_
  clear hK K
  repeat (first
    | (refine Ord.ord_plain (v := ?_) rfl (fun w' hS => ?_) ?_; rotate_left; (focus ((try dsimp only at hS); go_simp; first | done | with_reducible rfl)); simp only [Act.put, List.setIfInBounds_toArray, List.set_cons_zero, List.set_cons_succ])
    | (refine Ord.ord_skip (by rfl) ?_; simp only [Act.put, List.setIfInBounds_toArray, List.set_cons_zero, List.set_cons_succ])
    | (refine Ord.ord_take (v := ?_) (by rfl) (fun w' hS => ?_) ?_; rotate_left; (focus ((try dsimp only at hS); go_simp; first | done | with_reducible rfl)); simp only [Act.put, List.setIfInBounds_toArray, List.set_cons_zero, List.set_cons_succ]))
  refine Ord.ord_call (fun K hK => ?_)
  go_simp
  go_wp2_with fail
  refine (HK2.out _).mono ?_
  rintro e W6 ⟨rfl, hb6⟩
  have hs6 := (show (fun w' => (w'.cell? ⟨w.heap.size, 0, none⟩ = some (.int .i64 a0) ∧ w'.cell? ⟨w.heap.size, 1, none⟩ = some (.int .i64 b0)) ∧ w'.cell? ⟨w.heap.size + 1, 0, none⟩ = some (.int .i64 a1) ∧ w'.cell? ⟨w.heap.size + 1, 1, none⟩ = some (.int .i64 b1)) W6 from ⟨⟨(hb6.cell (p := ⟨w.heap.size, 0, none⟩) hi5).trans hs5.1.1, (hb6.cell (p := ⟨w.heap.size, 1, none⟩) hi5).trans hs5.1.2⟩, (hb6.cell (p := ⟨w.heap.size + 1, 0, none⟩) hj5).trans hs5.2.1, (hb6.cell (p := ⟨w.heap.size + 1, 1, none⟩) hj5).trans hs5.2.2⟩)
  have hi6 := Nat.lt_of_lt_of_le hi5 hb6.size
  have hj6 := Nat.lt_of_lt_of_le hj5 hb6.size
  have HB6 := Lib.hid (btr HB5.out hb6)
  clear hb6
  refine hK.out _ _ (hs6) ?_
  clear hK K
  repeat (first
    | (refine Ord.ord_plain (v := ?_) rfl (fun w' hS => ?_) ?_; rotate_left; (focus ((try dsimp only at hS); go_simp; first | done | with_reducible rfl)); simp only [Act.put, List.setIfInBounds_toArray, List.set_cons_zero, List.set_cons_succ])
    | (refine Ord.ord_skip (by rfl) ?_; simp only [Act.put, List.setIfInBounds_toArray, List.set_cons_zero, List.set_cons_succ])
    | (refine Ord.ord_take (v := ?_) (by rfl) (fun w' hS => ?_) ?_; rotate_left; (focus ((try dsimp only at hS); go_simp; first | done | with_reducible rfl)); simp only [Act.put, List.setIfInBounds_toArray, List.set_cons_zero, List.set_cons_succ]))
  refine Ord.ord_nil ?_
  go_wp2_with fail
  go_ret
  exact ⟨rfl, HB6.out⟩

/-! ### The row's step -/
set_option maxRecDepth 100000 in
theorem lifted (os : Os) (started : os.Started) (H : Type) (enc : TypeId × Value → H) :
    ReturnsInHanded {} Try.checked os 8 .any (Rows.fnExactBelowSpec.pre6 enc Try.prog Try.f8 Rows.fnExactBelowRow.domain false) (Rows.fnExactBelowSpec.post enc Try.prog Try.f8 false true false false) := by
  refine returnsInHanded_of_change (C := Try.checked) Base.own started (by kernel_rfl) Try.func8
    (ChangeSpec.witness6 (enc := enc) (C := Try.checked) false ⟨#[], #[.agg #[.int .i64 0, .int .i64 0], .agg #[.int .i64 0, .int .i64 0]], []⟩ 8 (by kernel_rfl) (by kernel_rfl) (by kernel_rfl) (by kernel_rfl)) ?_
  intro W base args ds gs before hval0 hW hcnd _
  have hval : ∀ (j : Nat) t v, Try.f8.params[j]? = some t → args[j]? = some v → Value.okWide Try.prog W .any base t v := hval0
  have hW' := hW
  obtain ⟨p, q, hA0, hV, rfl, hfz, hnd⟩ := hW
  have hA : DataW.TrodAll enc Try.prog W 0 (fun _ => true) true Try.f8.params.toList args.toList ds p := hA0
  have hA1 := hA
  rw [Try.params8] at hA hval
  obtain ⟨v0, vs0, d0, ds0, p0, q0, hargs, rfl, rfl, h0, r0⟩ := trodAll_cons hA
  obtain ⟨v1, vs1, d1, ds1, p1, q1, rfl, rfl, rfl, h1, r1⟩ := trodAll_cons r0
  obtain ⟨rfl, rfl, rfl⟩ := trodAll_nil r1
  obtain rfl : args = #[v0, v1] := by cases args; simp_all
  obtain ⟨rfl, rfl⟩ := trodVars_none hV
  obtain ⟨a0, b0, rfl, w0⟩ := Slots.open_slot (hval 0 47 v0 rfl rfl) h0
  obtain ⟨a1, b1, rfl, w1⟩ := Slots.open_slot (hval 1 47 v1 rfl rfl) h1
  clear hA0 hval0
  rw [List.append_nil] at hW'
  refine (walk a0 b0 a1 b1 w0 w1 W).mono fun e W' ⟨he, hg⟩ => ?_
  subst he
  exact ⟨_, rfl, Mem.post_args Slots.laid (by kernel_rfl) rfl rfl rfl hW' hA1 hg (fun _ _ _ => (trodAll_cons_mk (shut_bool Try.underlying4 _) trodAll_mk0)) (ok_one (by kernel_rfl) rfl (okWide_bool_mk Try.underlying4 _))⟩

theorem over : Rows.fnExactBelowRow.holds Try.pinned (OpenSpec.ofChange Rows.fnExactBelowSpec) :=
  OpenClaim.holds_of_wide 8 Try.f8 rfl rfl rfl rfl rfl rfl rfl ⟨rfl, rfl, rfl, rfl, rfl⟩ rfl rfl rfl rfl rfl (by kernel_rfl) Try.func8 (by kernel_rfl)
    (of_decide_eq_true (by kernel_rfl)) (by unfold Func.isWrapper; first | (rw [if_pos (by decide +kernel)]; kernel_rfl) | (rw [if_neg (by decide +kernel)]; exact ⟨rfl, rfl⟩))
    (fun os started H enc _ => lifted os started H enc)

/-- The given statement. -/
theorem proved : Rows.FnExactBelowSaid :=
  over
#print axioms proved
end Go.Proofs.Ytecnkcmhgnbdmaa.fnExactBelow
