/-
  At every argument the law FnExactCtlFaults returns true: the project's CtlFaults answers as the given model's CtlFaults, changes no argument, and what it returns is its own. No condition.
-/
import Derived.Test.YtcdkagpmepdggaaCtlImpl
import Derived.Test.YtcdkagpmepdggaaOrdT
namespace Go.Proofs.Ytcdkagpmepdggaa.fnExactCtlFaults
set_option maxRecDepth 100000
open Go.ChangeShapes Go.WideShapes Go.ChangeAt Go.RowKit
open Go.Proofs.Ytcdkagpmepdggaa.Base Go.Proofs.Ytcdkagpmepdggaa.Mem Go.Proofs.Ytcdkagpmepdggaa.Slots Go.Proofs.Ytcdkagpmepdggaa.Ints Go.Proofs.Ytcdkagpmepdggaa.Ctls
set_option linter.unusedVariables false
set_option linter.unusedSimpArgs false

set_option maxRecDepth 100000 in
set_option maxHeartbeats 8000000 in
theorem walk (a00 : Int) (a01 : Int) (a02 : Bool) (w0 : wfC (a00, a01, a02)) (w : World) :
    Calls Try.prog 4 #[.agg #[.int .i64 a00, .int .i64 a01, .bool a02]] w fun e w' => e = .returned (.bool true) ∧ Below w.heap.size w w' := by
  have HW0 := Lib.hid w0
  clear w0
  have hK1 := fun V : World => spec_ctlF a00 a01 a02 V
  have hK2 := fun V : World => impl_ctlF a00 a01 a02 V HW0.out
  have hu := ctlF_le (a00, a01, a02)
  generalize ctlF (a00, a01, a02) = u at hK1 hK2 hu
  have HK1 := Lib.hid hK1
  have HK2 := Lib.hid hK2
  clear hK1 hK2
  obtain ⟨N, hN⟩ : ∃ N, u.length = N := ⟨_, rfl⟩
  have HU := Lib.hid hN
  have hmN : N ≤ 1048576 := by omega
  clear hN hu
  obtain ⟨q2, hq2⟩ : ∃ q : Nat, q = 1 + N := ⟨_, rfl⟩
  have Hq2 := Lib.hid (show ((1 : Nat) : Int) + (N : Int) = (q2 : Int) by omega)
  have hpq2 : ¬ ((q2 : Int) < 0) := by omega
  go_enter Try.func4, Try.ntmps4
  have hB1 : Below w.heap.size w (w.alloc (.cells #[.int .i64 a00, .int .i64 a01, .bool a02] 31)) := (Below.refl _ _).alloc (Nat.le_refl _) _
  have hS1 : w.heap.size < (w.alloc (.cells #[.int .i64 a00, .int .i64 a01, .bool a02] 31)).heap.size := by simp
  have hOb_1 := Lib.hid (Var.new w [.int .i64 a00, .int .i64 a01, .bool a02] 31)
  have zb0 := hOb_1.out.cell 0 (v := .int .i64 a00) rfl
  have zb1 := hOb_1.out.cell 1 (v := .int .i64 a01) rfl
  have zb2 := hOb_1.out.cell 2 (v := .bool a02) rfl
  go_wp2_with fail
  refine (toCtl_any a00 a01 a02 _).mono ?_
  rintro e w2 ⟨rfl, hb2⟩
  have hB2 := btr hB1 hb2
  have hS2 := hb2.size
  have hOb_2 := Lib.hid (hOb_1.out.below hb2 (by omega))
  clear hOb_1 hb2
  clear zb0 zb1 zb2
  go_wp2_with fail
  refine (HK1.out _).mono ?_
  rintro e w3 ⟨A3', n3', c3', rfl, hl3, ho3, hb3⟩
  have he3 := HU.out.symm.trans hl3
  subst he3
  have hB3 := btr hB2 hb3
  have hS3 := hb3.size
  have hOb_3 := Lib.hid (hOb_2.out.below hb3 (by omega))
  have hOw0_3 := Lib.hid ho3
  clear hOb_2 hl3 ho3 hb3
  have zb0 := hOb_3.out.cell 0 (v := .int .i64 a00) rfl
  have zb1 := hOb_3.out.cell 1 (v := .int .i64 a01) rfl
  have zb2 := hOb_3.out.cell 2 (v := .bool a02) rfl
  go_wp2_with fail
  refine (toCtl_any a00 a01 a02 _).mono ?_
  rintro e w4 ⟨rfl, hb4⟩
  have hB4 := btr hB3 hb4
  have hS4 := hb4.size
  have hOb_4 := Lib.hid (hOb_3.out.below hb4 (by omega))
  have hOw0_4 := Lib.hid (hOw0_3.out.below hb4 (by omega))
  clear hOb_3 hOw0_3 hb4
  clear zb0 zb1 zb2
  go_wp2_with fail
  refine (HK2.out _).mono ?_
  rintro e w5 ⟨A5', n5', c5', rfl, hl5, ho5, hb5⟩
  have he5 := HU.out.symm.trans hl5
  subst he5
  have hB5 := btr hB4 hb5
  have hS5 := hb5.size
  have hOb_5 := Lib.hid (hOb_4.out.below hb5 (by omega))
  have hOw0_5 := Lib.hid (hOw0_4.out.below hb5 (by omega))
  have hOg0_5 := Lib.hid ho5
  clear hOb_4 hOw0_4 hl5 ho5 hb5
  go_wp2_with fail
  refine (eqIntS_same A5' A3' N c5' c3' _ _ _ _ u _ hmN HU.out hOg0_5.out.1 hOw0_5.out.1).mono ?_
  rintro e w6 ⟨rfl, hb6⟩
  have hB6 := btr hB5 hb6
  have hS6 := hb6.size
  have hOb_6 := Lib.hid (hOb_5.out.below hb6 (by omega))
  have hOw0_6 := Lib.hid (hOw0_5.out.below hb6 (by omega))
  have hOg0_6 := Lib.hid (hOg0_5.out.below hb6 (by omega))
  clear hOb_5 hOw0_5 hOg0_5 hb6
  go_wp2_with fail
  refine (markIntS_any A5' N c5' _ _ 1 u _ hmN (by omega) HU.out hOg0_6.out).mono ?_
  rintro e w7 ⟨he, ho7, ht7⟩
  rw [Hq2.out] at he
  subst he
  have hB7 := hB6.trans (ht7.below (B := w.heap.size) (by omega) hB6.size)
  have hS7 := ht7.size
  have hOb_7 := Lib.hid (hOb_6.out.turned ht7.block (by omega) (by omega))
  have hOw0_7 := Lib.hid (hOw0_6.out.turned ht7.block (by omega) (by omega))
  have hOg0_7 := Lib.hid ho7
  clear hOb_6 hOw0_6 hOg0_6 ho7 ht7
  go_wp2_with fail
  refine (heldIntS_any A5' N c5' _ _ 1 _ hmN (by omega) hOg0_7.out.1).mono ?_
  rintro e w' ⟨he, rfl⟩
  rw [Hq2.out] at he
  subst he
  have zb0 := hOb_7.out.cell 0 (v := .int .i64 a00) rfl
  have zb1 := hOb_7.out.cell 1 (v := .int .i64 a01) rfl
  have zb2 := hOb_7.out.cell 2 (v := .bool a02) rfl
  go_wp2_with fail
  refine (toCtl_any a00 a01 a02 _).mono ?_
  rintro e w9 ⟨rfl, hb9⟩
  have hB9 := btr hB7 hb9
  have hS9 := hb9.size
  have hOb_9 := Lib.hid (hOb_7.out.below hb9 (by omega))
  have hOw0_9 := Lib.hid (hOw0_7.out.below hb9 (by omega))
  have hOg0_9 := Lib.hid (hOg0_7.out.below hb9 (by omega))
  clear hOb_7 hOw0_7 hOg0_7 hb9
  clear zb0 zb1 zb2
  go_wp2_with fail
  refine (HK2.out _).mono ?_
  rintro e w10 ⟨A10', n10', c10', rfl, hl10, ho10, hb10⟩
  have he10 := HU.out.symm.trans hl10
  subst he10
  have hB10 := btr hB9 hb10
  have hS10 := hb10.size
  have hOb_10 := Lib.hid (hOb_9.out.below hb10 (by omega))
  have hOw0_10 := Lib.hid (hOw0_9.out.below hb10 (by omega))
  have hOg0_10 := Lib.hid (hOg0_9.out.below hb10 (by omega))
  have hOh0_10 := Lib.hid ho10
  clear hOb_9 hOw0_9 hOg0_9 hl10 ho10 hb10
  go_wp2_with fail
  refine (eqIntS_same A10' A3' N c10' c3' _ _ _ _ u _ hmN HU.out hOh0_10.out.1 hOw0_10.out.1).mono ?_
  rintro e w11 ⟨rfl, hb11⟩
  have hB11 := btr hB10 hb11
  have hS11 := hb11.size
  have hOb_11 := Lib.hid (hOb_10.out.below hb11 (by omega))
  have hOw0_11 := Lib.hid (hOw0_10.out.below hb11 (by omega))
  have hOg0_11 := Lib.hid (hOg0_10.out.below hb11 (by omega))
  have hOh0_11 := Lib.hid (hOh0_10.out.below hb11 (by omega))
  clear hOb_10 hOw0_10 hOg0_10 hOh0_10 hb11
  go_wp2_with fail
  refine (heldIntS_any A5' N c5' _ _ 1 _ hmN (by omega) hOg0_11.out.1).mono ?_
  rintro e w' ⟨he, rfl⟩
  rw [Hq2.out] at he
  subst he
  go_wp2_with fail
  go_ret
  exact ⟨rfl, hB11⟩

/-! ### The row's step -/
set_option maxRecDepth 100000 in
theorem lifted (os : Os) (started : os.Started) (H : Type) (enc : TypeId × Value → H) :
    ReturnsInHanded {} Try.checked os 4 .any (Rows.fnExactCtlFaultsSpec.pre6 enc Try.prog Try.f4 Rows.fnExactCtlFaultsRow.domain false) (Rows.fnExactCtlFaultsSpec.post enc Try.prog Try.f4 false true false false) := by
  refine returnsInHanded_of_change (C := Try.checked) Base.own started (by kernel_rfl) Try.func4
    (ChangeSpec.witness6 (enc := enc) (C := Try.checked) false ⟨#[], #[.agg #[.int .i64 0, .int .i64 0, .bool false]], []⟩ 8 (by kernel_rfl) (by kernel_rfl) (by kernel_rfl) (by kernel_rfl)) ?_
  intro W base args ds gs before hval0 hW hcnd _
  have hval : ∀ (j : Nat) t v, Try.f4.params[j]? = some t → args[j]? = some v → Value.okWide Try.prog W .any base t v := hval0
  have hW' := hW
  obtain ⟨p, q, hA0, hV, rfl, hfz, hnd⟩ := hW
  have hA : DataW.TrodAll enc Try.prog W 0 (fun _ => true) true Try.f4.params.toList args.toList ds p := hA0
  have hA1 := hA
  rw [Try.params4] at hA hval
  obtain ⟨v0, vs0, d0, ds0, p0, q0, hargs, rfl, rfl, h0, r0⟩ := trodAll_cons hA
  obtain ⟨rfl, rfl, rfl⟩ := trodAll_nil r0
  obtain rfl : args = #[v0] := by cases args; simp_all
  obtain ⟨rfl, rfl⟩ := trodVars_none hV
  obtain ⟨a00, a01, a02, rfl, w0⟩ := Ctls.open_ctl (hval 0 31 v0 rfl rfl) h0
  clear hA0 hval0
  rw [List.append_nil] at hW'
  refine (walk a00 a01 a02 w0 W).mono fun e W' ⟨he, hg⟩ => ?_
  subst he
  exact ⟨_, rfl, Mem.post_args Slots.laid (by kernel_rfl) rfl rfl rfl hW' hA1 hg (fun _ _ _ => (trodAll_cons_mk (shut_bool Try.underlying4 _) trodAll_mk0)) (ok_one (by kernel_rfl) rfl (okWide_bool_mk Try.underlying4 _))⟩

theorem over : Rows.fnExactCtlFaultsRow.holds Try.pinned (OpenSpec.ofChange Rows.fnExactCtlFaultsSpec) :=
  OpenClaim.holds_of_wide 4 Try.f4 rfl rfl rfl rfl rfl rfl rfl ⟨rfl, rfl, rfl, rfl, rfl⟩ rfl rfl rfl rfl rfl (by kernel_rfl) Try.func4 (by kernel_rfl)
    (of_decide_eq_true (by kernel_rfl)) (by unfold Func.isWrapper; first | (rw [if_pos (by decide +kernel)]; kernel_rfl) | (rw [if_neg (by decide +kernel)]; exact ⟨rfl, rfl⟩))
    (fun os started H enc _ => lifted os started H enc)

/-- The given statement. -/
theorem proved : Rows.FnExactCtlFaultsSaid :=
  over
#print axioms proved
end Go.Proofs.Ytcdkagpmepdggaa.fnExactCtlFaults
