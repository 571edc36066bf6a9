/-
  For every slice of bytes the law FnMonotone returns true: composition is monotone in both tables, and restricting the one table or the other gives the same. No condition.
-/
import Derived.Test.YtecnkcmhgnbdmaaTwoLaws
import Derived.Test.YtecnkcmhgnbdmaaTwoDraws
import Derived.Test.YtecnkcmhgnbdmaaSlotArgs
import Derived.Test.YtecnkcmhgnbdmaaBig
namespace Go.Proofs.Ytecnkcmhgnbdmaa.fnMonotone
open Go.ChangeShapes Go.WideShapes Go.ChangeAt Go.RowKit
open Go.Proofs.Ytecnkcmhgnbdmaa.Base Go.Proofs.Ytecnkcmhgnbdmaa.Mem Go.Proofs.Ytecnkcmhgnbdmaa.Slots Go.Proofs.Ytecnkcmhgnbdmaa.Ints Go.Proofs.Ytecnkcmhgnbdmaa.Draw Go.Proofs.Ytecnkcmhgnbdmaa.SDraw
set_option linter.unusedVariables false

set_option maxRecDepth 100000 in
set_option maxHeartbeats 8000000 in
theorem walk (A : Option Addr) (n c : Nat) (hn : n ≤ maxLen) {w : World} (hcode : CodeAt w A n) :
    Calls Try.prog 4 #[.slice A n c] w fun e w' => e = .returned (.bool true) ∧ Below w.heap.size w w' := by
  have hn' : n ≤ 9223372036854775807 := hn
  have HC := Lib.hid (show ∀ W, Below w.heap.size w W → CodeAt W A n from fun W hb => hcode.below hb)
  clear hcode hn
  by_cases h1 : 1048576 < n
  · go_enter Try.func4, Try.ntmps4
    go_wp2_with (go_at_call 11; refine (big_yes A n c _ hn' h1).mono ?_; rintro e w' ⟨rfl, rfl⟩)
    go_ret
    exact ⟨rfl, Below.refl _ _⟩
  · have hn2 : n ≤ 1048576 := by omega
    clear h1 hn'
    go_enter Try.func4, Try.ntmps4
    go_wp2_with (go_at_call 11; refine (big_no A n c _ hn2).mono ?_; rintro e w' ⟨rfl, rfl⟩)
    go_wp2_with fail
    refine (drawCompose_any A n c _ hn2 (HC.out _ (Below.refl _ _))).mono ?_
    rintro e w1 ⟨adl, nl, cl, l, ado, no, co, o, rfl, hTl, hTo, hb1⟩
    have HLl := Lib.hid hTl.2.1
    have HWl := Lib.hid hTl.2.2.1
    have hml : nl ≤ 1048576 := by have := hTl.1; omega
    have HLo := Lib.hid hTo.2.1
    have HWo := Lib.hid hTo.2.2.1
    have hmo : no ≤ 1048576 := by have := hTo.1; omega
    have hB1 := btr (Below.refl _ _) hb1
    have hS1 := hb1.size
    have hOl_1 := Lib.hid (hTl.2.2.2)
    have hOo_1 := Lib.hid (hTo.2.2.2)
    clear hTl hTo hb1
    go_wp2_with fail
    refine (drawRestrict_any A n c _ hn2 (HC.out _ hB1)).mono ?_
    rintro e w2 ⟨adv, nv, cv, v, r, rfl, hr, hTv, hb2⟩
    have HR := Lib.hid hr
    have hB2 := btr hB1 hb2
    have hS2 := hb2.size
    have hOl_2 := Lib.hid (hOl_1.out.below hb2 (by omega))
    have hOo_2 := Lib.hid (hOo_1.out.below hb2 (by omega))
    clear hOl_1 hOo_1 hTv hr hb2
    have hP := (restL_len l r).trans HLl.out
    have hQ := (restL_len o r).trans HLo.out
    have wP := wf_restL HWl.out r
    have wQ := wf_restL HWo.out r
    have hC := (compL_len l o).trans HLl.out
    have wC := wf_compL (l := l) HWo.out
    have hX := (compL_len (restL l r) o).trans hP
    have wX := wf_compL (l := restL l r) HWo.out
    have kP := fun (A : Option Addr) (c : Nat) (V : World) (h : Lies V 0 V.heap.size A (scells l)) => impl_restrict A nl c r l V hml HLl.out HWl.out HR.out h
    have kQ := fun (A : Option Addr) (c : Nat) (V : World) (h : Lies V 0 V.heap.size A (scells o)) => impl_restrict A no c r o V hmo HLo.out HWo.out HR.out h
    have kC := fun (A B : Option Addr) (c d : Nat) (V : World) (h1 : Lies V 0 V.heap.size A (scells l)) (h2 : Lies V 0 V.heap.size B (scells o)) => impl_compose A B nl no c d l o V hml hmo HLl.out HLo.out HWl.out HWo.out h1 h2
    have kX := fun (A B : Option Addr) (c d : Nat) (V : World) (h1 : Lies V 0 V.heap.size A (scells (restL l r))) (h2 : Lies V 0 V.heap.size B (scells o)) => impl_compose A B nl no c d (restL l r) o V hml hmo hP HLo.out wP HWo.out h1 h2
    have kY := fun (A B : Option Addr) (c d : Nat) (V : World) (h1 : Lies V 0 V.heap.size A (scells l)) (h2 : Lies V 0 V.heap.size B (scells (restL o r))) => impl_compose A B nl no c d l (restL o r) V hml hmo HLl.out hQ HWl.out wQ h1 h2
    rw [← compL_rest] at kY
    have b1 := compL_rest_below l o r
    have b2 := compL_self l o
    generalize compL (restL l r) o = X at hX wX kX kY b1
    generalize compL l o = C at hC wC kC b1 b2
    generalize restL l r = P at hP wP kP kX
    generalize restL o r = Q at hQ wQ kQ kY
    have tX := fun (A B : Option Addr) (c d lo lo' hi hi' : Nat) (V : World) (hh : hi ≤ V.heap.size) (hh' : hi' ≤ V.heap.size) (h1 : Lies V lo hi A (scells X)) (h2 : Lies V lo' hi' B (scells C)) => impl_tableBelow A B nl nl c d lo lo' hi hi' X C V hml hml hX hC hh hh' wX wC h1 h2
    rw [b1] at tX
    have tC := fun (A B : Option Addr) (c d lo lo' hi hi' : Nat) (V : World) (hh : hi ≤ V.heap.size) (hh' : hi' ≤ V.heap.size) (h1 : Lies V lo hi A (scells C)) (h2 : Lies V lo' hi' B (scells C)) => impl_tableBelow A B nl nl c d lo lo' hi hi' C C V hml hml hC hC hh hh' wC wC h1 h2
    rw [b2] at tC
    have kO := fun (A B : Option Addr) (c d : Nat) (V : World) (h1 : Lies V 0 V.heap.size A (scells [(0, 3)])) (h2 : Lies V 0 V.heap.size B (scells [(4, 3)])) => impl_compose A B 1 1 c d [(0, 3)] [(4, 3)] V (by omega) (by omega) rfl rfl (wfL_one (by decide) (by decide)) (wfL_one (by decide) (by decide)) h1 h2
    have HLP := Lib.hid hP
    have HLQ := Lib.hid hQ
    have HLC := Lib.hid hC
    have HLX := Lib.hid hX
    have KP := Lib.hid kP
    have KQ := Lib.hid kQ
    have KC := Lib.hid kC
    have KX := Lib.hid kX
    have KY := Lib.hid kY
    have TX := Lib.hid tX
    have TC := Lib.hid tC
    have KO := Lib.hid kO
    clear hP hQ wP wQ hC wC hX wX kP kQ kC kX kY b1 b2 tX tC kO
    go_wp2_with fail
    refine (KC.out _ _ _ _ _ (hOl_2.out.wide (Nat.zero_le _) (by omega)) (hOo_2.out.wide (Nat.zero_le _) (by omega))).mono ?_
    rintro e w3 ⟨ad3, d3, rfl, hc3, ho3, hb3⟩
    have hB3 := btr hB2 hb3
    have hS3 := hb3.size
    have hOl_3 := Lib.hid (hOl_2.out.below hb3 (by omega))
    have hOo_3 := Lib.hid (hOo_2.out.below hb3 (by omega))
    have hOc_3 := Lib.hid ho3
    clear hOl_2 hOo_2 hc3 ho3 hb3
    go_wp2_with fail
    refine (KP.out _ _ _ (hOl_3.out.wide (Nat.zero_le _) (by omega))).mono ?_
    rintro e w4 ⟨ad4, d4, rfl, hc4, ho4, hb4⟩
    have hB4 := btr hB3 hb4
    have hS4 := hb4.size
    have hOl_4 := Lib.hid (hOl_3.out.below hb4 (by omega))
    have hOo_4 := Lib.hid (hOo_3.out.below hb4 (by omega))
    have hOc_4 := Lib.hid (hOc_3.out.below hb4 (by omega))
    have hOp_4 := Lib.hid ho4
    clear hOl_3 hOo_3 hOc_3 hc4 ho4 hb4
    go_wp2_with fail
    refine (KX.out _ _ _ _ _ (hOp_4.out.1.wide (Nat.zero_le _) (by omega)) (hOo_4.out.wide (Nat.zero_le _) (by omega))).mono ?_
    rintro e w5 ⟨ad5, d5, rfl, hc5, ho5, hb5⟩
    have hB5 := btr hB4 hb5
    have hS5 := hb5.size
    have hOl_5 := Lib.hid (hOl_4.out.below hb5 (by omega))
    have hOo_5 := Lib.hid (hOo_4.out.below hb5 (by omega))
    have hOc_5 := Lib.hid (hOc_4.out.below hb5 (by omega))
    have hOp_5 := Lib.hid (hOp_4.out.below hb5 (by omega))
    have hOx_5 := Lib.hid ho5
    clear hOl_4 hOo_4 hOc_4 hOp_4 hc5 ho5 hb5
    clear hOp_5
    go_wp2_with fail
    refine (KQ.out _ _ _ (hOo_5.out.wide (Nat.zero_le _) (by omega))).mono ?_
    rintro e w6 ⟨ad6, d6, rfl, hc6, ho6, hb6⟩
    have hB6 := btr hB5 hb6
    have hS6 := hb6.size
    have hOl_6 := Lib.hid (hOl_5.out.below hb6 (by omega))
    have hOo_6 := Lib.hid (hOo_5.out.below hb6 (by omega))
    have hOc_6 := Lib.hid (hOc_5.out.below hb6 (by omega))
    have hOx_6 := Lib.hid (hOx_5.out.below hb6 (by omega))
    have hOq_6 := Lib.hid ho6
    clear hOl_5 hOo_5 hOc_5 hOx_5 hc6 ho6 hb6
    go_wp2_with fail
    refine (KY.out _ _ _ _ _ (hOl_6.out.wide (Nat.zero_le _) (by omega)) (hOq_6.out.1.wide (Nat.zero_le _) (by omega))).mono ?_
    rintro e w7 ⟨ad7, d7, rfl, hc7, ho7, hb7⟩
    have hB7 := btr hB6 hb7
    have hS7 := hb7.size
    have hOl_7 := Lib.hid (hOl_6.out.below hb7 (by omega))
    have hOo_7 := Lib.hid (hOo_6.out.below hb7 (by omega))
    have hOc_7 := Lib.hid (hOc_6.out.below hb7 (by omega))
    have hOx_7 := Lib.hid (hOx_6.out.below hb7 (by omega))
    have hOq_7 := Lib.hid (hOq_6.out.below hb7 (by omega))
    have hOy_7 := Lib.hid ho7
    clear hOl_6 hOo_6 hOc_6 hOx_6 hOq_6 hc7 ho7 hb7
    clear hOq_7
    clear hOl_7
    clear hOo_7
    go_wp2_with fail
    refine (TX.out _ _ _ _ _ _ _ _ _ (by omega) (by omega) hOx_7.out.1 hOc_7.out.1).mono ?_
    rintro e w8 ⟨rfl, hb8⟩
    have hB8 := btr hB7 hb8
    have hS8 := hb8.size
    have hOc_8 := Lib.hid (hOc_7.out.below hb8 (by omega))
    have hOx_8 := Lib.hid (hOx_7.out.below hb8 (by omega))
    have hOy_8 := Lib.hid (hOy_7.out.below hb8 (by omega))
    clear hOc_7 hOx_7 hOy_7 hb8
    go_wp2_with fail
    refine (TX.out _ _ _ _ _ _ _ _ _ (by omega) (by omega) hOy_8.out.1 hOc_8.out.1).mono ?_
    rintro e w9 ⟨rfl, hb9⟩
    have hB9 := btr hB8 hb9
    have hS9 := hb9.size
    have hOc_9 := Lib.hid (hOc_8.out.below hb9 (by omega))
    have hOx_9 := Lib.hid (hOx_8.out.below hb9 (by omega))
    have hOy_9 := Lib.hid (hOy_8.out.below hb9 (by omega))
    clear hOc_8 hOx_8 hOy_8 hb9
    go_wp2_with fail
    refine (same_true (some ad5) (some ad7) nl d5 d7 _ _ _ _ X _ hml HLX.out hOx_9.out.1 hOy_9.out.1).mono ?_
    rintro e w10 ⟨rfl, hb10⟩
    have hB10 := btr hB9 hb10
    have hS10 := hb10.size
    have hOc_10 := Lib.hid (hOc_9.out.below hb10 (by omega))
    have hOx_10 := Lib.hid (hOx_9.out.below hb10 (by omega))
    have hOy_10 := Lib.hid (hOy_9.out.below hb10 (by omega))
    clear hOc_9 hOx_9 hOy_9 hb10
    clear hOx_10
    clear hOy_10
    go_wp2_with fail
    refine (TC.out _ _ _ _ _ _ _ _ _ (by omega) (by omega) hOc_10.out.1 hOc_10.out.1).mono ?_
    rintro e w11 ⟨rfl, hb11⟩
    have hB11 := btr hB10 hb11
    have hS11 := hb11.size
    have hOc_11 := Lib.hid (hOc_10.out.below hb11 (by omega))
    clear hOc_10 hb11
    clear hOc_11
    go_wp2_with fail
    obtain ⟨t1, t2, hbt⟩ := two_two w11 (.int .i64 0) (.int .i64 3) (.int .i64 4) (.int .i64 3) 30 30
    refine (KO.out _ _ _ _ _ (lies_one t1) (lies_one t2)).mono ?_
    rintro e wz ⟨adz, cz, rfl, hcz, hoz, hbz⟩
    have HZ := Lib.hid (btr (btr hB11 hbt) hbz)
    clear hcz hoz hbz hbt t1 t2
    go_wp2_with fail
    go_ret
    exact ⟨rfl, HZ.out⟩

/-! ### The row's step -/
set_option maxRecDepth 100000 in
theorem lifted (os : Os) (started : os.Started) (H : Type) (enc : TypeId × Value → H) :
    ReturnsInHanded {} Try.checked os 4 .any (Rows.fnMonotoneSpec.pre6 enc Try.prog Try.f4 Rows.fnMonotoneRow.domain false) (Rows.fnMonotoneSpec.post enc Try.prog Try.f4 false true false false) := by
  refine returnsInHanded_of_change (C := Try.checked) Base.own started (by kernel_rfl) Try.func4
    (ChangeSpec.witness6 (enc := enc) (C := Try.checked) false ⟨#[], #[.slice none 0 0], []⟩ 8 (by kernel_rfl) (by kernel_rfl) (by kernel_rfl) (by kernel_rfl)) ?_
  intro W base args ds gs before hval0 hW hcnd _
  have hval : ∀ (j : Nat) t v, Try.f4.params[j]? = some t → args[j]? = some v → Value.okWide Try.prog W .any base t v := hval0
  have hW' := hW
  obtain ⟨p, q, hA0, hV, rfl, hfz, hnd⟩ := hW
  have hA : DataW.TrodAll enc Try.prog W 0 (fun _ => true) true Try.f4.params.toList args.toList ds p := hA0
  have hA1 := hA
  rw [Try.params4] at hA hval
  obtain ⟨v0, vs0, d0, ds0, p0, q0, hargs, rfl, rfl, h0, r0⟩ := trodAll_cons hA
  obtain ⟨rfl, rfl, rfl⟩ := trodAll_nil r0
  obtain rfl : args = #[v0] := by cases args; simp_all
  obtain ⟨rfl, rfl⟩ := trodVars_none hV
  obtain ⟨A0, n0, c0, rfl, hn0, hcode0, _⟩ := Draw.open_code (hval 0 22 v0 rfl rfl) h0
  clear hA0 hval0
  rw [List.append_nil] at hW'
  refine (walk A0 n0 c0 hn0 hcode0).mono fun e W' ⟨he, hg⟩ => ?_
  subst he
  exact ⟨_, rfl, Mem.post_args Slots.laid (by kernel_rfl) rfl rfl rfl hW' hA1 hg (fun _ _ _ => (trodAll_cons_mk (shut_bool Try.underlying4 _) trodAll_mk0)) (ok_one (by kernel_rfl) rfl (okWide_bool_mk Try.underlying4 _))⟩

theorem over : Rows.fnMonotoneRow.holds Try.pinned (OpenSpec.ofChange Rows.fnMonotoneSpec) :=
  OpenClaim.holds_of_wide 4 Try.f4 rfl rfl rfl rfl rfl rfl rfl ⟨rfl, rfl, rfl, rfl, rfl⟩ rfl rfl rfl rfl rfl (by kernel_rfl) Try.func4 (by kernel_rfl)
    (of_decide_eq_true (by kernel_rfl)) (by unfold Func.isWrapper; first | (rw [if_pos (by decide +kernel)]; kernel_rfl) | (rw [if_neg (by decide +kernel)]; exact ⟨rfl, rfl⟩))
    (fun os started H enc _ => lifted os started H enc)

/-- The given statement. -/
theorem proved : Rows.FnMonotoneSaid :=
  over
#print axioms proved
end Go.Proofs.Ytecnkcmhgnbdmaa.fnMonotone
