/-
  At every argument the law FnExactProgOk returns true: the project's ProgOk answers as the given model's ProgOk, changes no argument, and what it returns is its own. No condition.
-/
import Derived.Test.YtgccejlkjeenpaaInsImpl
import Derived.Test.YtgccejlkjeenpaaVar
import Derived.Test.YtgccejlkjeenpaaOrdT
namespace Go.Proofs.Ytgccejlkjeenpaa.fnExactProgOk
set_option maxRecDepth 100000
open Go.ChangeShapes Go.WideShapes Go.ChangeAt Go.RowKit
open Go.Proofs.Ytgccejlkjeenpaa.Base Go.Proofs.Ytgccejlkjeenpaa.Mem Go.Proofs.Ytgccejlkjeenpaa.Slots Go.Proofs.Ytgccejlkjeenpaa.Ints Go.Proofs.Ytgccejlkjeenpaa.Inss
set_option linter.unusedVariables false
set_option linter.unusedSimpArgs false

set_option maxRecDepth 100000 in
set_option maxHeartbeats 8000000 in
theorem walk (A0 : Option Addr) (n0 c0 : Nat) (l0 : List JT) {w : World} (hn0 : n0 ≤ 9223372036854775807) (hl0 : l0.length = n0) (hw0 : wfJL l0) (h0 : Lies w 0 w.heap.size A0 (jcells l0)) :
    Calls Try.prog 5 #[.slice A0 n0 c0] w fun e w' => e = .returned (.bool true) ∧ Below w.heap.size w w' := by
  have HA0 := Lib.hid (show ∀ W, Below w.heap.size w W → Lies W 0 W.heap.size A0 (jcells l0) from fun W hb => (h0.below hb (Nat.le_refl _)).wide (Nat.le_refl _) hb.size)
  have HL0 := Lib.hid hl0
  have HW0 := Lib.hid hw0
  clear hl0 hw0 h0
  by_cases hbig0 : (1048576 : Int) < (n0 : Int)
  · go_enter Try.func5, Try.ntmps5
    go_wp2_with fail
    refine (szInsS_no A0 n0 c0 (1048576 : Int) _ (by omega) (by omega) hn0 hbig0).mono ?_
    rintro e w' ⟨rfl, rfl⟩
    go_wp2_with fail
    go_ret
    exact ⟨rfl, (Below.refl _ _)⟩
  have hm0 : n0 ≤ 1048576 := by omega
  have hle0 : (n0 : Int) ≤ (1048576 : Int) := by omega
  have hz0 : ¬ ((1048576 : Int) - (n0 : Int) < 0) := by omega
  have hK1 := fun (A : Option Addr) (c : Nat) (V : World) (h : Lies V 0 V.heap.size A (jcells l0)) => spec_progOk A n0 c 0 l0 V hm0 HL0.out h
  have hK2 := fun (A : Option Addr) (c : Nat) (V : World) (h : Lies V 0 V.heap.size A (jcells l0)) => impl_progOk A n0 c l0 V hm0 HL0.out h HW0.out
  generalize progOk l0 = x at hK1 hK2
  have HK1 := Lib.hid hK1
  have HK2 := Lib.hid hK2
  clear hK1 hK2
  go_enter Try.func5, Try.ntmps5
  go_wp2_with fail
  refine (szInsS_yes A0 n0 c0 (1048576 : Int) _ (by omega) hle0).mono ?_
  rintro e w' ⟨rfl, rfl⟩
  go_wp2_with fail
  refine (toInsS_any A0 n0 c0 0 l0 _ hm0 HL0.out (HA0.out _ (Below.refl _ _))).mono ?_
  rintro e w1 ⟨ad1, d1, rfl, hc1, ho1, hb1⟩
  have hB1 := btr (Below.refl _ _) hb1
  have hS1 := hb1.size
  have hOa_1 := Lib.hid ho1
  clear hc1 ho1 hb1
  go_wp2_with fail
  refine (HK1.out _ _ _ (hOa_1.out.1.wide (Nat.zero_le _) (by omega))).mono ?_
  rintro e w2 ⟨rfl, hb2⟩
  have hB2 := btr hB1 hb2
  have hS2 := hb2.size
  have hOa_2 := Lib.hid (hOa_1.out.below hb2 (by omega))
  clear hOa_1 hb2
  clear hOa_2
  go_wp2_with fail
  refine (toInsS_any A0 n0 c0 0 l0 _ hm0 HL0.out (HA0.out _ hB2)).mono ?_
  rintro e w3 ⟨ad3, d3, rfl, hc3, ho3, hb3⟩
  have hB3 := btr hB2 hb3
  have hS3 := hb3.size
  have hOx_3 := Lib.hid ho3
  clear hc3 ho3 hb3
  go_wp2_with fail
  refine (HK2.out _ _ _ (hOx_3.out.1.wide (Nat.zero_le _) (by omega))).mono ?_
  rintro e w4 ⟨rfl, hb4⟩
  have hB4 := btr hB3 hb4
  have hS4 := hb4.size
  have hOx_4 := Lib.hid (hOx_3.out.below hb4 (by omega))
  clear hOx_3 hb4
  go_wp2_with fail
  refine (toInsS_any A0 n0 c0 0 l0 _ hm0 HL0.out (HA0.out _ hB4)).mono ?_
  rintro e w5 ⟨ad5, d5, rfl, hc5, ho5, hb5⟩
  have hB5 := btr hB4 hb5
  have hS5 := hb5.size
  have hOx_5 := Lib.hid (hOx_4.out.below hb5 (by omega))
  have hOy_5 := Lib.hid ho5
  clear hOx_4 hc5 ho5 hb5
  go_wp2_with fail
  refine (eqInsS_same (some ad3) (some ad5) n0 d3 d5 _ _ _ _ l0 _ hm0 HL0.out (by omega) (by omega) hOx_5.out.1 hOy_5.out.1).mono ?_
  rintro e w6 ⟨rfl, hb6⟩
  have hB6 := btr hB5 hb6
  have hS6 := hb6.size
  have hOx_6 := Lib.hid (hOx_5.out.below hb6 (by omega))
  have hOy_6 := Lib.hid (hOy_5.out.below hb6 (by omega))
  clear hOx_5 hOy_5 hb6
  go_wp2_with fail
  go_ret
  exact ⟨rfl, hB6⟩

/-! ### The row's step -/
set_option maxRecDepth 100000 in
theorem lifted (os : Os) (started : os.Started) (H : Type) (enc : TypeId × Value → H) :
    ReturnsInHanded {} Try.checked os 5 .any (Rows.fnExactProgOkSpec.pre6 enc Try.prog Try.f5 Rows.fnExactProgOkRow.domain false) (Rows.fnExactProgOkSpec.post enc Try.prog Try.f5 false true false false) := by
  refine returnsInHanded_of_change (C := Try.checked) Base.own started (by kernel_rfl) Try.func5
    (ChangeSpec.witness6 (enc := enc) (C := Try.checked) false ⟨#[], #[.slice none 0 0], []⟩ 8 (by kernel_rfl) (by kernel_rfl) (by kernel_rfl) (by kernel_rfl)) ?_
  intro W base args ds gs before hval0 hW hcnd _
  have hval : ∀ (j : Nat) t v, Try.f5.params[j]? = some t → args[j]? = some v → Value.okWide Try.prog W .any base t v := hval0
  have hW' := hW
  obtain ⟨p, q, hA0, hV, rfl, hfz, hnd⟩ := hW
  have hA : DataW.TrodAll enc Try.prog W 0 (fun _ => true) true Try.f5.params.toList args.toList ds p := hA0
  have hA1 := hA
  rw [Try.params5] at hA hval
  obtain ⟨v0, vs0, d0, ds0, p0, q0, hargs, rfl, rfl, h0, r0⟩ := trodAll_cons hA
  obtain ⟨rfl, rfl, rfl⟩ := trodAll_nil r0
  obtain rfl : args = #[v0] := by cases args; simp_all
  obtain ⟨rfl, rfl⟩ := trodVars_none hV
  obtain ⟨A0, n0, c0, l0, rfl, hn0, hl0, hw0, h0'⟩ := Inss.open_insts (hval 0 34 v0 rfl rfl) h0
  clear hA0 hval0
  rw [List.append_nil] at hW'
  refine (walk A0 n0 c0 l0 hn0 hl0 hw0 h0').mono fun e W' ⟨he, hg⟩ => ?_
  subst he
  exact ⟨_, rfl, Mem.post_args Slots.laid (by kernel_rfl) rfl rfl rfl hW' hA1 hg (fun _ _ _ => (trodAll_cons_mk (shut_bool Try.underlying4 _) trodAll_mk0)) (ok_one (by kernel_rfl) rfl (okWide_bool_mk Try.underlying4 _))⟩

theorem over : Rows.fnExactProgOkRow.holds Try.pinned (OpenSpec.ofChange Rows.fnExactProgOkSpec) :=
  OpenClaim.holds_of_wide 5 Try.f5 rfl rfl rfl rfl rfl rfl rfl ⟨rfl, rfl, rfl, rfl, rfl⟩ rfl rfl rfl rfl rfl (by kernel_rfl) Try.func5 (by kernel_rfl)
    (of_decide_eq_true (by kernel_rfl)) (by unfold Func.isWrapper; first | (rw [if_pos (by decide +kernel)]; kernel_rfl) | (rw [if_neg (by decide +kernel)]; exact ⟨rfl, rfl⟩))
    (fun os started H enc _ => lifted os started H enc)

/-- The given statement. -/
theorem proved : Rows.FnExactProgOkSaid :=
  over
#print axioms proved
end Go.Proofs.Ytgccejlkjeenpaa.fnExactProgOk
