/-
  At every argument the law FnExactMemNew returns true: the project's MemNew answers as the given model's MemNew, changes no argument, and what it returns is its own. No condition.
-/
import Derived.Test.YtkbcmeachfplnaaMemPutS
import Derived.Test.YtkbcmeachfplnaaGridArgs
import Derived.Test.YtkbcmeachfplnaaSizes
namespace Go.Proofs.Ytkbcmeachfplnaa.fnExactMemNew
open Go.ChangeShapes Go.WideShapes Go.ChangeAt Go.RowKit
open Go.Proofs.Ytkbcmeachfplnaa.Base Go.Proofs.Ytkbcmeachfplnaa.Mem Go.Proofs.Ytkbcmeachfplnaa.Ints Go.Proofs.Ytkbcmeachfplnaa.Grid
set_option linter.unusedVariables false

set_option maxRecDepth 100000 in
set_option maxHeartbeats 4000000 in
theorem walk (a0 : Int) (wf0 : (Lit.int .i64 a0).wf = true) (w : World) :
    Calls Try.prog 8 #[.int .i64 a0] w fun e w' => e = .returned (.bool true) ∧ Below w.heap.size w w' := by
  have hK1 := fun (V : World) => spec_memNew a0 V
  have hK2 := fun (V : World) => impl_memNew a0 V
  have hc := zeros_cap (newN a0) (newN_le a0)
  generalize zeros (newN a0) = U at hK1 hK2 hc
  have htU := hc.all
  have HCU := Lib.hid hc
  have HK1 := Lib.hid hK1
  have HK2 := Lib.hid hK2
  clear hK1 hK2 wf0 hc
  obtain ⟨qU, hqU⟩ : ∃ q : Nat, q = 1 + tot U := ⟨_, rfl⟩
  have HqU := Lib.hid hqU
  have hpqU : ¬ ((qU : Int) < 0) := by omega
  clear hqU
  go_enter Try.func8, Try.ntmps8
  go_wp2_with fail
  refine (HK1.out _).mono ?_
  rintro e w1 ⟨X1, nU, d1, qs1, rfl, hx1, ho1, hb1⟩
  have HLU := Lib.hid hx1
  have hB1 := btr (Below.refl _ _) hb1
  have hS1 := hb1.size
  have hOu_1 := Lib.hid ho1
  clear hx1 ho1 hb1
  go_wp2_with fail
  refine (HK2.out _).mono ?_
  rintro e w2 ⟨X2, m2, d2, qs2, rfl, hx2, ho2, hb2⟩
  obtain rfl : nU = m2 := by have := HLU.out; omega
  have hB2 := btr hB1 hb2
  have hS2 := hb2.size
  have hOu_2 := Lib.hid (hOu_1.out.below hb2 (by omega))
  have hOg_2 := Lib.hid ho2
  clear hOu_1 hx2 ho2 hb2
  go_wp2_with fail
  refine (eqIntSS_same X2 X1 nU d2 d1 _ _ _ _ U qs2 qs1 _ HCU.out HLU.out (by omega) (by omega) hOg_2.out.rg hOu_2.out.rg).mono ?_
  rintro e w3 ⟨rfl, hb3⟩
  have hB3 := btr hB2 hb3
  have hS3 := hb3.size
  have hOu_3 := Lib.hid (hOu_2.out.below hb3 (by omega))
  have hOg_3 := Lib.hid (hOg_2.out.below hb3 (by omega))
  clear hOu_2 hOg_2 hb3
  go_wp2_with fail
  refine (markIntSS_any X2 nU d2 _ _ 1 U qs2 _ HCU.out (by omega) HLU.out (by omega) hOg_3.out).mono ?_
  rintro e w4 ⟨he, ho4, ht4⟩
  rw [← HqU.out] at he
  subst he
  have hB4 := hB3.trans (ht4.below (B := w.heap.size) (by omega) hB3.size)
  have hS4 := ht4.size
  have hOu_4 := Lib.hid (hOu_3.out.turned ht4.block (by omega) (by omega))
  have hOg_4 := Lib.hid ho4
  clear hOu_3 hOg_3 ho4 ht4
  go_wp2_with fail
  refine (heldIntSS_any X2 nU d2 _ _ 1 U qs2 _ HCU.out (by omega) HLU.out hOg_4.out.rg).mono ?_
  rintro e w' ⟨he, rfl⟩
  rw [← HqU.out] at he
  subst he
  go_wp2_with fail
  refine (HK2.out _).mono ?_
  rintro e w6 ⟨X6, m6, d6, qs6, rfl, hx6, ho6, hb6⟩
  obtain rfl : nU = m6 := by have := HLU.out; omega
  have hB6 := btr hB4 hb6
  have hS6 := hb6.size
  have hOu_6 := Lib.hid (hOu_4.out.below hb6 (by omega))
  have hOg_6 := Lib.hid (hOg_4.out.below hb6 (by omega))
  have hOh_6 := Lib.hid ho6
  clear hOu_4 hOg_4 hx6 ho6 hb6
  go_wp2_with fail
  refine (eqIntSS_same X6 X1 nU d6 d1 _ _ _ _ U qs6 qs1 _ HCU.out HLU.out (by omega) (by omega) hOh_6.out.rg hOu_6.out.rg).mono ?_
  rintro e w7 ⟨rfl, hb7⟩
  have hB7 := btr hB6 hb7
  have hS7 := hb7.size
  have hOu_7 := Lib.hid (hOu_6.out.below hb7 (by omega))
  have hOg_7 := Lib.hid (hOg_6.out.below hb7 (by omega))
  have hOh_7 := Lib.hid (hOh_6.out.below hb7 (by omega))
  clear hOu_6 hOg_6 hOh_6 hb7
  go_wp2_with fail
  refine (heldIntSS_any X2 nU d2 _ _ 1 U qs2 _ HCU.out (by omega) HLU.out hOg_7.out.rg).mono ?_
  rintro e w' ⟨he, rfl⟩
  rw [← HqU.out] at he
  subst he
  go_wp2_with fail
  go_ret
  exact ⟨rfl, hB7⟩

/-! ### The row's step -/
set_option maxRecDepth 100000 in
theorem lifted (os : Os) (started : os.Started) (H : Type) (enc : TypeId × Value → H) :
    ReturnsInHanded {} Try.checked os 8 .any (Rows.fnExactMemNewSpec.pre6 enc Try.prog Try.f8 Rows.fnExactMemNewRow.domain false) (Rows.fnExactMemNewSpec.post enc Try.prog Try.f8 false true false false) := by
  refine returnsInHanded_of_change (C := Try.checked) Base.own started (by kernel_rfl) Try.func8
    (ChangeSpec.witness6 (enc := enc) (C := Try.checked) false ⟨#[], #[.int .i64 0], []⟩ 8 (by kernel_rfl) (by kernel_rfl) (by kernel_rfl) (by kernel_rfl)) ?_
  intro W base args ds gs before hval0 hW hcnd _
  have hval : ∀ (j : Nat) t v, Try.f8.params[j]? = some t → args[j]? = some v → Value.okWide Try.prog W .any base t v := hval0
  have hW' := hW
  obtain ⟨p, q, hA0, hV, rfl, hfz, hnd⟩ := hW
  have hA : DataW.TrodAll enc Try.prog W 0 (fun _ => true) true Try.f8.params.toList args.toList ds p := hA0
  have hA1 := hA
  rw [Try.params8] at hA hval
  obtain ⟨v0, vs0, d0, ds0, p0, q0, hargs, rfl, rfl, h0, r0⟩ := trodAll_cons hA
  obtain ⟨rfl, rfl, rfl⟩ := trodAll_nil r0
  obtain rfl : args = #[v0] := by cases args; simp_all
  obtain ⟨rfl, rfl⟩ := trodVars_none hV
  obtain ⟨a0, rfl, _, _, w0⟩ := open_int Try.underlying3 (hval 0 3 v0 rfl rfl) h0
  clear hA0 hval0
  rw [List.append_nil] at hW'
  refine (walk a0 w0 W).mono fun e W' ⟨he, hg⟩ => ?_
  subst he
  exact ⟨_, rfl, Mem.post_args Grid.laid (by kernel_rfl) rfl rfl rfl hW' hA1 hg (fun _ _ _ => (trodAll_cons_mk (shut_bool Try.underlying4 _) trodAll_mk0)) (ok_one (by kernel_rfl) rfl (okWide_bool_mk Try.underlying4 _))⟩

theorem over : Rows.fnExactMemNewRow.holds Try.pinned (OpenSpec.ofChange Rows.fnExactMemNewSpec) :=
  OpenClaim.holds_of_wide 8 Try.f8 rfl rfl rfl rfl rfl rfl rfl ⟨rfl, rfl, rfl, rfl, rfl⟩ rfl rfl rfl rfl rfl (by kernel_rfl) Try.func8 (by kernel_rfl)
    (of_decide_eq_true (by kernel_rfl)) (by unfold Func.isWrapper; first | (rw [if_pos (by decide +kernel)]; kernel_rfl) | (rw [if_neg (by decide +kernel)]; exact ⟨rfl, rfl⟩))
    (fun os started H enc _ => lifted os started H enc)

/-- The given statement. -/
theorem proved : Rows.FnExactMemNewSaid :=
  over
#print axioms proved
end Go.Proofs.Ytkbcmeachfplnaa.fnExactMemNew
