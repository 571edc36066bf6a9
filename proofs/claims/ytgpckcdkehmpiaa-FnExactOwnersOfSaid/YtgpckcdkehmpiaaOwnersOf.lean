/-
  At every argument the law FnExactOwnersOf returns true: the project's OwnersOf answers as the given model's OwnersOf, changes no argument, and what it returns is its own. No condition.
-/
import Derived.Test.YtgpckcdkehmpiaaOwnImpl
import Derived.Test.YtgpckcdkehmpiaaSlotArgs
import Derived.Test.YtgpckcdkehmpiaaOrdT
namespace Go.Proofs.Ytgpckcdkehmpiaa.fnExactOwnersOf
set_option maxRecDepth 100000
open Go.ChangeShapes Go.WideShapes Go.ChangeAt Go.RowKit
open Go.Proofs.Ytgpckcdkehmpiaa.Base Go.Proofs.Ytgpckcdkehmpiaa.Mem Go.Proofs.Ytgpckcdkehmpiaa.Slots Go.Proofs.Ytgpckcdkehmpiaa.Ints Go.Proofs.Ytgpckcdkehmpiaa.Ctls Go.Proofs.Ytgpckcdkehmpiaa.Owns
set_option linter.unusedVariables false
set_option linter.unusedSimpArgs false

set_option maxRecDepth 100000 in
set_option maxHeartbeats 8000000 in
theorem walk (a0 : Int) (a1 : Int) (w0 : (Lit.int .i64 a0).wf = true) (w1 : (Lit.int .i64 a1).wf = true) (w : World) :
    Calls Try.prog 8 #[.int .i64 a0, .int .i64 a1] w fun e w' => e = .returned (.bool true) ∧ Below w.heap.size w w' := by
  have HW0 := Lib.hid w0
  clear w0
  have HW1 := Lib.hid w1
  clear w1
  have hK1 := fun V : World => spec_ownersOf a0 a1 V
  have hK2 := fun V : World => impl_ownersOf a0 a1 V HW0.out HW1.out
  have hu : (ownersOf a0 a1).length = 2 := rfl
  generalize ownersOf a0 a1 = u at hK1 hK2 hu
  have HK1 := Lib.hid hK1
  have HK2 := Lib.hid hK2
  clear hK1 hK2
  obtain ⟨N, hN⟩ : ∃ N, u.length = N := ⟨_, rfl⟩
  have HU := Lib.hid hN
  have hmN : N ≤ 1048576 := by omega
  clear hN hu
  obtain ⟨q2, hq2⟩ : ∃ q : Nat, q = 1 + N := ⟨_, rfl⟩
  have Hq2 := Lib.hid (show ((1 : Nat) : Int) + (N : Int) = (q2 : Int) by omega)
  have hpq2 : ¬ ((q2 : Int) < 0) := by omega
  go_enter Try.func8, Try.ntmps8
  go_wp2_with fail
  refine (HK1.out _).mono ?_
  rintro e w1 ⟨A1', n1', c1', rfl, hl1, ho1, hb1⟩
  have he1 := HU.out.symm.trans hl1
  subst he1
  have hB1 := btr (Below.refl _ _) hb1
  have hS1 := hb1.size
  have hOw0_1 := Lib.hid ho1
  clear hl1 ho1 hb1
  go_wp2_with fail
  refine (HK2.out _).mono ?_
  rintro e w2 ⟨A2', n2', c2', rfl, hl2, ho2, hb2⟩
  have he2 := HU.out.symm.trans hl2
  subst he2
  have hB2 := btr hB1 hb2
  have hS2 := hb2.size
  have hOw0_2 := Lib.hid (hOw0_1.out.below hb2 (by omega))
  have hOg0_2 := Lib.hid ho2
  clear hOw0_1 hl2 ho2 hb2
  go_wp2_with fail
  refine (eqIntS_same A2' A1' N c2' c1' _ _ _ _ u _ hmN HU.out hOg0_2.out.1 hOw0_2.out.1).mono ?_
  rintro e w3 ⟨rfl, hb3⟩
  have hB3 := btr hB2 hb3
  have hS3 := hb3.size
  have hOw0_3 := Lib.hid (hOw0_2.out.below hb3 (by omega))
  have hOg0_3 := Lib.hid (hOg0_2.out.below hb3 (by omega))
  clear hOw0_2 hOg0_2 hb3
  go_wp2_with fail
  refine (markIntS_any A2' N c2' _ _ 1 u _ hmN (by omega) HU.out hOg0_3.out).mono ?_
  rintro e w4 ⟨he, ho4, ht4⟩
  rw [Hq2.out] at he
  subst he
  have hB4 := hB3.trans (ht4.below (B := w.heap.size) (by omega) hB3.size)
  have hS4 := ht4.size
  have hOw0_4 := Lib.hid (hOw0_3.out.turned ht4.block (by omega) (by omega))
  have hOg0_4 := Lib.hid ho4
  clear hOw0_3 hOg0_3 ho4 ht4
  go_wp2_with fail
  refine (heldIntS_any A2' N c2' _ _ 1 _ hmN (by omega) hOg0_4.out.1).mono ?_
  rintro e w' ⟨he, rfl⟩
  rw [Hq2.out] at he
  subst he
  go_wp2_with fail
  refine (HK2.out _).mono ?_
  rintro e w6 ⟨A6', n6', c6', rfl, hl6, ho6, hb6⟩
  have he6 := HU.out.symm.trans hl6
  subst he6
  have hB6 := btr hB4 hb6
  have hS6 := hb6.size
  have hOw0_6 := Lib.hid (hOw0_4.out.below hb6 (by omega))
  have hOg0_6 := Lib.hid (hOg0_4.out.below hb6 (by omega))
  have hOh0_6 := Lib.hid ho6
  clear hOw0_4 hOg0_4 hl6 ho6 hb6
  go_wp2_with fail
  refine (eqIntS_same A6' A1' N c6' c1' _ _ _ _ u _ hmN HU.out hOh0_6.out.1 hOw0_6.out.1).mono ?_
  rintro e w7 ⟨rfl, hb7⟩
  have hB7 := btr hB6 hb7
  have hS7 := hb7.size
  have hOw0_7 := Lib.hid (hOw0_6.out.below hb7 (by omega))
  have hOg0_7 := Lib.hid (hOg0_6.out.below hb7 (by omega))
  have hOh0_7 := Lib.hid (hOh0_6.out.below hb7 (by omega))
  clear hOw0_6 hOg0_6 hOh0_6 hb7
  go_wp2_with fail
  refine (heldIntS_any A2' N c2' _ _ 1 _ hmN (by omega) hOg0_7.out.1).mono ?_
  rintro e w' ⟨he, rfl⟩
  rw [Hq2.out] at he
  subst he
  go_wp2_with fail
  go_ret
  exact ⟨rfl, hB7⟩

/-! ### The row's step -/
set_option maxRecDepth 100000 in
theorem lifted (os : Os) (started : os.Started) (H : Type) (enc : TypeId × Value → H) :
    ReturnsInHanded {} Try.checked os 8 .any (Rows.fnExactOwnersOfSpec.pre6 enc Try.prog Try.f8 Rows.fnExactOwnersOfRow.domain false) (Rows.fnExactOwnersOfSpec.post enc Try.prog Try.f8 false true false false) := by
  refine returnsInHanded_of_change (C := Try.checked) Base.own started (by kernel_rfl) Try.func8
    (ChangeSpec.witness6 (enc := enc) (C := Try.checked) false ⟨#[], #[.int .i64 0, .int .i64 0], []⟩ 8 (by kernel_rfl) (by kernel_rfl) (by kernel_rfl) (by kernel_rfl)) ?_
  intro W base args ds gs before hval0 hW hcnd _
  have hval : ∀ (j : Nat) t v, Try.f8.params[j]? = some t → args[j]? = some v → Value.okWide Try.prog W .any base t v := hval0
  have hW' := hW
  obtain ⟨p, q, hA0, hV, rfl, hfz, hnd⟩ := hW
  have hA : DataW.TrodAll enc Try.prog W 0 (fun _ => true) true Try.f8.params.toList args.toList ds p := hA0
  have hA1 := hA
  rw [Try.params8] at hA hval
  obtain ⟨v0, vs0, d0, ds0, p0, q0, hargs, rfl, rfl, h0, r0⟩ := trodAll_cons hA
  obtain ⟨v1, vs1, d1, ds1, p1, q1, rfl, rfl, rfl, h1, r1⟩ := trodAll_cons r0
  obtain ⟨rfl, rfl, rfl⟩ := trodAll_nil r1
  obtain rfl : args = #[v0, v1] := by cases args; simp_all
  obtain ⟨rfl, rfl⟩ := trodVars_none hV
  obtain ⟨a0, rfl, _, _, w0⟩ := open_int Try.underlying3 (hval 0 3 v0 rfl rfl) h0
  obtain ⟨a1, rfl, _, _, w1⟩ := open_int Try.underlying3 (hval 1 3 v1 rfl rfl) h1
  clear hA0 hval0
  rw [List.append_nil] at hW'
  refine (walk a0 a1 w0 w1 W).mono fun e W' ⟨he, hg⟩ => ?_
  subst he
  exact ⟨_, rfl, Mem.post_args Slots.laid (by kernel_rfl) rfl rfl rfl hW' hA1 hg (fun _ _ _ => (trodAll_cons_mk (shut_bool Try.underlying4 _) trodAll_mk0)) (ok_one (by kernel_rfl) rfl (okWide_bool_mk Try.underlying4 _))⟩

theorem over : Rows.fnExactOwnersOfRow.holds Try.pinned (OpenSpec.ofChange Rows.fnExactOwnersOfSpec) :=
  OpenClaim.holds_of_wide 8 Try.f8 rfl rfl rfl rfl rfl rfl rfl ⟨rfl, rfl, rfl, rfl, rfl⟩ rfl rfl rfl rfl rfl (by kernel_rfl) Try.func8 (by kernel_rfl)
    (of_decide_eq_true (by kernel_rfl)) (by unfold Func.isWrapper; first | (rw [if_pos (by decide +kernel)]; kernel_rfl) | (rw [if_neg (by decide +kernel)]; exact ⟨rfl, rfl⟩))
    (fun os started H enc _ => lifted os started H enc)

/-- The given statement. -/
theorem proved : Rows.FnExactOwnersOfSaid :=
  over
#print axioms proved
end Go.Proofs.Ytgpckcdkehmpiaa.fnExactOwnersOf
