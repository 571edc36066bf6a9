/-
  At every argument the law FnExactTableNew returns true: the project's TableNew answers as the given model's TableNew, changes no argument, and what it returns is its own. No condition.
-/
import Derived.Test.YtocclalchakibaaTabN
import Derived.Test.YtocclalchakibaaSlotArgs
namespace Go.Proofs.Ytocclalchakibaa.fnExactTableNew
open Go.ChangeShapes Go.WideShapes Go.ChangeAt Go.RowKit
open Go.Proofs.Ytocclalchakibaa.Base Go.Proofs.Ytocclalchakibaa.Mem Go.Proofs.Ytocclalchakibaa.Slots Go.Proofs.Ytocclalchakibaa.Ints
set_option linter.unusedVariables false

set_option maxRecDepth 100000 in
set_option maxHeartbeats 4000000 in
theorem walk (a : Int) (wa : (Lit.int .i64 a).wf = true) (w : World) : Calls Try.prog 8 #[.int .i64 a] w fun e w' => e = .returned (.bool true) ∧ Below w.heap.size w w' := by
    clear wa
    have hK1 := fun V : World => spec_new a V
    have hK2 := fun V : World => impl_new a V
    have hm := newN_le a
    generalize newN a = n at hK1 hK2 hm
    have hn2 : n ≤ 1048576 := by omega
    have HL := Lib.hid (nosL_len n)
    generalize nosL n = l at hK1 hK2 HL
    have HK1 := Lib.hid hK1
    have HK2 := Lib.hid hK2
    clear hK1 hK2 hm
    go_enter Try.func8, Try.ntmps8
    go_wp2_with fail
    refine (HK1.out _).mono ?_
    rintro e w1 ⟨ad1, c1, rfl, hc1, ho1, hb1⟩
    have hO1 := Lib.hid ho1
    have hS1 := hb1.size
    clear ho1
    go_wp2_with fail
    refine (HK2.out _).mono ?_
    rintro e w2 ⟨ad2, c2, rfl, hc2, ho2, hb2⟩
    have hB2 := btr hb1 hb2
    have hO12 := Lib.hid (hO1.out.below hb2 (Nat.le_refl _))
    have hO2 := Lib.hid ho2
    have hS2 := hb2.size
    clear ho2 hb1 hb2 hO1
    go_wp2_with fail
    refine (eqSlotS_same (some ad2) (some ad1) n c2 c1 _ _ _ _ l _ hn2 HL.out (Nat.le_refl _) hS2 hO2.out.1 hO12.out.1).mono ?_
    rintro e w3 ⟨rfl, hb3⟩
    have hB3 := btr hB2 hb3
    have hO13 := Lib.hid (hO12.out.below hb3 hS2)
    have hO23 := Lib.hid (hO2.out.below hb3 (Nat.le_refl _))
    have hS3 := hb3.size
    clear hb3 hO2 hO12
    go_wp2_with fail
    refine (markSlotS_any (some ad2) n c2 _ _ 1 l _ hn2 (by omega) HL.out hO23.out).mono ?_
    rintro e w4 ⟨rfl, ho4, ht4⟩
    have hB4 := hB3.trans (ht4.below (B := w.heap.size) hS1 hB3.size)
    have hO24 := Lib.hid ho4
    have hO14 := Lib.hid (hO13.out.turned ht4.block (by omega) (by omega))
    have hS4 := ht4.size
    clear ho4 ht4 hO13 hO23
    go_wp2_with fail
    refine (heldSlotS_any (some ad2) n c2 _ _ 1 _ hn2 (by omega) hO24.out.1).mono ?_
    rintro e w5 ⟨rfl, rfl⟩
    have hpos : ¬ ((1 : Int) + 2 * (n : Int) < 0) := by omega
    go_wp2_with fail
    refine (HK2.out _).mono ?_
    rintro e w6 ⟨ad6, c6, rfl, hc6, ho6, hb6⟩
    have hB6 := btr hB4 hb6
    have hO6 := Lib.hid ho6
    have hO26 := Lib.hid (hO24.out.below hb6 (by omega))
    have hO16 := Lib.hid (hO14.out.below hb6 (by omega))
    have hS6 := hb6.size
    clear ho6 hb6 hO24 hO14
    go_wp2_with fail
    refine (eqSlotS_same (some ad6) (some ad1) n c6 c1 _ _ _ _ l _ hn2 HL.out (Nat.le_refl _) (by omega) hO6.out.1 hO16.out.1).mono ?_
    rintro e w7 ⟨rfl, hb7⟩
    have hB7 := btr hB6 hb7
    have hO27 := Lib.hid (hO26.out.below hb7 (by omega))
    clear hb7 hO26 hO16 hO6
    go_wp2_with fail
    refine (heldSlotS_any (some ad2) n c2 _ _ 1 _ hn2 (by omega) hO27.out.1).mono ?_
    rintro e w8 ⟨rfl, rfl⟩
    go_wp2_with fail
    go_ret
    exact ⟨rfl, hB7⟩

/-! ### The row's step -/
set_option maxRecDepth 100000 in
theorem lifted (os : Os) (started : os.Started) (H : Type) (enc : TypeId × Value → H) :
    ReturnsInHanded {} Try.checked os 8 .any (Rows.fnExactTableNewSpec.pre6 enc Try.prog Try.f8 Rows.fnExactTableNewRow.domain false) (Rows.fnExactTableNewSpec.post enc Try.prog Try.f8 false true false false) := by
  refine returnsInHanded_of_change (C := Try.checked) Base.own started (by kernel_rfl) Try.func8
    (ChangeSpec.witness6 (enc := enc) (C := Try.checked) false ⟨#[], #[.int .i64 0], []⟩ 8 (by kernel_rfl) (by kernel_rfl) (by kernel_rfl) (by kernel_rfl)) ?_
  intro W base args ds gs before hval0 hW hcnd _
  have hval : ∀ (j : Nat) t v, Try.f8.params[j]? = some t → args[j]? = some v → Value.okWide Try.prog W .any base t v := hval0
  have hW' := hW
  obtain ⟨p, q, hA0, hV, rfl, hfz, hnd⟩ := hW
  have hA : DataW.TrodAll enc Try.prog W 0 (fun _ => true) true Try.f8.params.toList args.toList ds p := hA0
  have hA1 := hA
  rw [Try.params8] at hA hval
  obtain ⟨v0, vs0, d0, ds0, p0, q0, hargs, rfl, rfl, h0, r0⟩ := trodAll_cons hA
  obtain ⟨rfl, rfl, rfl⟩ := trodAll_nil r0
  obtain rfl : args = #[v0] := by cases args; simp_all
  obtain ⟨rfl, rfl⟩ := trodVars_none hV
  obtain ⟨a0, rfl, _, _, w0⟩ := open_int Try.underlying3 (hval 0 3 v0 rfl rfl) h0
  clear hA0 hval0
  rw [List.append_nil] at hW'
  refine (walk a0 w0 W).mono fun e W' ⟨he, hg⟩ => ?_
  subst he
  exact ⟨_, rfl, Mem.post_args Slots.laid (by kernel_rfl) rfl rfl rfl hW' hA1 hg (fun _ _ _ => (trodAll_cons_mk (shut_bool Try.underlying4 _) trodAll_mk0)) (ok_one (by kernel_rfl) rfl (okWide_bool_mk Try.underlying4 _))⟩

theorem over : Rows.fnExactTableNewRow.holds Try.pinned (OpenSpec.ofChange Rows.fnExactTableNewSpec) :=
  OpenClaim.holds_of_wide 8 Try.f8 rfl rfl rfl rfl rfl rfl rfl ⟨rfl, rfl, rfl, rfl, rfl⟩ rfl rfl rfl rfl rfl (by kernel_rfl) Try.func8 (by kernel_rfl)
    (of_decide_eq_true (by kernel_rfl)) (by unfold Func.isWrapper; first | (rw [if_pos (by decide +kernel)]; kernel_rfl) | (rw [if_neg (by decide +kernel)]; exact ⟨rfl, rfl⟩))
    (fun os started H enc _ => lifted os started H enc)

/-- The given statement. -/
theorem proved : Rows.FnExactTableNewSaid :=
  over
#print axioms proved
end Go.Proofs.Ytocclalchakibaa.fnExactTableNew
