/-
  At every argument the law FnExactTableOk returns true: the project's TableOk answers as the given model's TableOk, changes no argument, and what it returns is its own. No condition.
-/
import Derived.Test.YtocclalchakibaaTabOk
import Derived.Test.YtocclalchakibaaSlotArgs
namespace Go.Proofs.Ytocclalchakibaa.fnExactTableOk
open Go.ChangeShapes Go.WideShapes Go.ChangeAt Go.RowKit
open Go.Proofs.Ytocclalchakibaa.Base Go.Proofs.Ytocclalchakibaa.Mem Go.Proofs.Ytocclalchakibaa.Slots Go.Proofs.Ytocclalchakibaa.Ints
set_option linter.unusedVariables false

set_option maxRecDepth 100000 in
set_option maxHeartbeats 4000000 in
theorem walk (A : Option Addr) (n c : Nat) (l : List Sl) (size pages : Int) (hn : n ≤ 9223372036854775807) (hl : l.length = n) (hw : wfL l) {w : World} (h1 : Lies w 0 w.heap.size A (scells l)) (ws : (Lit.int .i64 size).wf = true) (wp : (Lit.int .i64 pages).wf = true) :
    Calls Try.prog 9 #[.slice A n c, .int .i64 size, .int .i64 pages] w fun e w' => e = .returned (.bool true) ∧ Below w.heap.size w w' := by
  have hA : ∀ W, Below w.heap.size w W → Lies W 0 W.heap.size A (scells l) := fun W hb => ((h1.below hb (Nat.le_refl _)).wide (Nat.le_refl _) hb.size)
  have HA := Lib.hid hA
  have HL := Lib.hid hl
  have HW := Lib.hid hw
  have HP := Lib.hid wp
  clear wp ws
  clear hA hl hw h1
  by_cases hbig : 1048576 < n
  · go_enter Try.func9, Try.ntmps9
    go_wp2_with fail
    refine (szSlotS_no A n c 1048576 _ (by omega) (by omega) hn (by omega)).mono ?_
    rintro e w' ⟨rfl, rfl⟩
    go_wp2_with fail
    go_ret
    exact ⟨rfl, Below.refl _ _⟩
  · have hn2 : n ≤ 1048576 := by omega
    have hq : ¬ (1048576 - (n : Int) < 0) := by omega
    clear hbig hn
    go_enter Try.func9, Try.ntmps9
    go_wp2_with fail
    refine (szSlotS_yes A n c 1048576 _ (by omega) (by omega)).mono ?_
    rintro e w' ⟨rfl, rfl⟩
    go_wp2_with fail
    refine (toSlotS_any A n c 0 l _ hn2 HL.out (HA.out _ (Below.refl _ _))).mono ?_
    rintro e w1 ⟨ad1, c1, rfl, hc1, ho1, hb1⟩
    have hB1 := btr (Below.refl _ _) hb1
    have hO1 := Lib.hid ho1
    have hS1 := hb1.size
    clear ho1 hb1
    go_wp2_with fail
    refine (spec_tabOk (some ad1) n c1 _ size pages l _ hn2 HL.out HP.out hO1.out.1).mono ?_
    rintro e w2 ⟨rfl, hb2⟩
    have hB2 := btr hB1 hb2
    clear hb2
    go_wp2_with fail
    refine (toSlotS_any A n c 0 l _ hn2 HL.out (HA.out _ hB2)).mono ?_
    rintro e w3 ⟨ad3, c3, rfl, hc3, ho3, hb3⟩
    have hB3 := btr hB2 hb3
    have hO3 := Lib.hid ho3
    have hS3 := hb3.size
    clear ho3 hb3
    go_wp2_with fail
    refine (impl_tabOk (some ad3) n c3 _ size pages l _ hn2 HL.out HW.out hO3.out.1).mono ?_
    rintro e w4 ⟨rfl, hb4⟩
    have hB4 := btr hB3 hb4
    have hO4 := Lib.hid (hO3.out.below hb4 (Nat.le_refl _))
    have hS4 := hb4.size
    clear hb4
    go_wp2_with fail
    refine (toSlotS_any A n c 0 l _ hn2 HL.out (HA.out _ hB4)).mono ?_
    rintro e w5 ⟨ad5, c5, rfl, hc5, ho5, hb5⟩
    have hB5 := btr hB4 hb5
    have hK := Lib.hid (hO4.out.below hb5 hS4)
    have hO5 := Lib.hid ho5
    have hS5 := hb5.size
    clear ho5 hb5
    go_wp2_with fail
    refine (eqSlotS_same (some ad3) (some ad5) n c3 c5 _ _ _ _ l _ hn2 HL.out (Nat.le_trans hS4 hS5) (Nat.le_refl _) (hK.out.1) hO5.out.1).mono ?_
    rintro e w6 ⟨rfl, hb6⟩
    go_wp2_with fail
    go_ret
    exact ⟨rfl, btr hB5 hb6⟩

/-! ### The row's step -/
set_option maxRecDepth 100000 in
theorem lifted (os : Os) (started : os.Started) (H : Type) (enc : TypeId × Value → H) :
    ReturnsInHanded {} Try.checked os 9 .any (Rows.fnExactTableOkSpec.pre6 enc Try.prog Try.f9 Rows.fnExactTableOkRow.domain false) (Rows.fnExactTableOkSpec.post enc Try.prog Try.f9 false true false false) := by
  refine returnsInHanded_of_change (C := Try.checked) Base.own started (by kernel_rfl) Try.func9
    (ChangeSpec.witness6 (enc := enc) (C := Try.checked) false ⟨#[], #[.slice none 0 0, .int .i64 0, .int .i64 0], []⟩ 8 (by kernel_rfl) (by kernel_rfl) (by kernel_rfl) (by kernel_rfl)) ?_
  intro W base args ds gs before hval0 hW hcnd _
  have hval : ∀ (j : Nat) t v, Try.f9.params[j]? = some t → args[j]? = some v → Value.okWide Try.prog W .any base t v := hval0
  have hW' := hW
  obtain ⟨p, q, hA0, hV, rfl, hfz, hnd⟩ := hW
  have hA : DataW.TrodAll enc Try.prog W 0 (fun _ => true) true Try.f9.params.toList args.toList ds p := hA0
  have hA1 := hA
  rw [Try.params9] at hA hval
  obtain ⟨v0, vs0, d0, ds0, p0, q0, hargs, rfl, rfl, h0, r0⟩ := trodAll_cons hA
  obtain ⟨v1, vs1, d1, ds1, p1, q1, rfl, rfl, rfl, h1, r1⟩ := trodAll_cons r0
  obtain ⟨v2, vs2, d2, ds2, p2, q2, rfl, rfl, rfl, h2, r2⟩ := trodAll_cons r1
  obtain ⟨rfl, rfl, rfl⟩ := trodAll_nil r2
  obtain rfl : args = #[v0, v1, v2] := by cases args; simp_all
  obtain ⟨rfl, rfl⟩ := trodVars_none hV
  obtain ⟨A0, n0, c0, l0, rfl, hn0, hl0, hw0, h0'⟩ := Slots.open_slots (hval 0 58 v0 rfl rfl) h0
  obtain ⟨a1, rfl, _, _, w1⟩ := open_int Try.underlying3 (hval 1 3 v1 rfl rfl) h1
  obtain ⟨a2, rfl, _, _, w2⟩ := open_int Try.underlying3 (hval 2 3 v2 rfl rfl) h2
  clear hA0 hval0
  rw [List.append_nil] at hW'
  refine (walk A0 n0 c0 l0 a1 a2 hn0 hl0 hw0 h0' w1 w2).mono fun e W' ⟨he, hg⟩ => ?_
  subst he
  exact ⟨_, rfl, Mem.post_args Slots.laid (by kernel_rfl) rfl rfl rfl hW' hA1 hg (fun _ _ _ => (trodAll_cons_mk (shut_bool Try.underlying4 _) trodAll_mk0)) (ok_one (by kernel_rfl) rfl (okWide_bool_mk Try.underlying4 _))⟩

theorem over : Rows.fnExactTableOkRow.holds Try.pinned (OpenSpec.ofChange Rows.fnExactTableOkSpec) :=
  OpenClaim.holds_of_wide 9 Try.f9 rfl rfl rfl rfl rfl rfl rfl ⟨rfl, rfl, rfl, rfl, rfl⟩ rfl rfl rfl rfl rfl (by kernel_rfl) Try.func9 (by kernel_rfl)
    (of_decide_eq_true (by kernel_rfl)) (by unfold Func.isWrapper; first | (rw [if_pos (by decide +kernel)]; kernel_rfl) | (rw [if_neg (by decide +kernel)]; exact ⟨rfl, rfl⟩))
    (fun os started H enc _ => lifted os started H enc)

/-- The given statement. -/
theorem proved : Rows.FnExactTableOkSaid :=
  over
#print axioms proved
end Go.Proofs.Ytocclalchakibaa.fnExactTableOk
