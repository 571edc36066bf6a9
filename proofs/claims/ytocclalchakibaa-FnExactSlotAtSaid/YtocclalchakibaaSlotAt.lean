/-
  At every argument the law FnExactSlotAt returns true: the project's SlotAt answers as the given model's SlotAt, changes no argument, and what it returns is its own. No condition.
-/
import Derived.Test.YtocclalchakibaaTabA
import Derived.Test.YtocclalchakibaaSlotArgs
namespace Go.Proofs.Ytocclalchakibaa.fnExactSlotAt
open Go.ChangeShapes Go.WideShapes Go.ChangeAt Go.RowKit
open Go.Proofs.Ytocclalchakibaa.Base Go.Proofs.Ytocclalchakibaa.Mem Go.Proofs.Ytocclalchakibaa.Slots Go.Proofs.Ytocclalchakibaa.Ints
set_option linter.unusedVariables false

set_option maxRecDepth 100000 in
set_option maxHeartbeats 4000000 in
theorem walk (A : Option Addr) (n c : Nat) (l : List Sl) (page : Int) (hn : n ≤ 9223372036854775807) (hl : l.length = n) (hw : wfL l) {w : World} (h1 : Lies w 0 w.heap.size A (scells l)) (wp : (Lit.int .i64 page).wf = true) :
    Calls Try.prog 10 #[.slice A n c, .int .i64 page] w fun e w' => e = .returned (.bool true) ∧ Below w.heap.size w w' := by
  have hA : ∀ W, Below w.heap.size w W → Lies W 0 W.heap.size A (scells l) := fun W hb => ((h1.below hb (Nat.le_refl _)).wide (Nat.le_refl _) hb.size)
  have HA := Lib.hid hA
  have HL := Lib.hid hl
  have HW := Lib.hid hw
  clear wp
  clear hA hl hw h1
  by_cases hbig : 1048576 < n
  · go_enter Try.func10, Try.ntmps10
    go_wp2_with fail
    refine (szSlotS_no A n c 1048576 _ (by omega) (by omega) hn (by omega)).mono ?_
    rintro e w' ⟨rfl, rfl⟩
    go_wp2_with fail
    go_ret
    exact ⟨rfl, Below.refl _ _⟩
  · have hn2 : n ≤ 1048576 := by omega
    have hq : ¬ (1048576 - (n : Int) < 0) := by omega
    clear hbig hn
    go_enter Try.func10, Try.ntmps10
    go_wp2_with fail
    refine (szSlotS_yes A n c 1048576 _ (by omega) (by omega)).mono ?_
    rintro e w' ⟨rfl, rfl⟩
    have hK1 := fun (ad : Addr) (n c lo : Nat) (V : World) => spec_at (some ad) n c lo page l V
    have hK2 := fun (ad : Addr) (n c lo : Nat) (V : World) => impl_at (some ad) n c lo page l V
    rw [show atS l page = ((atS l page).1, (atS l page).2) from rfl] at hK1 hK2
    generalize (atS l page).1 = x at hK1 hK2
    generalize (atS l page).2 = y at hK1 hK2
    have HK1 := Lib.hid hK1
    have HK2 := Lib.hid hK2
    clear hK1 hK2
    go_wp2_with fail
    refine (toSlotS_any A n c 0 l _ hn2 HL.out (HA.out _ (Below.refl _ _))).mono ?_
    rintro e w1 ⟨ad1, c1, rfl, hc1, ho1, hb1⟩
    have hB1 := btr (Below.refl _ _) hb1
    have hO1 := Lib.hid ho1
    have hS1 := hb1.size
    clear ho1 hb1
    go_wp2_with fail
    refine (HK1.out ad1 n c1 _ _ hn2 HL.out hO1.out.1).mono ?_
    rintro e w2 ⟨rfl, hb2⟩
    have hB2 := btr (btr hB1 hb2) ((Below.refl _ _).alloc (Nat.le_refl _) (.cells #[.int .i64 x, .int .i64 y] 26))
    clear hb2
    go_wp2_with fail
    refine (toSlotS_any A n c 0 l _ hn2 HL.out (HA.out _ hB2)).mono ?_
    rintro e w3 ⟨ad3, c3, rfl, hc3, ho3, hb3⟩
    have hB3 := btr hB2 hb3
    have hO3 := Lib.hid ho3
    have HT := Lib.hid hb3
    have hS3 : w2.heap.size < w3.heap.size := by have := hb3.size; simp at this; omega
    clear ho3 hb3
    go_wp2_with fail
    refine (HK2.out ad3 n c3 _ _ hn2 HL.out hO3.out.1).mono ?_
    rintro e w4 ⟨rfl, hb4⟩
    have hB4 := btr hB3 hb4
    obtain ⟨j0, j1, _, _, _⟩ := two_kept (btr HT.out hb4)
    have hO4 := Lib.hid (hO3.out.below hb4 (Nat.le_refl _))
    have hS4 := hb4.size
    have hlt4 : w2.heap.size < w4.heap.size := by omega
    have hne : w2.heap.size ≠ w4.heap.size := by omega
    clear hb4 HT
    go_wp2_with fail
    refine (eqSlot_same x y _).mono ?_
    rintro e w5 ⟨rfl, hb5⟩
    have hB5 := btr (btr hB4 ((Below.refl _ _).alloc (Nat.le_refl _) (.cells #[.int .i64 x, .int .i64 y] 26))) hb5
    have hO5 := Lib.hid (hO4.out.below (btr ((Below.refl _ _).alloc (Nat.le_refl _) (.cells #[.int .i64 x, .int .i64 y] 26)) hb5) hS4)
    have hS5 : w4.heap.size ≤ w5.heap.size := by have := hb5.size; simp at this; omega
    clear hb5 j0 j1
    go_wp2_with fail
    refine (toSlotS_any A n c 0 l _ hn2 HL.out (HA.out _ hB5)).mono ?_
    rintro e w6 ⟨ad6, c6, rfl, hc6, ho6, hb6⟩
    have hB6 := btr hB5 hb6
    have hK := Lib.hid (hO5.out.below hb6 (by omega))
    have hO6 := Lib.hid ho6
    have hS6 := hb6.size
    clear ho6 hb6
    go_wp2_with fail
    refine (eqSlotS_same (some ad3) (some ad6) n c3 c6 _ _ _ _ l _ hn2 HL.out (by omega) (Nat.le_refl _) hK.out.1 hO6.out.1).mono ?_
    rintro e w7 ⟨rfl, hb7⟩
    go_wp2_with fail
    go_ret
    exact ⟨rfl, btr hB6 hb7⟩

/-! ### The row's step -/
set_option maxRecDepth 100000 in
theorem lifted (os : Os) (started : os.Started) (H : Type) (enc : TypeId × Value → H) :
    ReturnsInHanded {} Try.checked os 10 .any (Rows.fnExactSlotAtSpec.pre6 enc Try.prog Try.f10 Rows.fnExactSlotAtRow.domain false) (Rows.fnExactSlotAtSpec.post enc Try.prog Try.f10 false true false false) := by
  refine returnsInHanded_of_change (C := Try.checked) Base.own started (by kernel_rfl) Try.func10
    (ChangeSpec.witness6 (enc := enc) (C := Try.checked) false ⟨#[], #[.slice none 0 0, .int .i64 0], []⟩ 8 (by kernel_rfl) (by kernel_rfl) (by kernel_rfl) (by kernel_rfl)) ?_
  intro W base args ds gs before hval0 hW hcnd _
  have hval : ∀ (j : Nat) t v, Try.f10.params[j]? = some t → args[j]? = some v → Value.okWide Try.prog W .any base t v := hval0
  have hW' := hW
  obtain ⟨p, q, hA0, hV, rfl, hfz, hnd⟩ := hW
  have hA : DataW.TrodAll enc Try.prog W 0 (fun _ => true) true Try.f10.params.toList args.toList ds p := hA0
  have hA1 := hA
  rw [Try.params10] at hA hval
  obtain ⟨v0, vs0, d0, ds0, p0, q0, hargs, rfl, rfl, h0, r0⟩ := trodAll_cons hA
  obtain ⟨v1, vs1, d1, ds1, p1, q1, rfl, rfl, rfl, h1, r1⟩ := trodAll_cons r0
  obtain ⟨rfl, rfl, rfl⟩ := trodAll_nil r1
  obtain rfl : args = #[v0, v1] := by cases args; simp_all
  obtain ⟨rfl, rfl⟩ := trodVars_none hV
  obtain ⟨A0, n0, c0, l0, rfl, hn0, hl0, hw0, h0'⟩ := Slots.open_slots (hval 0 58 v0 rfl rfl) h0
  obtain ⟨a1, rfl, _, _, w1⟩ := open_int Try.underlying3 (hval 1 3 v1 rfl rfl) h1
  clear hA0 hval0
  rw [List.append_nil] at hW'
  refine (walk A0 n0 c0 l0 a1 hn0 hl0 hw0 h0' w1).mono fun e W' ⟨he, hg⟩ => ?_
  subst he
  exact ⟨_, rfl, Mem.post_args Slots.laid (by kernel_rfl) rfl rfl rfl hW' hA1 hg (fun _ _ _ => (trodAll_cons_mk (shut_bool Try.underlying4 _) trodAll_mk0)) (ok_one (by kernel_rfl) rfl (okWide_bool_mk Try.underlying4 _))⟩

theorem over : Rows.fnExactSlotAtRow.holds Try.pinned (OpenSpec.ofChange Rows.fnExactSlotAtSpec) :=
  OpenClaim.holds_of_wide 10 Try.f10 rfl rfl rfl rfl rfl rfl rfl ⟨rfl, rfl, rfl, rfl, rfl⟩ rfl rfl rfl rfl rfl (by kernel_rfl) Try.func10 (by kernel_rfl)
    (of_decide_eq_true (by kernel_rfl)) (by unfold Func.isWrapper; first | (rw [if_pos (by decide +kernel)]; kernel_rfl) | (rw [if_neg (by decide +kernel)]; exact ⟨rfl, rfl⟩))
    (fun os started H enc _ => lifted os started H enc)

/-- The given statement. -/
theorem proved : Rows.FnExactSlotAtSaid :=
  over
#print axioms proved
end Go.Proofs.Ytocclalchakibaa.fnExactSlotAt
