/-
  At every argument the law FnExactUsesOf returns true: the project's UsesOf answers as the given model's UsesOf, changes no argument, and what it returns is its own. No condition.
-/
import Derived.Test.YtocclalchakibaaUses
import Derived.Test.YtocclalchakibaaSlotArgs
namespace Go.Proofs.Ytocclalchakibaa.fnExactUsesOf
open Go.ChangeShapes Go.WideShapes Go.ChangeAt Go.RowKit
open Go.Proofs.Ytocclalchakibaa.Base Go.Proofs.Ytocclalchakibaa.Mem Go.Proofs.Ytocclalchakibaa.Slots Go.Proofs.Ytocclalchakibaa.Ints
set_option linter.unusedVariables false

set_option maxRecDepth 100000 in
set_option maxHeartbeats 4000000 in
theorem walk (A : Option Addr) (n c : Nat) (l : List Sl) (page : Int) (hn : n ≤ 9223372036854775807) (hl : l.length = n) (hw : wfL l) {w : World} (h1 : Lies w 0 w.heap.size A (scells l)) (wp : (Lit.int .i64 page).wf = true) :
    Calls Try.prog 13 #[.slice A n c, .int .i64 page] w fun e w' => e = .returned (.bool true) ∧ Below w.heap.size w w' := by
  have hA : ∀ W, Below w.heap.size w W → Lies W 0 W.heap.size A (scells l) := fun W hb => ((h1.below hb (Nat.le_refl _)).wide (Nat.le_refl _) hb.size)
  have HA := Lib.hid hA
  have HL := Lib.hid hl
  have HW := Lib.hid hw
  clear wp
  clear hA hl hw h1
  by_cases hbig : 1048576 < n
  · go_enter Try.func13, Try.ntmps13
    go_wp2_with fail
    refine (szSlotS_no A n c 1048576 _ (by omega) (by omega) hn (by omega)).mono ?_
    rintro e w' ⟨rfl, rfl⟩
    go_wp2_with fail
    go_ret
    exact ⟨rfl, Below.refl _ _⟩
  · have hn2 : n ≤ 1048576 := by omega
    have hq : ¬ (1048576 - (n : Int) < 0) := by omega
    clear hbig hn
    go_enter Try.func13, Try.ntmps13
    go_wp2_with fail
    refine (szSlotS_yes A n c 1048576 _ (by omega) (by omega)).mono ?_
    rintro e w' ⟨rfl, rfl⟩
    have hK1 := fun (ad : Addr) (n c lo : Nat) (V : World) => spec_uses (some ad) n c lo page l V
    have hK2 := fun (A : Option Addr) (n c lo : Nat) (V : World) => impl_uses A n c lo page l V
    have hu := useS_le l page
    rw [HL.out] at hu
    generalize useS l page = u at hK1 hK2 hu
    have HK1 := Lib.hid hK1
    have HK2 := Lib.hid hK2
    clear hK1 hK2
    go_wp2_with fail
    refine (toSlotS_any A n c 0 l _ hn2 HL.out (HA.out _ (Below.refl _ _))).mono ?_
    rintro e w1 ⟨ad1, c1, rfl, hc1, ho1, hb1⟩
    have hB1 := btr (Below.refl _ _) hb1
    have hO1 := Lib.hid ho1
    have hS1 := hb1.size
    clear ho1 hb1
    go_wp2_with fail
    refine (HK1.out ad1 n c1 _ _ hn2 HL.out hO1.out.1).mono ?_
    rintro e w2 ⟨A2, m, c2, rfl, hm, ho2, hb2⟩
    have hB2 := btr hB1 hb2
    have hO2 := Lib.hid ho2
    have HM := Lib.hid hm
    have hm2 : m ≤ 1048576 := by omega
    clear ho2 hb2 hm hu
    go_wp2_with fail
    refine (toSlotS_any A n c 0 l _ hn2 HL.out (HA.out _ hB2)).mono ?_
    rintro e w3 ⟨ad3, c3, rfl, hc3, ho3, hb3⟩
    have hB3 := btr hB2 hb3
    have hO3 := Lib.hid ho3
    have hO23 := Lib.hid (hO2.out.below hb3 (Nat.le_refl _))
    have hS3 := hb3.size
    clear ho3 hb3 hO2
    go_wp2_with fail
    refine (HK2.out (some ad3) n c3 _ _ hn2 HL.out hO3.out.1).mono ?_
    rintro e w4 ⟨A4, m', c4, rfl, hm', ho4, hb4⟩
    obtain rfl : m' = m := by have := HM.out; omega
    have hB4 := btr hB3 hb4
    have hO4 := Lib.hid ho4
    have hO34 := Lib.hid (hO3.out.below hb4 (Nat.le_refl _))
    have hO24 := Lib.hid (hO23.out.below hb4 hS3)
    have hS4 := hb4.size
    clear ho4 hb4 hm' hO3 hO23
    go_wp2_with fail
    refine (eqIntS_same A4 A2 _ c4 c2 _ _ _ _ u _ hm2 HM.out hO4.out.1 hO24.out.1).mono ?_
    rintro e w5 ⟨rfl, hb5⟩
    have hB5 := btr hB4 hb5
    have hO45 := Lib.hid (hO4.out.below hb5 (Nat.le_refl _))
    have hO35 := Lib.hid (hO34.out.below hb5 hS4)
    have hO25 := Lib.hid (hO24.out.below hb5 (Nat.le_trans hS3 hS4))
    have hS5 := hb5.size
    clear hb5 hO4 hO34 hO24
    go_wp2_with fail
    refine (toSlotS_any A n c 0 l _ hn2 HL.out (HA.out _ hB5)).mono ?_
    rintro e w6 ⟨ad6, c6, rfl, hc6, ho6, hb6⟩
    have hB6 := btr hB5 hb6
    have hO6 := Lib.hid ho6
    have hO46 := Lib.hid (hO45.out.below hb6 hS5)
    have hO36 := Lib.hid (hO35.out.below hb6 (Nat.le_trans hS4 hS5))
    have hO26 := Lib.hid (hO25.out.below hb6 (by omega))
    have hS6 := hb6.size
    clear ho6 hb6 hO45 hO35 hO25
    go_wp2_with fail
    refine (eqSlotS_same (some ad3) (some ad6) n c3 c6 _ _ _ _ l _ hn2 HL.out (by omega) (Nat.le_refl _) hO36.out.1 hO6.out.1).mono ?_
    rintro e w7 ⟨rfl, hb7⟩
    have hB7 := btr hB6 hb7
    have hO47 := Lib.hid (hO46.out.below hb7 (by omega))
    have hO37 := Lib.hid (hO36.out.below hb7 (by omega))
    have hO27 := Lib.hid (hO26.out.below hb7 (by omega))
    have hS7 := hb7.size
    clear hb7 hO46 hO36 hO26 hO6
    go_wp2_with fail
    refine (markSlotS_any (some ad3) n c3 _ _ 1 l _ hn2 (by omega) HL.out hO37.out).mono ?_
    rintro e w8 ⟨rfl, ho8, ht8⟩
    have hB8 := hB7.trans (ht8.below (B := w.heap.size) (by have := hB2.size; omega) hB7.size)
    have hO48 := Lib.hid (hO47.out.turned ht8.block (by omega) (by omega))
    have hO28 := Lib.hid (hO27.out.turned ht8.block (by omega) (by omega))
    have hS8 := ht8.size
    have hpos : ¬ ((1 : Int) + 2 * (n : Int) < 0) := by omega
    clear ho8 ht8 hO47 hO37 hO27
    go_wp2_with fail
    refine (eqIntS_same A4 A2 _ c4 c2 _ _ _ _ u _ hm2 HM.out hO48.out.1 hO28.out.1).mono ?_
    rintro e w9 ⟨rfl, hb9⟩
    have hB9 := btr hB8 hb9
    have hO49 := Lib.hid (hO48.out.below hb9 (by omega))
    have hO29 := Lib.hid (hO28.out.below hb9 (by omega))
    have hS9 := hb9.size
    clear hb9 hO48 hO28
    go_wp2_with fail
    refine (markIntS_any A4 _ c4 _ _ 1 u _ hm2 (by omega) HM.out hO49.out).mono ?_
    rintro e w10 ⟨rfl, ho10, ht10⟩
    have hB10 := hB9.trans (ht10.below (B := w.heap.size) (by have := hB3.size; omega) hB9.size)
    have hO410 := Lib.hid ho10
    have hO210 := Lib.hid (hO29.out.turned ht10.block (by omega) (by omega))
    have hS10 := ht10.size
    clear ho10 ht10 hO49 hO29
    go_wp2_with fail
    refine (heldIntS_any A4 _ c4 _ _ 1 _ hm2 (by omega) hO410.out.1).mono ?_
    rintro e w11 ⟨rfl, rfl⟩
    have hpos2 : ¬ ((1 : Int) + (m' : Int) < 0) := by omega
    go_wp2_with fail
    refine (toSlotS_any A n c 0 l _ hn2 HL.out (HA.out _ hB10)).mono ?_
    rintro e w12 ⟨ad12, c12, rfl, hc12, ho12, hb12⟩
    have hB12 := btr hB10 hb12
    have hO12 := Lib.hid ho12
    have hO412 := Lib.hid (hO410.out.below hb12 (by omega))
    have hO212 := Lib.hid (hO210.out.below hb12 (by omega))
    have hS12 := hb12.size
    clear ho12 hb12 hO410 hO210
    go_wp2_with fail
    refine (HK2.out (some ad12) n c12 _ _ hn2 HL.out hO12.out.1).mono ?_
    rintro e w13 ⟨A13, m'', c13, rfl, hm'', ho13, hb13⟩
    obtain rfl : m'' = m' := by have := HM.out; omega
    have hB13 := btr hB12 hb13
    have hO13 := Lib.hid ho13
    have hO413 := Lib.hid (hO412.out.below hb13 (by omega))
    have hO213 := Lib.hid (hO212.out.below hb13 (by omega))
    have hS13 := hb13.size
    clear ho13 hb13 hm'' hO412 hO212 hO12
    go_wp2_with fail
    refine (eqIntS_same A13 A2 _ c13 c2 _ _ _ _ u _ hm2 HM.out hO13.out.1 hO213.out.1).mono ?_
    rintro e w14 ⟨rfl, hb14⟩
    have hB14 := btr hB13 hb14
    have hO414 := Lib.hid (hO413.out.below hb14 (by omega))
    clear hb14 hO413 hO213
    go_wp2_with fail
    refine (heldIntS_any A4 _ c4 _ _ 1 _ hm2 (by omega) hO414.out.1).mono ?_
    rintro e w15 ⟨rfl, rfl⟩
    go_wp2_with fail
    go_ret
    exact ⟨rfl, hB14⟩

/-! ### The row's step -/
set_option maxRecDepth 100000 in
theorem lifted (os : Os) (started : os.Started) (H : Type) (enc : TypeId × Value → H) :
    ReturnsInHanded {} Try.checked os 13 .any (Rows.fnExactUsesOfSpec.pre6 enc Try.prog Try.f13 Rows.fnExactUsesOfRow.domain false) (Rows.fnExactUsesOfSpec.post enc Try.prog Try.f13 false true false false) := by
  refine returnsInHanded_of_change (C := Try.checked) Base.own started (by kernel_rfl) Try.func13
    (ChangeSpec.witness6 (enc := enc) (C := Try.checked) false ⟨#[], #[.slice none 0 0, .int .i64 0], []⟩ 8 (by kernel_rfl) (by kernel_rfl) (by kernel_rfl) (by kernel_rfl)) ?_
  intro W base args ds gs before hval0 hW hcnd _
  have hval : ∀ (j : Nat) t v, Try.f13.params[j]? = some t → args[j]? = some v → Value.okWide Try.prog W .any base t v := hval0
  have hW' := hW
  obtain ⟨p, q, hA0, hV, rfl, hfz, hnd⟩ := hW
  have hA : DataW.TrodAll enc Try.prog W 0 (fun _ => true) true Try.f13.params.toList args.toList ds p := hA0
  have hA1 := hA
  rw [Try.params13] at hA hval
  obtain ⟨v0, vs0, d0, ds0, p0, q0, hargs, rfl, rfl, h0, r0⟩ := trodAll_cons hA
  obtain ⟨v1, vs1, d1, ds1, p1, q1, rfl, rfl, rfl, h1, r1⟩ := trodAll_cons r0
  obtain ⟨rfl, rfl, rfl⟩ := trodAll_nil r1
  obtain rfl : args = #[v0, v1] := by cases args; simp_all
  obtain ⟨rfl, rfl⟩ := trodVars_none hV
  obtain ⟨A0, n0, c0, l0, rfl, hn0, hl0, hw0, h0'⟩ := Slots.open_slots (hval 0 58 v0 rfl rfl) h0
  obtain ⟨a1, rfl, _, _, w1⟩ := open_int Try.underlying3 (hval 1 3 v1 rfl rfl) h1
  clear hA0 hval0
  rw [List.append_nil] at hW'
  refine (walk A0 n0 c0 l0 a1 hn0 hl0 hw0 h0' w1).mono fun e W' ⟨he, hg⟩ => ?_
  subst he
  exact ⟨_, rfl, Mem.post_args Slots.laid (by kernel_rfl) rfl rfl rfl hW' hA1 hg (fun _ _ _ => (trodAll_cons_mk (shut_bool Try.underlying4 _) trodAll_mk0)) (ok_one (by kernel_rfl) rfl (okWide_bool_mk Try.underlying4 _))⟩

theorem over : Rows.fnExactUsesOfRow.holds Try.pinned (OpenSpec.ofChange Rows.fnExactUsesOfSpec) :=
  OpenClaim.holds_of_wide 13 Try.f13 rfl rfl rfl rfl rfl rfl rfl ⟨rfl, rfl, rfl, rfl, rfl⟩ rfl rfl rfl rfl rfl (by kernel_rfl) Try.func13 (by kernel_rfl)
    (of_decide_eq_true (by kernel_rfl)) (by unfold Func.isWrapper; first | (rw [if_pos (by decide +kernel)]; kernel_rfl) | (rw [if_neg (by decide +kernel)]; exact ⟨rfl, rfl⟩))
    (fun os started H enc _ => lifted os started H enc)

/-- The given statement. -/
theorem proved : Rows.FnExactUsesOfSaid :=
  over
#print axioms proved
end Go.Proofs.Ytocclalchakibaa.fnExactUsesOf
