/-
  At every argument the law FnExactWithSlot returns true: the project's WithSlot answers as the given model's WithSlot, changes no argument, and what it returns is its own. No condition.
-/
import Derived.Test.YtocclalchakibaaWith
import Derived.Test.YtocclalchakibaaSlotArgs
import Derived.Test.YtocclalchakibaaOrd
namespace Go.Proofs.Ytocclalchakibaa.fnExactWithSlot
open Go.ChangeShapes Go.WideShapes Go.ChangeAt Go.RowKit
open Go.Proofs.Ytocclalchakibaa.Base Go.Proofs.Ytocclalchakibaa.Mem Go.Proofs.Ytocclalchakibaa.Slots Go.Proofs.Ytocclalchakibaa.Ints
set_option linter.unusedVariables false

set_option maxRecDepth 100000 in
set_option maxHeartbeats 4000000 in
theorem walk (A : Option Addr) (n c : Nat) (l : List Sl) (page x y : Int) (hn : n ≤ 9223372036854775807) (hl : l.length = n) (hw : wfL l) {w : World} (h1 : Lies w 0 w.heap.size A (scells l)) (wp : (Lit.int .i64 page).wf = true) (wx : wfS (x, y)) :
    Calls Try.prog 11 #[.slice A n c, .int .i64 page, .agg #[.int .i64 x, .int .i64 y]] w fun e w' => e = .returned (.bool true) ∧ Below w.heap.size w w' := by
  have hA : ∀ W, Below w.heap.size w W → Lies W 0 W.heap.size A (scells l) := fun W hb => ((h1.below hb (Nat.le_refl _)).wide (Nat.le_refl _) hb.size)
  have HA := Lib.hid hA
  have HL := Lib.hid hl
  have HW := Lib.hid hw
  clear wp wx
  clear hA hl hw h1
  by_cases hbig : 1048576 < n
  · go_enter Try.func11, Try.ntmps11
    go_wp2_with fail
    refine (szSlotS_no A n c 1048576 _ (by omega) (by omega) hn (by omega)).mono ?_
    rintro e w' ⟨rfl, rfl⟩
    go_wp2_with fail
    go_ret
    exact ⟨rfl, (Below.refl _ _).alloc (Nat.le_refl _) _⟩
  · have hn2 : n ≤ 1048576 := by omega
    have hq : ¬ (1048576 - (n : Int) < 0) := by omega
    clear hbig hn
    go_enter Try.func11, Try.ntmps11
    go_wp2_with fail
    refine (szSlotS_yes A n c 1048576 _ (by omega) (by omega)).mono ?_
    rintro e w' ⟨rfl, rfl⟩
    have hK1 := fun (ad : Addr) (n c lo : Nat) (V : World) => spec_with ad n c lo page x y l V
    have hK2 := fun (ad : Addr) (n c lo : Nat) (V : World) => impl_with ad n c lo page x y l V
    have hu := withS_len l page (x, y)
    rw [HL.out] at hu
    generalize withS l page (x, y) = u at hK1 hK2 hu
    have HU := Lib.hid hu
    have HK1 := Lib.hid hK1
    have HK2 := Lib.hid hK2
    clear hK1 hK2 hu
    obtain ⟨k0, k1, hB0, hsz⟩ := boxed w (.int .i64 x) (.int .i64 y) 53
    go_wp2_with fail
    generalize w.alloc (.cells #[.int .i64 x, .int .i64 y] 53) = w0 at k0 k1 hB0 hsz ⊢
    have HS := Lib.hid (show ∀ V, Below w0.heap.size w0 V → V.cell? ⟨w.heap.size, 0, none⟩ = some (.int .i64 x) ∧ V.cell? ⟨w.heap.size, 1, none⟩ = some (.int .i64 y) from fun V hb => ⟨(hb.cell (p := ⟨w.heap.size, 0, none⟩) hsz).trans k0, (hb.cell (p := ⟨w.heap.size, 1, none⟩) hsz).trans k1⟩)
    clear k0 k1
    have hR0 := Below.refl w0.heap.size w0
    refine Ord.wp_region_ord (fun w' => w'.cell? ⟨w.heap.size, 0, none⟩ = some (.int .i64 x) ∧ w'.cell? ⟨w.heap.size, 1, none⟩ = some (.int .i64 y)) [(0, true), (2, true), (3, true), (1, false), (4, false), (5, false), (6, true)] (by kernel_rfl) (by kernel_rfl) rfl (by kernel_rfl) (HS.out _ hR0.drew) ?_
    simp only [Ord.ordOps, List.getElem?_toArray, List.getElem?_cons_zero, List.getElem?_cons_succ]
    repeat (first
      | (refine Ord.ord_plain (v := ?_) rfl (fun w' hS => ?_) ?_; rotate_left; (focus ((try dsimp only at hS); go_simp; first | done | with_reducible rfl)); simp only [Act.put, List.setIfInBounds_toArray, List.set_cons_zero, List.set_cons_succ])
      | (refine Ord.ord_skip (by rfl) ?_; simp only [Act.put, List.setIfInBounds_toArray, List.set_cons_zero, List.set_cons_succ])
      | (refine Ord.ord_take (v := ?_) (by rfl) (fun w' hS => ?_) ?_; rotate_left; (focus ((try dsimp only at hS); go_simp; first | done | with_reducible rfl)); simp only [Act.put, List.setIfInBounds_toArray, List.set_cons_zero, List.set_cons_succ]))
    refine Ord.ord_call (fun K hK => ?_)
    go_simp
    go_wp2_with fail
    refine (toSlotS_any A n c 0 l _ hn2 HL.out (HA.out _ (btr hB0 hR0.drew))).mono ?_
    rintro e w1 ⟨ad1, c1, rfl, hc1, ho1, hb1⟩
    have hR1 := btr hR0.drew hb1
    have hO1 := Lib.hid ho1
    have hS1 : w0.heap.size ≤ w1.heap.size := hb1.size
    clear ho1 hb1
    refine hK.out _ _ (HS.out _ hR1) ?_
    clear hK K
    repeat (first
      | (refine Ord.ord_plain (v := ?_) rfl (fun w' hS => ?_) ?_; rotate_left; (focus ((try dsimp only at hS); go_simp; first | done | with_reducible rfl)); simp only [Act.put, List.setIfInBounds_toArray, List.set_cons_zero, List.set_cons_succ])
      | (refine Ord.ord_skip (by rfl) ?_; simp only [Act.put, List.setIfInBounds_toArray, List.set_cons_zero, List.set_cons_succ])
      | (refine Ord.ord_take (v := ?_) (by rfl) (fun w' hS => ?_) ?_; rotate_left; (focus ((try dsimp only at hS); go_simp; first | done | with_reducible rfl)); simp only [Act.put, List.setIfInBounds_toArray, List.set_cons_zero, List.set_cons_succ]))
    refine Ord.ord_call (fun K hK => ?_)
    go_simp
    go_wp2_with fail
    refine (toSlot_any x y _).mono ?_
    rintro e w2 ⟨rfl, hb2⟩
    have hR2 := btr hR1 hb2
    have hO1_2 := Lib.hid (hO1.out.below hb2 (Nat.le_refl _))
    have hS2 := hb2.size
    clear hb2
    refine hK.out _ _ (HS.out _ hR2) ?_
    clear hK K
    repeat (first
      | (refine Ord.ord_plain (v := ?_) rfl (fun w' hS => ?_) ?_; rotate_left; (focus ((try dsimp only at hS); go_simp; first | done | with_reducible rfl)); simp only [Act.put, List.setIfInBounds_toArray, List.set_cons_zero, List.set_cons_succ])
      | (refine Ord.ord_skip (by rfl) ?_; simp only [Act.put, List.setIfInBounds_toArray, List.set_cons_zero, List.set_cons_succ])
      | (refine Ord.ord_take (v := ?_) (by rfl) (fun w' hS => ?_) ?_; rotate_left; (focus ((try dsimp only at hS); go_simp; first | done | with_reducible rfl)); simp only [Act.put, List.setIfInBounds_toArray, List.set_cons_zero, List.set_cons_succ]))
    refine Ord.ord_call (fun K hK => ?_)
    go_simp
    go_wp2_with fail
    refine (HK1.out ad1 n c1 _ _ hn2 HL.out (hO1_2.out.1.wide (Nat.le_refl _) hS2)).mono ?_
    rintro e w3 ⟨ad3, c3, rfl, hc3, ho3, hb3⟩
    have hR3 := btr hR2 hb3
    have hO3 := Lib.hid ho3
    have hS3 := hb3.size
    clear ho3 hb3
    refine hK.out _ _ (HS.out _ hR3) ?_
    clear hK K
    repeat (first
      | (refine Ord.ord_plain (v := ?_) rfl (fun w' hS => ?_) ?_; rotate_left; (focus ((try dsimp only at hS); go_simp; first | done | with_reducible rfl)); simp only [Act.put, List.setIfInBounds_toArray, List.set_cons_zero, List.set_cons_succ])
      | (refine Ord.ord_skip (by rfl) ?_; simp only [Act.put, List.setIfInBounds_toArray, List.set_cons_zero, List.set_cons_succ])
      | (refine Ord.ord_take (v := ?_) (by rfl) (fun w' hS => ?_) ?_; rotate_left; (focus ((try dsimp only at hS); go_simp; first | done | with_reducible rfl)); simp only [Act.put, List.setIfInBounds_toArray, List.set_cons_zero, List.set_cons_succ]))
    refine Ord.ord_nil ?_
    go_wp2_with fail
    refine (toSlotS_any A n c 0 l _ hn2 HL.out (HA.out _ (btr hB0 hR3))).mono ?_
    rintro e w4 ⟨ad4, c4, rfl, hc4, ho4, hb4⟩
    have hR4 := btr hR3 hb4
    have hO4 := Lib.hid ho4
    have hO3_4 := Lib.hid (hO3.out.below hb4 (Nat.le_refl _))
    have hS4 := hb4.size
    clear ho4 hb4 hO3 hO1 hO1_2
    obtain ⟨j0, j1⟩ := HS.out _ hR4
    go_wp2_with fail
    refine (toSlot_any x y _).mono ?_
    rintro e w5 ⟨rfl, hb5⟩
    have hR5 := btr hR4 hb5
    have hO4_5 := Lib.hid (hO4.out.below hb5 (Nat.le_refl _))
    have hO3_5 := Lib.hid (hO3_4.out.below hb5 hS4)
    have hS5 := hb5.size
    clear hb5 hO4 hO3_4 j0 j1
    go_wp2_with fail
    refine (HK2.out ad4 n c4 _ _ hn2 HL.out (hO4_5.out.1.wide (Nat.le_refl _) hS5)).mono ?_
    rintro e w6 ⟨ad6, c6, rfl, hc6, ho6, hb6⟩
    have hR6 := btr hR5 hb6
    have hO6 := Lib.hid ho6
    have hO4_6 := Lib.hid (hO4_5.out.below hb6 (by omega))
    have hO3_6 := Lib.hid (hO3_5.out.below hb6 (by omega))
    have hS6 := hb6.size
    clear ho6 hb6 hO4_5 hO3_5
    go_wp2_with fail
    refine (eqSlotS_same (some ad6) (some ad3) n c6 c3 _ _ _ _ u _ hn2 HU.out (Nat.le_refl _) (by omega) hO6.out.1 hO3_6.out.1).mono ?_
    rintro e w7 ⟨rfl, hb7⟩
    have hR7 := btr hR6 hb7
    have hO6_7 := Lib.hid (hO6.out.below hb7 (by omega))
    have hO4_7 := Lib.hid (hO4_6.out.below hb7 (by omega))
    have hO3_7 := Lib.hid (hO3_6.out.below hb7 (by omega))
    have hS7 := hb7.size
    clear hb7 hO6 hO4_6 hO3_6
    go_wp2_with fail
    refine (toSlotS_any A n c 0 l _ hn2 HL.out (HA.out _ (btr hB0 hR7))).mono ?_
    rintro e w8 ⟨ad8, c8, rfl, hc8, ho8, hb8⟩
    have hR8 := btr hR7 hb8
    have hO8 := Lib.hid ho8
    have hO6_8 := Lib.hid (hO6_7.out.below hb8 (by omega))
    have hO4_8 := Lib.hid (hO4_7.out.below hb8 (by omega))
    have hO3_8 := Lib.hid (hO3_7.out.below hb8 (by omega))
    have hS8 := hb8.size
    clear ho8 hb8 hO6_7 hO4_7 hO3_7
    go_wp2_with fail
    refine (eqSlotS_same (some ad4) (some ad8) n c4 c8 _ _ _ _ l _ hn2 HL.out (by omega) (Nat.le_refl _) hO4_8.out.1 hO8.out.1).mono ?_
    rintro e w9 ⟨rfl, hb9⟩
    have hR9 := btr hR8 hb9
    have hO6_9 := Lib.hid (hO6_8.out.below hb9 (by omega))
    have hO4_9 := Lib.hid (hO4_8.out.below hb9 (by omega))
    have hO3_9 := Lib.hid (hO3_8.out.below hb9 (by omega))
    have hS9 := hb9.size
    clear hb9 hO8 hO6_8 hO4_8 hO3_8
    go_wp2_with fail
    refine (markSlotS_any (some ad4) n c4 _ _ 1 l _ hn2 (by omega) HL.out hO4_9.out).mono ?_
    rintro e w10 ⟨rfl, ho10, ht10⟩
    have hR10 := hR9.trans (ht10.below (B := w0.heap.size) (by have := hR3.size; omega) hR9.size)
    have hO6_10 := Lib.hid (hO6_9.out.turned ht10.block (by omega) (by omega))
    have hO3_10 := Lib.hid (hO3_9.out.turned ht10.block (by omega) (by omega))
    have hS10 := ht10.size
    have hpos : ¬ ((1 : Int) + 2 * (n : Int) < 0) := by omega
    clear ho10 ht10 hO6_9 hO4_9 hO3_9
    go_wp2_with fail
    refine (eqSlotS_same (some ad6) (some ad3) n c6 c3 _ _ _ _ u _ hn2 HU.out (by omega) (by omega) hO6_10.out.1 hO3_10.out.1).mono ?_
    rintro e w11 ⟨rfl, hb11⟩
    have hR11 := btr hR10 hb11
    have hO6_11 := Lib.hid (hO6_10.out.below hb11 (by omega))
    have hO3_11 := Lib.hid (hO3_10.out.below hb11 (by omega))
    have hS11 := hb11.size
    clear hb11 hO6_10 hO3_10
    go_wp2_with fail
    refine (markSlotS_any (some ad6) n c6 _ _ 1 u _ hn2 (by omega) HU.out hO6_11.out).mono ?_
    rintro e w12 ⟨rfl, ho12, ht12⟩
    have hR12 := hR11.trans (ht12.below (B := w0.heap.size) (by have := hR5.size; omega) hR11.size)
    have hO6_12 := Lib.hid ho12
    have hO3_12 := Lib.hid (hO3_11.out.turned ht12.block (by omega) (by omega))
    have hS12 := ht12.size
    clear ho12 ht12 hO6_11 hO3_11
    go_wp2_with fail
    refine (heldSlotS_any (some ad6) n c6 _ _ 1 _ hn2 (by omega) hO6_12.out.1).mono ?_
    rintro e w13 ⟨rfl, rfl⟩
    go_wp2_with fail
    refine Ord.wp_region_ord (fun w' => w'.cell? ⟨w.heap.size, 0, none⟩ = some (.int .i64 x) ∧ w'.cell? ⟨w.heap.size, 1, none⟩ = some (.int .i64 y)) [(0, true), (2, true), (3, true), (1, false), (4, false), (5, false), (6, true)] (by kernel_rfl) (by kernel_rfl) rfl (by kernel_rfl) (HS.out _ hR12.drew) ?_
    simp only [Ord.ordOps, List.getElem?_toArray, List.getElem?_cons_zero, List.getElem?_cons_succ]
    repeat (first
      | (refine Ord.ord_plain (v := ?_) rfl (fun w' hS => ?_) ?_; rotate_left; (focus ((try dsimp only at hS); go_simp; first | done | with_reducible rfl)); simp only [Act.put, List.setIfInBounds_toArray, List.set_cons_zero, List.set_cons_succ])
      | (refine Ord.ord_skip (by rfl) ?_; simp only [Act.put, List.setIfInBounds_toArray, List.set_cons_zero, List.set_cons_succ])
      | (refine Ord.ord_take (v := ?_) (by rfl) (fun w' hS => ?_) ?_; rotate_left; (focus ((try dsimp only at hS); go_simp; first | done | with_reducible rfl)); simp only [Act.put, List.setIfInBounds_toArray, List.set_cons_zero, List.set_cons_succ]))
    refine Ord.ord_call (fun K hK => ?_)
    go_simp
    go_wp2_with fail
    refine (toSlotS_any A n c 0 l _ hn2 HL.out (HA.out _ (btr hB0 hR12.drew))).mono ?_
    rintro e w14 ⟨ad14, c14, rfl, hc14, ho14, hb14⟩
    have hR14 := btr hR12.drew hb14
    have hO14 := Lib.hid ho14
    have hS14 : w12.heap.size ≤ w14.heap.size := hb14.size
    have hO6_14 := Lib.hid (hO6_12.out.below (btr ((Below.refl w12.heap.size w12).drew) hb14) (by omega))
    have hO3_14 := Lib.hid (hO3_12.out.below (btr ((Below.refl w12.heap.size w12).drew) hb14) (by omega))
    clear ho14 hb14
    refine hK.out _ _ (HS.out _ hR14) ?_
    clear hK K
    repeat (first
      | (refine Ord.ord_plain (v := ?_) rfl (fun w' hS => ?_) ?_; rotate_left; (focus ((try dsimp only at hS); go_simp; first | done | with_reducible rfl)); simp only [Act.put, List.setIfInBounds_toArray, List.set_cons_zero, List.set_cons_succ])
      | (refine Ord.ord_skip (by rfl) ?_; simp only [Act.put, List.setIfInBounds_toArray, List.set_cons_zero, List.set_cons_succ])
      | (refine Ord.ord_take (v := ?_) (by rfl) (fun w' hS => ?_) ?_; rotate_left; (focus ((try dsimp only at hS); go_simp; first | done | with_reducible rfl)); simp only [Act.put, List.setIfInBounds_toArray, List.set_cons_zero, List.set_cons_succ]))
    refine Ord.ord_call (fun K hK => ?_)
    go_simp
    go_wp2_with fail
    refine (toSlot_any x y _).mono ?_
    rintro e w15 ⟨rfl, hb15⟩
    have hR15 := btr hR14 hb15
    have hO14_15 := Lib.hid (hO14.out.below hb15 (Nat.le_refl _))
    have hS15 := hb15.size
    have hO6_15 := Lib.hid (hO6_14.out.below hb15 (by omega))
    have hO3_15 := Lib.hid (hO3_14.out.below hb15 (by omega))
    clear hb15
    refine hK.out _ _ (HS.out _ hR15) ?_
    clear hK K
    repeat (first
      | (refine Ord.ord_plain (v := ?_) rfl (fun w' hS => ?_) ?_; rotate_left; (focus ((try dsimp only at hS); go_simp; first | done | with_reducible rfl)); simp only [Act.put, List.setIfInBounds_toArray, List.set_cons_zero, List.set_cons_succ])
      | (refine Ord.ord_skip (by rfl) ?_; simp only [Act.put, List.setIfInBounds_toArray, List.set_cons_zero, List.set_cons_succ])
      | (refine Ord.ord_take (v := ?_) (by rfl) (fun w' hS => ?_) ?_; rotate_left; (focus ((try dsimp only at hS); go_simp; first | done | with_reducible rfl)); simp only [Act.put, List.setIfInBounds_toArray, List.set_cons_zero, List.set_cons_succ]))
    refine Ord.ord_call (fun K hK => ?_)
    go_simp
    go_wp2_with fail
    refine (HK2.out ad14 n c14 _ _ hn2 HL.out (hO14_15.out.1.wide (Nat.le_refl _) hS15)).mono ?_
    rintro e w16 ⟨ad16, c16, rfl, hc16, ho16, hb16⟩
    have hR16 := btr hR15 hb16
    have hO16 := Lib.hid ho16
    have hS16 := hb16.size
    have hO6_16 := Lib.hid (hO6_15.out.below hb16 (by omega))
    have hO3_16 := Lib.hid (hO3_15.out.below hb16 (by omega))
    clear ho16 hb16
    refine hK.out _ _ (HS.out _ hR16) ?_
    clear hK K
    repeat (first
      | (refine Ord.ord_plain (v := ?_) rfl (fun w' hS => ?_) ?_; rotate_left; (focus ((try dsimp only at hS); go_simp; first | done | with_reducible rfl)); simp only [Act.put, List.setIfInBounds_toArray, List.set_cons_zero, List.set_cons_succ])
      | (refine Ord.ord_skip (by rfl) ?_; simp only [Act.put, List.setIfInBounds_toArray, List.set_cons_zero, List.set_cons_succ])
      | (refine Ord.ord_take (v := ?_) (by rfl) (fun w' hS => ?_) ?_; rotate_left; (focus ((try dsimp only at hS); go_simp; first | done | with_reducible rfl)); simp only [Act.put, List.setIfInBounds_toArray, List.set_cons_zero, List.set_cons_succ]))
    refine Ord.ord_nil ?_
    go_wp2_with fail
    refine (eqSlotS_same (some ad16) (some ad3) n c16 c3 _ _ _ _ u _ hn2 HU.out (Nat.le_refl _) (by omega) hO16.out.1 hO3_16.out.1).mono ?_
    rintro e w17 ⟨rfl, hb17⟩
    have hR17 := btr hR16 hb17
    have hO6_17 := Lib.hid (hO6_16.out.below hb17 (by omega))
    clear hb17
    go_wp2_with fail
    refine (heldSlotS_any (some ad6) n c6 _ _ 1 _ hn2 (by omega) hO6_17.out.1).mono ?_
    rintro e w18 ⟨rfl, rfl⟩
    go_wp2_with fail
    go_ret
    exact ⟨rfl, btr hB0 hR17⟩

/-! ### The row's step -/
set_option maxRecDepth 100000 in
theorem lifted (os : Os) (started : os.Started) (H : Type) (enc : TypeId × Value → H) :
    ReturnsInHanded {} Try.checked os 11 .any (Rows.fnExactWithSlotSpec.pre6 enc Try.prog Try.f11 Rows.fnExactWithSlotRow.domain false) (Rows.fnExactWithSlotSpec.post enc Try.prog Try.f11 false true false false) := by
  refine returnsInHanded_of_change (C := Try.checked) Base.own started (by kernel_rfl) Try.func11
    (ChangeSpec.witness6 (enc := enc) (C := Try.checked) false ⟨#[], #[.slice none 0 0, .int .i64 0, .agg #[.int .i64 0, .int .i64 0]], []⟩ 8 (by kernel_rfl) (by kernel_rfl) (by kernel_rfl) (by kernel_rfl)) ?_
  intro W base args ds gs before hval0 hW hcnd _
  have hval : ∀ (j : Nat) t v, Try.f11.params[j]? = some t → args[j]? = some v → Value.okWide Try.prog W .any base t v := hval0
  have hW' := hW
  obtain ⟨p, q, hA0, hV, rfl, hfz, hnd⟩ := hW
  have hA : DataW.TrodAll enc Try.prog W 0 (fun _ => true) true Try.f11.params.toList args.toList ds p := hA0
  have hA1 := hA
  rw [Try.params11] at hA hval
  obtain ⟨v0, vs0, d0, ds0, p0, q0, hargs, rfl, rfl, h0, r0⟩ := trodAll_cons hA
  obtain ⟨v1, vs1, d1, ds1, p1, q1, rfl, rfl, rfl, h1, r1⟩ := trodAll_cons r0
  obtain ⟨v2, vs2, d2, ds2, p2, q2, rfl, rfl, rfl, h2, r2⟩ := trodAll_cons r1
  obtain ⟨rfl, rfl, rfl⟩ := trodAll_nil r2
  obtain rfl : args = #[v0, v1, v2] := by cases args; simp_all
  obtain ⟨rfl, rfl⟩ := trodVars_none hV
  obtain ⟨A0, n0, c0, l0, rfl, hn0, hl0, hw0, h0'⟩ := Slots.open_slots (hval 0 58 v0 rfl rfl) h0
  obtain ⟨a1, rfl, _, _, w1⟩ := open_int Try.underlying3 (hval 1 3 v1 rfl rfl) h1
  obtain ⟨a2, b2, rfl, w2⟩ := Slots.open_slot (hval 2 53 v2 rfl rfl) h2
  clear hA0 hval0
  rw [List.append_nil] at hW'
  refine (walk A0 n0 c0 l0 a1 a2 b2 hn0 hl0 hw0 h0' w1 w2).mono fun e W' ⟨he, hg⟩ => ?_
  subst he
  exact ⟨_, rfl, Mem.post_args Slots.laid (by kernel_rfl) rfl rfl rfl hW' hA1 hg (fun _ _ _ => (trodAll_cons_mk (shut_bool Try.underlying4 _) trodAll_mk0)) (ok_one (by kernel_rfl) rfl (okWide_bool_mk Try.underlying4 _))⟩

theorem over : Rows.fnExactWithSlotRow.holds Try.pinned (OpenSpec.ofChange Rows.fnExactWithSlotSpec) :=
  OpenClaim.holds_of_wide 11 Try.f11 rfl rfl rfl rfl rfl rfl rfl ⟨rfl, rfl, rfl, rfl, rfl⟩ rfl rfl rfl rfl rfl (by kernel_rfl) Try.func11 (by kernel_rfl)
    (of_decide_eq_true (by kernel_rfl)) (by unfold Func.isWrapper; first | (rw [if_pos (by decide +kernel)]; kernel_rfl) | (rw [if_neg (by decide +kernel)]; exact ⟨rfl, rfl⟩))
    (fun os started H enc _ => lifted os started H enc)

/-- The given statement. -/
theorem proved : Rows.FnExactWithSlotSaid :=
  over
#print axioms proved
end Go.Proofs.Ytocclalchakibaa.fnExactWithSlot
