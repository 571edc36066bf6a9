/-
  At every argument the law FnExactPutEntry returns true: the project's PutEntry answers as the given model's PutEntry, changes no argument, and what it returns is its own. No condition.
-/
import Derived.Test.YtmfileflmpmkpaaEntImpl
import Derived.Test.YtmfileflmpmkpaaEntOk
import Derived.Test.YtmfileflmpmkpaaEntTags
import Derived.Test.YtmfileflmpmkpaaOrdT
namespace Go.Proofs.Ytmfileflmpmkpaa.fnExactPutEntry
set_option maxRecDepth 100000
open Go.ChangeShapes Go.WideShapes Go.ChangeAt Go.RowKit
open Go.Proofs.Ytmfileflmpmkpaa.Base Go.Proofs.Ytmfileflmpmkpaa.Mem Go.Proofs.Ytmfileflmpmkpaa.Slots Go.Proofs.Ytmfileflmpmkpaa.Ints Go.Proofs.Ytmfileflmpmkpaa.Ents
set_option linter.unusedVariables false

set_option maxRecDepth 100000 in
set_option maxHeartbeats 8000000 in
theorem walk (A0 : Option Addr) (n0 c0 : Nat) (l0 : List ET) (a10 a11 a12 a13 : Int) {w : World} (hn0 : n0 ≤ 9223372036854775807) (hl0 : l0.length = n0) (hw0 : wfEL l0) (h0 : Lies w 0 w.heap.size A0 (ecells l0)) (w1 : wfE (a10, a11, a12, a13)) :
    Calls Try.prog 8 #[.slice A0 n0 c0, .agg #[.int .i64 a10, .int .i64 a11, .int .i64 a12, .int .i64 a13]] w fun e w' => e = .returned (.bool true) ∧ Below w.heap.size w w' := by
  have HA0 := Lib.hid (show ∀ W, Below w.heap.size w W → Lies W 0 W.heap.size A0 (ecells l0) from fun W hb => (h0.below hb (Nat.le_refl _)).wide (Nat.le_refl _) hb.size)
  have HL0 := Lib.hid hl0
  have HW0 := Lib.hid hw0
  clear hl0 hw0 h0
  have HW1 := Lib.hid w1
  clear w1
  by_cases hbig0 : (1048576 : Int) < (n0 : Int)
  · go_enter Try.func8, Try.ntmps8
    go_wp2_with fail
    refine (szEntryS_no A0 n0 c0 (1048576 : Int) _ (by omega) (by omega) hn0 hbig0).mono ?_
    rintro e w' ⟨rfl, rfl⟩
    go_wp2_with fail
    go_ret
    exact ⟨rfl, ((Below.refl _ _).alloc (Nat.le_refl _) _)⟩
  have hm0 : n0 ≤ 1048576 := by omega
  have hle0 : (n0 : Int) ≤ (1048576 : Int) := by omega
  have hz0 : ¬ ((1048576 : Int) - (n0 : Int) < 0) := by omega
  have hK1 := fun (A : Option Addr) (c : Nat) (V : World) (h : Lies V 0 V.heap.size A (ecells l0)) => spec_put A n0 c 0 a10 a11 a12 a13 l0 V hm0 HL0.out h
  have hK2 := fun (A : Option Addr) (c : Nat) (V : World) (h : Lies V 0 V.heap.size A (ecells l0)) => impl_put A n0 c l0 V a10 a11 a12 a13 hm0 HL0.out h HW0.out HW1.out
  have hu := putE_len l0 (a10, a11, a12, a13)
  generalize putE l0 (a10, a11, a12, a13) = u at hK1 hK2 hu
  have HK1 := Lib.hid hK1
  have HK2 := Lib.hid hK2
  clear hK1 hK2
  obtain ⟨N, hN⟩ : ∃ N, u.length = N := ⟨_, rfl⟩
  have HU := Lib.hid hN
  have hmN : N ≤ 1048576 := by omega
  clear hN hu
  obtain ⟨q1, hq1⟩ : ∃ q : Nat, q = 1 + 4 * n0 := ⟨_, rfl⟩
  have Hq1 := Lib.hid (show ((1 : Nat) : Int) + 4 * (n0 : Int) = (q1 : Int) by omega)
  have hpq1 : ¬ ((q1 : Int) < 0) := by omega
  obtain ⟨q2, hq2⟩ : ∃ q : Nat, q = 1 + 4 * N := ⟨_, rfl⟩
  have Hq2 := Lib.hid (show ((1 : Nat) : Int) + 4 * (N : Int) = (q2 : Int) by omega)
  have hpq2 : ¬ ((q2 : Int) < 0) := by omega
  go_enter Try.func8, Try.ntmps8
  have hB1 : Below w.heap.size w (w.alloc (.cells #[.int .i64 a10, .int .i64 a11, .int .i64 a12, .int .i64 a13] 50)) := (Below.refl _ _).alloc (Nat.le_refl _) _
  have hS1 : w.heap.size < (w.alloc (.cells #[.int .i64 a10, .int .i64 a11, .int .i64 a12, .int .i64 a13] 50)).heap.size := by simp
  have hOb_1 := Lib.hid (Four.new w (a10, a11, a12, a13) 50)
  go_wp2_with fail
  refine (szEntryS_yes A0 n0 c0 (1048576 : Int) _ (by omega) hle0).mono ?_
  rintro e w' ⟨rfl, rfl⟩
  go_wp2_with fail
  refine Ord.wp_region_ord (fun w' => w'.cell? ⟨w.heap.size, 0, none⟩ = some (.int .i64 a10) ∧ w'.cell? ⟨w.heap.size, 1, none⟩ = some (.int .i64 a11) ∧ w'.cell? ⟨w.heap.size, 2, none⟩ = some (.int .i64 a12) ∧ w'.cell? ⟨w.heap.size, 3, none⟩ = some (.int .i64 a13)) [(0, true), (2, true), (1, false), (3, false), (4, false), (5, true)] (by kernel_rfl) (by kernel_rfl) rfl (by kernel_rfl) (⟨hOb_1.out.1, hOb_1.out.2.1, hOb_1.out.2.2.1, hOb_1.out.2.2.2.1⟩) ?_
  simp only [Ord.ordOps, List.getElem?_toArray, List.getElem?_cons_zero, List.getElem?_cons_succ]
  repeat (first
    | (refine Ord.ord_plain (v := ?_) rfl (fun w' hS => ?_) ?_; rotate_left; (focus ((try dsimp only at hS); go_simp; first | done | with_reducible rfl)); simp only [Act.put, List.setIfInBounds_toArray, List.set_cons_zero, List.set_cons_succ])
    | (refine Ord.ord_skip (by rfl) ?_; simp only [Act.put, List.setIfInBounds_toArray, List.set_cons_zero, List.set_cons_succ])
    | (refine Ord.ord_take (v := ?_) (by rfl) (fun w' hS => ?_) ?_; rotate_left; (focus ((try dsimp only at hS); go_simp; first | done | with_reducible rfl)); simp only [Act.put, List.setIfInBounds_toArray, List.set_cons_zero, List.set_cons_succ]))
  have hb2 : Below (w.alloc (.cells #[.int .i64 a10, .int .i64 a11, .int .i64 a12, .int .i64 a13] 50)).heap.size (w.alloc (.cells #[.int .i64 a10, .int .i64 a11, .int .i64 a12, .int .i64 a13] 50)) (w.alloc (.cells #[.int .i64 a10, .int .i64 a11, .int .i64 a12, .int .i64 a13] 50)).drew := (Below.refl _ _).drew
  have hB2 := btr hB1 hb2
  have hS2 := hb2.size
  have hOb_2 := Lib.hid (hOb_1.out.below hb2 (by omega))
  clear hOb_1 hb2
  refine Ord.ord_call (fun K hK => ?_)
  go_simp
  refine (toEntryS_any A0 n0 c0 0 l0 _ hm0 HL0.out (HA0.out _ hB2)).mono ?_
  rintro e w3 ⟨ad3, d3, rfl, hc3, ho3, hb3⟩
  have hB3 := btr hB2 hb3
  have hS3 := hb3.size
  have hOb_3 := Lib.hid (hOb_2.out.below hb3 (by omega))
  have hOtmp_3 := Lib.hid ho3
  clear hOb_2 hc3 ho3 hb3
  refine hK.out _ _ (⟨hOb_3.out.1, hOb_3.out.2.1, hOb_3.out.2.2.1, hOb_3.out.2.2.2.1⟩) ?_
  clear hK K
  repeat (first
    | (refine Ord.ord_plain (v := ?_) rfl (fun w' hS => ?_) ?_; rotate_left; (focus ((try dsimp only at hS); go_simp; first | done | with_reducible rfl)); simp only [Act.put, List.setIfInBounds_toArray, List.set_cons_zero, List.set_cons_succ])
    | (refine Ord.ord_skip (by rfl) ?_; simp only [Act.put, List.setIfInBounds_toArray, List.set_cons_zero, List.set_cons_succ])
    | (refine Ord.ord_take (v := ?_) (by rfl) (fun w' hS => ?_) ?_; rotate_left; (focus ((try dsimp only at hS); go_simp; first | done | with_reducible rfl)); simp only [Act.put, List.setIfInBounds_toArray, List.set_cons_zero, List.set_cons_succ]))
  refine Ord.ord_call (fun K hK => ?_)
  go_simp
  refine (toEntry_any a10 a11 a12 a13 _).mono ?_
  rintro e w4 ⟨rfl, hb4⟩
  have hB4 := btr hB3 hb4
  have hS4 := hb4.size
  have hOb_4 := Lib.hid (hOb_3.out.below hb4 (by omega))
  have hOtmp_4 := Lib.hid (hOtmp_3.out.below hb4 (by omega))
  clear hOb_3 hOtmp_3 hb4
  refine hK.out _ _ (⟨hOb_4.out.1, hOb_4.out.2.1, hOb_4.out.2.2.1, hOb_4.out.2.2.2.1⟩) ?_
  clear hK K
  repeat (first
    | (refine Ord.ord_plain (v := ?_) rfl (fun w' hS => ?_) ?_; rotate_left; (focus ((try dsimp only at hS); go_simp; first | done | with_reducible rfl)); simp only [Act.put, List.setIfInBounds_toArray, List.set_cons_zero, List.set_cons_succ])
    | (refine Ord.ord_skip (by rfl) ?_; simp only [Act.put, List.setIfInBounds_toArray, List.set_cons_zero, List.set_cons_succ])
    | (refine Ord.ord_take (v := ?_) (by rfl) (fun w' hS => ?_) ?_; rotate_left; (focus ((try dsimp only at hS); go_simp; first | done | with_reducible rfl)); simp only [Act.put, List.setIfInBounds_toArray, List.set_cons_zero, List.set_cons_succ]))
  refine Ord.ord_call (fun K hK => ?_)
  go_simp
  refine (HK1.out _ _ _ (hOtmp_4.out.1.wide (Nat.zero_le _) (by omega))).mono ?_
  rintro e w5 ⟨A5', n5', c5', rfl, hl5, ho5, hb5⟩
  have he5 := HU.out.symm.trans hl5
  subst he5
  have hB5 := btr hB4 hb5
  have hS5 := hb5.size
  have hOb_5 := Lib.hid (hOb_4.out.below hb5 (by omega))
  have hOtmp_5 := Lib.hid (hOtmp_4.out.below hb5 (by omega))
  have hOw0_5 := Lib.hid ho5
  clear hOb_4 hOtmp_4 hl5 ho5 hb5
  refine hK.out _ _ (⟨hOb_5.out.1, hOb_5.out.2.1, hOb_5.out.2.2.1, hOb_5.out.2.2.2.1⟩) ?_
  clear hK K
  repeat (first
    | (refine Ord.ord_plain (v := ?_) rfl (fun w' hS => ?_) ?_; rotate_left; (focus ((try dsimp only at hS); go_simp; first | done | with_reducible rfl)); simp only [Act.put, List.setIfInBounds_toArray, List.set_cons_zero, List.set_cons_succ])
    | (refine Ord.ord_skip (by rfl) ?_; simp only [Act.put, List.setIfInBounds_toArray, List.set_cons_zero, List.set_cons_succ])
    | (refine Ord.ord_take (v := ?_) (by rfl) (fun w' hS => ?_) ?_; rotate_left; (focus ((try dsimp only at hS); go_simp; first | done | with_reducible rfl)); simp only [Act.put, List.setIfInBounds_toArray, List.set_cons_zero, List.set_cons_succ]))
  refine Ord.ord_nil ?_
  clear hOtmp_5
  go_wp2_with fail
  refine (toEntryS_any A0 n0 c0 0 l0 _ hm0 HL0.out (HA0.out _ hB5)).mono ?_
  rintro e w6 ⟨ad6, d6, rfl, hc6, ho6, hb6⟩
  have hB6 := btr hB5 hb6
  have hS6 := hb6.size
  have hOb_6 := Lib.hid (hOb_5.out.below hb6 (by omega))
  have hOw0_6 := Lib.hid (hOw0_5.out.below hb6 (by omega))
  have hOx_6 := Lib.hid ho6
  clear hOb_5 hOw0_5 hc6 ho6 hb6
  obtain ⟨zb0, zb1, zb2, zb3, _, _, _, _, _⟩ := hOb_6.out
  dsimp only at zb0 zb1 zb2 zb3
  go_wp2_with fail
  refine (toEntry_any a10 a11 a12 a13 _).mono ?_
  rintro e w7 ⟨rfl, hb7⟩
  have hB7 := btr hB6 hb7
  have hS7 := hb7.size
  have hOb_7 := Lib.hid (hOb_6.out.below hb7 (by omega))
  have hOw0_7 := Lib.hid (hOw0_6.out.below hb7 (by omega))
  have hOx_7 := Lib.hid (hOx_6.out.below hb7 (by omega))
  clear hOb_6 hOw0_6 hOx_6 hb7
  clear zb0 zb1 zb2 zb3
  go_wp2_with fail
  refine (HK2.out _ _ _ (hOx_7.out.1.wide (Nat.zero_le _) (by omega))).mono ?_
  rintro e w8 ⟨A8', n8', c8', rfl, hl8, ho8, hb8⟩
  have he8 := HU.out.symm.trans hl8
  subst he8
  have hB8 := btr hB7 hb8
  have hS8 := hb8.size
  have hOb_8 := Lib.hid (hOb_7.out.below hb8 (by omega))
  have hOw0_8 := Lib.hid (hOw0_7.out.below hb8 (by omega))
  have hOx_8 := Lib.hid (hOx_7.out.below hb8 (by omega))
  have hOg0_8 := Lib.hid ho8
  clear hOb_7 hOw0_7 hOx_7 hl8 ho8 hb8
  go_wp2_with fail
  refine (eqEntryS_same A8' A5' N c8' c5' _ _ _ _ u _ hmN HU.out (by omega) (by omega) hOg0_8.out.1 hOw0_8.out.1).mono ?_
  rintro e w9 ⟨rfl, hb9⟩
  have hB9 := btr hB8 hb9
  have hS9 := hb9.size
  have hOb_9 := Lib.hid (hOb_8.out.below hb9 (by omega))
  have hOw0_9 := Lib.hid (hOw0_8.out.below hb9 (by omega))
  have hOx_9 := Lib.hid (hOx_8.out.below hb9 (by omega))
  have hOg0_9 := Lib.hid (hOg0_8.out.below hb9 (by omega))
  clear hOb_8 hOw0_8 hOx_8 hOg0_8 hb9
  go_wp2_with fail
  refine (toEntryS_any A0 n0 c0 0 l0 _ hm0 HL0.out (HA0.out _ hB9)).mono ?_
  rintro e w10 ⟨ad10, d10, rfl, hc10, ho10, hb10⟩
  have hB10 := btr hB9 hb10
  have hS10 := hb10.size
  have hOb_10 := Lib.hid (hOb_9.out.below hb10 (by omega))
  have hOw0_10 := Lib.hid (hOw0_9.out.below hb10 (by omega))
  have hOx_10 := Lib.hid (hOx_9.out.below hb10 (by omega))
  have hOg0_10 := Lib.hid (hOg0_9.out.below hb10 (by omega))
  have hOy_10 := Lib.hid ho10
  clear hOb_9 hOw0_9 hOx_9 hOg0_9 hc10 ho10 hb10
  go_wp2_with fail
  refine (eqEntryS_same (some ad6) (some ad10) n0 d6 d10 _ _ _ _ l0 _ hm0 HL0.out (by omega) (by omega) hOx_10.out.1 hOy_10.out.1).mono ?_
  rintro e w11 ⟨rfl, hb11⟩
  have hB11 := btr hB10 hb11
  have hS11 := hb11.size
  have hOb_11 := Lib.hid (hOb_10.out.below hb11 (by omega))
  have hOw0_11 := Lib.hid (hOw0_10.out.below hb11 (by omega))
  have hOx_11 := Lib.hid (hOx_10.out.below hb11 (by omega))
  have hOg0_11 := Lib.hid (hOg0_10.out.below hb11 (by omega))
  have hOy_11 := Lib.hid (hOy_10.out.below hb11 (by omega))
  clear hOb_10 hOw0_10 hOx_10 hOg0_10 hOy_10 hb11
  clear hOy_11
  go_wp2_with fail
  refine (markEntryS_any (some ad6) n0 d6 _ _ 1 l0 _ hm0 (by omega) HL0.out hOx_11.out).mono ?_
  rintro e w12 ⟨he, ho12, ht12⟩
  rw [Hq1.out] at he
  subst he
  have hB12 := hB11.trans (ht12.below (B := w.heap.size) (by omega) hB11.size)
  have hS12 := ht12.size
  have hOb_12 := Lib.hid (hOb_11.out.turned ht12.block (by omega) (by omega))
  have hOw0_12 := Lib.hid (hOw0_11.out.turned ht12.block (by omega) (by omega))
  have hOg0_12 := Lib.hid (hOg0_11.out.turned ht12.block (by omega) (by omega))
  have hOx_12 := Lib.hid ho12
  clear hOb_11 hOw0_11 hOg0_11 hOx_11 ho12 ht12
  go_wp2_with fail
  refine (eqEntryS_same A8' A5' N c8' c5' _ _ _ _ u _ hmN HU.out (by omega) (by omega) hOg0_12.out.1 hOw0_12.out.1).mono ?_
  rintro e w13 ⟨rfl, hb13⟩
  have hB13 := btr hB12 hb13
  have hS13 := hb13.size
  have hOb_13 := Lib.hid (hOb_12.out.below hb13 (by omega))
  have hOw0_13 := Lib.hid (hOw0_12.out.below hb13 (by omega))
  have hOg0_13 := Lib.hid (hOg0_12.out.below hb13 (by omega))
  have hOx_13 := Lib.hid (hOx_12.out.below hb13 (by omega))
  clear hOb_12 hOw0_12 hOg0_12 hOx_12 hb13
  go_wp2_with fail
  refine (markEntryS_any A8' N c8' _ _ 1 u _ hmN (by omega) HU.out hOg0_13.out).mono ?_
  rintro e w14 ⟨he, ho14, ht14⟩
  rw [Hq2.out] at he
  subst he
  have hB14 := hB13.trans (ht14.below (B := w.heap.size) (by omega) hB13.size)
  have hS14 := ht14.size
  have hOb_14 := Lib.hid (hOb_13.out.turned ht14.block (by omega) (by omega))
  have hOw0_14 := Lib.hid (hOw0_13.out.turned ht14.block (by omega) (by omega))
  have hOx_14 := Lib.hid (hOx_13.out.turned ht14.block (by omega) (by omega))
  have hOg0_14 := Lib.hid ho14
  clear hOb_13 hOw0_13 hOx_13 hOg0_13 ho14 ht14
  go_wp2_with fail
  refine (heldEntryS_any A8' N c8' _ _ 1 _ hmN (by omega) hOg0_14.out.1).mono ?_
  rintro e w' ⟨he, rfl⟩
  rw [Hq2.out] at he
  subst he
  go_wp2_with fail
  refine Ord.wp_region_ord (fun w' => w'.cell? ⟨w.heap.size, 0, none⟩ = some (.int .i64 a10) ∧ w'.cell? ⟨w.heap.size, 1, none⟩ = some (.int .i64 a11) ∧ w'.cell? ⟨w.heap.size, 2, none⟩ = some (.int .i64 a12) ∧ w'.cell? ⟨w.heap.size, 3, none⟩ = some (.int .i64 a13)) [(0, true), (2, true), (1, false), (3, false), (4, false), (5, true)] (by kernel_rfl) (by kernel_rfl) rfl (by kernel_rfl) (⟨hOb_14.out.1, hOb_14.out.2.1, hOb_14.out.2.2.1, hOb_14.out.2.2.2.1⟩) ?_
  simp only [Ord.ordOps, List.getElem?_toArray, List.getElem?_cons_zero, List.getElem?_cons_succ]
  repeat (first
    | (refine Ord.ord_plain (v := ?_) rfl (fun w' hS => ?_) ?_; rotate_left; (focus ((try dsimp only at hS); go_simp; first | done | with_reducible rfl)); simp only [Act.put, List.setIfInBounds_toArray, List.set_cons_zero, List.set_cons_succ])
    | (refine Ord.ord_skip (by rfl) ?_; simp only [Act.put, List.setIfInBounds_toArray, List.set_cons_zero, List.set_cons_succ])
    | (refine Ord.ord_take (v := ?_) (by rfl) (fun w' hS => ?_) ?_; rotate_left; (focus ((try dsimp only at hS); go_simp; first | done | with_reducible rfl)); simp only [Act.put, List.setIfInBounds_toArray, List.set_cons_zero, List.set_cons_succ]))
  have hb16 : Below w14.heap.size w14 w14.drew := (Below.refl _ _).drew
  have hB16 := btr hB14 hb16
  have hS16 := hb16.size
  have hOb_16 := Lib.hid (hOb_14.out.below hb16 (by omega))
  have hOw0_16 := Lib.hid (hOw0_14.out.below hb16 (by omega))
  have hOx_16 := Lib.hid (hOx_14.out.below hb16 (by omega))
  have hOg0_16 := Lib.hid (hOg0_14.out.below hb16 (by omega))
  clear hOb_14 hOw0_14 hOx_14 hOg0_14 hb16
  refine Ord.ord_call (fun K hK => ?_)
  go_simp
  refine (toEntryS_any A0 n0 c0 0 l0 _ hm0 HL0.out (HA0.out _ hB16)).mono ?_
  rintro e w17 ⟨ad17, d17, rfl, hc17, ho17, hb17⟩
  have hB17 := btr hB16 hb17
  have hS17 := hb17.size
  have hOb_17 := Lib.hid (hOb_16.out.below hb17 (by omega))
  have hOw0_17 := Lib.hid (hOw0_16.out.below hb17 (by omega))
  have hOx_17 := Lib.hid (hOx_16.out.below hb17 (by omega))
  have hOg0_17 := Lib.hid (hOg0_16.out.below hb17 (by omega))
  have hOtmp_17 := Lib.hid ho17
  clear hOb_16 hOw0_16 hOx_16 hOg0_16 hc17 ho17 hb17
  refine hK.out _ _ (⟨hOb_17.out.1, hOb_17.out.2.1, hOb_17.out.2.2.1, hOb_17.out.2.2.2.1⟩) ?_
  clear hK K
  repeat (first
    | (refine Ord.ord_plain (v := ?_) rfl (fun w' hS => ?_) ?_; rotate_left; (focus ((try dsimp only at hS); go_simp; first | done | with_reducible rfl)); simp only [Act.put, List.setIfInBounds_toArray, List.set_cons_zero, List.set_cons_succ])
    | (refine Ord.ord_skip (by rfl) ?_; simp only [Act.put, List.setIfInBounds_toArray, List.set_cons_zero, List.set_cons_succ])
    | (refine Ord.ord_take (v := ?_) (by rfl) (fun w' hS => ?_) ?_; rotate_left; (focus ((try dsimp only at hS); go_simp; first | done | with_reducible rfl)); simp only [Act.put, List.setIfInBounds_toArray, List.set_cons_zero, List.set_cons_succ]))
  refine Ord.ord_call (fun K hK => ?_)
  go_simp
  refine (toEntry_any a10 a11 a12 a13 _).mono ?_
  rintro e w18 ⟨rfl, hb18⟩
  have hB18 := btr hB17 hb18
  have hS18 := hb18.size
  have hOb_18 := Lib.hid (hOb_17.out.below hb18 (by omega))
  have hOw0_18 := Lib.hid (hOw0_17.out.below hb18 (by omega))
  have hOx_18 := Lib.hid (hOx_17.out.below hb18 (by omega))
  have hOg0_18 := Lib.hid (hOg0_17.out.below hb18 (by omega))
  have hOtmp_18 := Lib.hid (hOtmp_17.out.below hb18 (by omega))
  clear hOb_17 hOw0_17 hOx_17 hOg0_17 hOtmp_17 hb18
  refine hK.out _ _ (⟨hOb_18.out.1, hOb_18.out.2.1, hOb_18.out.2.2.1, hOb_18.out.2.2.2.1⟩) ?_
  clear hK K
  repeat (first
    | (refine Ord.ord_plain (v := ?_) rfl (fun w' hS => ?_) ?_; rotate_left; (focus ((try dsimp only at hS); go_simp; first | done | with_reducible rfl)); simp only [Act.put, List.setIfInBounds_toArray, List.set_cons_zero, List.set_cons_succ])
    | (refine Ord.ord_skip (by rfl) ?_; simp only [Act.put, List.setIfInBounds_toArray, List.set_cons_zero, List.set_cons_succ])
    | (refine Ord.ord_take (v := ?_) (by rfl) (fun w' hS => ?_) ?_; rotate_left; (focus ((try dsimp only at hS); go_simp; first | done | with_reducible rfl)); simp only [Act.put, List.setIfInBounds_toArray, List.set_cons_zero, List.set_cons_succ]))
  refine Ord.ord_call (fun K hK => ?_)
  go_simp
  refine (HK2.out _ _ _ (hOtmp_18.out.1.wide (Nat.zero_le _) (by omega))).mono ?_
  rintro e w19 ⟨A19', n19', c19', rfl, hl19, ho19, hb19⟩
  have he19 := HU.out.symm.trans hl19
  subst he19
  have hB19 := btr hB18 hb19
  have hS19 := hb19.size
  have hOb_19 := Lib.hid (hOb_18.out.below hb19 (by omega))
  have hOw0_19 := Lib.hid (hOw0_18.out.below hb19 (by omega))
  have hOx_19 := Lib.hid (hOx_18.out.below hb19 (by omega))
  have hOg0_19 := Lib.hid (hOg0_18.out.below hb19 (by omega))
  have hOtmp_19 := Lib.hid (hOtmp_18.out.below hb19 (by omega))
  have hOh0_19 := Lib.hid ho19
  clear hOb_18 hOw0_18 hOx_18 hOg0_18 hOtmp_18 hl19 ho19 hb19
  refine hK.out _ _ (⟨hOb_19.out.1, hOb_19.out.2.1, hOb_19.out.2.2.1, hOb_19.out.2.2.2.1⟩) ?_
  clear hK K
  repeat (first
    | (refine Ord.ord_plain (v := ?_) rfl (fun w' hS => ?_) ?_; rotate_left; (focus ((try dsimp only at hS); go_simp; first | done | with_reducible rfl)); simp only [Act.put, List.setIfInBounds_toArray, List.set_cons_zero, List.set_cons_succ])
    | (refine Ord.ord_skip (by rfl) ?_; simp only [Act.put, List.setIfInBounds_toArray, List.set_cons_zero, List.set_cons_succ])
    | (refine Ord.ord_take (v := ?_) (by rfl) (fun w' hS => ?_) ?_; rotate_left; (focus ((try dsimp only at hS); go_simp; first | done | with_reducible rfl)); simp only [Act.put, List.setIfInBounds_toArray, List.set_cons_zero, List.set_cons_succ]))
  refine Ord.ord_nil ?_
  clear hOtmp_19
  go_wp2_with fail
  refine (eqEntryS_same A19' A5' N c19' c5' _ _ _ _ u _ hmN HU.out (by omega) (by omega) hOh0_19.out.1 hOw0_19.out.1).mono ?_
  rintro e w20 ⟨rfl, hb20⟩
  have hB20 := btr hB19 hb20
  have hS20 := hb20.size
  have hOb_20 := Lib.hid (hOb_19.out.below hb20 (by omega))
  have hOw0_20 := Lib.hid (hOw0_19.out.below hb20 (by omega))
  have hOx_20 := Lib.hid (hOx_19.out.below hb20 (by omega))
  have hOg0_20 := Lib.hid (hOg0_19.out.below hb20 (by omega))
  have hOh0_20 := Lib.hid (hOh0_19.out.below hb20 (by omega))
  clear hOb_19 hOw0_19 hOx_19 hOg0_19 hOh0_19 hb20
  go_wp2_with fail
  refine (heldEntryS_any A8' N c8' _ _ 1 _ hmN (by omega) hOg0_20.out.1).mono ?_
  rintro e w' ⟨he, rfl⟩
  rw [Hq2.out] at he
  subst he
  go_wp2_with fail
  go_ret
  exact ⟨rfl, hB20⟩

/-! ### The row's step -/
set_option maxRecDepth 100000 in
theorem lifted (os : Os) (started : os.Started) (H : Type) (enc : TypeId × Value → H) :
    ReturnsInHanded {} Try.checked os 8 .any (Rows.fnExactPutEntrySpec.pre6 enc Try.prog Try.f8 Rows.fnExactPutEntryRow.domain false) (Rows.fnExactPutEntrySpec.post enc Try.prog Try.f8 false true false false) := by
  refine returnsInHanded_of_change (C := Try.checked) Base.own started (by kernel_rfl) Try.func8
    (ChangeSpec.witness6 (enc := enc) (C := Try.checked) false ⟨#[], #[.slice none 0 0, .agg #[.int .i64 0, .int .i64 0, .int .i64 0, .int .i64 0]], []⟩ 8 (by kernel_rfl) (by kernel_rfl) (by kernel_rfl) (by kernel_rfl)) ?_
  intro W base args ds gs before hval0 hW hcnd _
  have hval : ∀ (j : Nat) t v, Try.f8.params[j]? = some t → args[j]? = some v → Value.okWide Try.prog W .any base t v := hval0
  have hW' := hW
  obtain ⟨p, q, hA0, hV, rfl, hfz, hnd⟩ := hW
  have hA : DataW.TrodAll enc Try.prog W 0 (fun _ => true) true Try.f8.params.toList args.toList ds p := hA0
  have hA1 := hA
  rw [Try.params8] at hA hval
  obtain ⟨v0, vs0, d0, ds0, p0, q0, hargs, rfl, rfl, h0, r0⟩ := trodAll_cons hA
  obtain ⟨v1, vs1, d1, ds1, p1, q1, rfl, rfl, rfl, h1, r1⟩ := trodAll_cons r0
  obtain ⟨rfl, rfl, rfl⟩ := trodAll_nil r1
  obtain rfl : args = #[v0, v1] := by cases args; simp_all
  obtain ⟨rfl, rfl⟩ := trodVars_none hV
  obtain ⟨A0, n0, c0, l0, rfl, hn0, hl0, hw0, h0'⟩ := Ents.open_entries (hval 0 44 v0 rfl rfl) h0
  obtain ⟨a10, a11, a12, a13, rfl, w1⟩ := Ents.open_entry (hval 1 50 v1 rfl rfl) h1
  clear hA0 hval0
  rw [List.append_nil] at hW'
  refine (walk A0 n0 c0 l0 a10 a11 a12 a13 hn0 hl0 hw0 h0' w1).mono fun e W' ⟨he, hg⟩ => ?_
  subst he
  exact ⟨_, rfl, Mem.post_args Slots.laid (by kernel_rfl) rfl rfl rfl hW' hA1 hg (fun _ _ _ => (trodAll_cons_mk (shut_bool Try.underlying4 _) trodAll_mk0)) (ok_one (by kernel_rfl) rfl (okWide_bool_mk Try.underlying4 _))⟩

theorem over : Rows.fnExactPutEntryRow.holds Try.pinned (OpenSpec.ofChange Rows.fnExactPutEntrySpec) :=
  OpenClaim.holds_of_wide 8 Try.f8 rfl rfl rfl rfl rfl rfl rfl ⟨rfl, rfl, rfl, rfl, rfl⟩ rfl rfl rfl rfl rfl (by kernel_rfl) Try.func8 (by kernel_rfl)
    (of_decide_eq_true (by kernel_rfl)) (by unfold Func.isWrapper; first | (rw [if_pos (by decide +kernel)]; kernel_rfl) | (rw [if_neg (by decide +kernel)]; exact ⟨rfl, rfl⟩))
    (fun os started H enc _ => lifted os started H enc)

/-- The given statement. -/
theorem proved : Rows.FnExactPutEntrySaid :=
  over
#print axioms proved
end Go.Proofs.Ytmfileflmpmkpaa.fnExactPutEntry
