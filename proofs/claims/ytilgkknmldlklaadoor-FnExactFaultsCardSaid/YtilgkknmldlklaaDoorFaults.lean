/-
  At every argument the law FnExactFaults returns true: the project's Faults answers as the given model's Faults, changes no argument, and what it returns is its own. The project's sentinels that the row lists are tied to the program's text by the given card (over the pruned copy of the project that the seat holds). No other condition.
-/
import Derived.Test.YtilgkknmldlklaaDoorCards
import Derived.Test.YtilgkknmldlklaaDoorTie
import Derived.Test.YtilgkknmldlklaaDoorLaidW
import Derived.Test.YtilgkknmldlklaaDoorFaultsW
import Derived.Test.YtilgkknmldlklaaDoorSlotArgs
import Derived.Deep.DeepHandedRow
import Derived.Deep.DeepWitnessRowRef
import Derived.Lay
namespace Go.Proofs.YtilgkknmldlklaaDoor.fnExactFaults
set_option maxRecDepth 100000
open Go.ChangeShapes Go.WideShapes Go.ChangeAt Go.RowKit
open Go.Proofs.YtilgkknmldlklaaDoor.Base Go.Proofs.YtilgkknmldlklaaDoor.Mem Go.Proofs.YtilgkknmldlklaaDoor.Slots Go.Proofs.YtilgkknmldlklaaDoor.Ints
set_option linter.unusedVariables false

set_option maxRecDepth 100000 in
set_option maxHeartbeats 4000000 in
theorem walk (A0 : Option Addr) (n0 c0 : Nat) (l0 : List Sl) (A1 : Option Addr) (n1 c1 : Nat) (l1 : List Sl) (a2 : Int) {w : World} (hn0 : n0 ≤ 9223372036854775807) (hl0 : l0.length = n0) (hw0 : wfL l0) (h0 : Lies w 0 w.heap.size A0 (scells l0)) (hn1 : n1 ≤ 9223372036854775807) (hl1 : l1.length = n1) (hw1 : wfL l1) (h1 : Lies w 0 w.heap.size A1 (scells l1)) (w2 : (Lit.int .i64 a2).wf = true) (z0 z1 : Addr) (hs : Sent w z0 z1) :
    Calls Tryd.prog 6 #[.slice A0 n0 c0, .slice A1 n1 c1, .int .i64 a2] w fun e w' => e = .returned (.bool true) ∧ Below w.heap.size w w' := by
  have HA0 := Lib.hid (show ∀ W, Below w.heap.size w W → Lies W 0 W.heap.size A0 (scells l0) from fun W hb => (h0.below hb (Nat.le_refl _)).wide (Nat.le_refl _) hb.size)
  have HL0 := Lib.hid hl0
  have HW0 := Lib.hid hw0
  clear hl0 hw0 h0
  have HA1 := Lib.hid (show ∀ W, Below w.heap.size w W → Lies W 0 W.heap.size A1 (scells l1) from fun W hb => (h1.below hb (Nat.le_refl _)).wide (Nat.le_refl _) hb.size)
  have HL1 := Lib.hid hl1
  have HW1 := Lib.hid hw1
  clear hl1 hw1 h1
  have HW2 := Lib.hid w2
  clear w2
  have HSN := Lib.hid (show ∀ W, Below w.heap.size w W → Sent W z0 z1 from fun W hb => hs.below hb)
  clear hs
  by_cases hbig0 : (1048576 : Int) < (n0 : Int)
  · go_enter Tryd.func6, Tryd.ntmps6
    go_wp2_with fail
    refine (szSlotS_no A0 n0 c0 (1048576 : Int) _ (by omega) (by omega) hn0 hbig0).mono ?_
    rintro e w' ⟨rfl, rfl⟩
    go_wp2_with fail
    go_ret
    exact ⟨rfl, (Below.refl _ _)⟩
  have hm0 : n0 ≤ 1048576 := by omega
  have hle0 : (n0 : Int) ≤ (1048576 : Int) := by omega
  have hz0 : ¬ ((1048576 : Int) - (n0 : Int) < 0) := by omega
  by_cases hbig1 : ((1048576 : Int) - (n0 : Int)) < (n1 : Int)
  · go_enter Tryd.func6, Tryd.ntmps6
    go_wp2_with fail
    refine (szSlotS_yes A0 n0 c0 (1048576 : Int) _ (by omega) hle0).mono ?_
    rintro e w' ⟨rfl, rfl⟩
    go_wp2_with fail
    refine (szSlotS_no A1 n1 c1 ((1048576 : Int) - (n0 : Int)) _ (by omega) (by omega) hn1 hbig1).mono ?_
    rintro e w' ⟨rfl, rfl⟩
    go_wp2_with fail
    go_ret
    exact ⟨rfl, (Below.refl _ _)⟩
  have hm1 : n1 ≤ 1048576 := by omega
  have hle1 : (n1 : Int) ≤ ((1048576 : Int) - (n0 : Int)) := by omega
  have hz1 : ¬ (((1048576 : Int) - (n0 : Int)) - (n1 : Int) < 0) := by omega
  have hK1 := fun (A B : Option Addr) (n m c d : Nat) (V : World) (hn : n ≤ 1048576) (hm : m ≤ 1048576) (hl : l0.length = n) (ho : l1.length = m) (h1 : Lies V 0 V.heap.size A (scells l0)) (h2 : Lies V 0 V.heap.size B (scells l1)) => spec_faults A B n m c d a2 l0 l1 V hn hm hl ho h1 h2
  have hK2 := fun (A B : Option Addr) (n m c d : Nat) (V : World) (hn : n ≤ 1048576) (hm : m ≤ 1048576) (hl : l0.length = n) (ho : l1.length = m) (h1 : Lies V 0 V.heap.size A (scells l0)) (h2 : Lies V 0 V.heap.size B (scells l1)) (hs : Sent V z0 z1) => impl_faults A B n m c d a2 l0 l1 V z0 z1 hn hm hl ho HW0.out HW1.out HW2.out h1 h2 hs
  have HU := Lib.hid (show (faultsW l0 l1 a2).length = n0 by rw [faultsW_len]; exact HL0.out)
  generalize faultsW l0 l1 a2 = u at hK1 hK2 HU
  have HK1 := Lib.hid hK1
  have HK2 := Lib.hid hK2
  clear hK1 hK2
  obtain ⟨qa, hqa⟩ : ∃ q : Nat, q = 1 + 2 * n0 := ⟨_, rfl⟩
  have Hqa := Lib.hid (show ((1 : Nat) : Int) + 2 * (n0 : Int) = (qa : Int) by omega)
  have hpqa : ¬ ((qa : Int) < 0) := by omega
  obtain ⟨qb, hqb⟩ : ∃ q : Nat, q = qa + 2 * n1 := ⟨_, rfl⟩
  have Hqb := Lib.hid (show ((qa : Nat) : Int) + 2 * (n1 : Int) = (qb : Int) by omega)
  have hpqb : ¬ ((qb : Int) < 0) := by omega
  obtain ⟨qc, hqc⟩ : ∃ q : Nat, q = 1 +  n0 := ⟨_, rfl⟩
  have Hqc := Lib.hid (show ((1 : Nat) : Int) +  (n0 : Int) = (qc : Int) by omega)
  have hpqc : ¬ ((qc : Int) < 0) := by omega
  have hqa2 : qa ≤ 4194304 := by omega
  clear hqa hqb hqc
  go_enter Tryd.func6, Tryd.ntmps6
  go_wp2_with fail
  refine (szSlotS_yes A0 n0 c0 (1048576 : Int) _ (by omega) hle0).mono ?_
  rintro e w' ⟨rfl, rfl⟩
  go_wp2_with fail
  refine (szSlotS_yes A1 n1 c1 ((1048576 : Int) - (n0 : Int)) _ (by omega) hle1).mono ?_
  rintro e w' ⟨rfl, rfl⟩
  go_wp2_with fail
  refine (toSlotS_any A0 n0 c0 0 l0 _ hm0 HL0.out (HA0.out _ (Below.refl _ _))).mono ?_
  rintro e w1 ⟨ad1, d1, rfl, hc1, ho1, hb1⟩
  have hB1 := btr (Below.refl _ _) hb1
  have hS1 := hb1.size
  have hOa_1 := Lib.hid ho1
  clear hc1 ho1 hb1
  go_wp2_with fail
  refine (toSlotS_any A1 n1 c1 0 l1 _ hm1 HL1.out (HA1.out _ hB1)).mono ?_
  rintro e w2 ⟨ad2, d2, rfl, hc2, ho2, hb2⟩
  have hB2 := btr hB1 hb2
  have hS2 := hb2.size
  have hOa_2 := Lib.hid (hOa_1.out.below hb2 (by omega))
  have hOb_2 := Lib.hid ho2
  clear hOa_1 hc2 ho2 hb2
  go_wp2_with fail
  refine (HK1.out _ _ _ _ _ _ _ hm0 hm1 HL0.out HL1.out (hOa_2.out.1.wide (Nat.zero_le _) (by omega)) (hOb_2.out.1.wide (Nat.zero_le _) (by omega))).mono ?_
  rintro e w3 ⟨ad3, m3, d3, rfl, hl3, ho3, hb3⟩
  obtain rfl : n0 = m3 := HU.out.symm.trans hl3
  have hB3 := btr hB2 hb3
  have hS3 := hb3.size
  have hOa_3 := Lib.hid (hOa_2.out.below hb3 (by omega))
  have hOb_3 := Lib.hid (hOb_2.out.below hb3 (by omega))
  have hOu_3 := Lib.hid ho3
  clear hOa_2 hOb_2 hl3 ho3 hb3
  clear hOa_3
  clear hOb_3
  go_wp2_with fail
  refine (toSlotS_any A0 n0 c0 0 l0 _ hm0 HL0.out (HA0.out _ hB3)).mono ?_
  rintro e w4 ⟨ad4, d4, rfl, hc4, ho4, hb4⟩
  have hB4 := btr hB3 hb4
  have hS4 := hb4.size
  have hOu_4 := Lib.hid (hOu_3.out.below hb4 (by omega))
  have hOx_4 := Lib.hid ho4
  clear hOu_3 hc4 ho4 hb4
  go_wp2_with fail
  refine (toSlotS_any A1 n1 c1 0 l1 _ hm1 HL1.out (HA1.out _ hB4)).mono ?_
  rintro e w5 ⟨ad5, d5, rfl, hc5, ho5, hb5⟩
  have hB5 := btr hB4 hb5
  have hS5 := hb5.size
  have hOu_5 := Lib.hid (hOu_4.out.below hb5 (by omega))
  have hOx_5 := Lib.hid (hOx_4.out.below hb5 (by omega))
  have hOi_5 := Lib.hid ho5
  clear hOu_4 hOx_4 hc5 ho5 hb5
  go_wp2_with fail
  refine (HK2.out _ _ _ _ _ _ _ hm0 hm1 HL0.out HL1.out (hOx_5.out.1.wide (Nat.zero_le _) (by omega)) (hOi_5.out.1.wide (Nat.zero_le _) (by omega)) (HSN.out _ hB5)).mono ?_
  rintro e w6 ⟨ad6, m6, d6, rfl, hl6, ho6, hb6⟩
  obtain rfl : n0 = m6 := HU.out.symm.trans hl6
  have hB6 := btr hB5 hb6
  have hS6 := hb6.size
  have hOu_6 := Lib.hid (hOu_5.out.below hb6 (by omega))
  have hOx_6 := Lib.hid (hOx_5.out.below hb6 (by omega))
  have hOi_6 := Lib.hid (hOi_5.out.below hb6 (by omega))
  have hOg_6 := Lib.hid ho6
  clear hOu_5 hOx_5 hOi_5 hl6 ho6 hb6
  go_wp2_with fail
  refine (eqIntS_same ad6 ad3 n0 d6 d3 _ _ _ _ u _ hm0 HU.out hOg_6.out.1 hOu_6.out.1).mono ?_
  rintro e w7 ⟨rfl, hb7⟩
  have hB7 := btr hB6 hb7
  have hS7 := hb7.size
  have hOu_7 := Lib.hid (hOu_6.out.below hb7 (by omega))
  have hOx_7 := Lib.hid (hOx_6.out.below hb7 (by omega))
  have hOi_7 := Lib.hid (hOi_6.out.below hb7 (by omega))
  have hOg_7 := Lib.hid (hOg_6.out.below hb7 (by omega))
  clear hOu_6 hOx_6 hOi_6 hOg_6 hb7
  go_wp2_with fail
  refine (toSlotS_any A0 n0 c0 0 l0 _ hm0 HL0.out (HA0.out _ hB7)).mono ?_
  rintro e w8 ⟨ad8, d8, rfl, hc8, ho8, hb8⟩
  have hB8 := btr hB7 hb8
  have hS8 := hb8.size
  have hOu_8 := Lib.hid (hOu_7.out.below hb8 (by omega))
  have hOx_8 := Lib.hid (hOx_7.out.below hb8 (by omega))
  have hOi_8 := Lib.hid (hOi_7.out.below hb8 (by omega))
  have hOg_8 := Lib.hid (hOg_7.out.below hb8 (by omega))
  have hOy_8 := Lib.hid ho8
  clear hOu_7 hOx_7 hOi_7 hOg_7 hc8 ho8 hb8
  go_wp2_with fail
  refine (eqSlotS_same (some ad4) (some ad8) n0 d4 d8 _ _ _ _ l0 _ hm0 HL0.out (by omega) (by omega) hOx_8.out.1 hOy_8.out.1).mono ?_
  rintro e w9 ⟨rfl, hb9⟩
  have hB9 := btr hB8 hb9
  have hS9 := hb9.size
  have hOu_9 := Lib.hid (hOu_8.out.below hb9 (by omega))
  have hOx_9 := Lib.hid (hOx_8.out.below hb9 (by omega))
  have hOi_9 := Lib.hid (hOi_8.out.below hb9 (by omega))
  have hOg_9 := Lib.hid (hOg_8.out.below hb9 (by omega))
  have hOy_9 := Lib.hid (hOy_8.out.below hb9 (by omega))
  clear hOu_8 hOx_8 hOi_8 hOg_8 hOy_8 hb9
  clear hOy_9
  go_wp2_with fail
  refine (toSlotS_any A1 n1 c1 0 l1 _ hm1 HL1.out (HA1.out _ hB9)).mono ?_
  rintro e w10 ⟨ad10, d10, rfl, hc10, ho10, hb10⟩
  have hB10 := btr hB9 hb10
  have hS10 := hb10.size
  have hOu_10 := Lib.hid (hOu_9.out.below hb10 (by omega))
  have hOx_10 := Lib.hid (hOx_9.out.below hb10 (by omega))
  have hOi_10 := Lib.hid (hOi_9.out.below hb10 (by omega))
  have hOg_10 := Lib.hid (hOg_9.out.below hb10 (by omega))
  have hOj_10 := Lib.hid ho10
  clear hOu_9 hOx_9 hOi_9 hOg_9 hc10 ho10 hb10
  go_wp2_with fail
  refine (eqSlotS_same (some ad5) (some ad10) n1 d5 d10 _ _ _ _ l1 _ hm1 HL1.out (by omega) (by omega) hOi_10.out.1 hOj_10.out.1).mono ?_
  rintro e w11 ⟨rfl, hb11⟩
  have hB11 := btr hB10 hb11
  have hS11 := hb11.size
  have hOu_11 := Lib.hid (hOu_10.out.below hb11 (by omega))
  have hOx_11 := Lib.hid (hOx_10.out.below hb11 (by omega))
  have hOi_11 := Lib.hid (hOi_10.out.below hb11 (by omega))
  have hOg_11 := Lib.hid (hOg_10.out.below hb11 (by omega))
  have hOj_11 := Lib.hid (hOj_10.out.below hb11 (by omega))
  clear hOu_10 hOx_10 hOi_10 hOg_10 hOj_10 hb11
  clear hOj_11
  go_wp2_with fail
  refine (markSlotS_any (some ad4) n0 d4 _ _ 1 l0 _ hm0 (by omega) HL0.out hOx_11.out).mono ?_
  rintro e w12 ⟨he, ho12, ht12⟩
  rw [Hqa.out] at he
  subst he
  have hB12 := hB11.trans (ht12.below (B := w.heap.size) (by omega) hB11.size)
  have hS12 := ht12.size
  have hOu_12 := Lib.hid (hOu_11.out.turned ht12.block (by omega) (by omega))
  have hOi_12 := Lib.hid (hOi_11.out.turned ht12.block (by omega) (by omega))
  have hOg_12 := Lib.hid (hOg_11.out.turned ht12.block (by omega) (by omega))
  have hOx_12 := Lib.hid ho12
  clear hOu_11 hOi_11 hOg_11 hOx_11 ho12 ht12
  clear hOx_12
  go_wp2_with fail
  refine (markSlotS_any (some ad5) n1 d5 _ _ qa l1 _ hm1 (by omega) HL1.out hOi_12.out).mono ?_
  rintro e w13 ⟨he, ho13, ht13⟩
  rw [Hqb.out] at he
  subst he
  have hB13 := hB12.trans (ht13.below (B := w.heap.size) (by omega) hB12.size)
  have hS13 := ht13.size
  have hOu_13 := Lib.hid (hOu_12.out.turned ht13.block (by omega) (by omega))
  have hOg_13 := Lib.hid (hOg_12.out.turned ht13.block (by omega) (by omega))
  have hOi_13 := Lib.hid ho13
  clear hOu_12 hOg_12 hOi_12 ho13 ht13
  clear hOi_13
  go_wp2_with fail
  refine (eqIntS_same ad6 ad3 n0 d6 d3 _ _ _ _ u _ hm0 HU.out hOg_13.out.1 hOu_13.out.1).mono ?_
  rintro e w14 ⟨rfl, hb14⟩
  have hB14 := btr hB13 hb14
  have hS14 := hb14.size
  have hOu_14 := Lib.hid (hOu_13.out.below hb14 (by omega))
  have hOg_14 := Lib.hid (hOg_13.out.below hb14 (by omega))
  clear hOu_13 hOg_13 hb14
  go_wp2_with fail
  refine (markIntS_any ad6 n0 d6 _ _ 1 u _ hm0 (by omega) HU.out hOg_14.out).mono ?_
  rintro e w15 ⟨he, ho15, ht15⟩
  rw [Hqc.out] at he
  subst he
  have hB15 := hB14.trans (ht15.below (B := w.heap.size) (by omega) hB14.size)
  have hS15 := ht15.size
  have hOu_15 := Lib.hid (hOu_14.out.turned ht15.block (by omega) (by omega))
  have hOg_15 := Lib.hid ho15
  clear hOu_14 hOg_14 ho15 ht15
  go_wp2_with fail
  refine (heldIntS_any ad6 n0 d6 _ _ 1 _ hm0 (by omega) hOg_15.out.1).mono ?_
  rintro e w' ⟨he, rfl⟩
  rw [Hqc.out] at he
  subst he
  go_wp2_with fail
  refine (toSlotS_any A0 n0 c0 0 l0 _ hm0 HL0.out (HA0.out _ hB15)).mono ?_
  rintro e w17 ⟨ad17, d17, rfl, hc17, ho17, hb17⟩
  have hB17 := btr hB15 hb17
  have hS17 := hb17.size
  have hOu_17 := Lib.hid (hOu_15.out.below hb17 (by omega))
  have hOg_17 := Lib.hid (hOg_15.out.below hb17 (by omega))
  have hOz_17 := Lib.hid ho17
  clear hOu_15 hOg_15 hc17 ho17 hb17
  go_wp2_with fail
  refine (toSlotS_any A1 n1 c1 0 l1 _ hm1 HL1.out (HA1.out _ hB17)).mono ?_
  rintro e w18 ⟨ad18, d18, rfl, hc18, ho18, hb18⟩
  have hB18 := btr hB17 hb18
  have hS18 := hb18.size
  have hOu_18 := Lib.hid (hOu_17.out.below hb18 (by omega))
  have hOg_18 := Lib.hid (hOg_17.out.below hb18 (by omega))
  have hOz_18 := Lib.hid (hOz_17.out.below hb18 (by omega))
  have hOv_18 := Lib.hid ho18
  clear hOu_17 hOg_17 hOz_17 hc18 ho18 hb18
  go_wp2_with fail
  refine (HK2.out _ _ _ _ _ _ _ hm0 hm1 HL0.out HL1.out (hOz_18.out.1.wide (Nat.zero_le _) (by omega)) (hOv_18.out.1.wide (Nat.zero_le _) (by omega)) (HSN.out _ hB18)).mono ?_
  rintro e w19 ⟨ad19, m19, d19, rfl, hl19, ho19, hb19⟩
  obtain rfl : n0 = m19 := HU.out.symm.trans hl19
  have hB19 := btr hB18 hb19
  have hS19 := hb19.size
  have hOu_19 := Lib.hid (hOu_18.out.below hb19 (by omega))
  have hOg_19 := Lib.hid (hOg_18.out.below hb19 (by omega))
  have hOz_19 := Lib.hid (hOz_18.out.below hb19 (by omega))
  have hOv_19 := Lib.hid (hOv_18.out.below hb19 (by omega))
  have hOh_19 := Lib.hid ho19
  clear hOu_18 hOg_18 hOz_18 hOv_18 hl19 ho19 hb19
  clear hOz_19
  clear hOv_19
  go_wp2_with fail
  refine (eqIntS_same ad19 ad3 n0 d19 d3 _ _ _ _ u _ hm0 HU.out hOh_19.out.1 hOu_19.out.1).mono ?_
  rintro e w20 ⟨rfl, hb20⟩
  have hB20 := btr hB19 hb20
  have hS20 := hb20.size
  have hOu_20 := Lib.hid (hOu_19.out.below hb20 (by omega))
  have hOg_20 := Lib.hid (hOg_19.out.below hb20 (by omega))
  have hOh_20 := Lib.hid (hOh_19.out.below hb20 (by omega))
  clear hOu_19 hOg_19 hOh_19 hb20
  clear hOh_20
  clear hOu_20
  go_wp2_with fail
  refine (heldIntS_any ad6 n0 d6 _ _ 1 _ hm0 (by omega) hOg_20.out.1).mono ?_
  rintro e w' ⟨he, rfl⟩
  rw [Hqc.out] at he
  subst he
  go_wp2_with fail
  go_ret
  exact ⟨rfl, hB20⟩

/-! ### The row's step, and the card -/
theorem contract (H : Type) (enc : TypeId × Value → H) (W : World) (base : Nat) (args : Array Value) (ds gs : List (DataW H)) (before : List MemPlace)
    (hval : ∀ (j : Nat) t v, Tryd.f6.params[j]? = some t → args[j]? = some v → Value.okWide Tryd.prog W .any base t v)
    (hW : DataW.Whole enc Tryd.prog Tryd.f6.params.toList Rows.fnExactFaultsSpec.vars false W args.toList ds gs before) (hL : laidMetH Tryd.prog Rows.fnExactFaultsRow.laid W) :
    Calls Tryd.prog 6 args W fun e W' => ∃ v, e = .returned v ∧ Rows.fnExactFaultsSpec.post enc Tryd.prog Tryd.f6 false true false false W args v W' := by
  obtain ⟨z0, z1, hs, hv0, hv1⟩ := LaidW.both hL
  have hW' := hW
  obtain ⟨p, q, hA0, hV0, rfl, hfz, hnd⟩ := hW
  have hA : DataW.TrodAll enc Tryd.prog W 0 (fun _ => true) true Tryd.f6.params.toList args.toList ds p := hA0
  have hA1 := hA
  obtain ⟨rfl, rfl⟩ := DataW.TrodVars.unique hV0 (LaidW.read2 enc hv0 hv1 _)
  rw [Tryd.params6] at hA hval
  obtain ⟨v0, vs0, d0, ds0, p0, q0, hargs, rfl, rfl, h0, r0⟩ := trodAll_cons hA
  obtain ⟨v1, vs1, d1, ds1, p1, q1, rfl, rfl, rfl, h1, r1⟩ := trodAll_cons r0
  obtain ⟨v2, vs2, d2, ds2, p2, q2, rfl, rfl, rfl, h2, r2⟩ := trodAll_cons r1
  obtain ⟨rfl, rfl, rfl⟩ := trodAll_nil r2
  obtain rfl : args = #[v0, v1, v2] := by cases args; simp_all
  obtain ⟨A0, n0, c0, l0, rfl, hn0, hl0, hw0, h0'⟩ := Slots.open_slots (hval 0 45 v0 rfl rfl) h0
  obtain ⟨A1, n1, c1, l1, rfl, hn1, hl1, hw1, h1'⟩ := Slots.open_slots (hval 1 45 v1 rfl rfl) h1
  obtain ⟨a2, rfl, _, _, w2⟩ := open_int Tryd.underlying3 (hval 2 3 v2 rfl rfl) h2
  clear hA0 hV0
  refine (walk A0 n0 c0 l0 A1 n1 c1 l1 a2 hn0 hl0 hw0 h0' hn1 hl1 hw1 h1' w2 z0 z1 hs).mono fun e W' ⟨he, hg⟩ => ?_
  subst he
  exact ⟨_, rfl, LaidW.post_vars Slots.laid (by kernel_rfl) rfl rfl hW' hA1 hg (fun sp => LaidW.read2 enc (LaidW.var_below hv0 hg) (LaidW.var_below hv1 hg) sp) (fun _ _ _ => (trodAll_cons_mk (shut_bool Tryd.underlying4 _) trodAll_mk0)) (ok_one (by kernel_rfl) rfl (okWide_bool_mk Tryd.underlying4 _))⟩

theorem laid_met (os : Os) : laidMet Tryd.prog Rows.fnExactFaultsRow.laid ((World.laidAll Tryd.prog os Rows.fnExactFaultsRow.laid).forCall (fun _ _ => 0) ⟨#[], #[.slice none 0 0, .slice none 0 0, .int .i64 0], []⟩).memory :=
  laidMet_laidAll _ (by kernel_rfl) (by kernel_rfl)

set_option maxRecDepth 100000 in
theorem lifted (os : Os) (started : os.Started) (H : Type) (enc : TypeId × Value → H) (F : Stop.Interp) :
    ReturnsInHanded {} Tryd.checked os 6 .any ((OpenSpec.ofChange Rows.fnExactFaultsSpec).preRow enc Tryd.prog Tryd.f6 Rows.fnExactFaultsRow.domain false Rows.fnExactFaultsRow.laid) (((OpenSpec.ofChange Rows.fnExactFaultsSpec).at F).post enc Tryd.prog Tryd.f6 false true false false) := by
  refine returnsInHanded_of_row (C := Tryd.checked) (s := OpenSpec.ofChange Rows.fnExactFaultsSpec) Base.own started (by kernel_rfl) Tryd.func6
    (witness_row_atRef (enc := enc) (C := Tryd.checked) false (World.laidAll Tryd.prog os Rows.fnExactFaultsRow.laid) #[.slice none 0 0, .slice none 0 0, .int .i64 0] (World.laidAll_os _ _ _) (by kernel_rfl) (by kernel_rfl) (by kernel_rfl)
      (OpenSpec.preRow_of_B rfl 8 (by kernel_rfl) (by kernel_rfl) (laid_met os))) ?_
  intro W base args ds gs before hval hW _ _ _ hL _ _
  exact contract H enc W base args ds gs before hval hW hL

theorem said : Rows.FnExactFaultsSaid :=
  OpenClaim.holds_of_cond 6 Tryd.f6 rfl rfl rfl rfl rfl rfl rfl ⟨rfl, rfl, rfl, rfl, rfl⟩ rfl rfl rfl rfl rfl (by kernel_rfl) Tryd.func6 (by kernel_rfl)
    (of_decide_eq_true (by kernel_rfl)) (by unfold Func.isWrapper; first | (rw [if_pos (by decide +kernel)]; kernel_rfl) | (rw [if_neg (by decide +kernel)]; exact ⟨rfl, rfl⟩))
    (fun os started H enc _ F => by rw [OpenClaim.pre_eq_preRow]; exact lifted os started H enc F)

theorem plain (f : FuncId) (fn : Func) (hf : Tryd.pinned.checked.prog.funcNamed "loop.example/g00975/laws.FnExactFaults" = some f) (hfn : Tryd.pinned.checked.prog.funcs[f]? = some fn) :
    true = Tryd.pinned.checked.prog.looks [] ∧ ∀ (j : Nat) t, fn.params[j]? = some t → Tryd.pinned.checked.prog.wantsStandIn t = false := by
  obtain rfl : f = 6 := Option.some.inj ((show Tryd.prog.funcNamed "loop.example/g00975/laws.FnExactFaults" = some 6 by kernel_rfl).symm.trans hf) |>.symm
  obtain rfl : fn = Tryd.f6 := (Option.some.inj (Tryd.func6.symm.trans hfn)).symm
  refine ⟨by kernel_rfl, fun j t ht => ?_⟩
  have hall : Tryd.f6.params.toList.all (fun t => !Tryd.prog.wantsStandIn t) = true := by kernel_rfl
  have hm := List.all_eq_true.1 hall t (by simpa using Array.mem_of_getElem? ht)
  exact (show Tryd.prog.wantsStandIn t = false by simpa using hm)

/-- The given statement: the card. -/
theorem proved : Rows.FnExactFaultsCardSaid :=
  Claim7.holds_tied_plain_at .later [] _ _ _ _ said (fun _ h => by cases h) (by kernel_rfl) (fun _ h => by cases h) fnExactFaults_row_tie rfl ⟨rfl, rfl⟩ (by kernel_rfl) rfl plain (by kernel_rfl)
#print axioms proved
end Go.Proofs.YtilgkknmldlklaaDoor.fnExactFaults
