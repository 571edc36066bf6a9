/-
  For every slice of bytes the law FnBuffer returns true: what was put last for a page is found, no page stands twice, and no more than six stay. No condition.
-/
import Derived.Test.YtmfileflmpmkpaaEntImpl
import Derived.Test.YtmfileflmpmkpaaEntOk
import Derived.Test.YtmfileflmpmkpaaEntTags
import Derived.Test.YtmfileflmpmkpaaEntDraws
import Derived.Test.YtmfileflmpmkpaaEntSame
import Derived.Test.YtmfileflmpmkpaaEntLaw
import Derived.Test.YtmfileflmpmkpaaSameInts
import Derived.Test.YtmfileflmpmkpaaOrdT
import Derived.Test.YtmfileflmpmkpaaCode
import Derived.Test.YtmfileflmpmkpaaBig
namespace Go.Proofs.Ytmfileflmpmkpaa.fnBuffer
set_option maxRecDepth 100000
open Go.ChangeShapes Go.WideShapes Go.ChangeAt Go.RowKit
open Go.Proofs.Ytmfileflmpmkpaa.Base Go.Proofs.Ytmfileflmpmkpaa.Mem Go.Proofs.Ytmfileflmpmkpaa.Slots Go.Proofs.Ytmfileflmpmkpaa.Ints Go.Proofs.Ytmfileflmpmkpaa.Draw Go.Proofs.Ytmfileflmpmkpaa.SDraw Go.Proofs.Ytmfileflmpmkpaa.Data Go.Proofs.Ytmfileflmpmkpaa.Ents
set_option linter.unusedVariables false
set_option linter.unusedSimpArgs false

set_option maxRecDepth 100000 in
set_option maxHeartbeats 8000000 in
theorem walk (A : Option Addr) (n c : Nat) (hn : n ≤ maxLen) {w : World} (hcode : CodeAt w A n) :
    Calls Try.prog 3 #[.slice A n c] w fun e w' => e = .returned (.bool true) ∧ Below w.heap.size w w' := by
  have hn' : n ≤ 9223372036854775807 := hn
  have HC := Lib.hid (show ∀ W, Below w.heap.size w W → CodeAt W A n from fun W hb => hcode.below hb)
  clear hcode hn
  by_cases h1 : 1048576 < n
  · go_enter Try.func3, Try.ntmps3
    go_wp2_with (go_at_call 13; refine (big_yes A n c _ hn' h1).mono ?_; rintro e w' ⟨rfl, rfl⟩)
    go_ret
    exact ⟨rfl, Below.refl _ _⟩
  · have hn2 : n ≤ 1048576 := by omega
    clear h1 hn'
    go_enter Try.func3, Try.ntmps3
    go_wp2_with (go_at_call 13; refine (big_no A n c _ hn2).mono ?_; rintro e w' ⟨rfl, rfl⟩)
    go_wp2_with fail
    refine (drawPut_any A n c _ hn2 (HC.out _ (Below.refl _ _))).mono ?_
    rintro e w1 ⟨ad1, m1, p1, l1, e0, e1, e2, e3, rfl, ⟨hwe, hcb⟩, hE, hb1⟩
    have HL1 := Lib.hid hE.2.1
    have HW1 := Lib.hid hE.2.2.1
    have hm1 : m1 ≤ 1048576 := by have := hE.1; omega
    have hle1 := hE.1
    have HWe := Lib.hid hwe
    have hB1 := btr (Below.refl _ _) hb1
    have hS1 := hb1.size
    have hOb1_1 := Lib.hid (hE.2.2.2)
    clear hE hb1
    clear hwe
    have hK1 := fun (A : Option Addr) (c : Nat) (V : World) (h : Lies V 0 V.heap.size A (ecells l1)) => spec_put A m1 c 0 e0 e1 e2 e3 l1 V hm1 HL1.out h
    have hK2 := fun (A : Option Addr) (c : Nat) (V : World) (h : Lies V 0 V.heap.size A (ecells l1)) => impl_putC A m1 c l1 V e0 e1 e2 e3 hm1 HL1.out h
    have hF := put_find l1 (e0, e1, e2, e3)
    have hO := bufOk_put (l := l1) (e0, e1, e2, e3)
    have hZ := putE_len l1 (e0, e1, e2, e3)
    have hW := wf_putE HW1.out HWe.out
    generalize putE l1 (e0, e1, e2, e3) = u at hK1 hK2 hF hO hZ hW
    dsimp only at hF
    obtain ⟨N, hN⟩ : ∃ N, u.length = N := ⟨_, rfl⟩
    have HU := Lib.hid hN
    have hN6 : N ≤ 6 := by omega
    have hmN : N ≤ 1048576 := by omega
    have hNi : (N : Int) ≤ 6 := by omega
    have HWU := Lib.hid hW
    have HK1 := Lib.hid hK1
    have HK2 := Lib.hid hK2
    have hJ := fun (A : Option Addr) (c : Nat) (V : World) (h : Lies V 0 V.heap.size A (ecells u)) => impl_find A N c u V e0 e1 hmN HU.out h HWU.out HWe.out.1 HWe.out.2.1
    unfold EntP at hJ
    rw [hF] at hJ
    have HJ := Lib.hid hJ
    have hP1 := fun (A : Option Addr) (c : Nat) (V : World) (h : Lies V 0 V.heap.size A (ecells l1)) => spec_bufOkB A m1 c 0 V.heap.size l1 V hm1 HL1.out h
    have hP2 := fun (A : Option Addr) (c : Nat) (V : World) (hc : m1 ≤ c) (h : Lies V 0 V.heap.size A (ecells l1)) => impl_bufOk A m1 c l1 V hm1 hc HL1.out h
    have hP3 := fun (A : Option Addr) (c : Nat) (V : World) (hc : N ≤ c) (h : Lies V 0 V.heap.size A (ecells u)) => impl_bufOk A N c u V hmN hc HU.out h
    generalize bufOk l1 = o at hP1 hP2 hO
    have HP1 := Lib.hid hP1
    have HP2 := Lib.hid hP2
    have HP3 := Lib.hid hP3
    have HO := Lib.hid hO
    have hT1 := fun (A : Option Addr) (c : Nat) (V : World) (h : Lies V 0 V.heap.size A (ecells l1)) => spec_tags A m1 c 0 l1 V hm1 HL1.out h
    have hT2 := fun (A : Option Addr) (c : Nat) (V : World) (h : Lies V 0 V.heap.size A (ecells l1)) => impl_tags A m1 c l1 V hm1 HL1.out h HW1.out
    have hTl := tagsL_le l1
    rw [HL1.out] at hTl
    generalize tagsL l1 = T at hT1 hT2 hTl
    obtain ⟨Q, hQ⟩ : ∃ Q, T.length = Q := ⟨_, rfl⟩
    have HQ := Lib.hid hQ
    have hmQ : Q ≤ 1048576 := by omega
    have HT1 := Lib.hid hT1
    have HT2 := Lib.hid hT2
    clear hK1 hK2 hF hO hZ hW hN hJ hP1 hP2 hP3 hT1 hT2 hTl hQ
    have hb2 : Below w1.heap.size w1 (w1.alloc (.cells #[.int .i64 e0, .int .i64 e1, .int .i64 e2, .int .i64 e3] 26)) := (Below.refl _ _).alloc (Nat.le_refl _) _
    have hB2 := btr hB1 hb2
    have hS2 : w1.heap.size < (w1.alloc (.cells #[.int .i64 e0, .int .i64 e1, .int .i64 e2, .int .i64 e3] 26)).heap.size := by simp
    have hOb1_2 := Lib.hid (hOb1_1.out.below hb2 (by omega))
    have hOe_2 := Lib.hid (Four.new w1 (e0, e1, e2, e3) 26)
    clear hOb1_1 hb2
    obtain ⟨ze0, ze1, ze2, ze3, _, _, _, _, _⟩ := hOe_2.out
    dsimp only at ze0 ze1 ze2 ze3
    go_wp2_with fail
    refine (HK2.out _ _ _ (hOb1_2.out.wide (Nat.zero_le _) (by omega))).mono ?_
    rintro e w3 ⟨A3', n3', c3', rfl, hl3, ho3, hb3, hcx⟩
    have he3 := HU.out.symm.trans hl3
    subst he3
    have hB3 := btr hB2 hb3
    have hS3 := hb3.size
    have hOb1_3 := Lib.hid (hOb1_2.out.below hb3 (by omega))
    have hOe_3 := Lib.hid (hOe_2.out.below hb3 (by omega))
    have hOx_3 := Lib.hid ho3
    clear hOb1_2 hOe_2 hl3 ho3 hb3
    clear ze0 ze1 ze2 ze3
    obtain ⟨ze0, ze1, ze2, ze3, _, _, _, _, _⟩ := hOe_3.out
    dsimp only at ze0 ze1 ze2 ze3
    go_wp2_with fail
    refine (HK1.out _ _ _ (hOb1_3.out.wide (Nat.zero_le _) (by omega))).mono ?_
    rintro e w4 ⟨A4', n4', c4', rfl, hl4, ho4, hb4⟩
    have he4 := HU.out.symm.trans hl4
    subst he4
    have hB4 := btr hB3 hb4
    have hS4 := hb4.size
    have hOb1_4 := Lib.hid (hOb1_3.out.below hb4 (by omega))
    have hOe_4 := Lib.hid (hOe_3.out.below hb4 (by omega))
    have hOx_4 := Lib.hid (hOx_3.out.below hb4 (by omega))
    have hOy_4 := Lib.hid ho4
    clear hOb1_3 hOe_3 hOx_3 hl4 ho4 hb4
    clear ze0 ze1 ze2 ze3
    go_wp2_with fail
    refine (sameE_same A3' A4' N c3' c4' _ _ _ _ u _ hmN HU.out hOx_4.out.1 hOy_4.out.1).mono ?_
    rintro e w5 ⟨rfl, hb5⟩
    have hB5 := btr hB4 hb5
    have hS5 := hb5.size
    have hOb1_5 := Lib.hid (hOb1_4.out.below hb5 (by omega))
    have hOe_5 := Lib.hid (hOe_4.out.below hb5 (by omega))
    have hOx_5 := Lib.hid (hOx_4.out.below hb5 (by omega))
    have hOy_5 := Lib.hid (hOy_4.out.below hb5 (by omega))
    clear hOb1_4 hOe_4 hOx_4 hOy_4 hb5
    clear hOy_5
    go_wp2_with fail
    refine (HP2.out _ _ _ hcb (hOb1_5.out.wide (Nat.zero_le _) (by omega))).mono ?_
    rintro e w6 ⟨rfl, hb6⟩
    have hB6 := btr hB5 hb6
    have hS6 := hb6.size
    have hOb1_6 := Lib.hid (hOb1_5.out.below hb6 (by omega))
    have hOe_6 := Lib.hid (hOe_5.out.below hb6 (by omega))
    have hOx_6 := Lib.hid (hOx_5.out.below hb6 (by omega))
    clear hOb1_5 hOe_5 hOx_5 hb6
    go_wp2_with fail
    refine (HP1.out _ _ _ (hOb1_6.out.wide (Nat.zero_le _) (by omega))).mono ?_
    rintro e w7 ⟨rfl, hb7⟩
    have hB7 := btr hB6 hb7
    have hS7 := hb7.size
    have hOb1_7 := Lib.hid (hOb1_6.out.below hb7 (by omega))
    have hOe_7 := Lib.hid (hOe_6.out.below hb7 (by omega))
    have hOx_7 := Lib.hid (hOx_6.out.below hb7 (by omega))
    clear hOb1_6 hOe_6 hOx_6 hb7
    go_wp2_with fail
    refine (drawFind_any A n c _ hn2 (HC.out _ hB7)).mono ?_
    rintro e w8 ⟨ad2, m2, p2, l2, t, p, rfl, hwt, hwp, hE, hb8⟩
    have HL2 := Lib.hid hE.2.1
    have HW2 := Lib.hid hE.2.2.1
    have hm2 : m2 ≤ 1048576 := by have := hE.1; omega
    have hle2 := hE.1
    have HWt := Lib.hid hwt
    have HWp := Lib.hid hwp
    have hB8 := btr hB7 hb8
    have hS8 := hb8.size
    have hOb1_8 := Lib.hid (hOb1_7.out.below hb8 (by omega))
    have hOe_8 := Lib.hid (hOe_7.out.below hb8 (by omega))
    have hOx_8 := Lib.hid (hOx_7.out.below hb8 (by omega))
    have hOb2_8 := Lib.hid (hE.2.2.2)
    clear hOb1_7 hOe_7 hOx_7 hE hb8
    clear hwt hwp
    have hQ1 := fun (A : Option Addr) (c : Nat) (V : World) (h : Lies V 0 V.heap.size A (ecells l2)) => spec_find A m2 c 0 t p l2 V hm2 HL2.out h
    have hQ2 := fun (A : Option Addr) (c : Nat) (V : World) (h : Lies V 0 V.heap.size A (ecells l2)) => impl_find A m2 c l2 V t p hm2 HL2.out h HW2.out HWt.out HWp.out
    unfold EntP at hQ1 hQ2
    generalize findE l2 t p = z at hQ1 hQ2
    obtain ⟨⟨f0, f1, f2, f3⟩, fo⟩ := z
    have HQ1 := Lib.hid hQ1
    have HQ2 := Lib.hid hQ2
    clear hQ1 hQ2
    go_wp2_with fail
    refine (HQ2.out _ _ _ (hOb2_8.out.wide (Nat.zero_le _) (by omega))).mono ?_
    rintro e w9 ⟨rfl, hb9⟩
    have hB9 := btr hB8 hb9
    have hS9 := hb9.size
    have hOb1_9 := Lib.hid (hOb1_8.out.below hb9 (by omega))
    have hOe_9 := Lib.hid (hOe_8.out.below hb9 (by omega))
    have hOx_9 := Lib.hid (hOx_8.out.below hb9 (by omega))
    have hOb2_9 := Lib.hid (hOb2_8.out.below hb9 (by omega))
    clear hOb1_8 hOe_8 hOx_8 hOb2_8 hb9
    have hb10 : Below w9.heap.size w9 (w9.alloc (.cells #[.int .i64 f0, .int .i64 f1, .int .i64 f2, .int .i64 f3] 26)) := (Below.refl _ _).alloc (Nat.le_refl _) _
    have hB10 := btr hB9 hb10
    have hS10 : w9.heap.size < (w9.alloc (.cells #[.int .i64 f0, .int .i64 f1, .int .i64 f2, .int .i64 f3] 26)).heap.size := by simp
    have hOb1_10 := Lib.hid (hOb1_9.out.below hb10 (by omega))
    have hOe_10 := Lib.hid (hOe_9.out.below hb10 (by omega))
    have hOx_10 := Lib.hid (hOx_9.out.below hb10 (by omega))
    have hOb2_10 := Lib.hid (hOb2_9.out.below hb10 (by omega))
    have hOf_10 := Lib.hid (Four.new w9 (f0, f1, f2, f3) 26)
    clear hOb1_9 hOe_9 hOx_9 hOb2_9 hb10
    go_wp2_with fail
    refine (HQ1.out _ _ _ (hOb2_10.out.wide (Nat.zero_le _) (by omega))).mono ?_
    rintro e w11 ⟨rfl, hb11⟩
    have hB11 := btr hB10 hb11
    have hS11 := hb11.size
    have hOb1_11 := Lib.hid (hOb1_10.out.below hb11 (by omega))
    have hOe_11 := Lib.hid (hOe_10.out.below hb11 (by omega))
    have hOx_11 := Lib.hid (hOx_10.out.below hb11 (by omega))
    have hOb2_11 := Lib.hid (hOb2_10.out.below hb11 (by omega))
    have hOf_11 := Lib.hid (hOf_10.out.below hb11 (by omega))
    clear hOb1_10 hOe_10 hOx_10 hOb2_10 hOf_10 hb11
    have hb12 : Below w11.heap.size w11 (w11.alloc (.cells #[.int .i64 f0, .int .i64 f1, .int .i64 f2, .int .i64 f3] 26)) := (Below.refl _ _).alloc (Nat.le_refl _) _
    have hB12 := btr hB11 hb12
    have hS12 : w11.heap.size < (w11.alloc (.cells #[.int .i64 f0, .int .i64 f1, .int .i64 f2, .int .i64 f3] 26)).heap.size := by simp
    have hOb1_12 := Lib.hid (hOb1_11.out.below hb12 (by omega))
    have hOe_12 := Lib.hid (hOe_11.out.below hb12 (by omega))
    have hOx_12 := Lib.hid (hOx_11.out.below hb12 (by omega))
    have hOb2_12 := Lib.hid (hOb2_11.out.below hb12 (by omega))
    have hOf_12 := Lib.hid (hOf_11.out.below hb12 (by omega))
    have hOg_12 := Lib.hid (Four.new w11 (f0, f1, f2, f3) 26)
    clear hOb1_11 hOe_11 hOx_11 hOb2_11 hOf_11 hb12
    obtain ⟨ze0, ze1, ze2, ze3, _, _, _, _, _⟩ := hOe_12.out
    dsimp only at ze0 ze1 ze2 ze3
    go_wp2_with fail
    refine (HJ.out _ _ _ (hOx_12.out.1.wide (Nat.zero_le _) (by omega))).mono ?_
    rintro e w13 ⟨rfl, hb13⟩
    have hB13 := btr hB12 hb13
    have hS13 := hb13.size
    have hOb1_13 := Lib.hid (hOb1_12.out.below hb13 (by omega))
    have hOe_13 := Lib.hid (hOe_12.out.below hb13 (by omega))
    have hOx_13 := Lib.hid (hOx_12.out.below hb13 (by omega))
    have hOb2_13 := Lib.hid (hOb2_12.out.below hb13 (by omega))
    have hOf_13 := Lib.hid (hOf_12.out.below hb13 (by omega))
    have hOg_13 := Lib.hid (hOg_12.out.below hb13 (by omega))
    clear hOb1_12 hOe_12 hOx_12 hOb2_12 hOf_12 hOg_12 hb13
    clear ze0 ze1 ze2 ze3
    have hb14 : Below w13.heap.size w13 (w13.alloc (.cells #[.int .i64 e0, .int .i64 e1, .int .i64 e2, .int .i64 e3] 26)) := (Below.refl _ _).alloc (Nat.le_refl _) _
    have hB14 := btr hB13 hb14
    have hS14 : w13.heap.size < (w13.alloc (.cells #[.int .i64 e0, .int .i64 e1, .int .i64 e2, .int .i64 e3] 26)).heap.size := by simp
    have hOb1_14 := Lib.hid (hOb1_13.out.below hb14 (by omega))
    have hOe_14 := Lib.hid (hOe_13.out.below hb14 (by omega))
    have hOx_14 := Lib.hid (hOx_13.out.below hb14 (by omega))
    have hOb2_14 := Lib.hid (hOb2_13.out.below hb14 (by omega))
    have hOf_14 := Lib.hid (hOf_13.out.below hb14 (by omega))
    have hOg_14 := Lib.hid (hOg_13.out.below hb14 (by omega))
    have hOh_14 := Lib.hid (Four.new w13 (e0, e1, e2, e3) 26)
    clear hOb1_13 hOe_13 hOx_13 hOb2_13 hOf_13 hOg_13 hb14
    obtain ⟨zf0, zf1, zf2, zf3, _, _, _, _, _⟩ := hOf_14.out
    dsimp only at zf0 zf1 zf2 zf3
    obtain ⟨zg0, zg1, zg2, zg3, _, _, _, _, _⟩ := hOg_14.out
    dsimp only at zg0 zg1 zg2 zg3
    obtain ⟨zh0, zh1, zh2, zh3, _, _, _, _, _⟩ := hOh_14.out
    dsimp only at zh0 zh1 zh2 zh3
    obtain ⟨ze0, ze1, ze2, ze3, _, _, _, _, _⟩ := hOe_14.out
    dsimp only at ze0 ze1 ze2 ze3
    go_wp2_with fail
    refine (HP1.out _ _ _ (hOb1_14.out.wide (Nat.zero_le _) (by omega))).mono ?_
    rintro e w15 ⟨rfl, hb15⟩
    have hB15 := btr hB14 hb15
    have hS15 := hb15.size
    have hOb1_15 := Lib.hid (hOb1_14.out.below hb15 (by omega))
    have hOe_15 := Lib.hid (hOe_14.out.below hb15 (by omega))
    have hOx_15 := Lib.hid (hOx_14.out.below hb15 (by omega))
    have hOb2_15 := Lib.hid (hOb2_14.out.below hb15 (by omega))
    have hOf_15 := Lib.hid (hOf_14.out.below hb15 (by omega))
    have hOg_15 := Lib.hid (hOg_14.out.below hb15 (by omega))
    have hOh_15 := Lib.hid (hOh_14.out.below hb15 (by omega))
    clear hOb1_14 hOe_14 hOx_14 hOb2_14 hOf_14 hOg_14 hOh_14 hb15
    clear zf0 zf1 zf2 zf3 zg0 zg1 zg2 zg3 zh0 zh1 zh2 zh3 ze0 ze1 ze2 ze3
    clear hOf_15
    clear hOg_15
    clear hOh_15
    clear hOe_15
    clear hOb2_15
    cases o
    · go_wp2_with fail
      refine (HT2.out _ _ _ (hOb1_15.out.wide (Nat.zero_le _) (by omega))).mono ?_
      rintro e w16 ⟨A16', n16', c16', rfl, hl16, ho16, hb16⟩
      have he16 := HQ.out.symm.trans hl16
      subst he16
      have hB16 := btr hB15 hb16
      have hS16 := hb16.size
      have hOb1_16 := Lib.hid (hOb1_15.out.below hb16 (by omega))
      have hOx_16 := Lib.hid (hOx_15.out.below hb16 (by omega))
      have hOtx_16 := Lib.hid ho16
      clear hOb1_15 hOx_15 hl16 ho16 hb16
      go_wp2_with fail
      refine (HT1.out _ _ _ (hOb1_16.out.wide (Nat.zero_le _) (by omega))).mono ?_
      rintro e w17 ⟨A17', n17', c17', rfl, hl17, ho17, hb17⟩
      have he17 := HQ.out.symm.trans hl17
      subst he17
      have hB17 := btr hB16 hb17
      have hS17 := hb17.size
      have hOb1_17 := Lib.hid (hOb1_16.out.below hb17 (by omega))
      have hOx_17 := Lib.hid (hOx_16.out.below hb17 (by omega))
      have hOtx_17 := Lib.hid (hOtx_16.out.below hb17 (by omega))
      have hOty_17 := Lib.hid ho17
      clear hOb1_16 hOx_16 hOtx_16 hl17 ho17 hb17
      go_wp2_with fail
      refine (sameInts_same A16' A17' Q c16' c17' _ _ _ _ T _ hmQ HQ.out hOtx_17.out.1 hOty_17.out.1).mono ?_
      rintro e w18 ⟨rfl, hb18⟩
      have hB18 := btr hB17 hb18
      have hS18 := hb18.size
      have hOb1_18 := Lib.hid (hOb1_17.out.below hb18 (by omega))
      have hOx_18 := Lib.hid (hOx_17.out.below hb18 (by omega))
      have hOtx_18 := Lib.hid (hOtx_17.out.below hb18 (by omega))
      have hOty_18 := Lib.hid (hOty_17.out.below hb18 (by omega))
      clear hOb1_17 hOx_17 hOtx_17 hOty_17 hb18
      go_wp2_with fail
      go_ret
      exact ⟨rfl, hB18⟩
    · rw [HO.out rfl] at HP3
      go_wp2_with fail
      refine (HP3.out _ _ _ hcx (hOx_15.out.1.wide (Nat.zero_le _) (by omega))).mono ?_
      rintro e w16 ⟨rfl, hb16⟩
      have hB16 := btr hB15 hb16
      have hS16 := hb16.size
      have hOb1_16 := Lib.hid (hOb1_15.out.below hb16 (by omega))
      have hOx_16 := Lib.hid (hOx_15.out.below hb16 (by omega))
      clear hOb1_15 hOx_15 hb16
      go_wp2_with fail
      refine (HT2.out _ _ _ (hOb1_16.out.wide (Nat.zero_le _) (by omega))).mono ?_
      rintro e w17 ⟨A17', n17', c17', rfl, hl17, ho17, hb17⟩
      have he17 := HQ.out.symm.trans hl17
      subst he17
      have hB17 := btr hB16 hb17
      have hS17 := hb17.size
      have hOb1_17 := Lib.hid (hOb1_16.out.below hb17 (by omega))
      have hOx_17 := Lib.hid (hOx_16.out.below hb17 (by omega))
      have hOtx_17 := Lib.hid ho17
      clear hOb1_16 hOx_16 hl17 ho17 hb17
      go_wp2_with fail
      refine (HT1.out _ _ _ (hOb1_17.out.wide (Nat.zero_le _) (by omega))).mono ?_
      rintro e w18 ⟨A18', n18', c18', rfl, hl18, ho18, hb18⟩
      have he18 := HQ.out.symm.trans hl18
      subst he18
      have hB18 := btr hB17 hb18
      have hS18 := hb18.size
      have hOb1_18 := Lib.hid (hOb1_17.out.below hb18 (by omega))
      have hOx_18 := Lib.hid (hOx_17.out.below hb18 (by omega))
      have hOtx_18 := Lib.hid (hOtx_17.out.below hb18 (by omega))
      have hOty_18 := Lib.hid ho18
      clear hOb1_17 hOx_17 hOtx_17 hl18 ho18 hb18
      go_wp2_with fail
      refine (sameInts_same A17' A18' Q c17' c18' _ _ _ _ T _ hmQ HQ.out hOtx_18.out.1 hOty_18.out.1).mono ?_
      rintro e w19 ⟨rfl, hb19⟩
      have hB19 := btr hB18 hb19
      have hS19 := hb19.size
      have hOb1_19 := Lib.hid (hOb1_18.out.below hb19 (by omega))
      have hOx_19 := Lib.hid (hOx_18.out.below hb19 (by omega))
      have hOtx_19 := Lib.hid (hOtx_18.out.below hb19 (by omega))
      have hOty_19 := Lib.hid (hOty_18.out.below hb19 (by omega))
      clear hOb1_18 hOx_18 hOtx_18 hOty_18 hb19
      go_wp2_with fail
      go_ret
      exact ⟨rfl, hB19⟩

/-! ### The row's step -/
set_option maxRecDepth 100000 in
theorem lifted (os : Os) (started : os.Started) (H : Type) (enc : TypeId × Value → H) :
    ReturnsInHanded {} Try.checked os 3 .any (Rows.fnBufferSpec.pre6 enc Try.prog Try.f3 Rows.fnBufferRow.domain false) (Rows.fnBufferSpec.post enc Try.prog Try.f3 false true false false) := by
  refine returnsInHanded_of_change (C := Try.checked) Base.own started (by kernel_rfl) Try.func3
    (ChangeSpec.witness6 (enc := enc) (C := Try.checked) false ⟨#[], #[.slice none 0 0], []⟩ 8 (by kernel_rfl) (by kernel_rfl) (by kernel_rfl) (by kernel_rfl)) ?_
  intro W base args ds gs before hval0 hW hcnd _
  have hval : ∀ (j : Nat) t v, Try.f3.params[j]? = some t → args[j]? = some v → Value.okWide Try.prog W .any base t v := hval0
  have hW' := hW
  obtain ⟨p, q, hA0, hV, rfl, hfz, hnd⟩ := hW
  have hA : DataW.TrodAll enc Try.prog W 0 (fun _ => true) true Try.f3.params.toList args.toList ds p := hA0
  have hA1 := hA
  rw [Try.params3] at hA hval
  obtain ⟨v0, vs0, d0, ds0, p0, q0, hargs, rfl, rfl, h0, r0⟩ := trodAll_cons hA
  obtain ⟨rfl, rfl, rfl⟩ := trodAll_nil r0
  obtain rfl : args = #[v0] := by cases args; simp_all
  obtain ⟨rfl, rfl⟩ := trodVars_none hV
  obtain ⟨A0, n0, c0, rfl, hn0, hcode0, _⟩ := Draw.open_code (hval 0 22 v0 rfl rfl) h0
  clear hA0 hval0
  rw [List.append_nil] at hW'
  refine (walk A0 n0 c0 hn0 hcode0).mono fun e W' ⟨he, hg⟩ => ?_
  subst he
  exact ⟨_, rfl, Mem.post_args Slots.laid (by kernel_rfl) rfl rfl rfl hW' hA1 hg (fun _ _ _ => (trodAll_cons_mk (shut_bool Try.underlying4 _) trodAll_mk0)) (ok_one (by kernel_rfl) rfl (okWide_bool_mk Try.underlying4 _))⟩

theorem over : Rows.fnBufferRow.holds Try.pinned (OpenSpec.ofChange Rows.fnBufferSpec) :=
  OpenClaim.holds_of_wide 3 Try.f3 rfl rfl rfl rfl rfl rfl rfl ⟨rfl, rfl, rfl, rfl, rfl⟩ rfl rfl rfl rfl rfl (by kernel_rfl) Try.func3 (by kernel_rfl)
    (of_decide_eq_true (by kernel_rfl)) (by unfold Func.isWrapper; first | (rw [if_pos (by decide +kernel)]; kernel_rfl) | (rw [if_neg (by decide +kernel)]; exact ⟨rfl, rfl⟩))
    (fun os started H enc _ => lifted os started H enc)

/-- The given statement. -/
theorem proved : Rows.FnBufferSaid :=
  over
#print axioms proved
end Go.Proofs.Ytmfileflmpmkpaa.fnBuffer
