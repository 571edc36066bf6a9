/-
  At every argument the law FnExactForgetUses returns true: the project's ForgetUses answers as the given model's ForgetUses, changes no argument, and what it returns is its own. No condition.
-/
import Derived.Test.YtfgckkgakghenaaKeptImpl
import Derived.Test.YtfgckkgakghenaaSlotArgs
import Derived.Test.YtfgckkgakghenaaOrdT
namespace Go.Proofs.Ytfgckkgakghenaa.fnExactForgetUses
set_option maxRecDepth 100000
open Go.ChangeShapes Go.WideShapes Go.ChangeAt Go.RowKit
open Go.Proofs.Ytfgckkgakghenaa.Base Go.Proofs.Ytfgckkgakghenaa.Mem Go.Proofs.Ytfgckkgakghenaa.Slots Go.Proofs.Ytfgckkgakghenaa.Ints Go.Proofs.Ytfgckkgakghenaa.Kepts
set_option linter.unusedVariables false
set_option linter.unusedSimpArgs false

set_option maxRecDepth 100000 in
set_option maxHeartbeats 8000000 in
theorem walk (A0 : Option Addr) (n0 c0 : Nat) (B0 : Option Addr) (m0 e0 : Nat) (k0 : KD) (A1 : Option Addr) (n1 c1 : Nat) (l1 : List Sl) (a2 : Int) {w : World} (hn0 : n0 ≤ 9223372036854775807) (hm0 : m0 ≤ 9223372036854775807) (hw0 : wfL k0.2) (h0 : KR w 0 w.heap.size k0 A0 B0 n0 m0) (hn1 : n1 ≤ 9223372036854775807) (hl1 : l1.length = n1) (hw1 : wfL l1) (h1 : Lies w 0 w.heap.size A1 (scells l1)) (w2 : (Lit.int .i64 a2).wf = true) :
    Calls Try.prog 11 #[.agg #[.slice A0 n0 c0, .slice B0 m0 e0], .slice A1 n1 c1, .int .i64 a2] w fun e w' => e = .returned (.bool true) ∧ Below w.heap.size w w' := by
  have HA0 := Lib.hid (show ∀ W, Below w.heap.size w W → KR W 0 W.heap.size k0 A0 B0 n0 m0 from fun W hb => (h0.below hb (Nat.le_refl _)).wide (Nat.le_refl _) hb.size)
  have HL1_0 := Lib.hid h0.l1
  have HL2_0 := Lib.hid h0.l2
  have HW0 := Lib.hid hw0
  clear hw0 h0
  have HA1 := Lib.hid (show ∀ W, Below w.heap.size w W → Lies W 0 W.heap.size A1 (scells l1) from fun W hb => (h1.below hb (Nat.le_refl _)).wide (Nat.le_refl _) hb.size)
  have HL1 := Lib.hid hl1
  have HW1 := Lib.hid hw1
  clear hl1 hw1 h1
  have HW2 := Lib.hid w2
  clear w2
  by_cases hbig0 : (1048576 : Int) < (n0 : Int) + (m0 : Int)
  · go_enter Try.func11, Try.ntmps11
    have hB1 : Below w.heap.size w (w.alloc (.cells #[.slice A0 n0 c0, .slice B0 m0 e0] 64)) := (Below.refl _ _).alloc (Nat.le_refl _) _
    have hS1 := hB1.size
    have hOb_1 := Lib.hid (Two.new w (.slice A0 n0 c0) (.slice B0 m0 e0) 64)
    obtain ⟨zb0, zb1, _, _, _⟩ := hOb_1.out
    go_wp2_with fail
    refine (szKept_no A0 B0 n0 m0 c0 e0 _ (1048576 : Int) (by omega) (by omega) hn0 hm0 hbig0).mono ?_
    rintro e w2 ⟨rfl, hb2⟩
    have hB2 := btr hB1 hb2
    have hS2 := hb2.size
    have hOb_2 := Lib.hid (hOb_1.out.below hb2 )
    clear hOb_1 hb2
    clear zb0 zb1
    go_wp2_with fail
    go_ret
    exact ⟨rfl, hB2⟩
  have hmn0 : n0 ≤ 1048576 := by omega
  have hmm0 : m0 ≤ 1048576 := by omega
  have hle0 : (n0 : Int) + (m0 : Int) ≤ (1048576 : Int) := by omega
  have hz0 : ¬ (((1048576 : Int) - (n0 : Int) - (m0 : Int)) < 0) := by omega
  by_cases hbig1 : ((1048576 : Int) - (n0 : Int) - (m0 : Int)) < (n1 : Int)
  · go_enter Try.func11, Try.ntmps11
    have hB1 : Below w.heap.size w (w.alloc (.cells #[.slice A0 n0 c0, .slice B0 m0 e0] 64)) := (Below.refl _ _).alloc (Nat.le_refl _) _
    have hS1 := hB1.size
    have hOb_1 := Lib.hid (Two.new w (.slice A0 n0 c0) (.slice B0 m0 e0) 64)
    obtain ⟨zb0, zb1, _, _, _⟩ := hOb_1.out
    go_wp2_with fail
    refine (szKept_yes A0 B0 n0 m0 c0 e0 _ (1048576 : Int) (by omega) (by omega)).mono ?_
    rintro e w2 ⟨rfl, hb2⟩
    have hB2 := btr hB1 hb2
    have hS2 := hb2.size
    have hOb_2 := Lib.hid (hOb_1.out.below hb2 )
    clear hOb_1 hb2
    clear zb0 zb1
    go_wp2_with fail
    refine (szSlotS_no A1 n1 c1 ((1048576 : Int) - (n0 : Int) - (m0 : Int)) _ (by omega) (by omega) hn1 hbig1).mono ?_
    rintro e w' ⟨rfl, rfl⟩
    go_wp2_with fail
    go_ret
    exact ⟨rfl, hB2⟩
  have hm1 : n1 ≤ 1048576 := by omega
  have hle1 : (n1 : Int) ≤ ((1048576 : Int) - (n0 : Int) - (m0 : Int)) := by omega
  have hz1 : ¬ ((((1048576 : Int) - (n0 : Int) - (m0 : Int)) - (n1 : Int)) < 0) := by omega
  have hK1 := fun (A B : Option Addr) (c d : Nat) (C1 : Option Addr) (q1 : Nat) (V : World) (h : KR V 0 V.heap.size k0 A B n0 m0) (h1 : Lies V 0 V.heap.size C1 (scells l1)) => spec_usesK A B n0 m0 c d k0 V C1 n1 q1 a2 l1 hmn0 hmm0 hm1 HL1.out h h1
  have hK2 := fun (A B : Option Addr) (c d : Nat) (C1 : Option Addr) (q1 : Nat) (V : World) (h : KR V 0 V.heap.size k0 A B n0 m0) (h1 : Lies V 0 V.heap.size C1 (scells l1)) => impl_usesK A B n0 m0 c d k0 V C1 n1 q1 a2 l1 hmn0 hmm0 hm1 HL1.out h h1 HW0.out HW1.out
  generalize usesK k0 l1 a2 = u at hK1 hK2
  have HK1 := Lib.hid hK1
  have HK2 := Lib.hid hK2
  clear hK1 hK2
  obtain ⟨qa, hqa⟩ : ∃ q : Nat, q = 1 + n0 + 2 * m0 := ⟨_, rfl⟩
  have Hqa := Lib.hid (show ((1 : Nat) : Int) + (n0 : Int) + 2 * (m0 : Int) = (qa : Int) by omega)
  have hpqa : ¬ ((qa : Int) < 0) := by omega
  obtain ⟨qs1, hqs1⟩ : ∃ q : Nat, q = qa + 2 * n1 := ⟨_, rfl⟩
  have Hqs1 := Lib.hid (show ((qa : Nat) : Int) + 2 * (n1 : Int) = (qs1 : Int) by omega)
  have hpqs1 : ¬ ((qs1 : Int) < 0) := by omega
  have hqa2 : qa ≤ 4194304 := by omega
  have hxqs1 : qs1 ≤ 4194304 := by omega
  clear hqa hqs1
  go_enter Try.func11, Try.ntmps11
  have hB1 : Below w.heap.size w (w.alloc (.cells #[.slice A0 n0 c0, .slice B0 m0 e0] 64)) := (Below.refl _ _).alloc (Nat.le_refl _) _
  have hS1 := hB1.size
  have hOb_1 := Lib.hid (Two.new w (.slice A0 n0 c0) (.slice B0 m0 e0) 64)
  obtain ⟨zb0, zb1, _, _, _⟩ := hOb_1.out
  go_wp2_with fail
  refine (szKept_yes A0 B0 n0 m0 c0 e0 _ (1048576 : Int) (by omega) (by omega)).mono ?_
  rintro e w2 ⟨rfl, hb2⟩
  have hB2 := btr hB1 hb2
  have hS2 := hb2.size
  have hOb_2 := Lib.hid (hOb_1.out.below hb2 )
  clear hOb_1 hb2
  clear zb0 zb1
  go_wp2_with fail
  refine (szSlotS_yes A1 n1 c1 ((1048576 : Int) - (n0 : Int) - (m0 : Int)) _ (by omega) (by omega)).mono ?_
  rintro e w' ⟨rfl, rfl⟩
  obtain ⟨zb0, zb1, _, _, _⟩ := hOb_2.out
  go_wp2_with fail
  refine (toKept_any A0 B0 n0 m0 c0 e0 0 k0 _ hmn0 hmm0 (HA0.out _ hB2)).mono ?_
  rintro e w4 ⟨A4', c4', B4', d4', rfl, ho4, hb4⟩
  have hB4 := btr hB2 hb4
  have hS4 := hb4.size
  have hOb_4 := Lib.hid (hOb_2.out.below hb4 )
  have hOa_4 := Lib.hid ho4
  clear hOb_2 ho4 hb4
  clear zb0 zb1
  go_wp2_with fail
  refine (toSlotS_any A1 n1 c1 0 l1 _ hm1 HL1.out (HA1.out _ hB4)).mono ?_
  rintro e w5 ⟨ad5, d5, rfl, hc5, ho5, hb5⟩
  have hB5 := btr hB4 hb5
  have hS5 := hb5.size
  have hOb_5 := Lib.hid (hOb_4.out.below hb5 )
  have hOa_5 := Lib.hid (hOa_4.out.below hb5 (by omega))
  have hOa1_5 := Lib.hid ho5
  clear hOb_4 hOa_4 hc5 ho5 hb5
  go_wp2_with fail
  refine (HK1.out _ _ _ _ _ _ _ (hOa_5.out.reads.wide (Nat.zero_le _) (by omega)) (hOa1_5.out.1.wide (Nat.zero_le _) (by omega))).mono ?_
  rintro e w6 ⟨A6', c6', B6', d6', rfl, ho6, hb6⟩
  have hB6 := btr hB5 hb6
  have hS6 := hb6.size
  have hOb_6 := Lib.hid (hOb_5.out.below hb6 )
  have hOa_6 := Lib.hid (hOa_5.out.below hb6 (by omega))
  have hOa1_6 := Lib.hid (hOa1_5.out.below hb6 (by omega))
  have hOu_6 := Lib.hid ho6
  clear hOb_5 hOa_5 hOa1_5 ho6 hb6
  clear hOa_6
  clear hOa1_6
  have hb7 : Below w6.heap.size w6 (w6.alloc (.cells #[.slice A6' n0 c6', .slice B6' m0 d6'] 27)) := (Below.refl _ _).alloc (Nat.le_refl _) _
  have hB7 := btr hB6 hb7
  have hS7 : w6.heap.size < (w6.alloc (.cells #[.slice A6' n0 c6', .slice B6' m0 d6'] 27)).heap.size := by simp
  have hOb_7 := Lib.hid (hOb_6.out.below hb7 )
  have hOu_7 := Lib.hid (hOu_6.out.below hb7 (by omega))
  have hOvu_7 := Lib.hid (Two.new w6 (.slice A6' n0 c6') (.slice B6' m0 d6') 27)
  clear hOb_6 hOu_6 hb7
  obtain ⟨zb0, zb1, _, _, _⟩ := hOb_7.out
  go_wp2_with fail
  refine (toKept_any A0 B0 n0 m0 c0 e0 0 k0 _ hmn0 hmm0 (HA0.out _ hB7)).mono ?_
  rintro e w8 ⟨A8', c8', B8', d8', rfl, ho8, hb8⟩
  have hB8 := btr hB7 hb8
  have hS8 := hb8.size
  have hOb_8 := Lib.hid (hOb_7.out.below hb8 )
  have hOu_8 := Lib.hid (hOu_7.out.below hb8 (by omega))
  have hOvu_8 := Lib.hid (hOvu_7.out.below hb8 )
  have hOx_8 := Lib.hid ho8
  clear hOb_7 hOu_7 hOvu_7 ho8 hb8
  clear zb0 zb1
  have hb9 : Below w8.heap.size w8 (w8.alloc (.cells #[.slice A8' n0 c8', .slice B8' m0 d8'] 27)) := (Below.refl _ _).alloc (Nat.le_refl _) _
  have hB9 := btr hB8 hb9
  have hS9 : w8.heap.size < (w8.alloc (.cells #[.slice A8' n0 c8', .slice B8' m0 d8'] 27)).heap.size := by simp
  have hOb_9 := Lib.hid (hOb_8.out.below hb9 )
  have hOu_9 := Lib.hid (hOu_8.out.below hb9 (by omega))
  have hOvu_9 := Lib.hid (hOvu_8.out.below hb9 )
  have hOx_9 := Lib.hid (hOx_8.out.below hb9 (by omega))
  have hOvx_9 := Lib.hid (Two.new w8 (.slice A8' n0 c8') (.slice B8' m0 d8') 27)
  clear hOb_8 hOu_8 hOvu_8 hOx_8 hb9
  go_wp2_with fail
  refine (toSlotS_any A1 n1 c1 0 l1 _ hm1 HL1.out (HA1.out _ hB9)).mono ?_
  rintro e w10 ⟨ad10, d10, rfl, hc10, ho10, hb10⟩
  have hB10 := btr hB9 hb10
  have hS10 := hb10.size
  have hOb_10 := Lib.hid (hOb_9.out.below hb10 )
  have hOu_10 := Lib.hid (hOu_9.out.below hb10 (by omega))
  have hOvu_10 := Lib.hid (hOvu_9.out.below hb10 )
  have hOx_10 := Lib.hid (hOx_9.out.below hb10 (by omega))
  have hOvx_10 := Lib.hid (hOvx_9.out.below hb10 )
  have hOx1_10 := Lib.hid ho10
  clear hOb_9 hOu_9 hOvu_9 hOx_9 hOvx_9 hc10 ho10 hb10
  obtain ⟨zvx0, zvx1, _, _, _⟩ := hOvx_10.out
  go_wp2_with fail
  refine (HK2.out _ _ _ _ _ _ _ (hOx_10.out.reads.wide (Nat.zero_le _) (by omega)) (hOx1_10.out.1.wide (Nat.zero_le _) (by omega))).mono ?_
  rintro e w11 ⟨A11', c11', B11', d11', rfl, ho11, hb11⟩
  have hB11 := btr hB10 hb11
  have hS11 := hb11.size
  have hOb_11 := Lib.hid (hOb_10.out.below hb11 )
  have hOu_11 := Lib.hid (hOu_10.out.below hb11 (by omega))
  have hOvu_11 := Lib.hid (hOvu_10.out.below hb11 )
  have hOx_11 := Lib.hid (hOx_10.out.below hb11 (by omega))
  have hOvx_11 := Lib.hid (hOvx_10.out.below hb11 )
  have hOx1_11 := Lib.hid (hOx1_10.out.below hb11 (by omega))
  have hOg_11 := Lib.hid ho11
  clear hOb_10 hOu_10 hOvu_10 hOx_10 hOvx_10 hOx1_10 ho11 hb11
  clear zvx0 zvx1
  have hb12 : Below w11.heap.size w11 (w11.alloc (.cells #[.slice A11' n0 c11', .slice B11' m0 d11'] 27)) := (Below.refl _ _).alloc (Nat.le_refl _) _
  have hB12 := btr hB11 hb12
  have hS12 : w11.heap.size < (w11.alloc (.cells #[.slice A11' n0 c11', .slice B11' m0 d11'] 27)).heap.size := by simp
  have hOb_12 := Lib.hid (hOb_11.out.below hb12 )
  have hOu_12 := Lib.hid (hOu_11.out.below hb12 (by omega))
  have hOvu_12 := Lib.hid (hOvu_11.out.below hb12 )
  have hOx_12 := Lib.hid (hOx_11.out.below hb12 (by omega))
  have hOvx_12 := Lib.hid (hOvx_11.out.below hb12 )
  have hOx1_12 := Lib.hid (hOx1_11.out.below hb12 (by omega))
  have hOg_12 := Lib.hid (hOg_11.out.below hb12 (by omega))
  have hOvg_12 := Lib.hid (Two.new w11 (.slice A11' n0 c11') (.slice B11' m0 d11') 27)
  clear hOb_11 hOu_11 hOvu_11 hOx_11 hOvx_11 hOx1_11 hOg_11 hb12
  obtain ⟨zvg0, zvg1, _, _, _⟩ := hOvg_12.out
  obtain ⟨zvu0, zvu1, _, _, _⟩ := hOvu_12.out
  go_wp2_with fail
  refine (eqKept_same A11' B11' n0 m0 c11' d11' _ u _ A6' B6' c6' d6' _ _ _ hmn0 hmm0 (by omega) (by omega) hOg_12.out.reads hOu_12.out.reads).mono ?_
  rintro e w13 ⟨rfl, hb13⟩
  have hB13 := btr hB12 hb13
  have hS13 := hb13.size
  have hOb_13 := Lib.hid (hOb_12.out.below hb13 )
  have hOu_13 := Lib.hid (hOu_12.out.below hb13 (by omega))
  have hOvu_13 := Lib.hid (hOvu_12.out.below hb13 )
  have hOx_13 := Lib.hid (hOx_12.out.below hb13 (by omega))
  have hOvx_13 := Lib.hid (hOvx_12.out.below hb13 )
  have hOx1_13 := Lib.hid (hOx1_12.out.below hb13 (by omega))
  have hOg_13 := Lib.hid (hOg_12.out.below hb13 (by omega))
  have hOvg_13 := Lib.hid (hOvg_12.out.below hb13 )
  clear hOb_12 hOu_12 hOvu_12 hOx_12 hOvx_12 hOx1_12 hOg_12 hOvg_12 hb13
  clear zvg0 zvg1 zvu0 zvu1
  go_wp2_with fail
  refine Ord.wp_region_ord (fun w' => (w'.cell? ⟨w8.heap.size, 0, none⟩ = some (.slice A8' n0 c8') ∧ w'.cell? ⟨w8.heap.size, 1, none⟩ = some (.slice B8' m0 d8')) ∧ w'.cell? ⟨w.heap.size, 0, none⟩ = some (.slice A0 n0 c0) ∧ w'.cell? ⟨w.heap.size, 1, none⟩ = some (.slice B0 m0 e0)) [(0, true), (1, true), (2, false), (3, false), (4, true)] (by kernel_rfl) (by kernel_rfl) rfl (by kernel_rfl) (⟨⟨hOvx_13.out.1, hOvx_13.out.2.1⟩, hOb_13.out.1, hOb_13.out.2.1⟩) ?_
  simp only [Ord.ordOps, List.getElem?_toArray, List.getElem?_cons_zero, List.getElem?_cons_succ]
  repeat (first
    | (refine Ord.ord_plain (v := ?_) rfl (fun w' hS => ?_) ?_; rotate_left; (focus ((try dsimp only at hS); go_simp; first | done | with_reducible rfl)); simp only [Act.put, List.setIfInBounds_toArray, List.set_cons_zero, List.set_cons_succ])
    | (refine Ord.ord_skip (by rfl) ?_; simp only [Act.put, List.setIfInBounds_toArray, List.set_cons_zero, List.set_cons_succ])
    | (refine Ord.ord_take (v := ?_) (by rfl) (fun w' hS => ?_) ?_; rotate_left; (focus ((try dsimp only at hS); go_simp; first | done | with_reducible rfl)); simp only [Act.put, List.setIfInBounds_toArray, List.set_cons_zero, List.set_cons_succ]))
  have hb14 : Below w13.heap.size w13 w13.drew := (Below.refl _ _).drew
  have hB14 := btr hB13 hb14
  have hS14 := hb14.size
  have hOb_14 := Lib.hid (hOb_13.out.below hb14 )
  have hOu_14 := Lib.hid (hOu_13.out.below hb14 (by omega))
  have hOvu_14 := Lib.hid (hOvu_13.out.below hb14 )
  have hOx_14 := Lib.hid (hOx_13.out.below hb14 (by omega))
  have hOvx_14 := Lib.hid (hOvx_13.out.below hb14 )
  have hOx1_14 := Lib.hid (hOx1_13.out.below hb14 (by omega))
  have hOg_14 := Lib.hid (hOg_13.out.below hb14 (by omega))
  have hOvg_14 := Lib.hid (hOvg_13.out.below hb14 )
  clear hOb_13 hOu_13 hOvu_13 hOx_13 hOvx_13 hOx1_13 hOg_13 hOvg_13 hb14
  refine Ord.ord_call (fun K hK => ?_)
  go_simp
  refine (toKept_any A0 B0 n0 m0 c0 e0 0 k0 _ hmn0 hmm0 (HA0.out _ hB14)).mono ?_
  rintro e w15 ⟨A15', c15', B15', d15', rfl, ho15, hb15⟩
  have hB15 := btr hB14 hb15
  have hS15 := hb15.size
  have hOb_15 := Lib.hid (hOb_14.out.below hb15 )
  have hOu_15 := Lib.hid (hOu_14.out.below hb15 (by omega))
  have hOvu_15 := Lib.hid (hOvu_14.out.below hb15 )
  have hOx_15 := Lib.hid (hOx_14.out.below hb15 (by omega))
  have hOvx_15 := Lib.hid (hOvx_14.out.below hb15 )
  have hOx1_15 := Lib.hid (hOx1_14.out.below hb15 (by omega))
  have hOg_15 := Lib.hid (hOg_14.out.below hb15 (by omega))
  have hOvg_15 := Lib.hid (hOvg_14.out.below hb15 )
  have hOyy_15 := Lib.hid ho15
  clear hOb_14 hOu_14 hOvu_14 hOx_14 hOvx_14 hOx1_14 hOg_14 hOvg_14 ho15 hb15
  refine hK.out _ _ (⟨⟨hOvx_15.out.1, hOvx_15.out.2.1⟩, hOb_15.out.1, hOb_15.out.2.1⟩) ?_
  clear hK K
  repeat (first
    | (refine Ord.ord_plain (v := ?_) rfl (fun w' hS => ?_) ?_; rotate_left; (focus ((try dsimp only at hS); go_simp; first | done | with_reducible rfl)); simp only [Act.put, List.setIfInBounds_toArray, List.set_cons_zero, List.set_cons_succ])
    | (refine Ord.ord_skip (by rfl) ?_; simp only [Act.put, List.setIfInBounds_toArray, List.set_cons_zero, List.set_cons_succ])
    | (refine Ord.ord_take (v := ?_) (by rfl) (fun w' hS => ?_) ?_; rotate_left; (focus ((try dsimp only at hS); go_simp; first | done | with_reducible rfl)); simp only [Act.put, List.setIfInBounds_toArray, List.set_cons_zero, List.set_cons_succ]))
  refine Ord.ord_call (fun K hK => ?_)
  go_simp
  refine (eqKept_same A8' B8' n0 m0 c8' d8' _ k0 _ A15' B15' c15' d15' _ _ _ hmn0 hmm0 (by omega) (by omega) hOx_15.out.reads hOyy_15.out.reads).mono ?_
  rintro e w16 ⟨rfl, hb16⟩
  have hB16 := btr hB15 hb16
  have hS16 := hb16.size
  have hOb_16 := Lib.hid (hOb_15.out.below hb16 )
  have hOu_16 := Lib.hid (hOu_15.out.below hb16 (by omega))
  have hOvu_16 := Lib.hid (hOvu_15.out.below hb16 )
  have hOx_16 := Lib.hid (hOx_15.out.below hb16 (by omega))
  have hOvx_16 := Lib.hid (hOvx_15.out.below hb16 )
  have hOx1_16 := Lib.hid (hOx1_15.out.below hb16 (by omega))
  have hOg_16 := Lib.hid (hOg_15.out.below hb16 (by omega))
  have hOvg_16 := Lib.hid (hOvg_15.out.below hb16 )
  have hOyy_16 := Lib.hid (hOyy_15.out.below hb16 (by omega))
  clear hOb_15 hOu_15 hOvu_15 hOx_15 hOvx_15 hOx1_15 hOg_15 hOvg_15 hOyy_15 hb16
  refine hK.out _ _ (⟨⟨hOvx_16.out.1, hOvx_16.out.2.1⟩, hOb_16.out.1, hOb_16.out.2.1⟩) ?_
  clear hK K
  repeat (first
    | (refine Ord.ord_plain (v := ?_) rfl (fun w' hS => ?_) ?_; rotate_left; (focus ((try dsimp only at hS); go_simp; first | done | with_reducible rfl)); simp only [Act.put, List.setIfInBounds_toArray, List.set_cons_zero, List.set_cons_succ])
    | (refine Ord.ord_skip (by rfl) ?_; simp only [Act.put, List.setIfInBounds_toArray, List.set_cons_zero, List.set_cons_succ])
    | (refine Ord.ord_take (v := ?_) (by rfl) (fun w' hS => ?_) ?_; rotate_left; (focus ((try dsimp only at hS); go_simp; first | done | with_reducible rfl)); simp only [Act.put, List.setIfInBounds_toArray, List.set_cons_zero, List.set_cons_succ]))
  refine Ord.ord_nil ?_
  clear hOyy_16
  go_wp2_with fail
  refine (toSlotS_any A1 n1 c1 0 l1 _ hm1 HL1.out (HA1.out _ hB16)).mono ?_
  rintro e w17 ⟨ad17, d17, rfl, hc17, ho17, hb17⟩
  have hB17 := btr hB16 hb17
  have hS17 := hb17.size
  have hOb_17 := Lib.hid (hOb_16.out.below hb17 )
  have hOu_17 := Lib.hid (hOu_16.out.below hb17 (by omega))
  have hOvu_17 := Lib.hid (hOvu_16.out.below hb17 )
  have hOx_17 := Lib.hid (hOx_16.out.below hb17 (by omega))
  have hOvx_17 := Lib.hid (hOvx_16.out.below hb17 )
  have hOx1_17 := Lib.hid (hOx1_16.out.below hb17 (by omega))
  have hOg_17 := Lib.hid (hOg_16.out.below hb17 (by omega))
  have hOvg_17 := Lib.hid (hOvg_16.out.below hb17 )
  have hOy_17 := Lib.hid ho17
  clear hOb_16 hOu_16 hOvu_16 hOx_16 hOvx_16 hOx1_16 hOg_16 hOvg_16 hc17 ho17 hb17
  go_wp2_with fail
  refine (eqSlotS_same (some ad10) (some ad17) n1 d10 d17 _ _ _ _ l1 _ hm1 HL1.out (by omega) (by omega) hOx1_17.out.1 hOy_17.out.1).mono ?_
  rintro e w18 ⟨rfl, hb18⟩
  have hB18 := btr hB17 hb18
  have hS18 := hb18.size
  have hOb_18 := Lib.hid (hOb_17.out.below hb18 )
  have hOu_18 := Lib.hid (hOu_17.out.below hb18 (by omega))
  have hOvu_18 := Lib.hid (hOvu_17.out.below hb18 )
  have hOx_18 := Lib.hid (hOx_17.out.below hb18 (by omega))
  have hOvx_18 := Lib.hid (hOvx_17.out.below hb18 )
  have hOx1_18 := Lib.hid (hOx1_17.out.below hb18 (by omega))
  have hOg_18 := Lib.hid (hOg_17.out.below hb18 (by omega))
  have hOvg_18 := Lib.hid (hOvg_17.out.below hb18 )
  have hOy_18 := Lib.hid (hOy_17.out.below hb18 (by omega))
  clear hOb_17 hOu_17 hOvu_17 hOx_17 hOvx_17 hOx1_17 hOg_17 hOvg_17 hOy_17 hb18
  clear hOy_18
  obtain ⟨zvx0, zvx1, _, _, _⟩ := hOvx_18.out
  go_wp2_with fail
  refine (markKept_any A8' B8' n0 m0 c8' d8' _ k0 _ _ 1 hmn0 hmm0 (by omega) (by omega) hOx_18.out).mono ?_
  rintro e w19 ⟨he, ho19, ht19⟩
  rw [Hqa.out] at he
  subst he
  have hB19 := hB18.trans (ht19.below (B := w.heap.size) (by omega) hB18.size)
  have hS19 := ht19.size
  have hOb_19 := Lib.hid (Two.turned hOb_18.out ht19 (by omega))
  have hOu_19 := Lib.hid (hOu_18.out.turned ht19.block (by omega) (by omega))
  have hOvu_19 := Lib.hid (Two.turned hOvu_18.out ht19 (by omega))
  have hOvx_19 := Lib.hid (Two.turned hOvx_18.out ht19 (by omega))
  have hOx1_19 := Lib.hid (hOx1_18.out.turned ht19.block (by omega) (by omega))
  have hOg_19 := Lib.hid (hOg_18.out.turned ht19.block (by omega) (by omega))
  have hOvg_19 := Lib.hid (Two.turned hOvg_18.out ht19 (by omega))
  have hOx_19 := Lib.hid ho19
  clear hOb_18 hOu_18 hOvu_18 hOvx_18 hOx1_18 hOg_18 hOvg_18 hOx_18 ho19 ht19
  clear zvx0 zvx1
  clear hOx_19
  clear hOvx_19
  go_wp2_with fail
  refine (markSlotS_any (some ad10) n1 d10 _ _ qa l1 _ hm1 (by omega) HL1.out hOx1_19.out).mono ?_
  rintro e w20 ⟨he, ho20, ht20⟩
  rw [Hqs1.out] at he
  subst he
  have hB20 := hB19.trans (ht20.below (B := w.heap.size) (by omega) hB19.size)
  have hS20 := ht20.size
  have hOb_20 := Lib.hid (Two.turned hOb_19.out ht20 (by omega))
  have hOu_20 := Lib.hid (hOu_19.out.turned ht20.block (by omega) (by omega))
  have hOvu_20 := Lib.hid (Two.turned hOvu_19.out ht20 (by omega))
  have hOg_20 := Lib.hid (hOg_19.out.turned ht20.block (by omega) (by omega))
  have hOvg_20 := Lib.hid (Two.turned hOvg_19.out ht20 (by omega))
  have hOx1_20 := Lib.hid ho20
  clear hOb_19 hOu_19 hOvu_19 hOg_19 hOvg_19 hOx1_19 ho20 ht20
  clear hOx1_20
  obtain ⟨zvg0, zvg1, _, _, _⟩ := hOvg_20.out
  obtain ⟨zvu0, zvu1, _, _, _⟩ := hOvu_20.out
  go_wp2_with fail
  refine (eqKept_same A11' B11' n0 m0 c11' d11' _ u _ A6' B6' c6' d6' _ _ _ hmn0 hmm0 (by omega) (by omega) hOg_20.out.reads hOu_20.out.reads).mono ?_
  rintro e w21 ⟨rfl, hb21⟩
  have hB21 := btr hB20 hb21
  have hS21 := hb21.size
  have hOb_21 := Lib.hid (hOb_20.out.below hb21 )
  have hOu_21 := Lib.hid (hOu_20.out.below hb21 (by omega))
  have hOvu_21 := Lib.hid (hOvu_20.out.below hb21 )
  have hOg_21 := Lib.hid (hOg_20.out.below hb21 (by omega))
  have hOvg_21 := Lib.hid (hOvg_20.out.below hb21 )
  clear hOb_20 hOu_20 hOvu_20 hOg_20 hOvg_20 hb21
  clear zvg0 zvg1 zvu0 zvu1
  obtain ⟨zvg0, zvg1, _, _, _⟩ := hOvg_21.out
  go_wp2_with fail
  refine (markKept_any A11' B11' n0 m0 c11' d11' _ u _ _ 1 hmn0 hmm0 (by omega) (by omega) hOg_21.out).mono ?_
  rintro e w22 ⟨he, ho22, ht22⟩
  rw [Hqa.out] at he
  subst he
  have hB22 := hB21.trans (ht22.below (B := w.heap.size) (by omega) hB21.size)
  have hS22 := ht22.size
  have hOb_22 := Lib.hid (Two.turned hOb_21.out ht22 (by omega))
  have hOu_22 := Lib.hid (hOu_21.out.turned ht22.block (by omega) (by omega))
  have hOvu_22 := Lib.hid (Two.turned hOvu_21.out ht22 (by omega))
  have hOvg_22 := Lib.hid (Two.turned hOvg_21.out ht22 (by omega))
  have hOg_22 := Lib.hid ho22
  clear hOb_21 hOu_21 hOvu_21 hOvg_21 hOg_21 ho22 ht22
  clear zvg0 zvg1
  obtain ⟨zvg0, zvg1, _, _, _⟩ := hOvg_22.out
  go_wp2_with fail
  refine (heldKept_any A11' B11' n0 m0 c11' d11' _ _ _ 1 hmn0 hmm0 (by omega) (by omega) hOg_22.out.reads).mono ?_
  rintro e w23 ⟨he, hb23⟩
  rw [Hqa.out] at he
  subst he
  have hB23 := btr hB22 hb23
  have hS23 := hb23.size
  have hOb_23 := Lib.hid (hOb_22.out.below hb23 )
  have hOu_23 := Lib.hid (hOu_22.out.below hb23 (by omega))
  have hOvu_23 := Lib.hid (hOvu_22.out.below hb23 )
  have hOvg_23 := Lib.hid (hOvg_22.out.below hb23 )
  have hOg_23 := Lib.hid (hOg_22.out.below hb23 (by omega))
  clear hOb_22 hOu_22 hOvu_22 hOvg_22 hOg_22 hb23
  clear zvg0 zvg1
  obtain ⟨zb0, zb1, _, _, _⟩ := hOb_23.out
  go_wp2_with fail
  refine (toKept_any A0 B0 n0 m0 c0 e0 0 k0 _ hmn0 hmm0 (HA0.out _ hB23)).mono ?_
  rintro e w24 ⟨A24', c24', B24', d24', rfl, ho24, hb24⟩
  have hB24 := btr hB23 hb24
  have hS24 := hb24.size
  have hOb_24 := Lib.hid (hOb_23.out.below hb24 )
  have hOu_24 := Lib.hid (hOu_23.out.below hb24 (by omega))
  have hOvu_24 := Lib.hid (hOvu_23.out.below hb24 )
  have hOvg_24 := Lib.hid (hOvg_23.out.below hb24 )
  have hOg_24 := Lib.hid (hOg_23.out.below hb24 (by omega))
  have hOz_24 := Lib.hid ho24
  clear hOb_23 hOu_23 hOvu_23 hOvg_23 hOg_23 ho24 hb24
  clear zb0 zb1
  go_wp2_with fail
  refine (toSlotS_any A1 n1 c1 0 l1 _ hm1 HL1.out (HA1.out _ hB24)).mono ?_
  rintro e w25 ⟨ad25, d25, rfl, hc25, ho25, hb25⟩
  have hB25 := btr hB24 hb25
  have hS25 := hb25.size
  have hOb_25 := Lib.hid (hOb_24.out.below hb25 )
  have hOu_25 := Lib.hid (hOu_24.out.below hb25 (by omega))
  have hOvu_25 := Lib.hid (hOvu_24.out.below hb25 )
  have hOvg_25 := Lib.hid (hOvg_24.out.below hb25 )
  have hOg_25 := Lib.hid (hOg_24.out.below hb25 (by omega))
  have hOz_25 := Lib.hid (hOz_24.out.below hb25 (by omega))
  have hOz1_25 := Lib.hid ho25
  clear hOb_24 hOu_24 hOvu_24 hOvg_24 hOg_24 hOz_24 hc25 ho25 hb25
  go_wp2_with fail
  refine (HK2.out _ _ _ _ _ _ _ (hOz_25.out.reads.wide (Nat.zero_le _) (by omega)) (hOz1_25.out.1.wide (Nat.zero_le _) (by omega))).mono ?_
  rintro e w26 ⟨A26', c26', B26', d26', rfl, ho26, hb26⟩
  have hB26 := btr hB25 hb26
  have hS26 := hb26.size
  have hOb_26 := Lib.hid (hOb_25.out.below hb26 )
  have hOu_26 := Lib.hid (hOu_25.out.below hb26 (by omega))
  have hOvu_26 := Lib.hid (hOvu_25.out.below hb26 )
  have hOvg_26 := Lib.hid (hOvg_25.out.below hb26 )
  have hOg_26 := Lib.hid (hOg_25.out.below hb26 (by omega))
  have hOz_26 := Lib.hid (hOz_25.out.below hb26 (by omega))
  have hOz1_26 := Lib.hid (hOz1_25.out.below hb26 (by omega))
  have hOh_26 := Lib.hid ho26
  clear hOb_25 hOu_25 hOvu_25 hOvg_25 hOg_25 hOz_25 hOz1_25 ho26 hb26
  clear hOz_26
  clear hOz1_26
  have hb27 : Below w26.heap.size w26 (w26.alloc (.cells #[.slice A26' n0 c26', .slice B26' m0 d26'] 27)) := (Below.refl _ _).alloc (Nat.le_refl _) _
  have hB27 := btr hB26 hb27
  have hS27 : w26.heap.size < (w26.alloc (.cells #[.slice A26' n0 c26', .slice B26' m0 d26'] 27)).heap.size := by simp
  have hOb_27 := Lib.hid (hOb_26.out.below hb27 )
  have hOu_27 := Lib.hid (hOu_26.out.below hb27 (by omega))
  have hOvu_27 := Lib.hid (hOvu_26.out.below hb27 )
  have hOvg_27 := Lib.hid (hOvg_26.out.below hb27 )
  have hOg_27 := Lib.hid (hOg_26.out.below hb27 (by omega))
  have hOh_27 := Lib.hid (hOh_26.out.below hb27 (by omega))
  have hOvh_27 := Lib.hid (Two.new w26 (.slice A26' n0 c26') (.slice B26' m0 d26') 27)
  clear hOb_26 hOu_26 hOvu_26 hOvg_26 hOg_26 hOh_26 hb27
  obtain ⟨zvh0, zvh1, _, _, _⟩ := hOvh_27.out
  obtain ⟨zvu0, zvu1, _, _, _⟩ := hOvu_27.out
  go_wp2_with fail
  refine (eqKept_same A26' B26' n0 m0 c26' d26' _ u _ A6' B6' c6' d6' _ _ _ hmn0 hmm0 (by omega) (by omega) hOh_27.out.reads hOu_27.out.reads).mono ?_
  rintro e w28 ⟨rfl, hb28⟩
  have hB28 := btr hB27 hb28
  have hS28 := hb28.size
  have hOb_28 := Lib.hid (hOb_27.out.below hb28 )
  have hOu_28 := Lib.hid (hOu_27.out.below hb28 (by omega))
  have hOvu_28 := Lib.hid (hOvu_27.out.below hb28 )
  have hOvg_28 := Lib.hid (hOvg_27.out.below hb28 )
  have hOg_28 := Lib.hid (hOg_27.out.below hb28 (by omega))
  have hOh_28 := Lib.hid (hOh_27.out.below hb28 (by omega))
  have hOvh_28 := Lib.hid (hOvh_27.out.below hb28 )
  clear hOb_27 hOu_27 hOvu_27 hOvg_27 hOg_27 hOh_27 hOvh_27 hb28
  clear zvh0 zvh1 zvu0 zvu1
  clear hOh_28
  clear hOu_28
  clear hOvh_28
  clear hOvu_28
  obtain ⟨zvg0, zvg1, _, _, _⟩ := hOvg_28.out
  go_wp2_with fail
  refine (heldKept_any A11' B11' n0 m0 c11' d11' _ _ _ 1 hmn0 hmm0 (by omega) (by omega) hOg_28.out.reads).mono ?_
  rintro e w29 ⟨he, hb29⟩
  rw [Hqa.out] at he
  subst he
  have hB29 := btr hB28 hb29
  have hS29 := hb29.size
  have hOb_29 := Lib.hid (hOb_28.out.below hb29 )
  have hOvg_29 := Lib.hid (hOvg_28.out.below hb29 )
  have hOg_29 := Lib.hid (hOg_28.out.below hb29 (by omega))
  clear hOb_28 hOvg_28 hOg_28 hb29
  clear zvg0 zvg1
  go_wp2_with fail
  go_ret
  exact ⟨rfl, hB29⟩

/-! ### The row's step -/
set_option maxRecDepth 100000 in
theorem lifted (os : Os) (started : os.Started) (H : Type) (enc : TypeId × Value → H) :
    ReturnsInHanded {} Try.checked os 11 .any (Rows.fnExactForgetUsesSpec.pre6 enc Try.prog Try.f11 Rows.fnExactForgetUsesRow.domain false) (Rows.fnExactForgetUsesSpec.post enc Try.prog Try.f11 false true false false) := by
  refine returnsInHanded_of_change (C := Try.checked) Base.own started (by kernel_rfl) Try.func11
    (ChangeSpec.witness6 (enc := enc) (C := Try.checked) false ⟨#[], #[.agg #[.slice none 0 0, .slice none 0 0], .slice none 0 0, .int .i64 0], []⟩ 8 (by kernel_rfl) (by kernel_rfl) (by kernel_rfl) (by kernel_rfl)) ?_
  intro W base args ds gs before hval0 hW hcnd _
  have hval : ∀ (j : Nat) t v, Try.f11.params[j]? = some t → args[j]? = some v → Value.okWide Try.prog W .any base t v := hval0
  have hW' := hW
  obtain ⟨p, q, hA0, hV, rfl, hfz, hnd⟩ := hW
  have hA : DataW.TrodAll enc Try.prog W 0 (fun _ => true) true Try.f11.params.toList args.toList ds p := hA0
  have hA1 := hA
  rw [Try.params11] at hA hval
  obtain ⟨v0, vs0, d0, ds0, p0, q0, hargs, rfl, rfl, h0, r0⟩ := trodAll_cons hA
  obtain ⟨v1, vs1, d1, ds1, p1, q1, rfl, rfl, rfl, h1, r1⟩ := trodAll_cons r0
  obtain ⟨v2, vs2, d2, ds2, p2, q2, rfl, rfl, rfl, h2, r2⟩ := trodAll_cons r1
  obtain ⟨rfl, rfl, rfl⟩ := trodAll_nil r2
  obtain rfl : args = #[v0, v1, v2] := by cases args; simp_all
  obtain ⟨rfl, rfl⟩ := trodVars_none hV
  obtain ⟨A0, n0, c0, B0, m0, e0, k0, rfl, hn0, hm0, hw0, h0'⟩ := Kepts.open_kept (hval 0 64 v0 rfl rfl) h0
  obtain ⟨A1, n1, c1, l1, rfl, hn1, hl1, hw1, h1'⟩ := Slots.open_slots (hval 1 62 v1 rfl rfl) h1
  obtain ⟨a2, rfl, _, _, w2⟩ := open_int Try.underlying3 (hval 2 3 v2 rfl rfl) h2
  clear hA0 hval0
  rw [List.append_nil] at hW'
  refine (walk A0 n0 c0 B0 m0 e0 k0 A1 n1 c1 l1 a2 hn0 hm0 hw0 h0' hn1 hl1 hw1 h1' w2).mono fun e W' ⟨he, hg⟩ => ?_
  subst he
  exact ⟨_, rfl, Mem.post_args Slots.laid (by kernel_rfl) rfl rfl rfl hW' hA1 hg (fun _ _ _ => (trodAll_cons_mk (shut_bool Try.underlying4 _) trodAll_mk0)) (ok_one (by kernel_rfl) rfl (okWide_bool_mk Try.underlying4 _))⟩

theorem over : Rows.fnExactForgetUsesRow.holds Try.pinned (OpenSpec.ofChange Rows.fnExactForgetUsesSpec) :=
  OpenClaim.holds_of_wide 11 Try.f11 rfl rfl rfl rfl rfl rfl rfl ⟨rfl, rfl, rfl, rfl, rfl⟩ rfl rfl rfl rfl rfl (by kernel_rfl) Try.func11 (by kernel_rfl)
    (of_decide_eq_true (by kernel_rfl)) (by unfold Func.isWrapper; first | (rw [if_pos (by decide +kernel)]; kernel_rfl) | (rw [if_neg (by decide +kernel)]; exact ⟨rfl, rfl⟩))
    (fun os started H enc _ => lifted os started H enc)

/-- The given statement. -/
theorem proved : Rows.FnExactForgetUsesSaid :=
  over
#print axioms proved
end Go.Proofs.Ytfgckkgakghenaa.fnExactForgetUses
