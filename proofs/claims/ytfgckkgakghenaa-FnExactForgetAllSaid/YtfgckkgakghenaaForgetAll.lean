/-
  At every argument the law FnExactForgetAll returns true: the project's ForgetAll answers as the given model's ForgetAll, changes no argument, and what it returns is its own. No condition.
-/
import Derived.Test.YtfgckkgakghenaaKeptImpl
import Derived.Test.YtfgckkgakghenaaSlotArgs
import Derived.Test.YtfgckkgakghenaaOrdT
namespace Go.Proofs.Ytfgckkgakghenaa.fnExactForgetAll
set_option maxRecDepth 100000
open Go.ChangeShapes Go.WideShapes Go.ChangeAt Go.RowKit
open Go.Proofs.Ytfgckkgakghenaa.Base Go.Proofs.Ytfgckkgakghenaa.Mem Go.Proofs.Ytfgckkgakghenaa.Slots Go.Proofs.Ytfgckkgakghenaa.Ints Go.Proofs.Ytfgckkgakghenaa.Kepts
set_option linter.unusedVariables false
set_option linter.unusedSimpArgs false

set_option maxRecDepth 100000 in
set_option maxHeartbeats 8000000 in
theorem walk (A0 : Option Addr) (n0 c0 : Nat) (B0 : Option Addr) (m0 e0 : Nat) (k0 : KD) {w : World} (hn0 : n0 ≤ 9223372036854775807) (hm0 : m0 ≤ 9223372036854775807) (hw0 : wfL k0.2) (h0 : KR w 0 w.heap.size k0 A0 B0 n0 m0) :
    Calls Try.prog 12 #[.agg #[.slice A0 n0 c0, .slice B0 m0 e0]] w fun e w' => e = .returned (.bool true) ∧ Below w.heap.size w w' := by
  have HA0 := Lib.hid (show ∀ W, Below w.heap.size w W → KR W 0 W.heap.size k0 A0 B0 n0 m0 from fun W hb => (h0.below hb (Nat.le_refl _)).wide (Nat.le_refl _) hb.size)
  have HL1_0 := Lib.hid h0.l1
  have HL2_0 := Lib.hid h0.l2
  have HW0 := Lib.hid hw0
  clear hw0 h0
  by_cases hbig0 : (1048576 : Int) < (n0 : Int) + (m0 : Int)
  · go_enter Try.func12, Try.ntmps12
    have hB1 : Below w.heap.size w (w.alloc (.cells #[.slice A0 n0 c0, .slice B0 m0 e0] 64)) := (Below.refl _ _).alloc (Nat.le_refl _) _
    have hS1 := hB1.size
    have hOb_1 := Lib.hid (Two.new w (.slice A0 n0 c0) (.slice B0 m0 e0) 64)
    obtain ⟨zb0, zb1, _, _, _⟩ := hOb_1.out
    go_wp2_with fail
    refine (szKept_no A0 B0 n0 m0 c0 e0 _ (1048576 : Int) (by omega) (by omega) hn0 hm0 hbig0).mono ?_
    rintro e w2 ⟨rfl, hb2⟩
    have hB2 := btr hB1 hb2
    have hS2 := hb2.size
    have hOb_2 := Lib.hid (hOb_1.out.below hb2 )
    clear hOb_1 hb2
    clear zb0 zb1
    go_wp2_with fail
    go_ret
    exact ⟨rfl, hB2⟩
  have hmn0 : n0 ≤ 1048576 := by omega
  have hmm0 : m0 ≤ 1048576 := by omega
  have hle0 : (n0 : Int) + (m0 : Int) ≤ (1048576 : Int) := by omega
  have hz0 : ¬ (((1048576 : Int) - (n0 : Int) - (m0 : Int)) < 0) := by omega
  have hK1 := fun (A B : Option Addr) (c d : Nat) (V : World) (h : KR V 0 V.heap.size k0 A B n0 m0) => spec_all A B n0 m0 c d k0 V hmn0 hmm0 h
  have hK2 := fun (A B : Option Addr) (c d : Nat) (V : World) (h : KR V 0 V.heap.size k0 A B n0 m0) => impl_all A B n0 m0 c d k0 V hmn0 hmm0 h HW0.out
  generalize allK k0 = u at hK1 hK2
  have HK1 := Lib.hid hK1
  have HK2 := Lib.hid hK2
  clear hK1 hK2
  obtain ⟨qa, hqa⟩ : ∃ q : Nat, q = 1 + n0 + 2 * m0 := ⟨_, rfl⟩
  have Hqa := Lib.hid (show ((1 : Nat) : Int) + (n0 : Int) + 2 * (m0 : Int) = (qa : Int) by omega)
  have hpqa : ¬ ((qa : Int) < 0) := by omega
  have hqa2 : qa ≤ 4194304 := by omega
  clear hqa
  go_enter Try.func12, Try.ntmps12
  have hB1 : Below w.heap.size w (w.alloc (.cells #[.slice A0 n0 c0, .slice B0 m0 e0] 64)) := (Below.refl _ _).alloc (Nat.le_refl _) _
  have hS1 := hB1.size
  have hOb_1 := Lib.hid (Two.new w (.slice A0 n0 c0) (.slice B0 m0 e0) 64)
  obtain ⟨zb0, zb1, _, _, _⟩ := hOb_1.out
  go_wp2_with fail
  refine (szKept_yes A0 B0 n0 m0 c0 e0 _ (1048576 : Int) (by omega) (by omega)).mono ?_
  rintro e w2 ⟨rfl, hb2⟩
  have hB2 := btr hB1 hb2
  have hS2 := hb2.size
  have hOb_2 := Lib.hid (hOb_1.out.below hb2 )
  clear hOb_1 hb2
  clear zb0 zb1
  obtain ⟨zb0, zb1, _, _, _⟩ := hOb_2.out
  go_wp2_with fail
  refine (toKept_any A0 B0 n0 m0 c0 e0 0 k0 _ hmn0 hmm0 (HA0.out _ hB2)).mono ?_
  rintro e w3 ⟨A3', c3', B3', d3', rfl, ho3, hb3⟩
  have hB3 := btr hB2 hb3
  have hS3 := hb3.size
  have hOb_3 := Lib.hid (hOb_2.out.below hb3 )
  have hOa_3 := Lib.hid ho3
  clear hOb_2 ho3 hb3
  clear zb0 zb1
  go_wp2_with fail
  refine (HK1.out _ _ _ _ _ (hOa_3.out.reads.wide (Nat.zero_le _) (by omega))).mono ?_
  rintro e w4 ⟨A4', c4', B4', d4', rfl, ho4, hb4⟩
  have hB4 := btr hB3 hb4
  have hS4 := hb4.size
  have hOb_4 := Lib.hid (hOb_3.out.below hb4 )
  have hOa_4 := Lib.hid (hOa_3.out.below hb4 (by omega))
  have hOu_4 := Lib.hid ho4
  clear hOb_3 hOa_3 ho4 hb4
  clear hOa_4
  have hb5 : Below w4.heap.size w4 (w4.alloc (.cells #[.slice A4' n0 c4', .slice B4' m0 d4'] 27)) := (Below.refl _ _).alloc (Nat.le_refl _) _
  have hB5 := btr hB4 hb5
  have hS5 : w4.heap.size < (w4.alloc (.cells #[.slice A4' n0 c4', .slice B4' m0 d4'] 27)).heap.size := by simp
  have hOb_5 := Lib.hid (hOb_4.out.below hb5 )
  have hOu_5 := Lib.hid (hOu_4.out.below hb5 (by omega))
  have hOvu_5 := Lib.hid (Two.new w4 (.slice A4' n0 c4') (.slice B4' m0 d4') 27)
  clear hOb_4 hOu_4 hb5
  obtain ⟨zb0, zb1, _, _, _⟩ := hOb_5.out
  go_wp2_with fail
  refine (toKept_any A0 B0 n0 m0 c0 e0 0 k0 _ hmn0 hmm0 (HA0.out _ hB5)).mono ?_
  rintro e w6 ⟨A6', c6', B6', d6', rfl, ho6, hb6⟩
  have hB6 := btr hB5 hb6
  have hS6 := hb6.size
  have hOb_6 := Lib.hid (hOb_5.out.below hb6 )
  have hOu_6 := Lib.hid (hOu_5.out.below hb6 (by omega))
  have hOvu_6 := Lib.hid (hOvu_5.out.below hb6 )
  have hOx_6 := Lib.hid ho6
  clear hOb_5 hOu_5 hOvu_5 ho6 hb6
  clear zb0 zb1
  have hb7 : Below w6.heap.size w6 (w6.alloc (.cells #[.slice A6' n0 c6', .slice B6' m0 d6'] 27)) := (Below.refl _ _).alloc (Nat.le_refl _) _
  have hB7 := btr hB6 hb7
  have hS7 : w6.heap.size < (w6.alloc (.cells #[.slice A6' n0 c6', .slice B6' m0 d6'] 27)).heap.size := by simp
  have hOb_7 := Lib.hid (hOb_6.out.below hb7 )
  have hOu_7 := Lib.hid (hOu_6.out.below hb7 (by omega))
  have hOvu_7 := Lib.hid (hOvu_6.out.below hb7 )
  have hOx_7 := Lib.hid (hOx_6.out.below hb7 (by omega))
  have hOvx_7 := Lib.hid (Two.new w6 (.slice A6' n0 c6') (.slice B6' m0 d6') 27)
  clear hOb_6 hOu_6 hOvu_6 hOx_6 hb7
  obtain ⟨zvx0, zvx1, _, _, _⟩ := hOvx_7.out
  go_wp2_with fail
  refine (HK2.out _ _ _ _ _ (hOx_7.out.reads.wide (Nat.zero_le _) (by omega))).mono ?_
  rintro e w8 ⟨A8', c8', B8', d8', rfl, ho8, hb8⟩
  have hB8 := btr hB7 hb8
  have hS8 := hb8.size
  have hOb_8 := Lib.hid (hOb_7.out.below hb8 )
  have hOu_8 := Lib.hid (hOu_7.out.below hb8 (by omega))
  have hOvu_8 := Lib.hid (hOvu_7.out.below hb8 )
  have hOx_8 := Lib.hid (hOx_7.out.below hb8 (by omega))
  have hOvx_8 := Lib.hid (hOvx_7.out.below hb8 )
  have hOg_8 := Lib.hid ho8
  clear hOb_7 hOu_7 hOvu_7 hOx_7 hOvx_7 ho8 hb8
  clear zvx0 zvx1
  have hb9 : Below w8.heap.size w8 (w8.alloc (.cells #[.slice A8' n0 c8', .slice B8' m0 d8'] 27)) := (Below.refl _ _).alloc (Nat.le_refl _) _
  have hB9 := btr hB8 hb9
  have hS9 : w8.heap.size < (w8.alloc (.cells #[.slice A8' n0 c8', .slice B8' m0 d8'] 27)).heap.size := by simp
  have hOb_9 := Lib.hid (hOb_8.out.below hb9 )
  have hOu_9 := Lib.hid (hOu_8.out.below hb9 (by omega))
  have hOvu_9 := Lib.hid (hOvu_8.out.below hb9 )
  have hOx_9 := Lib.hid (hOx_8.out.below hb9 (by omega))
  have hOvx_9 := Lib.hid (hOvx_8.out.below hb9 )
  have hOg_9 := Lib.hid (hOg_8.out.below hb9 (by omega))
  have hOvg_9 := Lib.hid (Two.new w8 (.slice A8' n0 c8') (.slice B8' m0 d8') 27)
  clear hOb_8 hOu_8 hOvu_8 hOx_8 hOvx_8 hOg_8 hb9
  obtain ⟨zvg0, zvg1, _, _, _⟩ := hOvg_9.out
  obtain ⟨zvu0, zvu1, _, _, _⟩ := hOvu_9.out
  go_wp2_with fail
  refine (eqKept_same A8' B8' n0 m0 c8' d8' _ u _ A4' B4' c4' d4' _ _ _ hmn0 hmm0 (by omega) (by omega) hOg_9.out.reads hOu_9.out.reads).mono ?_
  rintro e w10 ⟨rfl, hb10⟩
  have hB10 := btr hB9 hb10
  have hS10 := hb10.size
  have hOb_10 := Lib.hid (hOb_9.out.below hb10 )
  have hOu_10 := Lib.hid (hOu_9.out.below hb10 (by omega))
  have hOvu_10 := Lib.hid (hOvu_9.out.below hb10 )
  have hOx_10 := Lib.hid (hOx_9.out.below hb10 (by omega))
  have hOvx_10 := Lib.hid (hOvx_9.out.below hb10 )
  have hOg_10 := Lib.hid (hOg_9.out.below hb10 (by omega))
  have hOvg_10 := Lib.hid (hOvg_9.out.below hb10 )
  clear hOb_9 hOu_9 hOvu_9 hOx_9 hOvx_9 hOg_9 hOvg_9 hb10
  clear zvg0 zvg1 zvu0 zvu1
  go_wp2_with fail
  refine Ord.wp_region_ord (fun w' => (w'.cell? ⟨w6.heap.size, 0, none⟩ = some (.slice A6' n0 c6') ∧ w'.cell? ⟨w6.heap.size, 1, none⟩ = some (.slice B6' m0 d6')) ∧ w'.cell? ⟨w.heap.size, 0, none⟩ = some (.slice A0 n0 c0) ∧ w'.cell? ⟨w.heap.size, 1, none⟩ = some (.slice B0 m0 e0)) [(0, true), (1, true), (2, false), (3, false), (4, true)] (by kernel_rfl) (by kernel_rfl) rfl (by kernel_rfl) (⟨⟨hOvx_10.out.1, hOvx_10.out.2.1⟩, hOb_10.out.1, hOb_10.out.2.1⟩) ?_
  simp only [Ord.ordOps, List.getElem?_toArray, List.getElem?_cons_zero, List.getElem?_cons_succ]
  repeat (first
    | (refine Ord.ord_plain (v := ?_) rfl (fun w' hS => ?_) ?_; rotate_left; (focus ((try dsimp only at hS); go_simp; first | done | with_reducible rfl)); simp only [Act.put, List.setIfInBounds_toArray, List.set_cons_zero, List.set_cons_succ])
    | (refine Ord.ord_skip (by rfl) ?_; simp only [Act.put, List.setIfInBounds_toArray, List.set_cons_zero, List.set_cons_succ])
    | (refine Ord.ord_take (v := ?_) (by rfl) (fun w' hS => ?_) ?_; rotate_left; (focus ((try dsimp only at hS); go_simp; first | done | with_reducible rfl)); simp only [Act.put, List.setIfInBounds_toArray, List.set_cons_zero, List.set_cons_succ]))
  have hb11 : Below w10.heap.size w10 w10.drew := (Below.refl _ _).drew
  have hB11 := btr hB10 hb11
  have hS11 := hb11.size
  have hOb_11 := Lib.hid (hOb_10.out.below hb11 )
  have hOu_11 := Lib.hid (hOu_10.out.below hb11 (by omega))
  have hOvu_11 := Lib.hid (hOvu_10.out.below hb11 )
  have hOx_11 := Lib.hid (hOx_10.out.below hb11 (by omega))
  have hOvx_11 := Lib.hid (hOvx_10.out.below hb11 )
  have hOg_11 := Lib.hid (hOg_10.out.below hb11 (by omega))
  have hOvg_11 := Lib.hid (hOvg_10.out.below hb11 )
  clear hOb_10 hOu_10 hOvu_10 hOx_10 hOvx_10 hOg_10 hOvg_10 hb11
  refine Ord.ord_call (fun K hK => ?_)
  go_simp
  refine (toKept_any A0 B0 n0 m0 c0 e0 0 k0 _ hmn0 hmm0 (HA0.out _ hB11)).mono ?_
  rintro e w12 ⟨A12', c12', B12', d12', rfl, ho12, hb12⟩
  have hB12 := btr hB11 hb12
  have hS12 := hb12.size
  have hOb_12 := Lib.hid (hOb_11.out.below hb12 )
  have hOu_12 := Lib.hid (hOu_11.out.below hb12 (by omega))
  have hOvu_12 := Lib.hid (hOvu_11.out.below hb12 )
  have hOx_12 := Lib.hid (hOx_11.out.below hb12 (by omega))
  have hOvx_12 := Lib.hid (hOvx_11.out.below hb12 )
  have hOg_12 := Lib.hid (hOg_11.out.below hb12 (by omega))
  have hOvg_12 := Lib.hid (hOvg_11.out.below hb12 )
  have hOyy_12 := Lib.hid ho12
  clear hOb_11 hOu_11 hOvu_11 hOx_11 hOvx_11 hOg_11 hOvg_11 ho12 hb12
  refine hK.out _ _ (⟨⟨hOvx_12.out.1, hOvx_12.out.2.1⟩, hOb_12.out.1, hOb_12.out.2.1⟩) ?_
  clear hK K
  repeat (first
    | (refine Ord.ord_plain (v := ?_) rfl (fun w' hS => ?_) ?_; rotate_left; (focus ((try dsimp only at hS); go_simp; first | done | with_reducible rfl)); simp only [Act.put, List.setIfInBounds_toArray, List.set_cons_zero, List.set_cons_succ])
    | (refine Ord.ord_skip (by rfl) ?_; simp only [Act.put, List.setIfInBounds_toArray, List.set_cons_zero, List.set_cons_succ])
    | (refine Ord.ord_take (v := ?_) (by rfl) (fun w' hS => ?_) ?_; rotate_left; (focus ((try dsimp only at hS); go_simp; first | done | with_reducible rfl)); simp only [Act.put, List.setIfInBounds_toArray, List.set_cons_zero, List.set_cons_succ]))
  refine Ord.ord_call (fun K hK => ?_)
  go_simp
  refine (eqKept_same A6' B6' n0 m0 c6' d6' _ k0 _ A12' B12' c12' d12' _ _ _ hmn0 hmm0 (by omega) (by omega) hOx_12.out.reads hOyy_12.out.reads).mono ?_
  rintro e w13 ⟨rfl, hb13⟩
  have hB13 := btr hB12 hb13
  have hS13 := hb13.size
  have hOb_13 := Lib.hid (hOb_12.out.below hb13 )
  have hOu_13 := Lib.hid (hOu_12.out.below hb13 (by omega))
  have hOvu_13 := Lib.hid (hOvu_12.out.below hb13 )
  have hOx_13 := Lib.hid (hOx_12.out.below hb13 (by omega))
  have hOvx_13 := Lib.hid (hOvx_12.out.below hb13 )
  have hOg_13 := Lib.hid (hOg_12.out.below hb13 (by omega))
  have hOvg_13 := Lib.hid (hOvg_12.out.below hb13 )
  have hOyy_13 := Lib.hid (hOyy_12.out.below hb13 (by omega))
  clear hOb_12 hOu_12 hOvu_12 hOx_12 hOvx_12 hOg_12 hOvg_12 hOyy_12 hb13
  refine hK.out _ _ (⟨⟨hOvx_13.out.1, hOvx_13.out.2.1⟩, hOb_13.out.1, hOb_13.out.2.1⟩) ?_
  clear hK K
  repeat (first
    | (refine Ord.ord_plain (v := ?_) rfl (fun w' hS => ?_) ?_; rotate_left; (focus ((try dsimp only at hS); go_simp; first | done | with_reducible rfl)); simp only [Act.put, List.setIfInBounds_toArray, List.set_cons_zero, List.set_cons_succ])
    | (refine Ord.ord_skip (by rfl) ?_; simp only [Act.put, List.setIfInBounds_toArray, List.set_cons_zero, List.set_cons_succ])
    | (refine Ord.ord_take (v := ?_) (by rfl) (fun w' hS => ?_) ?_; rotate_left; (focus ((try dsimp only at hS); go_simp; first | done | with_reducible rfl)); simp only [Act.put, List.setIfInBounds_toArray, List.set_cons_zero, List.set_cons_succ]))
  refine Ord.ord_nil ?_
  clear hOyy_13
  obtain ⟨zvx0, zvx1, _, _, _⟩ := hOvx_13.out
  go_wp2_with fail
  refine (markKept_any A6' B6' n0 m0 c6' d6' _ k0 _ _ 1 hmn0 hmm0 (by omega) (by omega) hOx_13.out).mono ?_
  rintro e w14 ⟨he, ho14, ht14⟩
  rw [Hqa.out] at he
  subst he
  have hB14 := hB13.trans (ht14.below (B := w.heap.size) (by omega) hB13.size)
  have hS14 := ht14.size
  have hOb_14 := Lib.hid (Two.turned hOb_13.out ht14 (by omega))
  have hOu_14 := Lib.hid (hOu_13.out.turned ht14.block (by omega) (by omega))
  have hOvu_14 := Lib.hid (Two.turned hOvu_13.out ht14 (by omega))
  have hOvx_14 := Lib.hid (Two.turned hOvx_13.out ht14 (by omega))
  have hOg_14 := Lib.hid (hOg_13.out.turned ht14.block (by omega) (by omega))
  have hOvg_14 := Lib.hid (Two.turned hOvg_13.out ht14 (by omega))
  have hOx_14 := Lib.hid ho14
  clear hOb_13 hOu_13 hOvu_13 hOvx_13 hOg_13 hOvg_13 hOx_13 ho14 ht14
  clear zvx0 zvx1
  clear hOx_14
  clear hOvx_14
  obtain ⟨zvg0, zvg1, _, _, _⟩ := hOvg_14.out
  obtain ⟨zvu0, zvu1, _, _, _⟩ := hOvu_14.out
  go_wp2_with fail
  refine (eqKept_same A8' B8' n0 m0 c8' d8' _ u _ A4' B4' c4' d4' _ _ _ hmn0 hmm0 (by omega) (by omega) hOg_14.out.reads hOu_14.out.reads).mono ?_
  rintro e w15 ⟨rfl, hb15⟩
  have hB15 := btr hB14 hb15
  have hS15 := hb15.size
  have hOb_15 := Lib.hid (hOb_14.out.below hb15 )
  have hOu_15 := Lib.hid (hOu_14.out.below hb15 (by omega))
  have hOvu_15 := Lib.hid (hOvu_14.out.below hb15 )
  have hOg_15 := Lib.hid (hOg_14.out.below hb15 (by omega))
  have hOvg_15 := Lib.hid (hOvg_14.out.below hb15 )
  clear hOb_14 hOu_14 hOvu_14 hOg_14 hOvg_14 hb15
  clear zvg0 zvg1 zvu0 zvu1
  obtain ⟨zvg0, zvg1, _, _, _⟩ := hOvg_15.out
  go_wp2_with fail
  refine (markKept_any A8' B8' n0 m0 c8' d8' _ u _ _ 1 hmn0 hmm0 (by omega) (by omega) hOg_15.out).mono ?_
  rintro e w16 ⟨he, ho16, ht16⟩
  rw [Hqa.out] at he
  subst he
  have hB16 := hB15.trans (ht16.below (B := w.heap.size) (by omega) hB15.size)
  have hS16 := ht16.size
  have hOb_16 := Lib.hid (Two.turned hOb_15.out ht16 (by omega))
  have hOu_16 := Lib.hid (hOu_15.out.turned ht16.block (by omega) (by omega))
  have hOvu_16 := Lib.hid (Two.turned hOvu_15.out ht16 (by omega))
  have hOvg_16 := Lib.hid (Two.turned hOvg_15.out ht16 (by omega))
  have hOg_16 := Lib.hid ho16
  clear hOb_15 hOu_15 hOvu_15 hOvg_15 hOg_15 ho16 ht16
  clear zvg0 zvg1
  obtain ⟨zvg0, zvg1, _, _, _⟩ := hOvg_16.out
  go_wp2_with fail
  refine (heldKept_any A8' B8' n0 m0 c8' d8' _ _ _ 1 hmn0 hmm0 (by omega) (by omega) hOg_16.out.reads).mono ?_
  rintro e w17 ⟨he, hb17⟩
  rw [Hqa.out] at he
  subst he
  have hB17 := btr hB16 hb17
  have hS17 := hb17.size
  have hOb_17 := Lib.hid (hOb_16.out.below hb17 )
  have hOu_17 := Lib.hid (hOu_16.out.below hb17 (by omega))
  have hOvu_17 := Lib.hid (hOvu_16.out.below hb17 )
  have hOvg_17 := Lib.hid (hOvg_16.out.below hb17 )
  have hOg_17 := Lib.hid (hOg_16.out.below hb17 (by omega))
  clear hOb_16 hOu_16 hOvu_16 hOvg_16 hOg_16 hb17
  clear zvg0 zvg1
  obtain ⟨zb0, zb1, _, _, _⟩ := hOb_17.out
  go_wp2_with fail
  refine (toKept_any A0 B0 n0 m0 c0 e0 0 k0 _ hmn0 hmm0 (HA0.out _ hB17)).mono ?_
  rintro e w18 ⟨A18', c18', B18', d18', rfl, ho18, hb18⟩
  have hB18 := btr hB17 hb18
  have hS18 := hb18.size
  have hOb_18 := Lib.hid (hOb_17.out.below hb18 )
  have hOu_18 := Lib.hid (hOu_17.out.below hb18 (by omega))
  have hOvu_18 := Lib.hid (hOvu_17.out.below hb18 )
  have hOvg_18 := Lib.hid (hOvg_17.out.below hb18 )
  have hOg_18 := Lib.hid (hOg_17.out.below hb18 (by omega))
  have hOz_18 := Lib.hid ho18
  clear hOb_17 hOu_17 hOvu_17 hOvg_17 hOg_17 ho18 hb18
  clear zb0 zb1
  go_wp2_with fail
  refine (HK2.out _ _ _ _ _ (hOz_18.out.reads.wide (Nat.zero_le _) (by omega))).mono ?_
  rintro e w19 ⟨A19', c19', B19', d19', rfl, ho19, hb19⟩
  have hB19 := btr hB18 hb19
  have hS19 := hb19.size
  have hOb_19 := Lib.hid (hOb_18.out.below hb19 )
  have hOu_19 := Lib.hid (hOu_18.out.below hb19 (by omega))
  have hOvu_19 := Lib.hid (hOvu_18.out.below hb19 )
  have hOvg_19 := Lib.hid (hOvg_18.out.below hb19 )
  have hOg_19 := Lib.hid (hOg_18.out.below hb19 (by omega))
  have hOz_19 := Lib.hid (hOz_18.out.below hb19 (by omega))
  have hOh_19 := Lib.hid ho19
  clear hOb_18 hOu_18 hOvu_18 hOvg_18 hOg_18 hOz_18 ho19 hb19
  clear hOz_19
  have hb20 : Below w19.heap.size w19 (w19.alloc (.cells #[.slice A19' n0 c19', .slice B19' m0 d19'] 27)) := (Below.refl _ _).alloc (Nat.le_refl _) _
  have hB20 := btr hB19 hb20
  have hS20 : w19.heap.size < (w19.alloc (.cells #[.slice A19' n0 c19', .slice B19' m0 d19'] 27)).heap.size := by simp
  have hOb_20 := Lib.hid (hOb_19.out.below hb20 )
  have hOu_20 := Lib.hid (hOu_19.out.below hb20 (by omega))
  have hOvu_20 := Lib.hid (hOvu_19.out.below hb20 )
  have hOvg_20 := Lib.hid (hOvg_19.out.below hb20 )
  have hOg_20 := Lib.hid (hOg_19.out.below hb20 (by omega))
  have hOh_20 := Lib.hid (hOh_19.out.below hb20 (by omega))
  have hOvh_20 := Lib.hid (Two.new w19 (.slice A19' n0 c19') (.slice B19' m0 d19') 27)
  clear hOb_19 hOu_19 hOvu_19 hOvg_19 hOg_19 hOh_19 hb20
  obtain ⟨zvh0, zvh1, _, _, _⟩ := hOvh_20.out
  obtain ⟨zvu0, zvu1, _, _, _⟩ := hOvu_20.out
  go_wp2_with fail
  refine (eqKept_same A19' B19' n0 m0 c19' d19' _ u _ A4' B4' c4' d4' _ _ _ hmn0 hmm0 (by omega) (by omega) hOh_20.out.reads hOu_20.out.reads).mono ?_
  rintro e w21 ⟨rfl, hb21⟩
  have hB21 := btr hB20 hb21
  have hS21 := hb21.size
  have hOb_21 := Lib.hid (hOb_20.out.below hb21 )
  have hOu_21 := Lib.hid (hOu_20.out.below hb21 (by omega))
  have hOvu_21 := Lib.hid (hOvu_20.out.below hb21 )
  have hOvg_21 := Lib.hid (hOvg_20.out.below hb21 )
  have hOg_21 := Lib.hid (hOg_20.out.below hb21 (by omega))
  have hOh_21 := Lib.hid (hOh_20.out.below hb21 (by omega))
  have hOvh_21 := Lib.hid (hOvh_20.out.below hb21 )
  clear hOb_20 hOu_20 hOvu_20 hOvg_20 hOg_20 hOh_20 hOvh_20 hb21
  clear zvh0 zvh1 zvu0 zvu1
  clear hOh_21
  clear hOu_21
  clear hOvh_21
  clear hOvu_21
  obtain ⟨zvg0, zvg1, _, _, _⟩ := hOvg_21.out
  go_wp2_with fail
  refine (heldKept_any A8' B8' n0 m0 c8' d8' _ _ _ 1 hmn0 hmm0 (by omega) (by omega) hOg_21.out.reads).mono ?_
  rintro e w22 ⟨he, hb22⟩
  rw [Hqa.out] at he
  subst he
  have hB22 := btr hB21 hb22
  have hS22 := hb22.size
  have hOb_22 := Lib.hid (hOb_21.out.below hb22 )
  have hOvg_22 := Lib.hid (hOvg_21.out.below hb22 )
  have hOg_22 := Lib.hid (hOg_21.out.below hb22 (by omega))
  clear hOb_21 hOvg_21 hOg_21 hb22
  clear zvg0 zvg1
  go_wp2_with fail
  go_ret
  exact ⟨rfl, hB22⟩

/-! ### The row's step -/
set_option maxRecDepth 100000 in
theorem lifted (os : Os) (started : os.Started) (H : Type) (enc : TypeId × Value → H) :
    ReturnsInHanded {} Try.checked os 12 .any (Rows.fnExactForgetAllSpec.pre6 enc Try.prog Try.f12 Rows.fnExactForgetAllRow.domain false) (Rows.fnExactForgetAllSpec.post enc Try.prog Try.f12 false true false false) := by
  refine returnsInHanded_of_change (C := Try.checked) Base.own started (by kernel_rfl) Try.func12
    (ChangeSpec.witness6 (enc := enc) (C := Try.checked) false ⟨#[], #[.agg #[.slice none 0 0, .slice none 0 0]], []⟩ 8 (by kernel_rfl) (by kernel_rfl) (by kernel_rfl) (by kernel_rfl)) ?_
  intro W base args ds gs before hval0 hW hcnd _
  have hval : ∀ (j : Nat) t v, Try.f12.params[j]? = some t → args[j]? = some v → Value.okWide Try.prog W .any base t v := hval0
  have hW' := hW
  obtain ⟨p, q, hA0, hV, rfl, hfz, hnd⟩ := hW
  have hA : DataW.TrodAll enc Try.prog W 0 (fun _ => true) true Try.f12.params.toList args.toList ds p := hA0
  have hA1 := hA
  rw [Try.params12] at hA hval
  obtain ⟨v0, vs0, d0, ds0, p0, q0, hargs, rfl, rfl, h0, r0⟩ := trodAll_cons hA
  obtain ⟨rfl, rfl, rfl⟩ := trodAll_nil r0
  obtain rfl : args = #[v0] := by cases args; simp_all
  obtain ⟨rfl, rfl⟩ := trodVars_none hV
  obtain ⟨A0, n0, c0, B0, m0, e0, k0, rfl, hn0, hm0, hw0, h0'⟩ := Kepts.open_kept (hval 0 64 v0 rfl rfl) h0
  clear hA0 hval0
  rw [List.append_nil] at hW'
  refine (walk A0 n0 c0 B0 m0 e0 k0 hn0 hm0 hw0 h0').mono fun e W' ⟨he, hg⟩ => ?_
  subst he
  exact ⟨_, rfl, Mem.post_args Slots.laid (by kernel_rfl) rfl rfl rfl hW' hA1 hg (fun _ _ _ => (trodAll_cons_mk (shut_bool Try.underlying4 _) trodAll_mk0)) (ok_one (by kernel_rfl) rfl (okWide_bool_mk Try.underlying4 _))⟩

theorem over : Rows.fnExactForgetAllRow.holds Try.pinned (OpenSpec.ofChange Rows.fnExactForgetAllSpec) :=
  OpenClaim.holds_of_wide 12 Try.f12 rfl rfl rfl rfl rfl rfl rfl ⟨rfl, rfl, rfl, rfl, rfl⟩ rfl rfl rfl rfl rfl (by kernel_rfl) Try.func12 (by kernel_rfl)
    (of_decide_eq_true (by kernel_rfl)) (by unfold Func.isWrapper; first | (rw [if_pos (by decide +kernel)]; kernel_rfl) | (rw [if_neg (by decide +kernel)]; exact ⟨rfl, rfl⟩))
    (fun os started H enc _ => lifted os started H enc)

/-- The given statement. -/
theorem proved : Rows.FnExactForgetAllSaid :=
  over
#print axioms proved
end Go.Proofs.Ytfgckkgakghenaa.fnExactForgetAll
