/-
  At every argument the law FnExactKeptOk returns true: the project's KeptOk answers as the given model's KeptOk, changes no argument, and what it returns is its own. No condition.
-/
import Derived.Test.YtfgckkgakghenaaKeptImpl
import Derived.Test.YtfgckkgakghenaaSlotArgs
import Derived.Test.YtfgckkgakghenaaOrdT
namespace Go.Proofs.Ytfgckkgakghenaa.fnExactKeptOk
set_option maxRecDepth 100000
open Go.ChangeShapes Go.WideShapes Go.ChangeAt Go.RowKit
open Go.Proofs.Ytfgckkgakghenaa.Base Go.Proofs.Ytfgckkgakghenaa.Mem Go.Proofs.Ytfgckkgakghenaa.Slots Go.Proofs.Ytfgckkgakghenaa.Ints Go.Proofs.Ytfgckkgakghenaa.Kepts
set_option linter.unusedVariables false
set_option linter.unusedSimpArgs false

set_option maxRecDepth 100000 in
set_option maxHeartbeats 8000000 in
theorem walk (A0 : Option Addr) (n0 c0 : Nat) (B0 : Option Addr) (m0 e0 : Nat) (k0 : KD) (A1 : Option Addr) (n1 c1 : Nat) (l1 : List Sl) (A2 : Option Addr) (n2 c2 : Nat) (l2 : List Sl) {w : World} (hn0 : n0 ≤ 9223372036854775807) (hm0 : m0 ≤ 9223372036854775807) (hw0 : wfL k0.2) (h0 : KR w 0 w.heap.size k0 A0 B0 n0 m0) (hn1 : n1 ≤ 9223372036854775807) (hl1 : l1.length = n1) (hw1 : wfL l1) (h1 : Lies w 0 w.heap.size A1 (scells l1)) (hn2 : n2 ≤ 9223372036854775807) (hl2 : l2.length = n2) (hw2 : wfL l2) (h2 : Lies w 0 w.heap.size A2 (scells l2)) :
    Calls Try.prog 7 #[.agg #[.slice A0 n0 c0, .slice B0 m0 e0], .slice A1 n1 c1, .slice A2 n2 c2] w fun e w' => e = .returned (.bool true) ∧ Below w.heap.size w w' := by
  have HA0 := Lib.hid (show ∀ W, Below w.heap.size w W → KR W 0 W.heap.size k0 A0 B0 n0 m0 from fun W hb => (h0.below hb (Nat.le_refl _)).wide (Nat.le_refl _) hb.size)
  have HL1_0 := Lib.hid h0.l1
  have HL2_0 := Lib.hid h0.l2
  have HW0 := Lib.hid hw0
  clear hw0 h0
  have HA1 := Lib.hid (show ∀ W, Below w.heap.size w W → Lies W 0 W.heap.size A1 (scells l1) from fun W hb => (h1.below hb (Nat.le_refl _)).wide (Nat.le_refl _) hb.size)
  have HL1 := Lib.hid hl1
  have HW1 := Lib.hid hw1
  clear hl1 hw1 h1
  have HA2 := Lib.hid (show ∀ W, Below w.heap.size w W → Lies W 0 W.heap.size A2 (scells l2) from fun W hb => (h2.below hb (Nat.le_refl _)).wide (Nat.le_refl _) hb.size)
  have HL2 := Lib.hid hl2
  have HW2 := Lib.hid hw2
  clear hl2 hw2 h2
  by_cases hbig0 : (1048576 : Int) < (n0 : Int) + (m0 : Int)
  · go_enter Try.func7, Try.ntmps7
    have hB1 : Below w.heap.size w (w.alloc (.cells #[.slice A0 n0 c0, .slice B0 m0 e0] 64)) := (Below.refl _ _).alloc (Nat.le_refl _) _
    have hS1 := hB1.size
    have hOb_1 := Lib.hid (Two.new w (.slice A0 n0 c0) (.slice B0 m0 e0) 64)
    obtain ⟨zb0, zb1, _, _, _⟩ := hOb_1.out
    go_wp2_with fail
    refine (szKept_no A0 B0 n0 m0 c0 e0 _ (1048576 : Int) (by omega) (by omega) hn0 hm0 hbig0).mono ?_
    rintro e w2 ⟨rfl, hb2⟩
    have hB2 := btr hB1 hb2
    have hS2 := hb2.size
    have hOb_2 := Lib.hid (hOb_1.out.below hb2 )
    clear hOb_1 hb2
    clear zb0 zb1
    go_wp2_with fail
    go_ret
    exact ⟨rfl, hB2⟩
  have hmn0 : n0 ≤ 1048576 := by omega
  have hmm0 : m0 ≤ 1048576 := by omega
  have hle0 : (n0 : Int) + (m0 : Int) ≤ (1048576 : Int) := by omega
  have hz0 : ¬ (((1048576 : Int) - (n0 : Int) - (m0 : Int)) < 0) := by omega
  by_cases hbig1 : ((1048576 : Int) - (n0 : Int) - (m0 : Int)) < (n1 : Int)
  · go_enter Try.func7, Try.ntmps7
    have hB1 : Below w.heap.size w (w.alloc (.cells #[.slice A0 n0 c0, .slice B0 m0 e0] 64)) := (Below.refl _ _).alloc (Nat.le_refl _) _
    have hS1 := hB1.size
    have hOb_1 := Lib.hid (Two.new w (.slice A0 n0 c0) (.slice B0 m0 e0) 64)
    obtain ⟨zb0, zb1, _, _, _⟩ := hOb_1.out
    go_wp2_with fail
    refine (szKept_yes A0 B0 n0 m0 c0 e0 _ (1048576 : Int) (by omega) (by omega)).mono ?_
    rintro e w2 ⟨rfl, hb2⟩
    have hB2 := btr hB1 hb2
    have hS2 := hb2.size
    have hOb_2 := Lib.hid (hOb_1.out.below hb2 )
    clear hOb_1 hb2
    clear zb0 zb1
    go_wp2_with fail
    refine (szSlotS_no A1 n1 c1 ((1048576 : Int) - (n0 : Int) - (m0 : Int)) _ (by omega) (by omega) hn1 hbig1).mono ?_
    rintro e w' ⟨rfl, rfl⟩
    go_wp2_with fail
    go_ret
    exact ⟨rfl, hB2⟩
  have hm1 : n1 ≤ 1048576 := by omega
  have hle1 : (n1 : Int) ≤ ((1048576 : Int) - (n0 : Int) - (m0 : Int)) := by omega
  have hz1 : ¬ ((((1048576 : Int) - (n0 : Int) - (m0 : Int)) - (n1 : Int)) < 0) := by omega
  by_cases hbig2 : (((1048576 : Int) - (n0 : Int) - (m0 : Int)) - (n1 : Int)) < (n2 : Int)
  · go_enter Try.func7, Try.ntmps7
    have hB1 : Below w.heap.size w (w.alloc (.cells #[.slice A0 n0 c0, .slice B0 m0 e0] 64)) := (Below.refl _ _).alloc (Nat.le_refl _) _
    have hS1 := hB1.size
    have hOb_1 := Lib.hid (Two.new w (.slice A0 n0 c0) (.slice B0 m0 e0) 64)
    obtain ⟨zb0, zb1, _, _, _⟩ := hOb_1.out
    go_wp2_with fail
    refine (szKept_yes A0 B0 n0 m0 c0 e0 _ (1048576 : Int) (by omega) (by omega)).mono ?_
    rintro e w2 ⟨rfl, hb2⟩
    have hB2 := btr hB1 hb2
    have hS2 := hb2.size
    have hOb_2 := Lib.hid (hOb_1.out.below hb2 )
    clear hOb_1 hb2
    clear zb0 zb1
    go_wp2_with fail
    refine (szSlotS_yes A1 n1 c1 ((1048576 : Int) - (n0 : Int) - (m0 : Int)) _ (by omega) (by omega)).mono ?_
    rintro e w' ⟨rfl, rfl⟩
    go_wp2_with fail
    refine (szSlotS_no A2 n2 c2 (((1048576 : Int) - (n0 : Int) - (m0 : Int)) - (n1 : Int)) _ (by omega) (by omega) hn2 hbig2).mono ?_
    rintro e w' ⟨rfl, rfl⟩
    go_wp2_with fail
    go_ret
    exact ⟨rfl, hB2⟩
  have hm2 : n2 ≤ 1048576 := by omega
  have hle2 : (n2 : Int) ≤ (((1048576 : Int) - (n0 : Int) - (m0 : Int)) - (n1 : Int)) := by omega
  have hz2 : ¬ (((((1048576 : Int) - (n0 : Int) - (m0 : Int)) - (n1 : Int)) - (n2 : Int)) < 0) := by omega
  have hK1 := fun (A B : Option Addr) (c d : Nat) (C D : Option Addr) (q1 q2 : Nat) (V : World) (h : KR V 0 V.heap.size k0 A B n0 m0) (h1 : Lies V 0 V.heap.size C (scells l1)) (h2 : Lies V 0 V.heap.size D (scells l2)) => spec_okK A B n0 m0 c d k0 V C D n1 n2 q1 q2 l1 l2 hmn0 hmm0 hm1 hm2 HL1.out HL2.out h h1 h2
  have hK2 := fun (A B : Option Addr) (c d : Nat) (C D : Option Addr) (q1 q2 : Nat) (V : World) (h : KR V 0 V.heap.size k0 A B n0 m0) (h1 : Lies V 0 V.heap.size C (scells l1)) (h2 : Lies V 0 V.heap.size D (scells l2)) => impl_okK A B n0 m0 c d k0 V C D n1 n2 q1 q2 l1 l2 hmn0 hmm0 hm1 hm2 HL1.out HL2.out h h1 h2 HW0.out HW1.out HW2.out
  generalize okK k0 l1 l2 = z at hK1 hK2
  have HK1 := Lib.hid hK1
  have HK2 := Lib.hid hK2
  clear hK1 hK2
  go_enter Try.func7, Try.ntmps7
  have hB1 : Below w.heap.size w (w.alloc (.cells #[.slice A0 n0 c0, .slice B0 m0 e0] 64)) := (Below.refl _ _).alloc (Nat.le_refl _) _
  have hS1 := hB1.size
  have hOb_1 := Lib.hid (Two.new w (.slice A0 n0 c0) (.slice B0 m0 e0) 64)
  obtain ⟨zb0, zb1, _, _, _⟩ := hOb_1.out
  go_wp2_with fail
  refine (szKept_yes A0 B0 n0 m0 c0 e0 _ (1048576 : Int) (by omega) (by omega)).mono ?_
  rintro e w2 ⟨rfl, hb2⟩
  have hB2 := btr hB1 hb2
  have hS2 := hb2.size
  have hOb_2 := Lib.hid (hOb_1.out.below hb2 )
  clear hOb_1 hb2
  clear zb0 zb1
  go_wp2_with fail
  refine (szSlotS_yes A1 n1 c1 ((1048576 : Int) - (n0 : Int) - (m0 : Int)) _ (by omega) (by omega)).mono ?_
  rintro e w' ⟨rfl, rfl⟩
  go_wp2_with fail
  refine (szSlotS_yes A2 n2 c2 (((1048576 : Int) - (n0 : Int) - (m0 : Int)) - (n1 : Int)) _ (by omega) (by omega)).mono ?_
  rintro e w' ⟨rfl, rfl⟩
  obtain ⟨zb0, zb1, _, _, _⟩ := hOb_2.out
  go_wp2_with fail
  refine (toKept_any A0 B0 n0 m0 c0 e0 0 k0 _ hmn0 hmm0 (HA0.out _ hB2)).mono ?_
  rintro e w5 ⟨A5', c5', B5', d5', rfl, ho5, hb5⟩
  have hB5 := btr hB2 hb5
  have hS5 := hb5.size
  have hOb_5 := Lib.hid (hOb_2.out.below hb5 )
  have hOa_5 := Lib.hid ho5
  clear hOb_2 ho5 hb5
  clear zb0 zb1
  go_wp2_with fail
  refine (toSlotS_any A1 n1 c1 0 l1 _ hm1 HL1.out (HA1.out _ hB5)).mono ?_
  rintro e w6 ⟨ad6, d6, rfl, hc6, ho6, hb6⟩
  have hB6 := btr hB5 hb6
  have hS6 := hb6.size
  have hOb_6 := Lib.hid (hOb_5.out.below hb6 )
  have hOa_6 := Lib.hid (hOa_5.out.below hb6 (by omega))
  have hOa1_6 := Lib.hid ho6
  clear hOb_5 hOa_5 hc6 ho6 hb6
  go_wp2_with fail
  refine (toSlotS_any A2 n2 c2 0 l2 _ hm2 HL2.out (HA2.out _ hB6)).mono ?_
  rintro e w7 ⟨ad7, d7, rfl, hc7, ho7, hb7⟩
  have hB7 := btr hB6 hb7
  have hS7 := hb7.size
  have hOb_7 := Lib.hid (hOb_6.out.below hb7 )
  have hOa_7 := Lib.hid (hOa_6.out.below hb7 (by omega))
  have hOa1_7 := Lib.hid (hOa1_6.out.below hb7 (by omega))
  have hOa2_7 := Lib.hid ho7
  clear hOb_6 hOa_6 hOa1_6 hc7 ho7 hb7
  go_wp2_with fail
  refine (HK1.out _ _ _ _ _ _ _ _ _ (hOa_7.out.reads.wide (Nat.zero_le _) (by omega)) (hOa1_7.out.1.wide (Nat.zero_le _) (by omega)) (hOa2_7.out.1.wide (Nat.zero_le _) (by omega))).mono ?_
  rintro e w8 ⟨rfl, hb8⟩
  have hB8 := btr hB7 hb8
  have hS8 := hb8.size
  have hOb_8 := Lib.hid (hOb_7.out.below hb8 )
  have hOa_8 := Lib.hid (hOa_7.out.below hb8 (by omega))
  have hOa1_8 := Lib.hid (hOa1_7.out.below hb8 (by omega))
  have hOa2_8 := Lib.hid (hOa2_7.out.below hb8 (by omega))
  clear hOb_7 hOa_7 hOa1_7 hOa2_7 hb8
  clear hOa_8
  clear hOa1_8
  clear hOa2_8
  obtain ⟨zb0, zb1, _, _, _⟩ := hOb_8.out
  go_wp2_with fail
  refine (toKept_any A0 B0 n0 m0 c0 e0 0 k0 _ hmn0 hmm0 (HA0.out _ hB8)).mono ?_
  rintro e w9 ⟨A9', c9', B9', d9', rfl, ho9, hb9⟩
  have hB9 := btr hB8 hb9
  have hS9 := hb9.size
  have hOb_9 := Lib.hid (hOb_8.out.below hb9 )
  have hOx_9 := Lib.hid ho9
  clear hOb_8 ho9 hb9
  clear zb0 zb1
  have hb10 : Below w9.heap.size w9 (w9.alloc (.cells #[.slice A9' n0 c9', .slice B9' m0 d9'] 27)) := (Below.refl _ _).alloc (Nat.le_refl _) _
  have hB10 := btr hB9 hb10
  have hS10 : w9.heap.size < (w9.alloc (.cells #[.slice A9' n0 c9', .slice B9' m0 d9'] 27)).heap.size := by simp
  have hOb_10 := Lib.hid (hOb_9.out.below hb10 )
  have hOx_10 := Lib.hid (hOx_9.out.below hb10 (by omega))
  have hOvx_10 := Lib.hid (Two.new w9 (.slice A9' n0 c9') (.slice B9' m0 d9') 27)
  clear hOb_9 hOx_9 hb10
  go_wp2_with fail
  refine (toSlotS_any A1 n1 c1 0 l1 _ hm1 HL1.out (HA1.out _ hB10)).mono ?_
  rintro e w11 ⟨ad11, d11, rfl, hc11, ho11, hb11⟩
  have hB11 := btr hB10 hb11
  have hS11 := hb11.size
  have hOb_11 := Lib.hid (hOb_10.out.below hb11 )
  have hOx_11 := Lib.hid (hOx_10.out.below hb11 (by omega))
  have hOvx_11 := Lib.hid (hOvx_10.out.below hb11 )
  have hOx1_11 := Lib.hid ho11
  clear hOb_10 hOx_10 hOvx_10 hc11 ho11 hb11
  go_wp2_with fail
  refine (toSlotS_any A2 n2 c2 0 l2 _ hm2 HL2.out (HA2.out _ hB11)).mono ?_
  rintro e w12 ⟨ad12, d12, rfl, hc12, ho12, hb12⟩
  have hB12 := btr hB11 hb12
  have hS12 := hb12.size
  have hOb_12 := Lib.hid (hOb_11.out.below hb12 )
  have hOx_12 := Lib.hid (hOx_11.out.below hb12 (by omega))
  have hOvx_12 := Lib.hid (hOvx_11.out.below hb12 )
  have hOx1_12 := Lib.hid (hOx1_11.out.below hb12 (by omega))
  have hOx2_12 := Lib.hid ho12
  clear hOb_11 hOx_11 hOvx_11 hOx1_11 hc12 ho12 hb12
  obtain ⟨zvx0, zvx1, _, _, _⟩ := hOvx_12.out
  go_wp2_with fail
  refine (HK2.out _ _ _ _ _ _ _ _ _ (hOx_12.out.reads.wide (Nat.zero_le _) (by omega)) (hOx1_12.out.1.wide (Nat.zero_le _) (by omega)) (hOx2_12.out.1.wide (Nat.zero_le _) (by omega))).mono ?_
  rintro e w13 ⟨rfl, hb13⟩
  have hB13 := btr hB12 hb13
  have hS13 := hb13.size
  have hOb_13 := Lib.hid (hOb_12.out.below hb13 )
  have hOx_13 := Lib.hid (hOx_12.out.below hb13 (by omega))
  have hOvx_13 := Lib.hid (hOvx_12.out.below hb13 )
  have hOx1_13 := Lib.hid (hOx1_12.out.below hb13 (by omega))
  have hOx2_13 := Lib.hid (hOx2_12.out.below hb13 (by omega))
  clear hOb_12 hOx_12 hOvx_12 hOx1_12 hOx2_12 hb13
  clear zvx0 zvx1
  go_wp2_with fail
  refine Ord.wp_region_ord (fun w' => (w'.cell? ⟨w9.heap.size, 0, none⟩ = some (.slice A9' n0 c9') ∧ w'.cell? ⟨w9.heap.size, 1, none⟩ = some (.slice B9' m0 d9')) ∧ w'.cell? ⟨w.heap.size, 0, none⟩ = some (.slice A0 n0 c0) ∧ w'.cell? ⟨w.heap.size, 1, none⟩ = some (.slice B0 m0 e0)) [(0, true), (1, true), (2, false), (3, false), (4, true)] (by kernel_rfl) (by kernel_rfl) rfl (by kernel_rfl) (⟨⟨hOvx_13.out.1, hOvx_13.out.2.1⟩, hOb_13.out.1, hOb_13.out.2.1⟩) ?_
  simp only [Ord.ordOps, List.getElem?_toArray, List.getElem?_cons_zero, List.getElem?_cons_succ]
  repeat (first
    | (refine Ord.ord_plain (v := ?_) rfl (fun w' hS => ?_) ?_; rotate_left; (focus ((try dsimp only at hS); go_simp; first | done | with_reducible rfl)); simp only [Act.put, List.setIfInBounds_toArray, List.set_cons_zero, List.set_cons_succ])
    | (refine Ord.ord_skip (by rfl) ?_; simp only [Act.put, List.setIfInBounds_toArray, List.set_cons_zero, List.set_cons_succ])
    | (refine Ord.ord_take (v := ?_) (by rfl) (fun w' hS => ?_) ?_; rotate_left; (focus ((try dsimp only at hS); go_simp; first | done | with_reducible rfl)); simp only [Act.put, List.setIfInBounds_toArray, List.set_cons_zero, List.set_cons_succ]))
  have hb14 : Below w13.heap.size w13 w13.drew := (Below.refl _ _).drew
  have hB14 := btr hB13 hb14
  have hS14 := hb14.size
  have hOb_14 := Lib.hid (hOb_13.out.below hb14 )
  have hOx_14 := Lib.hid (hOx_13.out.below hb14 (by omega))
  have hOvx_14 := Lib.hid (hOvx_13.out.below hb14 )
  have hOx1_14 := Lib.hid (hOx1_13.out.below hb14 (by omega))
  have hOx2_14 := Lib.hid (hOx2_13.out.below hb14 (by omega))
  clear hOb_13 hOx_13 hOvx_13 hOx1_13 hOx2_13 hb14
  refine Ord.ord_call (fun K hK => ?_)
  go_simp
  refine (toKept_any A0 B0 n0 m0 c0 e0 0 k0 _ hmn0 hmm0 (HA0.out _ hB14)).mono ?_
  rintro e w15 ⟨A15', c15', B15', d15', rfl, ho15, hb15⟩
  have hB15 := btr hB14 hb15
  have hS15 := hb15.size
  have hOb_15 := Lib.hid (hOb_14.out.below hb15 )
  have hOx_15 := Lib.hid (hOx_14.out.below hb15 (by omega))
  have hOvx_15 := Lib.hid (hOvx_14.out.below hb15 )
  have hOx1_15 := Lib.hid (hOx1_14.out.below hb15 (by omega))
  have hOx2_15 := Lib.hid (hOx2_14.out.below hb15 (by omega))
  have hOyy_15 := Lib.hid ho15
  clear hOb_14 hOx_14 hOvx_14 hOx1_14 hOx2_14 ho15 hb15
  refine hK.out _ _ (⟨⟨hOvx_15.out.1, hOvx_15.out.2.1⟩, hOb_15.out.1, hOb_15.out.2.1⟩) ?_
  clear hK K
  repeat (first
    | (refine Ord.ord_plain (v := ?_) rfl (fun w' hS => ?_) ?_; rotate_left; (focus ((try dsimp only at hS); go_simp; first | done | with_reducible rfl)); simp only [Act.put, List.setIfInBounds_toArray, List.set_cons_zero, List.set_cons_succ])
    | (refine Ord.ord_skip (by rfl) ?_; simp only [Act.put, List.setIfInBounds_toArray, List.set_cons_zero, List.set_cons_succ])
    | (refine Ord.ord_take (v := ?_) (by rfl) (fun w' hS => ?_) ?_; rotate_left; (focus ((try dsimp only at hS); go_simp; first | done | with_reducible rfl)); simp only [Act.put, List.setIfInBounds_toArray, List.set_cons_zero, List.set_cons_succ]))
  refine Ord.ord_call (fun K hK => ?_)
  go_simp
  refine (eqKept_same A9' B9' n0 m0 c9' d9' _ k0 _ A15' B15' c15' d15' _ _ _ hmn0 hmm0 (by omega) (by omega) hOx_15.out.reads hOyy_15.out.reads).mono ?_
  rintro e w16 ⟨rfl, hb16⟩
  have hB16 := btr hB15 hb16
  have hS16 := hb16.size
  have hOb_16 := Lib.hid (hOb_15.out.below hb16 )
  have hOx_16 := Lib.hid (hOx_15.out.below hb16 (by omega))
  have hOvx_16 := Lib.hid (hOvx_15.out.below hb16 )
  have hOx1_16 := Lib.hid (hOx1_15.out.below hb16 (by omega))
  have hOx2_16 := Lib.hid (hOx2_15.out.below hb16 (by omega))
  have hOyy_16 := Lib.hid (hOyy_15.out.below hb16 (by omega))
  clear hOb_15 hOx_15 hOvx_15 hOx1_15 hOx2_15 hOyy_15 hb16
  refine hK.out _ _ (⟨⟨hOvx_16.out.1, hOvx_16.out.2.1⟩, hOb_16.out.1, hOb_16.out.2.1⟩) ?_
  clear hK K
  repeat (first
    | (refine Ord.ord_plain (v := ?_) rfl (fun w' hS => ?_) ?_; rotate_left; (focus ((try dsimp only at hS); go_simp; first | done | with_reducible rfl)); simp only [Act.put, List.setIfInBounds_toArray, List.set_cons_zero, List.set_cons_succ])
    | (refine Ord.ord_skip (by rfl) ?_; simp only [Act.put, List.setIfInBounds_toArray, List.set_cons_zero, List.set_cons_succ])
    | (refine Ord.ord_take (v := ?_) (by rfl) (fun w' hS => ?_) ?_; rotate_left; (focus ((try dsimp only at hS); go_simp; first | done | with_reducible rfl)); simp only [Act.put, List.setIfInBounds_toArray, List.set_cons_zero, List.set_cons_succ]))
  refine Ord.ord_nil ?_
  clear hOyy_16
  go_wp2_with fail
  refine (toSlotS_any A1 n1 c1 0 l1 _ hm1 HL1.out (HA1.out _ hB16)).mono ?_
  rintro e w17 ⟨ad17, d17, rfl, hc17, ho17, hb17⟩
  have hB17 := btr hB16 hb17
  have hS17 := hb17.size
  have hOb_17 := Lib.hid (hOb_16.out.below hb17 )
  have hOx_17 := Lib.hid (hOx_16.out.below hb17 (by omega))
  have hOvx_17 := Lib.hid (hOvx_16.out.below hb17 )
  have hOx1_17 := Lib.hid (hOx1_16.out.below hb17 (by omega))
  have hOx2_17 := Lib.hid (hOx2_16.out.below hb17 (by omega))
  have hOy_17 := Lib.hid ho17
  clear hOb_16 hOx_16 hOvx_16 hOx1_16 hOx2_16 hc17 ho17 hb17
  go_wp2_with fail
  refine (eqSlotS_same (some ad11) (some ad17) n1 d11 d17 _ _ _ _ l1 _ hm1 HL1.out (by omega) (by omega) hOx1_17.out.1 hOy_17.out.1).mono ?_
  rintro e w18 ⟨rfl, hb18⟩
  have hB18 := btr hB17 hb18
  have hS18 := hb18.size
  have hOb_18 := Lib.hid (hOb_17.out.below hb18 )
  have hOx_18 := Lib.hid (hOx_17.out.below hb18 (by omega))
  have hOvx_18 := Lib.hid (hOvx_17.out.below hb18 )
  have hOx1_18 := Lib.hid (hOx1_17.out.below hb18 (by omega))
  have hOx2_18 := Lib.hid (hOx2_17.out.below hb18 (by omega))
  have hOy_18 := Lib.hid (hOy_17.out.below hb18 (by omega))
  clear hOb_17 hOx_17 hOvx_17 hOx1_17 hOx2_17 hOy_17 hb18
  clear hOy_18
  go_wp2_with fail
  refine (toSlotS_any A2 n2 c2 0 l2 _ hm2 HL2.out (HA2.out _ hB18)).mono ?_
  rintro e w19 ⟨ad19, d19, rfl, hc19, ho19, hb19⟩
  have hB19 := btr hB18 hb19
  have hS19 := hb19.size
  have hOb_19 := Lib.hid (hOb_18.out.below hb19 )
  have hOx_19 := Lib.hid (hOx_18.out.below hb19 (by omega))
  have hOvx_19 := Lib.hid (hOvx_18.out.below hb19 )
  have hOx1_19 := Lib.hid (hOx1_18.out.below hb19 (by omega))
  have hOx2_19 := Lib.hid (hOx2_18.out.below hb19 (by omega))
  have hOy_19 := Lib.hid ho19
  clear hOb_18 hOx_18 hOvx_18 hOx1_18 hOx2_18 hc19 ho19 hb19
  go_wp2_with fail
  refine (eqSlotS_same (some ad12) (some ad19) n2 d12 d19 _ _ _ _ l2 _ hm2 HL2.out (by omega) (by omega) hOx2_19.out.1 hOy_19.out.1).mono ?_
  rintro e w20 ⟨rfl, hb20⟩
  have hB20 := btr hB19 hb20
  have hS20 := hb20.size
  have hOb_20 := Lib.hid (hOb_19.out.below hb20 )
  have hOx_20 := Lib.hid (hOx_19.out.below hb20 (by omega))
  have hOvx_20 := Lib.hid (hOvx_19.out.below hb20 )
  have hOx1_20 := Lib.hid (hOx1_19.out.below hb20 (by omega))
  have hOx2_20 := Lib.hid (hOx2_19.out.below hb20 (by omega))
  have hOy_20 := Lib.hid (hOy_19.out.below hb20 (by omega))
  clear hOb_19 hOx_19 hOvx_19 hOx1_19 hOx2_19 hOy_19 hb20
  go_wp2_with fail
  go_ret
  exact ⟨rfl, hB20⟩

/-! ### The row's step -/
set_option maxRecDepth 100000 in
theorem lifted (os : Os) (started : os.Started) (H : Type) (enc : TypeId × Value → H) :
    ReturnsInHanded {} Try.checked os 7 .any (Rows.fnExactKeptOkSpec.pre6 enc Try.prog Try.f7 Rows.fnExactKeptOkRow.domain false) (Rows.fnExactKeptOkSpec.post enc Try.prog Try.f7 false true false false) := by
  refine returnsInHanded_of_change (C := Try.checked) Base.own started (by kernel_rfl) Try.func7
    (ChangeSpec.witness6 (enc := enc) (C := Try.checked) false ⟨#[], #[.agg #[.slice none 0 0, .slice none 0 0], .slice none 0 0, .slice none 0 0], []⟩ 8 (by kernel_rfl) (by kernel_rfl) (by kernel_rfl) (by kernel_rfl)) ?_
  intro W base args ds gs before hval0 hW hcnd _
  have hval : ∀ (j : Nat) t v, Try.f7.params[j]? = some t → args[j]? = some v → Value.okWide Try.prog W .any base t v := hval0
  have hW' := hW
  obtain ⟨p, q, hA0, hV, rfl, hfz, hnd⟩ := hW
  have hA : DataW.TrodAll enc Try.prog W 0 (fun _ => true) true Try.f7.params.toList args.toList ds p := hA0
  have hA1 := hA
  rw [Try.params7] at hA hval
  obtain ⟨v0, vs0, d0, ds0, p0, q0, hargs, rfl, rfl, h0, r0⟩ := trodAll_cons hA
  obtain ⟨v1, vs1, d1, ds1, p1, q1, rfl, rfl, rfl, h1, r1⟩ := trodAll_cons r0
  obtain ⟨v2, vs2, d2, ds2, p2, q2, rfl, rfl, rfl, h2, r2⟩ := trodAll_cons r1
  obtain ⟨rfl, rfl, rfl⟩ := trodAll_nil r2
  obtain rfl : args = #[v0, v1, v2] := by cases args; simp_all
  obtain ⟨rfl, rfl⟩ := trodVars_none hV
  obtain ⟨A0, n0, c0, B0, m0, e0, k0, rfl, hn0, hm0, hw0, h0'⟩ := Kepts.open_kept (hval 0 64 v0 rfl rfl) h0
  obtain ⟨A1, n1, c1, l1, rfl, hn1, hl1, hw1, h1'⟩ := Slots.open_slots (hval 1 62 v1 rfl rfl) h1
  obtain ⟨A2, n2, c2, l2, rfl, hn2, hl2, hw2, h2'⟩ := Slots.open_slots (hval 2 62 v2 rfl rfl) h2
  clear hA0 hval0
  rw [List.append_nil] at hW'
  refine (walk A0 n0 c0 B0 m0 e0 k0 A1 n1 c1 l1 A2 n2 c2 l2 hn0 hm0 hw0 h0' hn1 hl1 hw1 h1' hn2 hl2 hw2 h2').mono fun e W' ⟨he, hg⟩ => ?_
  subst he
  exact ⟨_, rfl, Mem.post_args Slots.laid (by kernel_rfl) rfl rfl rfl hW' hA1 hg (fun _ _ _ => (trodAll_cons_mk (shut_bool Try.underlying4 _) trodAll_mk0)) (ok_one (by kernel_rfl) rfl (okWide_bool_mk Try.underlying4 _))⟩

theorem over : Rows.fnExactKeptOkRow.holds Try.pinned (OpenSpec.ofChange Rows.fnExactKeptOkSpec) :=
  OpenClaim.holds_of_wide 7 Try.f7 rfl rfl rfl rfl rfl rfl rfl ⟨rfl, rfl, rfl, rfl, rfl⟩ rfl rfl rfl rfl rfl (by kernel_rfl) Try.func7 (by kernel_rfl)
    (of_decide_eq_true (by kernel_rfl)) (by unfold Func.isWrapper; first | (rw [if_pos (by decide +kernel)]; kernel_rfl) | (rw [if_neg (by decide +kernel)]; exact ⟨rfl, rfl⟩))
    (fun os started H enc _ => lifted os started H enc)

/-- The given statement. -/
theorem proved : Rows.FnExactKeptOkSaid :=
  over
#print axioms proved
end Go.Proofs.Ytfgckkgakghenaa.fnExactKeptOk
