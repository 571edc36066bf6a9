/-
  For every slice of bytes the law FnKept returns true: each function of the chapter answers as the given model's on drawn arguments, and filling and forgetting keep a shadow table right. No condition.
-/
import Derived.Test.YtfgckkgakghenaaKeptImpl
import Derived.Test.YtfgckkgakghenaaKeptLaw
import Derived.Test.YtfgckkgakghenaaKeptSame
import Derived.Test.YtfgckkgakghenaaKeptDraw2
import Derived.Test.YtfgckkgakghenaaTwoSlot
import Derived.Test.YtfgckkgakghenaaTabA
import Derived.Test.YtfgckkgakghenaaSlotArgs
import Derived.Test.YtfgckkgakghenaaOrdT
import Derived.Test.YtfgckkgakghenaaBig
namespace Go.Proofs.Ytfgckkgakghenaa.fnKept
set_option maxRecDepth 100000
open Go.ChangeShapes Go.WideShapes Go.ChangeAt Go.RowKit
open Go.Proofs.Ytfgckkgakghenaa.Base Go.Proofs.Ytfgckkgakghenaa.Mem Go.Proofs.Ytfgckkgakghenaa.Slots Go.Proofs.Ytfgckkgakghenaa.Ints Go.Proofs.Ytfgckkgakghenaa.Bools Go.Proofs.Ytfgckkgakghenaa.Draw Go.Proofs.Ytfgckkgakghenaa.SDraw Go.Proofs.Ytfgckkgakghenaa.Kepts Go.Proofs.Ytfgckkgakghenaa.KDraw
set_option linter.unusedVariables false
set_option linter.unusedSimpArgs false

theorem drawKeptNew_any (A : Option Addr) (n c : Nat) (w : World) (hn : n ≤ 1048576) (hcode : CodeAt w A n) :
    Calls Try.prog 27 #[.slice A n c] w (IntPost w) := by
  have HK := Lib.hid (drawNew_any A n c w hn hcode)
  clear hcode
  go_enter Try.func27, Try.ntmps27
  go_wp2_with fail
  refine HK.out.mono ?_
  rintro e w1 ⟨x, rfl, hx, hb⟩
  go_wp2_with fail
  go_ret
  exact ⟨x, rfl, hx, hb⟩
theorem new4 : newN 4 = 4 := by decide
theorem new4_any (V : World) : Calls Try.prog 36 #[.int .i64 4] V (KP V 4 4 (newK 4)) := by
  have h := impl_newK V 4 (by decide)
  rwa [new4] at h
theorem field0 (u v : Value) (W : World) : (Instr.field 27 (.agg #[u, v]) 0).run Try.prog W = .ok u W := by kernel_rfl

set_option maxRecDepth 100000 in
set_option maxHeartbeats 8000000 in
theorem walk (A : Option Addr) (n c : Nat) (hn : n ≤ maxLen) {w : World} (hcode : CodeAt w A n) :
    Calls Try.prog 3 #[.slice A n c] w fun e w' => e = .returned (.bool true) ∧ Below w.heap.size w w' := by
  have hn' : n ≤ 9223372036854775807 := hn
  have HC := Lib.hid (show ∀ W, Below w.heap.size w W → CodeAt W A n from fun W hb => hcode.below hb)
  clear hcode hn
  by_cases h1 : 1048576 < n
  · go_enter Try.func3, Try.ntmps3
    go_wp2_with (go_at_call 14; refine (big_yes A n c _ hn' h1).mono ?_; rintro e w' ⟨rfl, rfl⟩)
    go_ret
    exact ⟨rfl, Below.refl _ _⟩
  · have hn2 : n ≤ 1048576 := by omega
    clear h1 hn'
    go_enter Try.func3, Try.ntmps3
    go_wp2_with (go_at_call 14; refine (big_no A n c _ hn2).mono ?_; rintro e w' ⟨rfl, rfl⟩)
    go_wp2_with fail
    refine (drawFill_any A n c _ hn2 (HC.out _ (Below.refl _ _))).mono ?_
    rintro e w1 ⟨A0, n0, e0, B0, m0, d0, k0, ad1, p1, r1, l1, ad2, p2, r2, l2, pg, rfl, hpg, hk0, ht1, ht2, hb1⟩
    have HPG := Lib.hid hpg
    have hmn0 : n0 ≤ 1048576 := by have := hk0.hn; omega
    have hmm0 : m0 ≤ 1048576 := by have := hk0.hm; omega
    have HWk0 := Lib.hid hk0.wf
    have HLl1 := Lib.hid ht1.hl
    have HWl1 := Lib.hid ht1.wf
    have hml1 : p1 ≤ 1048576 := by have := ht1.hm; omega
    have HLl2 := Lib.hid ht2.hl
    have HWl2 := Lib.hid ht2.wf
    have hml2 : p2 ≤ 1048576 := by have := ht2.hm; omega
    have hB1 := btr (Below.refl _ _) hb1
    have hS1 := hb1.size
    have hOk_1 := Lib.hid (hk0.kr)
    have hOl1_1 := Lib.hid (ht1.li)
    have hOl2_1 := Lib.hid (ht2.li)
    clear hk0 ht1 ht2 hpg hb1
    have hb2 : Below w1.heap.size w1 (w1.alloc (.cells #[.slice A0 n0 e0, .slice B0 m0 d0] 27)) := (Below.refl _ _).alloc (Nat.le_refl _) _
    have hB2 := btr hB1 hb2
    have hS2 : w1.heap.size < (w1.alloc (.cells #[.slice A0 n0 e0, .slice B0 m0 d0] 27)).heap.size := by simp
    have hOk_2 := Lib.hid (hOk_1.out.below hb2 (by omega))
    have hOl1_2 := Lib.hid (hOl1_1.out.below hb2 (by omega))
    have hOl2_2 := Lib.hid (hOl2_1.out.below hb2 (by omega))
    have hOvk_2 := Lib.hid (Two.new w1 (.slice A0 n0 e0) (.slice B0 m0 d0) 27)
    clear hOk_1 hOl1_1 hOl2_1 hb2
    have hF1 := fun (V : World) (h : KR V 0 V.heap.size k0 A0 B0 n0 m0) (h1 : Lies V 0 V.heap.size (some ad1) (scells l1)) (h2 : Lies V 0 V.heap.size (some ad2) (scells l2)) => impl_fill A0 B0 n0 m0 e0 d0 k0 V (some ad1) (some ad2) p1 p2 r1 r2 pg l1 l2 hmn0 hmm0 hml1 hml2 HLl1.out HLl2.out h h1 h2 HWk0.out HWl1.out HWl2.out
    have hF2 := fun (V : World) (h : KR V 0 V.heap.size k0 A0 B0 n0 m0) (h1 : Lies V 0 V.heap.size (some ad1) (scells l1)) (h2 : Lies V 0 V.heap.size (some ad2) (scells l2)) => spec_fill A0 B0 n0 m0 e0 d0 k0 V (some ad1) (some ad2) p1 p2 r1 r2 pg l1 l2 hmn0 hmm0 hml1 hml2 HLl1.out HLl2.out h h1 h2
    have hO1 := fun (V : World) (h : KR V 0 V.heap.size k0 A0 B0 n0 m0) (h1 : Lies V 0 V.heap.size (some ad1) (scells l1)) (h2 : Lies V 0 V.heap.size (some ad2) (scells l2)) => impl_okK A0 B0 n0 m0 e0 d0 k0 V (some ad1) (some ad2) p1 p2 r1 r2 l1 l2 hmn0 hmm0 hml1 hml2 HLl1.out HLl2.out h h1 h2 HWk0.out HWl1.out HWl2.out
    have hO2 := fun (V : World) (h : KR V 0 V.heap.size k0 A0 B0 n0 m0) (h1 : Lies V 0 V.heap.size (some ad1) (scells l1)) (h2 : Lies V 0 V.heap.size (some ad2) (scells l2)) => spec_okK A0 B0 n0 m0 e0 d0 k0 V (some ad1) (some ad2) p1 p2 r1 r2 l1 l2 hmn0 hmm0 hml1 hml2 HLl1.out HLl2.out h h1 h2
    have wkf : wfL (fillK k0 l1 l2 pg).2 := wf_fillK HWk0.out HWl2.out
    have hkf := fun h => ok_fill (k := k0) (l := l1) (o := l2) pg h
    generalize fillK k0 l1 l2 pg = kf at hF1 hF2 wkf hkf
    have HF1 := Lib.hid hF1
    have HF2 := Lib.hid hF2
    have HO1 := Lib.hid hO1
    have HO2 := Lib.hid hO2
    have HWkf := Lib.hid wkf
    have HKF := Lib.hid hkf
    clear hF1 hF2 hO1 hO2 wkf hkf
    obtain ⟨zvk0, zvk1, _, _, _⟩ := hOvk_2.out
    go_wp2_with fail
    refine (HF1.out _ (hOk_2.out.wide (Nat.zero_le _) (by omega)) (hOl1_2.out.wide (Nat.zero_le _) (by omega)) (hOl2_2.out.wide (Nat.zero_le _) (by omega))).mono ?_
    rintro e w3 ⟨A3', c3', B3', d3', rfl, ho3, hb3⟩
    have hB3 := btr hB2 hb3
    have hS3 := hb3.size
    have hOk_3 := Lib.hid (hOk_2.out.below hb3 (by omega))
    have hOl1_3 := Lib.hid (hOl1_2.out.below hb3 (by omega))
    have hOl2_3 := Lib.hid (hOl2_2.out.below hb3 (by omega))
    have hOvk_3 := Lib.hid (hOvk_2.out.below hb3 )
    have hOx_3 := Lib.hid ho3
    clear hOk_2 hOl1_2 hOl2_2 hOvk_2 ho3 hb3
    clear zvk0 zvk1
    have hb4 : Below w3.heap.size w3 (w3.alloc (.cells #[.slice A3' n0 c3', .slice B3' m0 d3'] 27)) := (Below.refl _ _).alloc (Nat.le_refl _) _
    have hB4 := btr hB3 hb4
    have hS4 : w3.heap.size < (w3.alloc (.cells #[.slice A3' n0 c3', .slice B3' m0 d3'] 27)).heap.size := by simp
    have hOk_4 := Lib.hid (hOk_3.out.below hb4 (by omega))
    have hOl1_4 := Lib.hid (hOl1_3.out.below hb4 (by omega))
    have hOl2_4 := Lib.hid (hOl2_3.out.below hb4 (by omega))
    have hOvk_4 := Lib.hid (hOvk_3.out.below hb4 )
    have hOx_4 := Lib.hid (hOx_3.out.below hb4 (by omega))
    have hOvx_4 := Lib.hid (Two.new w3 (.slice A3' n0 c3') (.slice B3' m0 d3') 27)
    clear hOk_3 hOl1_3 hOl2_3 hOvk_3 hOx_3 hb4
    go_wp2_with fail
    refine Ord.wp_region_ord (fun w' => (w'.cell? ⟨w3.heap.size, 0, none⟩ = some (.slice A3' n0 c3') ∧ w'.cell? ⟨w3.heap.size, 1, none⟩ = some (.slice B3' m0 d3')) ∧ (w'.cell? ⟨w1.heap.size, 0, none⟩ = some (.slice A0 n0 e0) ∧ w'.cell? ⟨w1.heap.size, 1, none⟩ = some (.slice B0 m0 d0))) [(0, true), (1, true), (2, true), (3, true), (4, true), (5, false), (6, false), (7, true), (8, true), (9, true), (10, true), (11, true), (13, true), (14, true), (15, true), (12, false), (16, false), (17, true), (18, true)] (by kernel_rfl) (by kernel_rfl) rfl (by kernel_rfl) (⟨⟨hOvx_4.out.1, hOvx_4.out.2.1⟩, ⟨hOvk_4.out.1, hOvk_4.out.2.1⟩⟩) ?_
    simp only [Ord.ordOps, List.getElem?_toArray, List.getElem?_cons_zero, List.getElem?_cons_succ]
    repeat (first
      | (refine Ord.ord_plain (v := ?_) rfl (fun w' hS => ?_) ?_; rotate_left; (focus ((try dsimp only at hS); go_simp; first | done | with_reducible rfl)); simp only [Act.put, List.setIfInBounds_toArray, List.set_cons_zero, List.set_cons_succ])
      | (refine Ord.ord_skip (by rfl) ?_; simp only [Act.put, List.setIfInBounds_toArray, List.set_cons_zero, List.set_cons_succ])
      | (refine Ord.ord_take (v := ?_) (by rfl) (fun w' hS => ?_) ?_; rotate_left; (focus ((try dsimp only at hS); go_simp; first | done | with_reducible rfl)); simp only [Act.put, List.setIfInBounds_toArray, List.set_cons_zero, List.set_cons_succ]))
    have hb5 : Below (w3.alloc (.cells #[.slice A3' n0 c3', .slice B3' m0 d3'] 27)).heap.size (w3.alloc (.cells #[.slice A3' n0 c3', .slice B3' m0 d3'] 27)) (w3.alloc (.cells #[.slice A3' n0 c3', .slice B3' m0 d3'] 27)).drew := (Below.refl _ _).drew
    have hB5 := btr hB4 hb5
    have hS5 : (w3.alloc (.cells #[.slice A3' n0 c3', .slice B3' m0 d3'] 27)).heap.size ≤ (w3.alloc (.cells #[.slice A3' n0 c3', .slice B3' m0 d3'] 27)).drew.heap.size := hb5.size
    have hOk_5 := Lib.hid (hOk_4.out.below hb5 (by omega))
    have hOl1_5 := Lib.hid (hOl1_4.out.below hb5 (by omega))
    have hOl2_5 := Lib.hid (hOl2_4.out.below hb5 (by omega))
    have hOvk_5 := Lib.hid (hOvk_4.out.below hb5 )
    have hOx_5 := Lib.hid (hOx_4.out.below hb5 (by omega))
    have hOvx_5 := Lib.hid (hOvx_4.out.below hb5 )
    clear hOk_4 hOl1_4 hOl2_4 hOvk_4 hOx_4 hOvx_4 hb5
    refine Ord.ord_call (fun K hK => ?_)
    go_simp
    refine (HF2.out _ (hOk_5.out.wide (Nat.zero_le _) (by omega)) (hOl1_5.out.wide (Nat.zero_le _) (by omega)) (hOl2_5.out.wide (Nat.zero_le _) (by omega))).mono ?_
    rintro e w6 ⟨A6', c6', B6', d6', rfl, ho6, hb6⟩
    have hB6 := btr hB5 hb6
    have hS6 := hb6.size
    have hOk_6 := Lib.hid (hOk_5.out.below hb6 (by omega))
    have hOl1_6 := Lib.hid (hOl1_5.out.below hb6 (by omega))
    have hOl2_6 := Lib.hid (hOl2_5.out.below hb6 (by omega))
    have hOvk_6 := Lib.hid (hOvk_5.out.below hb6 )
    have hOx_6 := Lib.hid (hOx_5.out.below hb6 (by omega))
    have hOvx_6 := Lib.hid (hOvx_5.out.below hb6 )
    have hOu_6 := Lib.hid ho6
    clear hOk_5 hOl1_5 hOl2_5 hOvk_5 hOx_5 hOvx_5 ho6 hb6
    refine hK.out _ _ (⟨⟨hOvx_6.out.1, hOvx_6.out.2.1⟩, ⟨hOvk_6.out.1, hOvk_6.out.2.1⟩⟩) ?_
    clear hK K
    repeat (first
      | (refine Ord.ord_plain (v := ?_) rfl (fun w' hS => ?_) ?_; rotate_left; (focus ((try dsimp only at hS); go_simp; first | done | with_reducible rfl)); simp only [Act.put, List.setIfInBounds_toArray, List.set_cons_zero, List.set_cons_succ])
      | (refine Ord.ord_skip (by rfl) ?_; simp only [Act.put, List.setIfInBounds_toArray, List.set_cons_zero, List.set_cons_succ])
      | (refine Ord.ord_take (v := ?_) (by rfl) (fun w' hS => ?_) ?_; rotate_left; (focus ((try dsimp only at hS); go_simp; first | done | with_reducible rfl)); simp only [Act.put, List.setIfInBounds_toArray, List.set_cons_zero, List.set_cons_succ]))
    refine Ord.ord_call (fun K hK => ?_)
    go_simp
    refine (sameKept_same A3' B3' n0 m0 c3' d3' _ kf _ A6' B6' c6' d6' _ _ _ hmn0 hmm0 (by omega) (by omega) hOx_6.out.reads hOu_6.out.reads).mono ?_
    rintro e w7 ⟨rfl, hb7⟩
    have hB7 := btr hB6 hb7
    have hS7 := hb7.size
    have hOk_7 := Lib.hid (hOk_6.out.below hb7 (by omega))
    have hOl1_7 := Lib.hid (hOl1_6.out.below hb7 (by omega))
    have hOl2_7 := Lib.hid (hOl2_6.out.below hb7 (by omega))
    have hOvk_7 := Lib.hid (hOvk_6.out.below hb7 )
    have hOx_7 := Lib.hid (hOx_6.out.below hb7 (by omega))
    have hOvx_7 := Lib.hid (hOvx_6.out.below hb7 )
    have hOu_7 := Lib.hid (hOu_6.out.below hb7 (by omega))
    clear hOk_6 hOl1_6 hOl2_6 hOvk_6 hOx_6 hOvx_6 hOu_6 hb7
    refine hK.out _ _ (⟨⟨hOvx_7.out.1, hOvx_7.out.2.1⟩, ⟨hOvk_7.out.1, hOvk_7.out.2.1⟩⟩) ?_
    clear hK K
    repeat (first
      | (refine Ord.ord_plain (v := ?_) rfl (fun w' hS => ?_) ?_; rotate_left; (focus ((try dsimp only at hS); go_simp; first | done | with_reducible rfl)); simp only [Act.put, List.setIfInBounds_toArray, List.set_cons_zero, List.set_cons_succ])
      | (refine Ord.ord_skip (by rfl) ?_; simp only [Act.put, List.setIfInBounds_toArray, List.set_cons_zero, List.set_cons_succ])
      | (refine Ord.ord_take (v := ?_) (by rfl) (fun w' hS => ?_) ?_; rotate_left; (focus ((try dsimp only at hS); go_simp; first | done | with_reducible rfl)); simp only [Act.put, List.setIfInBounds_toArray, List.set_cons_zero, List.set_cons_succ]))
    clear hOu_7
    refine Ord.ord_call (fun K hK => ?_)
    go_simp
    refine (HO1.out _ (hOk_7.out.wide (Nat.zero_le _) (by omega)) (hOl1_7.out.wide (Nat.zero_le _) (by omega)) (hOl2_7.out.wide (Nat.zero_le _) (by omega))).mono ?_
    rintro e w8 ⟨rfl, hb8⟩
    have hB8 := btr hB7 hb8
    have hS8 := hb8.size
    have hOk_8 := Lib.hid (hOk_7.out.below hb8 (by omega))
    have hOl1_8 := Lib.hid (hOl1_7.out.below hb8 (by omega))
    have hOl2_8 := Lib.hid (hOl2_7.out.below hb8 (by omega))
    have hOvk_8 := Lib.hid (hOvk_7.out.below hb8 )
    have hOx_8 := Lib.hid (hOx_7.out.below hb8 (by omega))
    have hOvx_8 := Lib.hid (hOvx_7.out.below hb8 )
    clear hOk_7 hOl1_7 hOl2_7 hOvk_7 hOx_7 hOvx_7 hb8
    refine hK.out _ _ (⟨⟨hOvx_8.out.1, hOvx_8.out.2.1⟩, ⟨hOvk_8.out.1, hOvk_8.out.2.1⟩⟩) ?_
    clear hK K
    repeat (first
      | (refine Ord.ord_plain (v := ?_) rfl (fun w' hS => ?_) ?_; rotate_left; (focus ((try dsimp only at hS); go_simp; first | done | with_reducible rfl)); simp only [Act.put, List.setIfInBounds_toArray, List.set_cons_zero, List.set_cons_succ])
      | (refine Ord.ord_skip (by rfl) ?_; simp only [Act.put, List.setIfInBounds_toArray, List.set_cons_zero, List.set_cons_succ])
      | (refine Ord.ord_take (v := ?_) (by rfl) (fun w' hS => ?_) ?_; rotate_left; (focus ((try dsimp only at hS); go_simp; first | done | with_reducible rfl)); simp only [Act.put, List.setIfInBounds_toArray, List.set_cons_zero, List.set_cons_succ]))
    refine Ord.ord_call (fun K hK => ?_)
    go_simp
    refine (HO2.out _ (hOk_8.out.wide (Nat.zero_le _) (by omega)) (hOl1_8.out.wide (Nat.zero_le _) (by omega)) (hOl2_8.out.wide (Nat.zero_le _) (by omega))).mono ?_
    rintro e w9 ⟨rfl, hb9⟩
    have hB9 := btr hB8 hb9
    have hS9 := hb9.size
    have hOk_9 := Lib.hid (hOk_8.out.below hb9 (by omega))
    have hOl1_9 := Lib.hid (hOl1_8.out.below hb9 (by omega))
    have hOl2_9 := Lib.hid (hOl2_8.out.below hb9 (by omega))
    have hOvk_9 := Lib.hid (hOvk_8.out.below hb9 )
    have hOx_9 := Lib.hid (hOx_8.out.below hb9 (by omega))
    have hOvx_9 := Lib.hid (hOvx_8.out.below hb9 )
    clear hOk_8 hOl1_8 hOl2_8 hOvk_8 hOx_8 hOvx_8 hb9
    refine hK.out _ _ (⟨⟨hOvx_9.out.1, hOvx_9.out.2.1⟩, ⟨hOvk_9.out.1, hOvk_9.out.2.1⟩⟩) ?_
    clear hK K
    repeat (first
      | (refine Ord.ord_plain (v := ?_) rfl (fun w' hS => ?_) ?_; rotate_left; (focus ((try dsimp only at hS); go_simp; first | done | with_reducible rfl)); simp only [Act.put, List.setIfInBounds_toArray, List.set_cons_zero, List.set_cons_succ])
      | (refine Ord.ord_skip (by rfl) ?_; simp only [Act.put, List.setIfInBounds_toArray, List.set_cons_zero, List.set_cons_succ])
      | (refine Ord.ord_take (v := ?_) (by rfl) (fun w' hS => ?_) ?_; rotate_left; (focus ((try dsimp only at hS); go_simp; first | done | with_reducible rfl)); simp only [Act.put, List.setIfInBounds_toArray, List.set_cons_zero, List.set_cons_succ]))
    refine Ord.ord_nil ?_
    go_wp2_with fail
    refine (drawAsk_any A n c _ hn2 (HC.out _ hB9)).mono ?_
    rintro e w10 ⟨A2, n2, e2, B2, m2, d2, k2, x2, rfl, hx2, hk2, hb10⟩
    have HX2 := Lib.hid hx2
    have hmn2 : n2 ≤ 1048576 := by have := hk2.hn; omega
    have hmm2 : m2 ≤ 1048576 := by have := hk2.hm; omega
    have HWk2 := Lib.hid hk2.wf
    have hB10 := btr hB9 hb10
    have hS10 := hb10.size
    have hOk_10 := Lib.hid (hOk_9.out.below hb10 (by omega))
    have hOl1_10 := Lib.hid (hOl1_9.out.below hb10 (by omega))
    have hOl2_10 := Lib.hid (hOl2_9.out.below hb10 (by omega))
    have hOvk_10 := Lib.hid (hOvk_9.out.below hb10 )
    have hOx_10 := Lib.hid (hOx_9.out.below hb10 (by omega))
    have hOvx_10 := Lib.hid (hOvx_9.out.below hb10 )
    have hOk2_10 := Lib.hid (hk2.kr)
    clear hOk_9 hOl1_9 hOl2_9 hOvk_9 hOx_9 hOvx_9 hk2 hx2 hb10
    have hb11 : Below w10.heap.size w10 (w10.alloc (.cells #[.slice A2 n2 e2, .slice B2 m2 d2] 27)) := (Below.refl _ _).alloc (Nat.le_refl _) _
    have hB11 := btr hB10 hb11
    have hS11 : w10.heap.size < (w10.alloc (.cells #[.slice A2 n2 e2, .slice B2 m2 d2] 27)).heap.size := by simp
    have hOk_11 := Lib.hid (hOk_10.out.below hb11 (by omega))
    have hOl1_11 := Lib.hid (hOl1_10.out.below hb11 (by omega))
    have hOl2_11 := Lib.hid (hOl2_10.out.below hb11 (by omega))
    have hOvk_11 := Lib.hid (hOvk_10.out.below hb11 )
    have hOx_11 := Lib.hid (hOx_10.out.below hb11 (by omega))
    have hOvx_11 := Lib.hid (hOvx_10.out.below hb11 )
    have hOk2_11 := Lib.hid (hOk2_10.out.below hb11 (by omega))
    have hOvk2_11 := Lib.hid (Two.new w10 (.slice A2 n2 e2) (.slice B2 m2 d2) 27)
    clear hOk_10 hOl1_10 hOl2_10 hOvk_10 hOx_10 hOvx_10 hOk2_10 hb11
    have hA1 := fun (V : World) (h : KR V 0 V.heap.size k2 A2 B2 n2 m2) => impl_ask A2 B2 n2 m2 e2 d2 k2 V x2 hmn2 hmm2 h HWk2.out
    have hA2 := fun (V : World) (h : KR V 0 V.heap.size k2 A2 B2 n2 m2) => spec_ask A2 B2 n2 m2 e2 d2 k2 V x2 hmn2 hmm2 h
    unfold AskP at hA1 hA2
    generalize askK k2 x2 = z at hA1 hA2
    obtain ⟨⟨sx, sy⟩, so⟩ := z
    have HA1 := Lib.hid hA1
    have HA2 := Lib.hid hA2
    clear hA1 hA2
    obtain ⟨zvk20, zvk21, _, _, _⟩ := hOvk2_11.out
    go_wp2_with fail
    refine (HA1.out _ (hOk2_11.out.wide (Nat.zero_le _) (by omega))).mono ?_
    rintro e w12 ⟨rfl, hb12⟩
    have hB12 := btr hB11 hb12
    have hS12 := hb12.size
    have hOk_12 := Lib.hid (hOk_11.out.below hb12 (by omega))
    have hOl1_12 := Lib.hid (hOl1_11.out.below hb12 (by omega))
    have hOl2_12 := Lib.hid (hOl2_11.out.below hb12 (by omega))
    have hOvk_12 := Lib.hid (hOvk_11.out.below hb12 )
    have hOx_12 := Lib.hid (hOx_11.out.below hb12 (by omega))
    have hOvx_12 := Lib.hid (hOvx_11.out.below hb12 )
    have hOk2_12 := Lib.hid (hOk2_11.out.below hb12 (by omega))
    have hOvk2_12 := Lib.hid (hOvk2_11.out.below hb12 )
    clear hOk_11 hOl1_11 hOl2_11 hOvk_11 hOx_11 hOvx_11 hOk2_11 hOvk2_11 hb12
    clear zvk20 zvk21
    have hb13 : Below w12.heap.size w12 (w12.alloc (.cells #[.int .i64 sx, .int .i64 sy] 36)) := (Below.refl _ _).alloc (Nat.le_refl _) _
    have hB13 := btr hB12 hb13
    have hS13 := hb13.size
    have hOk_13 := Lib.hid (hOk_12.out.below hb13 (by omega))
    have hOl1_13 := Lib.hid (hOl1_12.out.below hb13 (by omega))
    have hOl2_13 := Lib.hid (hOl2_12.out.below hb13 (by omega))
    have hOvk_13 := Lib.hid (hOvk_12.out.below hb13 )
    have hOx_13 := Lib.hid (hOx_12.out.below hb13 (by omega))
    have hOvx_13 := Lib.hid (hOvx_12.out.below hb13 )
    have hOk2_13 := Lib.hid (hOk2_12.out.below hb13 (by omega))
    have hOvk2_13 := Lib.hid (hOvk2_12.out.below hb13 )
    have hOs_13 := Lib.hid (Two.new w12 (.int .i64 sx) (.int .i64 sy) 36)
    clear hOk_12 hOl1_12 hOl2_12 hOvk_12 hOx_12 hOvx_12 hOk2_12 hOvk2_12 hb13
    obtain ⟨zvk20, zvk21, _, _, _⟩ := hOvk2_13.out
    go_wp2_with fail
    refine (HA2.out _ (hOk2_13.out.wide (Nat.zero_le _) (by omega))).mono ?_
    rintro e w14 ⟨rfl, hb14⟩
    have hB14 := btr hB13 hb14
    have hS14 := hb14.size
    have hOk_14 := Lib.hid (hOk_13.out.below hb14 (by omega))
    have hOl1_14 := Lib.hid (hOl1_13.out.below hb14 (by omega))
    have hOl2_14 := Lib.hid (hOl2_13.out.below hb14 (by omega))
    have hOvk_14 := Lib.hid (hOvk_13.out.below hb14 )
    have hOx_14 := Lib.hid (hOx_13.out.below hb14 (by omega))
    have hOvx_14 := Lib.hid (hOvx_13.out.below hb14 )
    have hOk2_14 := Lib.hid (hOk2_13.out.below hb14 (by omega))
    have hOvk2_14 := Lib.hid (hOvk2_13.out.below hb14 )
    have hOs_14 := Lib.hid (hOs_13.out.below hb14 )
    clear hOk_13 hOl1_13 hOl2_13 hOvk_13 hOx_13 hOvx_13 hOk2_13 hOvk2_13 hOs_13 hb14
    clear zvk20 zvk21
    have hb15 : Below w14.heap.size w14 (w14.alloc (.cells #[.int .i64 sx, .int .i64 sy] 36)) := (Below.refl _ _).alloc (Nat.le_refl _) _
    have hB15 := btr hB14 hb15
    have hS15 := hb15.size
    have hOk_15 := Lib.hid (hOk_14.out.below hb15 (by omega))
    have hOl1_15 := Lib.hid (hOl1_14.out.below hb15 (by omega))
    have hOl2_15 := Lib.hid (hOl2_14.out.below hb15 (by omega))
    have hOvk_15 := Lib.hid (hOvk_14.out.below hb15 )
    have hOx_15 := Lib.hid (hOx_14.out.below hb15 (by omega))
    have hOvx_15 := Lib.hid (hOvx_14.out.below hb15 )
    have hOk2_15 := Lib.hid (hOk2_14.out.below hb15 (by omega))
    have hOvk2_15 := Lib.hid (hOvk2_14.out.below hb15 )
    have hOs_15 := Lib.hid (hOs_14.out.below hb15 )
    have hOt_15 := Lib.hid (Two.new w14 (.int .i64 sx) (.int .i64 sy) 36)
    clear hOk_14 hOl1_14 hOl2_14 hOvk_14 hOx_14 hOvx_14 hOk2_14 hOvk2_14 hOs_14 hb15
    clear hOvk2_15
    clear hOk2_15
    go_wp2_with fail
    refine (drawForget_any A n c _ hn2 (HC.out _ hB15)).mono ?_
    rintro e w16 ⟨A3, n3, e3, B3, m3, d3, k3, x3, rfl, hx3, hk3, hb16⟩
    have HX3 := Lib.hid hx3
    have hmn3 : n3 ≤ 1048576 := by have := hk3.hn; omega
    have hmm3 : m3 ≤ 1048576 := by have := hk3.hm; omega
    have HWk3 := Lib.hid hk3.wf
    have hB16 := btr hB15 hb16
    have hS16 := hb16.size
    have hOk_16 := Lib.hid (hOk_15.out.below hb16 (by omega))
    have hOl1_16 := Lib.hid (hOl1_15.out.below hb16 (by omega))
    have hOl2_16 := Lib.hid (hOl2_15.out.below hb16 (by omega))
    have hOvk_16 := Lib.hid (hOvk_15.out.below hb16 )
    have hOx_16 := Lib.hid (hOx_15.out.below hb16 (by omega))
    have hOvx_16 := Lib.hid (hOvx_15.out.below hb16 )
    have hOs_16 := Lib.hid (hOs_15.out.below hb16 )
    have hOt_16 := Lib.hid (hOt_15.out.below hb16 )
    have hOk3_16 := Lib.hid (hk3.kr)
    clear hOk_15 hOl1_15 hOl2_15 hOvk_15 hOx_15 hOvx_15 hOs_15 hOt_15 hk3 hx3 hb16
    have hb17 : Below w16.heap.size w16 (w16.alloc (.cells #[.slice A3 n3 e3, .slice B3 m3 d3] 27)) := (Below.refl _ _).alloc (Nat.le_refl _) _
    have hB17 := btr hB16 hb17
    have hS17 : w16.heap.size < (w16.alloc (.cells #[.slice A3 n3 e3, .slice B3 m3 d3] 27)).heap.size := by simp
    have hOk_17 := Lib.hid (hOk_16.out.below hb17 (by omega))
    have hOl1_17 := Lib.hid (hOl1_16.out.below hb17 (by omega))
    have hOl2_17 := Lib.hid (hOl2_16.out.below hb17 (by omega))
    have hOvk_17 := Lib.hid (hOvk_16.out.below hb17 )
    have hOx_17 := Lib.hid (hOx_16.out.below hb17 (by omega))
    have hOvx_17 := Lib.hid (hOvx_16.out.below hb17 )
    have hOs_17 := Lib.hid (hOs_16.out.below hb17 )
    have hOt_17 := Lib.hid (hOt_16.out.below hb17 )
    have hOk3_17 := Lib.hid (hOk3_16.out.below hb17 (by omega))
    have hOvk3_17 := Lib.hid (Two.new w16 (.slice A3 n3 e3) (.slice B3 m3 d3) 27)
    clear hOk_16 hOl1_16 hOl2_16 hOvk_16 hOx_16 hOvx_16 hOs_16 hOt_16 hOk3_16 hb17
    go_wp2_with fail
    refine (drawForgetUses_any A n c _ hn2 (HC.out _ hB17)).mono ?_
    rintro e w18 ⟨A4, n4, e4, B4, m4, d4, k4, ad4, p4, r4, l4, x4, rfl, hx4, hk4, ht4, hb18⟩
    have HX4 := Lib.hid hx4
    have hmn4 : n4 ≤ 1048576 := by have := hk4.hn; omega
    have hmm4 : m4 ≤ 1048576 := by have := hk4.hm; omega
    have HWk4 := Lib.hid hk4.wf
    have HLl4 := Lib.hid ht4.hl
    have HWl4 := Lib.hid ht4.wf
    have hml4 : p4 ≤ 1048576 := by have := ht4.hm; omega
    have hB18 := btr hB17 hb18
    have hS18 := hb18.size
    have hOk_18 := Lib.hid (hOk_17.out.below hb18 (by omega))
    have hOl1_18 := Lib.hid (hOl1_17.out.below hb18 (by omega))
    have hOl2_18 := Lib.hid (hOl2_17.out.below hb18 (by omega))
    have hOvk_18 := Lib.hid (hOvk_17.out.below hb18 )
    have hOx_18 := Lib.hid (hOx_17.out.below hb18 (by omega))
    have hOvx_18 := Lib.hid (hOvx_17.out.below hb18 )
    have hOs_18 := Lib.hid (hOs_17.out.below hb18 )
    have hOt_18 := Lib.hid (hOt_17.out.below hb18 )
    have hOk3_18 := Lib.hid (hOk3_17.out.below hb18 (by omega))
    have hOvk3_18 := Lib.hid (hOvk3_17.out.below hb18 )
    have hOk4_18 := Lib.hid (hk4.kr)
    have hOl4_18 := Lib.hid (ht4.li)
    clear hOk_17 hOl1_17 hOl2_17 hOvk_17 hOx_17 hOvx_17 hOs_17 hOt_17 hOk3_17 hOvk3_17 hk4 hx4 ht4 hb18
    have hb19 : Below w18.heap.size w18 (w18.alloc (.cells #[.slice A4 n4 e4, .slice B4 m4 d4] 27)) := (Below.refl _ _).alloc (Nat.le_refl _) _
    have hB19 := btr hB18 hb19
    have hS19 : w18.heap.size < (w18.alloc (.cells #[.slice A4 n4 e4, .slice B4 m4 d4] 27)).heap.size := by simp
    have hOk_19 := Lib.hid (hOk_18.out.below hb19 (by omega))
    have hOl1_19 := Lib.hid (hOl1_18.out.below hb19 (by omega))
    have hOl2_19 := Lib.hid (hOl2_18.out.below hb19 (by omega))
    have hOvk_19 := Lib.hid (hOvk_18.out.below hb19 )
    have hOx_19 := Lib.hid (hOx_18.out.below hb19 (by omega))
    have hOvx_19 := Lib.hid (hOvx_18.out.below hb19 )
    have hOs_19 := Lib.hid (hOs_18.out.below hb19 )
    have hOt_19 := Lib.hid (hOt_18.out.below hb19 )
    have hOk3_19 := Lib.hid (hOk3_18.out.below hb19 (by omega))
    have hOvk3_19 := Lib.hid (hOvk3_18.out.below hb19 )
    have hOk4_19 := Lib.hid (hOk4_18.out.below hb19 (by omega))
    have hOl4_19 := Lib.hid (hOl4_18.out.below hb19 (by omega))
    have hOvk4_19 := Lib.hid (Two.new w18 (.slice A4 n4 e4) (.slice B4 m4 d4) 27)
    clear hOk_18 hOl1_18 hOl2_18 hOvk_18 hOx_18 hOvx_18 hOs_18 hOt_18 hOk3_18 hOvk3_18 hOk4_18 hOl4_18 hb19
    go_wp2_with fail
    refine (drawForgetAll_any A n c _ hn2 (HC.out _ hB19)).mono ?_
    rintro e w20 ⟨A5, n5, e5, B5, m5, d5, k5, rfl, hk5, hb20⟩
    have hmn5 : n5 ≤ 1048576 := by have := hk5.hn; omega
    have hmm5 : m5 ≤ 1048576 := by have := hk5.hm; omega
    have HWk5 := Lib.hid hk5.wf
    have hB20 := btr hB19 hb20
    have hS20 := hb20.size
    have hOk_20 := Lib.hid (hOk_19.out.below hb20 (by omega))
    have hOl1_20 := Lib.hid (hOl1_19.out.below hb20 (by omega))
    have hOl2_20 := Lib.hid (hOl2_19.out.below hb20 (by omega))
    have hOvk_20 := Lib.hid (hOvk_19.out.below hb20 )
    have hOx_20 := Lib.hid (hOx_19.out.below hb20 (by omega))
    have hOvx_20 := Lib.hid (hOvx_19.out.below hb20 )
    have hOs_20 := Lib.hid (hOs_19.out.below hb20 )
    have hOt_20 := Lib.hid (hOt_19.out.below hb20 )
    have hOk3_20 := Lib.hid (hOk3_19.out.below hb20 (by omega))
    have hOvk3_20 := Lib.hid (hOvk3_19.out.below hb20 )
    have hOk4_20 := Lib.hid (hOk4_19.out.below hb20 (by omega))
    have hOl4_20 := Lib.hid (hOl4_19.out.below hb20 (by omega))
    have hOvk4_20 := Lib.hid (hOvk4_19.out.below hb20 )
    have hOk5_20 := Lib.hid (hk5.kr)
    clear hOk_19 hOl1_19 hOl2_19 hOvk_19 hOx_19 hOvx_19 hOs_19 hOt_19 hOk3_19 hOvk3_19 hOk4_19 hOl4_19 hOvk4_19 hk5 hb20
    have hb21 : Below w20.heap.size w20 (w20.alloc (.cells #[.slice A5 n5 e5, .slice B5 m5 d5] 27)) := (Below.refl _ _).alloc (Nat.le_refl _) _
    have hB21 := btr hB20 hb21
    have hS21 : w20.heap.size < (w20.alloc (.cells #[.slice A5 n5 e5, .slice B5 m5 d5] 27)).heap.size := by simp
    have hOk_21 := Lib.hid (hOk_20.out.below hb21 (by omega))
    have hOl1_21 := Lib.hid (hOl1_20.out.below hb21 (by omega))
    have hOl2_21 := Lib.hid (hOl2_20.out.below hb21 (by omega))
    have hOvk_21 := Lib.hid (hOvk_20.out.below hb21 )
    have hOx_21 := Lib.hid (hOx_20.out.below hb21 (by omega))
    have hOvx_21 := Lib.hid (hOvx_20.out.below hb21 )
    have hOs_21 := Lib.hid (hOs_20.out.below hb21 )
    have hOt_21 := Lib.hid (hOt_20.out.below hb21 )
    have hOk3_21 := Lib.hid (hOk3_20.out.below hb21 (by omega))
    have hOvk3_21 := Lib.hid (hOvk3_20.out.below hb21 )
    have hOk4_21 := Lib.hid (hOk4_20.out.below hb21 (by omega))
    have hOl4_21 := Lib.hid (hOl4_20.out.below hb21 (by omega))
    have hOvk4_21 := Lib.hid (hOvk4_20.out.below hb21 )
    have hOk5_21 := Lib.hid (hOk5_20.out.below hb21 (by omega))
    have hOvk5_21 := Lib.hid (Two.new w20 (.slice A5 n5 e5) (.slice B5 m5 d5) 27)
    clear hOk_20 hOl1_20 hOl2_20 hOvk_20 hOx_20 hOvx_20 hOs_20 hOt_20 hOk3_20 hOvk3_20 hOk4_20 hOl4_20 hOvk4_20 hOk5_20 hb21
    go_wp2_with fail
    refine (drawKeptNew_any A n c _ hn2 (HC.out _ hB21)).mono ?_
    rintro e w22 ⟨x6, rfl, hx6, hb22⟩
    have HX6 := Lib.hid hx6
    have hB22 := btr hB21 hb22
    have hS22 := hb22.size
    have hOk_22 := Lib.hid (hOk_21.out.below hb22 (by omega))
    have hOl1_22 := Lib.hid (hOl1_21.out.below hb22 (by omega))
    have hOl2_22 := Lib.hid (hOl2_21.out.below hb22 (by omega))
    have hOvk_22 := Lib.hid (hOvk_21.out.below hb22 )
    have hOx_22 := Lib.hid (hOx_21.out.below hb22 (by omega))
    have hOvx_22 := Lib.hid (hOvx_21.out.below hb22 )
    have hOs_22 := Lib.hid (hOs_21.out.below hb22 )
    have hOt_22 := Lib.hid (hOt_21.out.below hb22 )
    have hOk3_22 := Lib.hid (hOk3_21.out.below hb22 (by omega))
    have hOvk3_22 := Lib.hid (hOvk3_21.out.below hb22 )
    have hOk4_22 := Lib.hid (hOk4_21.out.below hb22 (by omega))
    have hOl4_22 := Lib.hid (hOl4_21.out.below hb22 (by omega))
    have hOvk4_22 := Lib.hid (hOvk4_21.out.below hb22 )
    have hOk5_22 := Lib.hid (hOk5_21.out.below hb22 (by omega))
    have hOvk5_22 := Lib.hid (hOvk5_21.out.below hb22 )
    clear hOk_21 hOl1_21 hOl2_21 hOvk_21 hOx_21 hOvx_21 hOs_21 hOt_21 hOk3_21 hOvk3_21 hOk4_21 hOl4_21 hOvk4_21 hOk5_21 hOvk5_21 hx6 HC hb22
    have hq1 := fun (V : World) (h : KR V 0 V.heap.size k3 A3 B3 n3 m3) => impl_forget A3 B3 n3 m3 e3 d3 k3 V x3 hmn3 hmm3 h HWk3.out
    have hq2 := fun (V : World) (h : KR V 0 V.heap.size k3 A3 B3 n3 m3) => spec_forget A3 B3 n3 m3 e3 d3 k3 V x3 hmn3 hmm3 h
    generalize forgetK k3 x3 = k3' at hq1 hq2
    have HG1 := Lib.hid hq1
    have HG2 := Lib.hid hq2
    clear hq1 hq2
    have hq1 := fun (V : World) (h : KR V 0 V.heap.size k4 A4 B4 n4 m4) (h4 : Lies V 0 V.heap.size (some ad4) (scells l4)) => impl_usesK A4 B4 n4 m4 e4 d4 k4 V (some ad4) p4 r4 x4 l4 hmn4 hmm4 hml4 HLl4.out h h4 HWk4.out HWl4.out
    have hq2 := fun (V : World) (h : KR V 0 V.heap.size k4 A4 B4 n4 m4) (h4 : Lies V 0 V.heap.size (some ad4) (scells l4)) => spec_usesK A4 B4 n4 m4 e4 d4 k4 V (some ad4) p4 r4 x4 l4 hmn4 hmm4 hml4 HLl4.out h h4
    generalize usesK k4 l4 x4 = k4' at hq1 hq2
    have HU1 := Lib.hid hq1
    have HU2 := Lib.hid hq2
    clear hq1 hq2
    have hq1 := fun (V : World) (h : KR V 0 V.heap.size k5 A5 B5 n5 m5) => impl_all A5 B5 n5 m5 e5 d5 k5 V hmn5 hmm5 h HWk5.out
    have hq2 := fun (V : World) (h : KR V 0 V.heap.size k5 A5 B5 n5 m5) => spec_all A5 B5 n5 m5 e5 d5 k5 V hmn5 hmm5 h
    generalize allK k5 = k5' at hq1 hq2
    have HL1 := Lib.hid hq1
    have HL2 := Lib.hid hq2
    clear hq1 hq2
    have hq1 := fun (V : World) (h : KR V 0 V.heap.size k5 A5 B5 n5 m5) => impl_known A5 B5 n5 m5 e5 d5 0 k5 V hmn5 h
    have hq2 := fun (V : World) (h : KR V 0 V.heap.size k5 A5 B5 n5 m5) => spec_known A5 B5 n5 m5 e5 d5 0 k5 V hmn5 h
    generalize knownK k5 = kn5 at hq1 hq2
    have HN1 := Lib.hid hq1
    have HN2 := Lib.hid hq2
    clear hq1 hq2
    have hq1 := fun V : World => impl_newK V x6 HX6.out
    have hq2 := fun V : World => spec_newK V x6
    have hn6 : newN x6 ≤ 1048576 := Nat.le_trans (newN_le _) (by omega)
    generalize hk6 : newK (newN x6) = k6 at hq1 hq2
    generalize newN x6 = n6 at hq1 hq2 hn6
    have HW1 := Lib.hid hq1
    have HW2 := Lib.hid hq2
    clear hq1 hq2 hk6
    go_wp2_with fail
    refine Ord.wp_region_ord (fun w' => (w'.cell? ⟨w12.heap.size, 0, none⟩ = some (.int .i64 sx) ∧ w'.cell? ⟨w12.heap.size, 1, none⟩ = some (.int .i64 sy)) ∧ (w'.cell? ⟨w14.heap.size, 0, none⟩ = some (.int .i64 sx) ∧ w'.cell? ⟨w14.heap.size, 1, none⟩ = some (.int .i64 sy)) ∧ (w'.cell? ⟨w16.heap.size, 0, none⟩ = some (.slice A3 n3 e3) ∧ w'.cell? ⟨w16.heap.size, 1, none⟩ = some (.slice B3 m3 d3)) ∧ (w'.cell? ⟨w18.heap.size, 0, none⟩ = some (.slice A4 n4 e4) ∧ w'.cell? ⟨w18.heap.size, 1, none⟩ = some (.slice B4 m4 d4)) ∧ (w'.cell? ⟨w20.heap.size, 0, none⟩ = some (.slice A5 n5 e5) ∧ w'.cell? ⟨w20.heap.size, 1, none⟩ = some (.slice B5 m5 d5))) [(0, true), (1, true), (2, true), (3, true), (4, true), (5, true), (6, true), (7, true), (8, true), (9, true), (10, true), (12, true), (13, true), (11, false), (14, false), (15, false), (16, true), (17, true), (18, true), (19, true), (20, true), (21, true), (23, true), (24, true), (25, true), (22, false), (26, false), (27, false), (28, true), (29, true), (30, true), (31, true), (33, true), (32, false), (34, false), (35, false), (36, true), (37, true), (38, true), (39, true), (41, true), (40, false), (42, false), (43, true), (44, true), (45, true), (46, true), (48, true), (47, false), (49, false), (50, false), (51, true), (52, true)] (by kernel_rfl) (by kernel_rfl) rfl (by kernel_rfl) (⟨⟨hOs_22.out.1, hOs_22.out.2.1⟩, ⟨hOt_22.out.1, hOt_22.out.2.1⟩, ⟨hOvk3_22.out.1, hOvk3_22.out.2.1⟩, ⟨hOvk4_22.out.1, hOvk4_22.out.2.1⟩, ⟨hOvk5_22.out.1, hOvk5_22.out.2.1⟩⟩) ?_
    simp only [Ord.ordOps, List.getElem?_toArray, List.getElem?_cons_zero, List.getElem?_cons_succ]
    repeat (first
      | (refine Ord.ord_plain (v := ?_) rfl (fun w' hS => ?_) ?_; rotate_left; (focus ((try dsimp only at hS); go_simp; first | done | with_reducible rfl)); simp only [Act.put, List.setIfInBounds_toArray, List.set_cons_zero, List.set_cons_succ])
      | (refine Ord.ord_skip (by rfl) ?_; simp only [Act.put, List.setIfInBounds_toArray, List.set_cons_zero, List.set_cons_succ])
      | (refine Ord.ord_take (v := ?_) (by rfl) (fun w' hS => ?_) ?_; rotate_left; (focus ((try dsimp only at hS); go_simp; first | done | with_reducible rfl)); simp only [Act.put, List.setIfInBounds_toArray, List.set_cons_zero, List.set_cons_succ]))
    have hb23 : Below w22.heap.size w22 w22.drew := (Below.refl _ _).drew
    have hB23 := btr hB22 hb23
    have hS23 : w22.heap.size ≤ w22.drew.heap.size := hb23.size
    have hOk_23 := Lib.hid (hOk_22.out.below hb23 (by omega))
    have hOl1_23 := Lib.hid (hOl1_22.out.below hb23 (by omega))
    have hOl2_23 := Lib.hid (hOl2_22.out.below hb23 (by omega))
    have hOvk_23 := Lib.hid (hOvk_22.out.below hb23 )
    have hOx_23 := Lib.hid (hOx_22.out.below hb23 (by omega))
    have hOvx_23 := Lib.hid (hOvx_22.out.below hb23 )
    have hOs_23 := Lib.hid (hOs_22.out.below hb23 )
    have hOt_23 := Lib.hid (hOt_22.out.below hb23 )
    have hOk3_23 := Lib.hid (hOk3_22.out.below hb23 (by omega))
    have hOvk3_23 := Lib.hid (hOvk3_22.out.below hb23 )
    have hOk4_23 := Lib.hid (hOk4_22.out.below hb23 (by omega))
    have hOl4_23 := Lib.hid (hOl4_22.out.below hb23 (by omega))
    have hOvk4_23 := Lib.hid (hOvk4_22.out.below hb23 )
    have hOk5_23 := Lib.hid (hOk5_22.out.below hb23 (by omega))
    have hOvk5_23 := Lib.hid (hOvk5_22.out.below hb23 )
    clear hOk_22 hOl1_22 hOl2_22 hOvk_22 hOx_22 hOvx_22 hOs_22 hOt_22 hOk3_22 hOvk3_22 hOk4_22 hOl4_22 hOvk4_22 hOk5_22 hOvk5_22 hb23
    refine Ord.ord_call (fun K hK => ?_)
    go_simp
    refine (HG1.out _ (hOk3_23.out.wide (Nat.zero_le _) (by omega))).mono ?_
    rintro e w24 ⟨A24', c24', B24', d24', rfl, ho24, hb24⟩
    have hB24 := btr hB23 hb24
    have hS24 := hb24.size
    have hOk_24 := Lib.hid (hOk_23.out.below hb24 (by omega))
    have hOl1_24 := Lib.hid (hOl1_23.out.below hb24 (by omega))
    have hOl2_24 := Lib.hid (hOl2_23.out.below hb24 (by omega))
    have hOvk_24 := Lib.hid (hOvk_23.out.below hb24 )
    have hOx_24 := Lib.hid (hOx_23.out.below hb24 (by omega))
    have hOvx_24 := Lib.hid (hOvx_23.out.below hb24 )
    have hOs_24 := Lib.hid (hOs_23.out.below hb24 )
    have hOt_24 := Lib.hid (hOt_23.out.below hb24 )
    have hOk3_24 := Lib.hid (hOk3_23.out.below hb24 (by omega))
    have hOvk3_24 := Lib.hid (hOvk3_23.out.below hb24 )
    have hOk4_24 := Lib.hid (hOk4_23.out.below hb24 (by omega))
    have hOl4_24 := Lib.hid (hOl4_23.out.below hb24 (by omega))
    have hOvk4_24 := Lib.hid (hOvk4_23.out.below hb24 )
    have hOk5_24 := Lib.hid (hOk5_23.out.below hb24 (by omega))
    have hOvk5_24 := Lib.hid (hOvk5_23.out.below hb24 )
    have hOfa_24 := Lib.hid ho24
    clear hOk_23 hOl1_23 hOl2_23 hOvk_23 hOx_23 hOvx_23 hOs_23 hOt_23 hOk3_23 hOvk3_23 hOk4_23 hOl4_23 hOvk4_23 hOk5_23 hOvk5_23 ho24 hb24
    refine hK.out _ _ (⟨⟨hOs_24.out.1, hOs_24.out.2.1⟩, ⟨hOt_24.out.1, hOt_24.out.2.1⟩, ⟨hOvk3_24.out.1, hOvk3_24.out.2.1⟩, ⟨hOvk4_24.out.1, hOvk4_24.out.2.1⟩, ⟨hOvk5_24.out.1, hOvk5_24.out.2.1⟩⟩) ?_
    clear hK K
    repeat (first
      | (refine Ord.ord_plain (v := ?_) rfl (fun w' hS => ?_) ?_; rotate_left; (focus ((try dsimp only at hS); go_simp; first | done | with_reducible rfl)); simp only [Act.put, List.setIfInBounds_toArray, List.set_cons_zero, List.set_cons_succ])
      | (refine Ord.ord_skip (by rfl) ?_; simp only [Act.put, List.setIfInBounds_toArray, List.set_cons_zero, List.set_cons_succ])
      | (refine Ord.ord_take (v := ?_) (by rfl) (fun w' hS => ?_) ?_; rotate_left; (focus ((try dsimp only at hS); go_simp; first | done | with_reducible rfl)); simp only [Act.put, List.setIfInBounds_toArray, List.set_cons_zero, List.set_cons_succ]))
    refine Ord.ord_call (fun K hK => ?_)
    go_simp
    refine (HG2.out _ (hOk3_24.out.wide (Nat.zero_le _) (by omega))).mono ?_
    rintro e w25 ⟨A25', c25', B25', d25', rfl, ho25, hb25⟩
    have hB25 := btr hB24 hb25
    have hS25 := hb25.size
    have hOk_25 := Lib.hid (hOk_24.out.below hb25 (by omega))
    have hOl1_25 := Lib.hid (hOl1_24.out.below hb25 (by omega))
    have hOl2_25 := Lib.hid (hOl2_24.out.below hb25 (by omega))
    have hOvk_25 := Lib.hid (hOvk_24.out.below hb25 )
    have hOx_25 := Lib.hid (hOx_24.out.below hb25 (by omega))
    have hOvx_25 := Lib.hid (hOvx_24.out.below hb25 )
    have hOs_25 := Lib.hid (hOs_24.out.below hb25 )
    have hOt_25 := Lib.hid (hOt_24.out.below hb25 )
    have hOk3_25 := Lib.hid (hOk3_24.out.below hb25 (by omega))
    have hOvk3_25 := Lib.hid (hOvk3_24.out.below hb25 )
    have hOk4_25 := Lib.hid (hOk4_24.out.below hb25 (by omega))
    have hOl4_25 := Lib.hid (hOl4_24.out.below hb25 (by omega))
    have hOvk4_25 := Lib.hid (hOvk4_24.out.below hb25 )
    have hOk5_25 := Lib.hid (hOk5_24.out.below hb25 (by omega))
    have hOvk5_25 := Lib.hid (hOvk5_24.out.below hb25 )
    have hOfa_25 := Lib.hid (hOfa_24.out.below hb25 (by omega))
    have hOfb_25 := Lib.hid ho25
    clear hOk_24 hOl1_24 hOl2_24 hOvk_24 hOx_24 hOvx_24 hOs_24 hOt_24 hOk3_24 hOvk3_24 hOk4_24 hOl4_24 hOvk4_24 hOk5_24 hOvk5_24 hOfa_24 ho25 hb25
    refine hK.out _ _ (⟨⟨hOs_25.out.1, hOs_25.out.2.1⟩, ⟨hOt_25.out.1, hOt_25.out.2.1⟩, ⟨hOvk3_25.out.1, hOvk3_25.out.2.1⟩, ⟨hOvk4_25.out.1, hOvk4_25.out.2.1⟩, ⟨hOvk5_25.out.1, hOvk5_25.out.2.1⟩⟩) ?_
    clear hK K
    repeat (first
      | (refine Ord.ord_plain (v := ?_) rfl (fun w' hS => ?_) ?_; rotate_left; (focus ((try dsimp only at hS); go_simp; first | done | with_reducible rfl)); simp only [Act.put, List.setIfInBounds_toArray, List.set_cons_zero, List.set_cons_succ])
      | (refine Ord.ord_skip (by rfl) ?_; simp only [Act.put, List.setIfInBounds_toArray, List.set_cons_zero, List.set_cons_succ])
      | (refine Ord.ord_take (v := ?_) (by rfl) (fun w' hS => ?_) ?_; rotate_left; (focus ((try dsimp only at hS); go_simp; first | done | with_reducible rfl)); simp only [Act.put, List.setIfInBounds_toArray, List.set_cons_zero, List.set_cons_succ]))
    refine Ord.ord_call (fun K hK => ?_)
    go_simp
    refine (sameKept_same A24' B24' n3 m3 c24' d24' _ k3' _ A25' B25' c25' d25' _ _ _ hmn3 hmm3 (by omega) (by omega) hOfa_25.out.reads hOfb_25.out.reads).mono ?_
    rintro e w26 ⟨rfl, hb26⟩
    have hB26 := btr hB25 hb26
    have hS26 := hb26.size
    have hOk_26 := Lib.hid (hOk_25.out.below hb26 (by omega))
    have hOl1_26 := Lib.hid (hOl1_25.out.below hb26 (by omega))
    have hOl2_26 := Lib.hid (hOl2_25.out.below hb26 (by omega))
    have hOvk_26 := Lib.hid (hOvk_25.out.below hb26 )
    have hOx_26 := Lib.hid (hOx_25.out.below hb26 (by omega))
    have hOvx_26 := Lib.hid (hOvx_25.out.below hb26 )
    have hOs_26 := Lib.hid (hOs_25.out.below hb26 )
    have hOt_26 := Lib.hid (hOt_25.out.below hb26 )
    have hOk3_26 := Lib.hid (hOk3_25.out.below hb26 (by omega))
    have hOvk3_26 := Lib.hid (hOvk3_25.out.below hb26 )
    have hOk4_26 := Lib.hid (hOk4_25.out.below hb26 (by omega))
    have hOl4_26 := Lib.hid (hOl4_25.out.below hb26 (by omega))
    have hOvk4_26 := Lib.hid (hOvk4_25.out.below hb26 )
    have hOk5_26 := Lib.hid (hOk5_25.out.below hb26 (by omega))
    have hOvk5_26 := Lib.hid (hOvk5_25.out.below hb26 )
    have hOfa_26 := Lib.hid (hOfa_25.out.below hb26 (by omega))
    have hOfb_26 := Lib.hid (hOfb_25.out.below hb26 (by omega))
    clear hOk_25 hOl1_25 hOl2_25 hOvk_25 hOx_25 hOvx_25 hOs_25 hOt_25 hOk3_25 hOvk3_25 hOk4_25 hOl4_25 hOvk4_25 hOk5_25 hOvk5_25 hOfa_25 hOfb_25 hb26
    refine hK.out _ _ (⟨⟨hOs_26.out.1, hOs_26.out.2.1⟩, ⟨hOt_26.out.1, hOt_26.out.2.1⟩, ⟨hOvk3_26.out.1, hOvk3_26.out.2.1⟩, ⟨hOvk4_26.out.1, hOvk4_26.out.2.1⟩, ⟨hOvk5_26.out.1, hOvk5_26.out.2.1⟩⟩) ?_
    clear hK K
    repeat (first
      | (refine Ord.ord_plain (v := ?_) rfl (fun w' hS => ?_) ?_; rotate_left; (focus ((try dsimp only at hS); go_simp; first | done | with_reducible rfl)); simp only [Act.put, List.setIfInBounds_toArray, List.set_cons_zero, List.set_cons_succ])
      | (refine Ord.ord_skip (by rfl) ?_; simp only [Act.put, List.setIfInBounds_toArray, List.set_cons_zero, List.set_cons_succ])
      | (refine Ord.ord_take (v := ?_) (by rfl) (fun w' hS => ?_) ?_; rotate_left; (focus ((try dsimp only at hS); go_simp; first | done | with_reducible rfl)); simp only [Act.put, List.setIfInBounds_toArray, List.set_cons_zero, List.set_cons_succ]))
    clear hOfa_26
    clear hOfb_26
    refine Ord.ord_call (fun K hK => ?_)
    go_simp
    refine (HU1.out _ (hOk4_26.out.wide (Nat.zero_le _) (by omega)) (hOl4_26.out.wide (Nat.zero_le _) (by omega))).mono ?_
    rintro e w27 ⟨A27', c27', B27', d27', rfl, ho27, hb27⟩
    have hB27 := btr hB26 hb27
    have hS27 := hb27.size
    have hOk_27 := Lib.hid (hOk_26.out.below hb27 (by omega))
    have hOl1_27 := Lib.hid (hOl1_26.out.below hb27 (by omega))
    have hOl2_27 := Lib.hid (hOl2_26.out.below hb27 (by omega))
    have hOvk_27 := Lib.hid (hOvk_26.out.below hb27 )
    have hOx_27 := Lib.hid (hOx_26.out.below hb27 (by omega))
    have hOvx_27 := Lib.hid (hOvx_26.out.below hb27 )
    have hOs_27 := Lib.hid (hOs_26.out.below hb27 )
    have hOt_27 := Lib.hid (hOt_26.out.below hb27 )
    have hOk3_27 := Lib.hid (hOk3_26.out.below hb27 (by omega))
    have hOvk3_27 := Lib.hid (hOvk3_26.out.below hb27 )
    have hOk4_27 := Lib.hid (hOk4_26.out.below hb27 (by omega))
    have hOl4_27 := Lib.hid (hOl4_26.out.below hb27 (by omega))
    have hOvk4_27 := Lib.hid (hOvk4_26.out.below hb27 )
    have hOk5_27 := Lib.hid (hOk5_26.out.below hb27 (by omega))
    have hOvk5_27 := Lib.hid (hOvk5_26.out.below hb27 )
    have hOfa_27 := Lib.hid ho27
    clear hOk_26 hOl1_26 hOl2_26 hOvk_26 hOx_26 hOvx_26 hOs_26 hOt_26 hOk3_26 hOvk3_26 hOk4_26 hOl4_26 hOvk4_26 hOk5_26 hOvk5_26 ho27 hb27
    refine hK.out _ _ (⟨⟨hOs_27.out.1, hOs_27.out.2.1⟩, ⟨hOt_27.out.1, hOt_27.out.2.1⟩, ⟨hOvk3_27.out.1, hOvk3_27.out.2.1⟩, ⟨hOvk4_27.out.1, hOvk4_27.out.2.1⟩, ⟨hOvk5_27.out.1, hOvk5_27.out.2.1⟩⟩) ?_
    clear hK K
    repeat (first
      | (refine Ord.ord_plain (v := ?_) rfl (fun w' hS => ?_) ?_; rotate_left; (focus ((try dsimp only at hS); go_simp; first | done | with_reducible rfl)); simp only [Act.put, List.setIfInBounds_toArray, List.set_cons_zero, List.set_cons_succ])
      | (refine Ord.ord_skip (by rfl) ?_; simp only [Act.put, List.setIfInBounds_toArray, List.set_cons_zero, List.set_cons_succ])
      | (refine Ord.ord_take (v := ?_) (by rfl) (fun w' hS => ?_) ?_; rotate_left; (focus ((try dsimp only at hS); go_simp; first | done | with_reducible rfl)); simp only [Act.put, List.setIfInBounds_toArray, List.set_cons_zero, List.set_cons_succ]))
    refine Ord.ord_call (fun K hK => ?_)
    go_simp
    refine (HU2.out _ (hOk4_27.out.wide (Nat.zero_le _) (by omega)) (hOl4_27.out.wide (Nat.zero_le _) (by omega))).mono ?_
    rintro e w28 ⟨A28', c28', B28', d28', rfl, ho28, hb28⟩
    have hB28 := btr hB27 hb28
    have hS28 := hb28.size
    have hOk_28 := Lib.hid (hOk_27.out.below hb28 (by omega))
    have hOl1_28 := Lib.hid (hOl1_27.out.below hb28 (by omega))
    have hOl2_28 := Lib.hid (hOl2_27.out.below hb28 (by omega))
    have hOvk_28 := Lib.hid (hOvk_27.out.below hb28 )
    have hOx_28 := Lib.hid (hOx_27.out.below hb28 (by omega))
    have hOvx_28 := Lib.hid (hOvx_27.out.below hb28 )
    have hOs_28 := Lib.hid (hOs_27.out.below hb28 )
    have hOt_28 := Lib.hid (hOt_27.out.below hb28 )
    have hOk3_28 := Lib.hid (hOk3_27.out.below hb28 (by omega))
    have hOvk3_28 := Lib.hid (hOvk3_27.out.below hb28 )
    have hOk4_28 := Lib.hid (hOk4_27.out.below hb28 (by omega))
    have hOl4_28 := Lib.hid (hOl4_27.out.below hb28 (by omega))
    have hOvk4_28 := Lib.hid (hOvk4_27.out.below hb28 )
    have hOk5_28 := Lib.hid (hOk5_27.out.below hb28 (by omega))
    have hOvk5_28 := Lib.hid (hOvk5_27.out.below hb28 )
    have hOfa_28 := Lib.hid (hOfa_27.out.below hb28 (by omega))
    have hOfb_28 := Lib.hid ho28
    clear hOk_27 hOl1_27 hOl2_27 hOvk_27 hOx_27 hOvx_27 hOs_27 hOt_27 hOk3_27 hOvk3_27 hOk4_27 hOl4_27 hOvk4_27 hOk5_27 hOvk5_27 hOfa_27 ho28 hb28
    refine hK.out _ _ (⟨⟨hOs_28.out.1, hOs_28.out.2.1⟩, ⟨hOt_28.out.1, hOt_28.out.2.1⟩, ⟨hOvk3_28.out.1, hOvk3_28.out.2.1⟩, ⟨hOvk4_28.out.1, hOvk4_28.out.2.1⟩, ⟨hOvk5_28.out.1, hOvk5_28.out.2.1⟩⟩) ?_
    clear hK K
    repeat (first
      | (refine Ord.ord_plain (v := ?_) rfl (fun w' hS => ?_) ?_; rotate_left; (focus ((try dsimp only at hS); go_simp; first | done | with_reducible rfl)); simp only [Act.put, List.setIfInBounds_toArray, List.set_cons_zero, List.set_cons_succ])
      | (refine Ord.ord_skip (by rfl) ?_; simp only [Act.put, List.setIfInBounds_toArray, List.set_cons_zero, List.set_cons_succ])
      | (refine Ord.ord_take (v := ?_) (by rfl) (fun w' hS => ?_) ?_; rotate_left; (focus ((try dsimp only at hS); go_simp; first | done | with_reducible rfl)); simp only [Act.put, List.setIfInBounds_toArray, List.set_cons_zero, List.set_cons_succ]))
    refine Ord.ord_call (fun K hK => ?_)
    go_simp
    refine (sameKept_same A27' B27' n4 m4 c27' d27' _ k4' _ A28' B28' c28' d28' _ _ _ hmn4 hmm4 (by omega) (by omega) hOfa_28.out.reads hOfb_28.out.reads).mono ?_
    rintro e w29 ⟨rfl, hb29⟩
    have hB29 := btr hB28 hb29
    have hS29 := hb29.size
    have hOk_29 := Lib.hid (hOk_28.out.below hb29 (by omega))
    have hOl1_29 := Lib.hid (hOl1_28.out.below hb29 (by omega))
    have hOl2_29 := Lib.hid (hOl2_28.out.below hb29 (by omega))
    have hOvk_29 := Lib.hid (hOvk_28.out.below hb29 )
    have hOx_29 := Lib.hid (hOx_28.out.below hb29 (by omega))
    have hOvx_29 := Lib.hid (hOvx_28.out.below hb29 )
    have hOs_29 := Lib.hid (hOs_28.out.below hb29 )
    have hOt_29 := Lib.hid (hOt_28.out.below hb29 )
    have hOk3_29 := Lib.hid (hOk3_28.out.below hb29 (by omega))
    have hOvk3_29 := Lib.hid (hOvk3_28.out.below hb29 )
    have hOk4_29 := Lib.hid (hOk4_28.out.below hb29 (by omega))
    have hOl4_29 := Lib.hid (hOl4_28.out.below hb29 (by omega))
    have hOvk4_29 := Lib.hid (hOvk4_28.out.below hb29 )
    have hOk5_29 := Lib.hid (hOk5_28.out.below hb29 (by omega))
    have hOvk5_29 := Lib.hid (hOvk5_28.out.below hb29 )
    have hOfa_29 := Lib.hid (hOfa_28.out.below hb29 (by omega))
    have hOfb_29 := Lib.hid (hOfb_28.out.below hb29 (by omega))
    clear hOk_28 hOl1_28 hOl2_28 hOvk_28 hOx_28 hOvx_28 hOs_28 hOt_28 hOk3_28 hOvk3_28 hOk4_28 hOl4_28 hOvk4_28 hOk5_28 hOvk5_28 hOfa_28 hOfb_28 hb29
    refine hK.out _ _ (⟨⟨hOs_29.out.1, hOs_29.out.2.1⟩, ⟨hOt_29.out.1, hOt_29.out.2.1⟩, ⟨hOvk3_29.out.1, hOvk3_29.out.2.1⟩, ⟨hOvk4_29.out.1, hOvk4_29.out.2.1⟩, ⟨hOvk5_29.out.1, hOvk5_29.out.2.1⟩⟩) ?_
    clear hK K
    repeat (first
      | (refine Ord.ord_plain (v := ?_) rfl (fun w' hS => ?_) ?_; rotate_left; (focus ((try dsimp only at hS); go_simp; first | done | with_reducible rfl)); simp only [Act.put, List.setIfInBounds_toArray, List.set_cons_zero, List.set_cons_succ])
      | (refine Ord.ord_skip (by rfl) ?_; simp only [Act.put, List.setIfInBounds_toArray, List.set_cons_zero, List.set_cons_succ])
      | (refine Ord.ord_take (v := ?_) (by rfl) (fun w' hS => ?_) ?_; rotate_left; (focus ((try dsimp only at hS); go_simp; first | done | with_reducible rfl)); simp only [Act.put, List.setIfInBounds_toArray, List.set_cons_zero, List.set_cons_succ]))
    clear hOfa_29
    clear hOfb_29
    refine Ord.ord_call (fun K hK => ?_)
    go_simp
    refine (HL1.out _ (hOk5_29.out.wide (Nat.zero_le _) (by omega))).mono ?_
    rintro e w30 ⟨A30', c30', B30', d30', rfl, ho30, hb30⟩
    have hB30 := btr hB29 hb30
    have hS30 := hb30.size
    have hOk_30 := Lib.hid (hOk_29.out.below hb30 (by omega))
    have hOl1_30 := Lib.hid (hOl1_29.out.below hb30 (by omega))
    have hOl2_30 := Lib.hid (hOl2_29.out.below hb30 (by omega))
    have hOvk_30 := Lib.hid (hOvk_29.out.below hb30 )
    have hOx_30 := Lib.hid (hOx_29.out.below hb30 (by omega))
    have hOvx_30 := Lib.hid (hOvx_29.out.below hb30 )
    have hOs_30 := Lib.hid (hOs_29.out.below hb30 )
    have hOt_30 := Lib.hid (hOt_29.out.below hb30 )
    have hOk3_30 := Lib.hid (hOk3_29.out.below hb30 (by omega))
    have hOvk3_30 := Lib.hid (hOvk3_29.out.below hb30 )
    have hOk4_30 := Lib.hid (hOk4_29.out.below hb30 (by omega))
    have hOl4_30 := Lib.hid (hOl4_29.out.below hb30 (by omega))
    have hOvk4_30 := Lib.hid (hOvk4_29.out.below hb30 )
    have hOk5_30 := Lib.hid (hOk5_29.out.below hb30 (by omega))
    have hOvk5_30 := Lib.hid (hOvk5_29.out.below hb30 )
    have hOfa_30 := Lib.hid ho30
    clear hOk_29 hOl1_29 hOl2_29 hOvk_29 hOx_29 hOvx_29 hOs_29 hOt_29 hOk3_29 hOvk3_29 hOk4_29 hOl4_29 hOvk4_29 hOk5_29 hOvk5_29 ho30 hb30
    refine hK.out _ _ (⟨⟨hOs_30.out.1, hOs_30.out.2.1⟩, ⟨hOt_30.out.1, hOt_30.out.2.1⟩, ⟨hOvk3_30.out.1, hOvk3_30.out.2.1⟩, ⟨hOvk4_30.out.1, hOvk4_30.out.2.1⟩, ⟨hOvk5_30.out.1, hOvk5_30.out.2.1⟩⟩) ?_
    clear hK K
    repeat (first
      | (refine Ord.ord_plain (v := ?_) rfl (fun w' hS => ?_) ?_; rotate_left; (focus ((try dsimp only at hS); go_simp; first | done | with_reducible rfl)); simp only [Act.put, List.setIfInBounds_toArray, List.set_cons_zero, List.set_cons_succ])
      | (refine Ord.ord_skip (by rfl) ?_; simp only [Act.put, List.setIfInBounds_toArray, List.set_cons_zero, List.set_cons_succ])
      | (refine Ord.ord_take (v := ?_) (by rfl) (fun w' hS => ?_) ?_; rotate_left; (focus ((try dsimp only at hS); go_simp; first | done | with_reducible rfl)); simp only [Act.put, List.setIfInBounds_toArray, List.set_cons_zero, List.set_cons_succ]))
    refine Ord.ord_call (fun K hK => ?_)
    go_simp
    refine (HL2.out _ (hOk5_30.out.wide (Nat.zero_le _) (by omega))).mono ?_
    rintro e w31 ⟨A31', c31', B31', d31', rfl, ho31, hb31⟩
    have hB31 := btr hB30 hb31
    have hS31 := hb31.size
    have hOk_31 := Lib.hid (hOk_30.out.below hb31 (by omega))
    have hOl1_31 := Lib.hid (hOl1_30.out.below hb31 (by omega))
    have hOl2_31 := Lib.hid (hOl2_30.out.below hb31 (by omega))
    have hOvk_31 := Lib.hid (hOvk_30.out.below hb31 )
    have hOx_31 := Lib.hid (hOx_30.out.below hb31 (by omega))
    have hOvx_31 := Lib.hid (hOvx_30.out.below hb31 )
    have hOs_31 := Lib.hid (hOs_30.out.below hb31 )
    have hOt_31 := Lib.hid (hOt_30.out.below hb31 )
    have hOk3_31 := Lib.hid (hOk3_30.out.below hb31 (by omega))
    have hOvk3_31 := Lib.hid (hOvk3_30.out.below hb31 )
    have hOk4_31 := Lib.hid (hOk4_30.out.below hb31 (by omega))
    have hOl4_31 := Lib.hid (hOl4_30.out.below hb31 (by omega))
    have hOvk4_31 := Lib.hid (hOvk4_30.out.below hb31 )
    have hOk5_31 := Lib.hid (hOk5_30.out.below hb31 (by omega))
    have hOvk5_31 := Lib.hid (hOvk5_30.out.below hb31 )
    have hOfa_31 := Lib.hid (hOfa_30.out.below hb31 (by omega))
    have hOfb_31 := Lib.hid ho31
    clear hOk_30 hOl1_30 hOl2_30 hOvk_30 hOx_30 hOvx_30 hOs_30 hOt_30 hOk3_30 hOvk3_30 hOk4_30 hOl4_30 hOvk4_30 hOk5_30 hOvk5_30 hOfa_30 ho31 hb31
    refine hK.out _ _ (⟨⟨hOs_31.out.1, hOs_31.out.2.1⟩, ⟨hOt_31.out.1, hOt_31.out.2.1⟩, ⟨hOvk3_31.out.1, hOvk3_31.out.2.1⟩, ⟨hOvk4_31.out.1, hOvk4_31.out.2.1⟩, ⟨hOvk5_31.out.1, hOvk5_31.out.2.1⟩⟩) ?_
    clear hK K
    repeat (first
      | (refine Ord.ord_plain (v := ?_) rfl (fun w' hS => ?_) ?_; rotate_left; (focus ((try dsimp only at hS); go_simp; first | done | with_reducible rfl)); simp only [Act.put, List.setIfInBounds_toArray, List.set_cons_zero, List.set_cons_succ])
      | (refine Ord.ord_skip (by rfl) ?_; simp only [Act.put, List.setIfInBounds_toArray, List.set_cons_zero, List.set_cons_succ])
      | (refine Ord.ord_take (v := ?_) (by rfl) (fun w' hS => ?_) ?_; rotate_left; (focus ((try dsimp only at hS); go_simp; first | done | with_reducible rfl)); simp only [Act.put, List.setIfInBounds_toArray, List.set_cons_zero, List.set_cons_succ]))
    refine Ord.ord_call (fun K hK => ?_)
    go_simp
    refine (sameKept_same A30' B30' n5 m5 c30' d30' _ k5' _ A31' B31' c31' d31' _ _ _ hmn5 hmm5 (by omega) (by omega) hOfa_31.out.reads hOfb_31.out.reads).mono ?_
    rintro e w32 ⟨rfl, hb32⟩
    have hB32 := btr hB31 hb32
    have hS32 := hb32.size
    have hOk_32 := Lib.hid (hOk_31.out.below hb32 (by omega))
    have hOl1_32 := Lib.hid (hOl1_31.out.below hb32 (by omega))
    have hOl2_32 := Lib.hid (hOl2_31.out.below hb32 (by omega))
    have hOvk_32 := Lib.hid (hOvk_31.out.below hb32 )
    have hOx_32 := Lib.hid (hOx_31.out.below hb32 (by omega))
    have hOvx_32 := Lib.hid (hOvx_31.out.below hb32 )
    have hOs_32 := Lib.hid (hOs_31.out.below hb32 )
    have hOt_32 := Lib.hid (hOt_31.out.below hb32 )
    have hOk3_32 := Lib.hid (hOk3_31.out.below hb32 (by omega))
    have hOvk3_32 := Lib.hid (hOvk3_31.out.below hb32 )
    have hOk4_32 := Lib.hid (hOk4_31.out.below hb32 (by omega))
    have hOl4_32 := Lib.hid (hOl4_31.out.below hb32 (by omega))
    have hOvk4_32 := Lib.hid (hOvk4_31.out.below hb32 )
    have hOk5_32 := Lib.hid (hOk5_31.out.below hb32 (by omega))
    have hOvk5_32 := Lib.hid (hOvk5_31.out.below hb32 )
    have hOfa_32 := Lib.hid (hOfa_31.out.below hb32 (by omega))
    have hOfb_32 := Lib.hid (hOfb_31.out.below hb32 (by omega))
    clear hOk_31 hOl1_31 hOl2_31 hOvk_31 hOx_31 hOvx_31 hOs_31 hOt_31 hOk3_31 hOvk3_31 hOk4_31 hOl4_31 hOvk4_31 hOk5_31 hOvk5_31 hOfa_31 hOfb_31 hb32
    refine hK.out _ _ (⟨⟨hOs_32.out.1, hOs_32.out.2.1⟩, ⟨hOt_32.out.1, hOt_32.out.2.1⟩, ⟨hOvk3_32.out.1, hOvk3_32.out.2.1⟩, ⟨hOvk4_32.out.1, hOvk4_32.out.2.1⟩, ⟨hOvk5_32.out.1, hOvk5_32.out.2.1⟩⟩) ?_
    clear hK K
    repeat (first
      | (refine Ord.ord_plain (v := ?_) rfl (fun w' hS => ?_) ?_; rotate_left; (focus ((try dsimp only at hS); go_simp; first | done | with_reducible rfl)); simp only [Act.put, List.setIfInBounds_toArray, List.set_cons_zero, List.set_cons_succ])
      | (refine Ord.ord_skip (by rfl) ?_; simp only [Act.put, List.setIfInBounds_toArray, List.set_cons_zero, List.set_cons_succ])
      | (refine Ord.ord_take (v := ?_) (by rfl) (fun w' hS => ?_) ?_; rotate_left; (focus ((try dsimp only at hS); go_simp; first | done | with_reducible rfl)); simp only [Act.put, List.setIfInBounds_toArray, List.set_cons_zero, List.set_cons_succ]))
    clear hOfa_32
    clear hOfb_32
    refine Ord.ord_call (fun K hK => ?_)
    go_simp
    refine (HN1.out _ (hOk5_32.out.wide (Nat.zero_le _) (by omega))).mono ?_
    rintro e w33 ⟨rfl, hb33⟩
    have hB33 := btr hB32 hb33
    have hS33 := hb33.size
    have hOk_33 := Lib.hid (hOk_32.out.below hb33 (by omega))
    have hOl1_33 := Lib.hid (hOl1_32.out.below hb33 (by omega))
    have hOl2_33 := Lib.hid (hOl2_32.out.below hb33 (by omega))
    have hOvk_33 := Lib.hid (hOvk_32.out.below hb33 )
    have hOx_33 := Lib.hid (hOx_32.out.below hb33 (by omega))
    have hOvx_33 := Lib.hid (hOvx_32.out.below hb33 )
    have hOs_33 := Lib.hid (hOs_32.out.below hb33 )
    have hOt_33 := Lib.hid (hOt_32.out.below hb33 )
    have hOk3_33 := Lib.hid (hOk3_32.out.below hb33 (by omega))
    have hOvk3_33 := Lib.hid (hOvk3_32.out.below hb33 )
    have hOk4_33 := Lib.hid (hOk4_32.out.below hb33 (by omega))
    have hOl4_33 := Lib.hid (hOl4_32.out.below hb33 (by omega))
    have hOvk4_33 := Lib.hid (hOvk4_32.out.below hb33 )
    have hOk5_33 := Lib.hid (hOk5_32.out.below hb33 (by omega))
    have hOvk5_33 := Lib.hid (hOvk5_32.out.below hb33 )
    clear hOk_32 hOl1_32 hOl2_32 hOvk_32 hOx_32 hOvx_32 hOs_32 hOt_32 hOk3_32 hOvk3_32 hOk4_32 hOl4_32 hOvk4_32 hOk5_32 hOvk5_32 hb33
    refine hK.out _ _ (⟨⟨hOs_33.out.1, hOs_33.out.2.1⟩, ⟨hOt_33.out.1, hOt_33.out.2.1⟩, ⟨hOvk3_33.out.1, hOvk3_33.out.2.1⟩, ⟨hOvk4_33.out.1, hOvk4_33.out.2.1⟩, ⟨hOvk5_33.out.1, hOvk5_33.out.2.1⟩⟩) ?_
    clear hK K
    repeat (first
      | (refine Ord.ord_plain (v := ?_) rfl (fun w' hS => ?_) ?_; rotate_left; (focus ((try dsimp only at hS); go_simp; first | done | with_reducible rfl)); simp only [Act.put, List.setIfInBounds_toArray, List.set_cons_zero, List.set_cons_succ])
      | (refine Ord.ord_skip (by rfl) ?_; simp only [Act.put, List.setIfInBounds_toArray, List.set_cons_zero, List.set_cons_succ])
      | (refine Ord.ord_take (v := ?_) (by rfl) (fun w' hS => ?_) ?_; rotate_left; (focus ((try dsimp only at hS); go_simp; first | done | with_reducible rfl)); simp only [Act.put, List.setIfInBounds_toArray, List.set_cons_zero, List.set_cons_succ]))
    refine Ord.ord_call (fun K hK => ?_)
    go_simp
    refine (HN2.out _ (hOk5_33.out.wide (Nat.zero_le _) (by omega))).mono ?_
    rintro e w34 ⟨rfl, hb34⟩
    have hB34 := btr hB33 hb34
    have hS34 := hb34.size
    have hOk_34 := Lib.hid (hOk_33.out.below hb34 (by omega))
    have hOl1_34 := Lib.hid (hOl1_33.out.below hb34 (by omega))
    have hOl2_34 := Lib.hid (hOl2_33.out.below hb34 (by omega))
    have hOvk_34 := Lib.hid (hOvk_33.out.below hb34 )
    have hOx_34 := Lib.hid (hOx_33.out.below hb34 (by omega))
    have hOvx_34 := Lib.hid (hOvx_33.out.below hb34 )
    have hOs_34 := Lib.hid (hOs_33.out.below hb34 )
    have hOt_34 := Lib.hid (hOt_33.out.below hb34 )
    have hOk3_34 := Lib.hid (hOk3_33.out.below hb34 (by omega))
    have hOvk3_34 := Lib.hid (hOvk3_33.out.below hb34 )
    have hOk4_34 := Lib.hid (hOk4_33.out.below hb34 (by omega))
    have hOl4_34 := Lib.hid (hOl4_33.out.below hb34 (by omega))
    have hOvk4_34 := Lib.hid (hOvk4_33.out.below hb34 )
    have hOk5_34 := Lib.hid (hOk5_33.out.below hb34 (by omega))
    have hOvk5_34 := Lib.hid (hOvk5_33.out.below hb34 )
    clear hOk_33 hOl1_33 hOl2_33 hOvk_33 hOx_33 hOvx_33 hOs_33 hOt_33 hOk3_33 hOvk3_33 hOk4_33 hOl4_33 hOvk4_33 hOk5_33 hOvk5_33 hb34
    refine hK.out _ _ (⟨⟨hOs_34.out.1, hOs_34.out.2.1⟩, ⟨hOt_34.out.1, hOt_34.out.2.1⟩, ⟨hOvk3_34.out.1, hOvk3_34.out.2.1⟩, ⟨hOvk4_34.out.1, hOvk4_34.out.2.1⟩, ⟨hOvk5_34.out.1, hOvk5_34.out.2.1⟩⟩) ?_
    clear hK K
    repeat (first
      | (refine Ord.ord_plain (v := ?_) rfl (fun w' hS => ?_) ?_; rotate_left; (focus ((try dsimp only at hS); go_simp; first | done | with_reducible rfl)); simp only [Act.put, List.setIfInBounds_toArray, List.set_cons_zero, List.set_cons_succ])
      | (refine Ord.ord_skip (by rfl) ?_; simp only [Act.put, List.setIfInBounds_toArray, List.set_cons_zero, List.set_cons_succ])
      | (refine Ord.ord_take (v := ?_) (by rfl) (fun w' hS => ?_) ?_; rotate_left; (focus ((try dsimp only at hS); go_simp; first | done | with_reducible rfl)); simp only [Act.put, List.setIfInBounds_toArray, List.set_cons_zero, List.set_cons_succ]))
    refine Ord.ord_call (fun K hK => ?_)
    go_simp
    refine (HW1.out _).mono ?_
    rintro e w35 ⟨A35', c35', B35', d35', rfl, ho35, hb35⟩
    have hB35 := btr hB34 hb35
    have hS35 := hb35.size
    have hOk_35 := Lib.hid (hOk_34.out.below hb35 (by omega))
    have hOl1_35 := Lib.hid (hOl1_34.out.below hb35 (by omega))
    have hOl2_35 := Lib.hid (hOl2_34.out.below hb35 (by omega))
    have hOvk_35 := Lib.hid (hOvk_34.out.below hb35 )
    have hOx_35 := Lib.hid (hOx_34.out.below hb35 (by omega))
    have hOvx_35 := Lib.hid (hOvx_34.out.below hb35 )
    have hOs_35 := Lib.hid (hOs_34.out.below hb35 )
    have hOt_35 := Lib.hid (hOt_34.out.below hb35 )
    have hOk3_35 := Lib.hid (hOk3_34.out.below hb35 (by omega))
    have hOvk3_35 := Lib.hid (hOvk3_34.out.below hb35 )
    have hOk4_35 := Lib.hid (hOk4_34.out.below hb35 (by omega))
    have hOl4_35 := Lib.hid (hOl4_34.out.below hb35 (by omega))
    have hOvk4_35 := Lib.hid (hOvk4_34.out.below hb35 )
    have hOk5_35 := Lib.hid (hOk5_34.out.below hb35 (by omega))
    have hOvk5_35 := Lib.hid (hOvk5_34.out.below hb35 )
    have hOfa_35 := Lib.hid ho35
    clear hOk_34 hOl1_34 hOl2_34 hOvk_34 hOx_34 hOvx_34 hOs_34 hOt_34 hOk3_34 hOvk3_34 hOk4_34 hOl4_34 hOvk4_34 hOk5_34 hOvk5_34 ho35 hb35
    refine hK.out _ _ (⟨⟨hOs_35.out.1, hOs_35.out.2.1⟩, ⟨hOt_35.out.1, hOt_35.out.2.1⟩, ⟨hOvk3_35.out.1, hOvk3_35.out.2.1⟩, ⟨hOvk4_35.out.1, hOvk4_35.out.2.1⟩, ⟨hOvk5_35.out.1, hOvk5_35.out.2.1⟩⟩) ?_
    clear hK K
    repeat (first
      | (refine Ord.ord_plain (v := ?_) rfl (fun w' hS => ?_) ?_; rotate_left; (focus ((try dsimp only at hS); go_simp; first | done | with_reducible rfl)); simp only [Act.put, List.setIfInBounds_toArray, List.set_cons_zero, List.set_cons_succ])
      | (refine Ord.ord_skip (by rfl) ?_; simp only [Act.put, List.setIfInBounds_toArray, List.set_cons_zero, List.set_cons_succ])
      | (refine Ord.ord_take (v := ?_) (by rfl) (fun w' hS => ?_) ?_; rotate_left; (focus ((try dsimp only at hS); go_simp; first | done | with_reducible rfl)); simp only [Act.put, List.setIfInBounds_toArray, List.set_cons_zero, List.set_cons_succ]))
    refine Ord.ord_call (fun K hK => ?_)
    go_simp
    refine (HW2.out _).mono ?_
    rintro e w36 ⟨A36', c36', B36', d36', rfl, ho36, hb36⟩
    have hB36 := btr hB35 hb36
    have hS36 := hb36.size
    have hOk_36 := Lib.hid (hOk_35.out.below hb36 (by omega))
    have hOl1_36 := Lib.hid (hOl1_35.out.below hb36 (by omega))
    have hOl2_36 := Lib.hid (hOl2_35.out.below hb36 (by omega))
    have hOvk_36 := Lib.hid (hOvk_35.out.below hb36 )
    have hOx_36 := Lib.hid (hOx_35.out.below hb36 (by omega))
    have hOvx_36 := Lib.hid (hOvx_35.out.below hb36 )
    have hOs_36 := Lib.hid (hOs_35.out.below hb36 )
    have hOt_36 := Lib.hid (hOt_35.out.below hb36 )
    have hOk3_36 := Lib.hid (hOk3_35.out.below hb36 (by omega))
    have hOvk3_36 := Lib.hid (hOvk3_35.out.below hb36 )
    have hOk4_36 := Lib.hid (hOk4_35.out.below hb36 (by omega))
    have hOl4_36 := Lib.hid (hOl4_35.out.below hb36 (by omega))
    have hOvk4_36 := Lib.hid (hOvk4_35.out.below hb36 )
    have hOk5_36 := Lib.hid (hOk5_35.out.below hb36 (by omega))
    have hOvk5_36 := Lib.hid (hOvk5_35.out.below hb36 )
    have hOfa_36 := Lib.hid (hOfa_35.out.below hb36 (by omega))
    have hOfb_36 := Lib.hid ho36
    clear hOk_35 hOl1_35 hOl2_35 hOvk_35 hOx_35 hOvx_35 hOs_35 hOt_35 hOk3_35 hOvk3_35 hOk4_35 hOl4_35 hOvk4_35 hOk5_35 hOvk5_35 hOfa_35 ho36 hb36
    refine hK.out _ _ (⟨⟨hOs_36.out.1, hOs_36.out.2.1⟩, ⟨hOt_36.out.1, hOt_36.out.2.1⟩, ⟨hOvk3_36.out.1, hOvk3_36.out.2.1⟩, ⟨hOvk4_36.out.1, hOvk4_36.out.2.1⟩, ⟨hOvk5_36.out.1, hOvk5_36.out.2.1⟩⟩) ?_
    clear hK K
    repeat (first
      | (refine Ord.ord_plain (v := ?_) rfl (fun w' hS => ?_) ?_; rotate_left; (focus ((try dsimp only at hS); go_simp; first | done | with_reducible rfl)); simp only [Act.put, List.setIfInBounds_toArray, List.set_cons_zero, List.set_cons_succ])
      | (refine Ord.ord_skip (by rfl) ?_; simp only [Act.put, List.setIfInBounds_toArray, List.set_cons_zero, List.set_cons_succ])
      | (refine Ord.ord_take (v := ?_) (by rfl) (fun w' hS => ?_) ?_; rotate_left; (focus ((try dsimp only at hS); go_simp; first | done | with_reducible rfl)); simp only [Act.put, List.setIfInBounds_toArray, List.set_cons_zero, List.set_cons_succ]))
    refine Ord.ord_call (fun K hK => ?_)
    go_simp
    refine (sameKept_same A35' B35' n6 n6 c35' d35' _ k6 _ A36' B36' c36' d36' _ _ _ hn6 hn6 (by omega) (by omega) hOfa_36.out.reads hOfb_36.out.reads).mono ?_
    rintro e w37 ⟨rfl, hb37⟩
    have hB37 := btr hB36 hb37
    have hS37 := hb37.size
    have hOk_37 := Lib.hid (hOk_36.out.below hb37 (by omega))
    have hOl1_37 := Lib.hid (hOl1_36.out.below hb37 (by omega))
    have hOl2_37 := Lib.hid (hOl2_36.out.below hb37 (by omega))
    have hOvk_37 := Lib.hid (hOvk_36.out.below hb37 )
    have hOx_37 := Lib.hid (hOx_36.out.below hb37 (by omega))
    have hOvx_37 := Lib.hid (hOvx_36.out.below hb37 )
    have hOs_37 := Lib.hid (hOs_36.out.below hb37 )
    have hOt_37 := Lib.hid (hOt_36.out.below hb37 )
    have hOk3_37 := Lib.hid (hOk3_36.out.below hb37 (by omega))
    have hOvk3_37 := Lib.hid (hOvk3_36.out.below hb37 )
    have hOk4_37 := Lib.hid (hOk4_36.out.below hb37 (by omega))
    have hOl4_37 := Lib.hid (hOl4_36.out.below hb37 (by omega))
    have hOvk4_37 := Lib.hid (hOvk4_36.out.below hb37 )
    have hOk5_37 := Lib.hid (hOk5_36.out.below hb37 (by omega))
    have hOvk5_37 := Lib.hid (hOvk5_36.out.below hb37 )
    have hOfa_37 := Lib.hid (hOfa_36.out.below hb37 (by omega))
    have hOfb_37 := Lib.hid (hOfb_36.out.below hb37 (by omega))
    clear hOk_36 hOl1_36 hOl2_36 hOvk_36 hOx_36 hOvx_36 hOs_36 hOt_36 hOk3_36 hOvk3_36 hOk4_36 hOl4_36 hOvk4_36 hOk5_36 hOvk5_36 hOfa_36 hOfb_36 hb37
    refine hK.out _ _ (⟨⟨hOs_37.out.1, hOs_37.out.2.1⟩, ⟨hOt_37.out.1, hOt_37.out.2.1⟩, ⟨hOvk3_37.out.1, hOvk3_37.out.2.1⟩, ⟨hOvk4_37.out.1, hOvk4_37.out.2.1⟩, ⟨hOvk5_37.out.1, hOvk5_37.out.2.1⟩⟩) ?_
    clear hK K
    repeat (first
      | (refine Ord.ord_plain (v := ?_) rfl (fun w' hS => ?_) ?_; rotate_left; (focus ((try dsimp only at hS); go_simp; first | done | with_reducible rfl)); simp only [Act.put, List.setIfInBounds_toArray, List.set_cons_zero, List.set_cons_succ])
      | (refine Ord.ord_skip (by rfl) ?_; simp only [Act.put, List.setIfInBounds_toArray, List.set_cons_zero, List.set_cons_succ])
      | (refine Ord.ord_take (v := ?_) (by rfl) (fun w' hS => ?_) ?_; rotate_left; (focus ((try dsimp only at hS); go_simp; first | done | with_reducible rfl)); simp only [Act.put, List.setIfInBounds_toArray, List.set_cons_zero, List.set_cons_succ]))
    clear hOfa_37
    clear hOfb_37
    refine Ord.ord_nil ?_
    clear hOs_37
    clear hOt_37
    clear hOk3_37
    clear hOvk3_37
    clear hOk4_37
    clear hOvk4_37
    clear hOl4_37
    clear hOk5_37
    clear hOvk5_37
    clear HG1 HG2 HU1 HU2 HL1 HL2 HN1 HN2 HW1 HW2
    have N4 := fun V : World => new4_any V
    cases hb0 : okK k0 l1 l2
    · have HO2' := HO2
      rw [hb0] at HO2'
      clear HO2 HO1
      obtain ⟨zvk0, zvk1, _, _, _⟩ := hOvk_37.out
      go_wp2_with fail
      refine (HO2'.out _ (hOk_37.out.wide (Nat.zero_le _) (by omega)) (hOl1_37.out.wide (Nat.zero_le _) (by omega)) (hOl2_37.out.wide (Nat.zero_le _) (by omega))).mono ?_
      rintro e w38 ⟨rfl, hb38⟩
      have hB38 := btr hB37 hb38
      have hS38 := hb38.size
      have hOk_38 := Lib.hid (hOk_37.out.below hb38 (by omega))
      have hOl1_38 := Lib.hid (hOl1_37.out.below hb38 (by omega))
      have hOl2_38 := Lib.hid (hOl2_37.out.below hb38 (by omega))
      have hOvk_38 := Lib.hid (hOvk_37.out.below hb38 )
      have hOx_38 := Lib.hid (hOx_37.out.below hb38 (by omega))
      have hOvx_38 := Lib.hid (hOvx_37.out.below hb38 )
      clear hOk_37 hOl1_37 hOl2_37 hOvk_37 hOx_37 hOvx_37 hb38
      clear zvk0 zvk1
      go_wp2_with fail
      refine (N4 _).mono ?_
      rintro e w39 ⟨A39', c39', B39', d39', rfl, ho39, hb39⟩
      have hB39 := btr hB38 hb39
      have hS39 := hb39.size
      have hOk_39 := Lib.hid (hOk_38.out.below hb39 (by omega))
      have hOl1_39 := Lib.hid (hOl1_38.out.below hb39 (by omega))
      have hOl2_39 := Lib.hid (hOl2_38.out.below hb39 (by omega))
      have hOvk_39 := Lib.hid (hOvk_38.out.below hb39 )
      have hOx_39 := Lib.hid (hOx_38.out.below hb39 (by omega))
      have hOvx_39 := Lib.hid (hOvx_38.out.below hb39 )
      have hOn4_39 := Lib.hid ho39
      clear hOk_38 hOl1_38 hOl2_38 hOvk_38 hOx_38 hOvx_38 ho39 hb39
      have hfl := field0
      go_wp2_with fail
      go_ret
      exact ⟨rfl, hB39⟩
    · have HO2' := HO2
      rw [hb0] at HO2'
      clear HO2 HO1
      obtain ⟨zvk0, zvk1, _, _, _⟩ := hOvk_37.out
      go_wp2_with fail
      refine (HO2'.out _ (hOk_37.out.wide (Nat.zero_le _) (by omega)) (hOl1_37.out.wide (Nat.zero_le _) (by omega)) (hOl2_37.out.wide (Nat.zero_le _) (by omega))).mono ?_
      rintro e w38 ⟨rfl, hb38⟩
      have hB38 := btr hB37 hb38
      have hS38 := hb38.size
      have hOk_38 := Lib.hid (hOk_37.out.below hb38 (by omega))
      have hOl1_38 := Lib.hid (hOl1_37.out.below hb38 (by omega))
      have hOl2_38 := Lib.hid (hOl2_37.out.below hb38 (by omega))
      have hOvk_38 := Lib.hid (hOvk_37.out.below hb38 )
      have hOx_38 := Lib.hid (hOx_37.out.below hb38 (by omega))
      have hOvx_38 := Lib.hid (hOvx_37.out.below hb38 )
      clear hOk_37 hOl1_37 hOl2_37 hOvk_37 hOx_37 hOvx_37 hb38
      clear zvk0 zvk1
      clear N4
      have hkf := HKF.out hb0
      obtain ⟨hl1, hl2, _⟩ := okK_iff.1 hb0
      have hA1 := fun (A B : Option Addr) (c d : Nat) (V : World) (h : KR V 0 V.heap.size kf A B n0 m0) => impl_ask A B n0 m0 c d kf V pg hmn0 hmm0 h HWkf.out
      unfold AskP at hA1
      have hask : (askK kf pg).2 = true → (askK kf pg).1 = compS (atS l1 pg) l2 := fun h => ask_ok hkf h
      generalize askK kf pg = z at hA1 hask
      obtain ⟨⟨ux, uy⟩, kn⟩ := z
      dsimp only at hask
      have hOf := ok_forget (k := k0) (l := l1) (o := l2) pg hb0
      have hOa : okK (allK k0) l1 l2 = true := ok_forgets _ hb0
      have hA0 := known_all (k := k0) (by omega)
      have hx := fun (A B : Option Addr) (c d : Nat) (V : World) (h : KR V 0 V.heap.size kf A B n0 m0) (h1 : Lies V 0 V.heap.size (some ad1) (scells l1)) (h2 : Lies V 0 V.heap.size (some ad2) (scells l2)) => impl_okK A B n0 m0 c d kf V (some ad1) (some ad2) p1 p2 r1 r2 l1 l2 hmn0 hmm0 hml1 hml2 HLl1.out HLl2.out h h1 h2 HWkf.out HWl1.out HWl2.out
      rw [hkf] at hx
      have hf := fun (A B : Option Addr) (c d : Nat) (V : World) (h : KR V 0 V.heap.size (forgetK k0 pg) A B n0 m0) (h1 : Lies V 0 V.heap.size (some ad1) (scells l1)) (h2 : Lies V 0 V.heap.size (some ad2) (scells l2)) => impl_okK A B n0 m0 c d _ V (some ad1) (some ad2) p1 p2 r1 r2 l1 l2 hmn0 hmm0 hml1 hml2 HLl1.out HLl2.out h h1 h2 (wf_forgetK HWk0.out) HWl1.out HWl2.out
      rw [hOf] at hf
      have ha := fun (A B : Option Addr) (c d : Nat) (V : World) (h : KR V 0 V.heap.size (allK k0) A B n0 m0) (h1 : Lies V 0 V.heap.size (some ad1) (scells l1)) (h2 : Lies V 0 V.heap.size (some ad2) (scells l2)) => impl_okK A B n0 m0 c d _ V (some ad1) (some ad2) p1 p2 r1 r2 l1 l2 hmn0 hmm0 hml1 hml2 HLl1.out HLl2.out h h1 h2 (wf_forgetsK _ HWk0.out) HWl1.out HWl2.out
      rw [hOa] at ha
      have hz := fun (A B : Option Addr) (c d lo : Nat) (V : World) (h : KR V lo V.heap.size (allK k0) A B n0 m0) => impl_known A B n0 m0 c d lo _ V hmn0 h
      rw [hA0] at hz
      have hfg := fun (V : World) (h : KR V 0 V.heap.size k0 A0 B0 n0 m0) => impl_forget A0 B0 n0 m0 e0 d0 k0 V pg hmn0 hmm0 h HWk0.out
      have hal := fun (V : World) (h : KR V 0 V.heap.size k0 A0 B0 n0 m0) => impl_all A0 B0 n0 m0 e0 d0 k0 V hmn0 hmm0 h HWk0.out
      generalize forgetK k0 pg = kg at hf hfg
      generalize allK k0 = ka at ha hz hal
      have hs1 := fun (V : World) (h1 : Lies V 0 V.heap.size (some ad1) (scells l1)) => spec_at (some ad1) p1 r1 0 pg l1 V hml1 HLl1.out h1
      generalize atS l1 pg = sa at hs1 hask
      obtain ⟨ax, ay⟩ := sa
      have hs2 := fun (V : World) (h2 : Lies V 0 V.heap.size (some ad2) (scells l2)) => spec_compSlot (some ad2) p2 r2 ax ay l2 V hml2 HLl2.out h2
      have KA1 := Lib.hid hA1
      have Kx := Lib.hid hx
      have Kf := Lib.hid hf
      have Ka := Lib.hid ha
      have Kz := Lib.hid hz
      have Kfg := Lib.hid hfg
      have Kal := Lib.hid hal
      have Ks1 := Lib.hid hs1
      clear hA1 hx hf ha hz hfg hal hs1 hkf hOf hOa hA0 hl1 hl2 hb0
      obtain ⟨zvx0, zvx1, _, _, _⟩ := hOvx_38.out
      go_wp2_with fail
      refine (KA1.out _ _ _ _ _ (hOx_38.out.reads.wide (Nat.zero_le _) (by omega))).mono ?_
      rintro e w39 ⟨rfl, hb39⟩
      have hB39 := btr hB38 hb39
      have hS39 := hb39.size
      have hOk_39 := Lib.hid (hOk_38.out.below hb39 (by omega))
      have hOl1_39 := Lib.hid (hOl1_38.out.below hb39 (by omega))
      have hOl2_39 := Lib.hid (hOl2_38.out.below hb39 (by omega))
      have hOvk_39 := Lib.hid (hOvk_38.out.below hb39 )
      have hOx_39 := Lib.hid (hOx_38.out.below hb39 (by omega))
      have hOvx_39 := Lib.hid (hOvx_38.out.below hb39 )
      clear hOk_38 hOl1_38 hOl2_38 hOvk_38 hOx_38 hOvx_38 hb39
      clear zvx0 zvx1
      have hb40 : Below w39.heap.size w39 (w39.alloc (.cells #[.int .i64 ux, .int .i64 uy] 36)) := (Below.refl _ _).alloc (Nat.le_refl _) _
      have hB40 := btr hB39 hb40
      have hS40 := hb40.size
      have hOk_40 := Lib.hid (hOk_39.out.below hb40 (by omega))
      have hOl1_40 := Lib.hid (hOl1_39.out.below hb40 (by omega))
      have hOl2_40 := Lib.hid (hOl2_39.out.below hb40 (by omega))
      have hOvk_40 := Lib.hid (hOvk_39.out.below hb40 )
      have hOx_40 := Lib.hid (hOx_39.out.below hb40 (by omega))
      have hOvx_40 := Lib.hid (hOvx_39.out.below hb40 )
      have hOuu_40 := Lib.hid (Two.new w39 (.int .i64 ux) (.int .i64 uy) 36)
      clear hOk_39 hOl1_39 hOl2_39 hOvk_39 hOx_39 hOvx_39 hb40
      cases kn
      · have Ks2 := Lib.hid hs2
        clear hs2 hask
        go_wp2_with fail
        refine Ord.wp_region_ord (fun w' => (w'.cell? ⟨w3.heap.size, 0, none⟩ = some (.slice A3' n0 c3') ∧ w'.cell? ⟨w3.heap.size, 1, none⟩ = some (.slice B3' m0 d3')) ∧ (w'.cell? ⟨w1.heap.size, 0, none⟩ = some (.slice A0 n0 e0) ∧ w'.cell? ⟨w1.heap.size, 1, none⟩ = some (.slice B0 m0 d0)) ∧ (w'.cell? ⟨w39.heap.size, 0, none⟩ = some (.int .i64 ux) ∧ w'.cell? ⟨w39.heap.size, 1, none⟩ = some (.int .i64 uy))) [(0, true), (1, true), (2, true), (3, false), (4, true), (5, true), (6, true), (8, true), (9, true), (7, false), (10, false), (11, true), (12, true), (13, true), (15, true), (16, true), (14, false), (17, false), (18, true), (19, true), (20, true), (21, false), (22, false), (23, true), (24, true), (25, true), (26, true), (27, true), (28, true), (29, true), (30, true), (31, true), (33, true), (32, false), (34, false), (35, true), (36, true), (37, true), (38, true)] (by kernel_rfl) (by kernel_rfl) rfl (by kernel_rfl) (⟨⟨hOvx_40.out.1, hOvx_40.out.2.1⟩, ⟨hOvk_40.out.1, hOvk_40.out.2.1⟩, ⟨hOuu_40.out.1, hOuu_40.out.2.1⟩⟩) ?_
        simp only [Ord.ordOps, List.getElem?_toArray, List.getElem?_cons_zero, List.getElem?_cons_succ]
        repeat (first
          | (refine Ord.ord_plain (v := ?_) rfl (fun w' hS => ?_) ?_; rotate_left; (focus ((try dsimp only at hS); go_simp; first | done | with_reducible rfl)); simp only [Act.put, List.setIfInBounds_toArray, List.set_cons_zero, List.set_cons_succ])
          | (refine Ord.ord_skip (by rfl) ?_; simp only [Act.put, List.setIfInBounds_toArray, List.set_cons_zero, List.set_cons_succ])
          | (refine Ord.ord_take (v := ?_) (by rfl) (fun w' hS => ?_) ?_; rotate_left; (focus ((try dsimp only at hS); go_simp; first | done | with_reducible rfl)); simp only [Act.put, List.setIfInBounds_toArray, List.set_cons_zero, List.set_cons_succ]))
        have hb41 : Below (w39.alloc (.cells #[.int .i64 ux, .int .i64 uy] 36)).heap.size (w39.alloc (.cells #[.int .i64 ux, .int .i64 uy] 36)) (w39.alloc (.cells #[.int .i64 ux, .int .i64 uy] 36)).drew := (Below.refl _ _).drew
        have hB41 := btr hB40 hb41
        have hS41 : (w39.alloc (.cells #[.int .i64 ux, .int .i64 uy] 36)).heap.size ≤ (w39.alloc (.cells #[.int .i64 ux, .int .i64 uy] 36)).drew.heap.size := hb41.size
        have hOk_41 := Lib.hid (hOk_40.out.below hb41 (by omega))
        have hOl1_41 := Lib.hid (hOl1_40.out.below hb41 (by omega))
        have hOl2_41 := Lib.hid (hOl2_40.out.below hb41 (by omega))
        have hOvk_41 := Lib.hid (hOvk_40.out.below hb41 )
        have hOx_41 := Lib.hid (hOx_40.out.below hb41 (by omega))
        have hOvx_41 := Lib.hid (hOvx_40.out.below hb41 )
        have hOuu_41 := Lib.hid (hOuu_40.out.below hb41 )
        clear hOk_40 hOl1_40 hOl2_40 hOvk_40 hOx_40 hOvx_40 hOuu_40 hb41
        refine Ord.ord_call (fun K hK => ?_)
        go_simp
        refine (Kx.out _ _ _ _ _ (hOx_41.out.reads.wide (Nat.zero_le _) (by omega)) (hOl1_41.out.wide (Nat.zero_le _) (by omega)) (hOl2_41.out.wide (Nat.zero_le _) (by omega))).mono ?_
        rintro e w42 ⟨rfl, hb42⟩
        have hB42 := btr hB41 hb42
        have hS42 := hb42.size
        have hOk_42 := Lib.hid (hOk_41.out.below hb42 (by omega))
        have hOl1_42 := Lib.hid (hOl1_41.out.below hb42 (by omega))
        have hOl2_42 := Lib.hid (hOl2_41.out.below hb42 (by omega))
        have hOvk_42 := Lib.hid (hOvk_41.out.below hb42 )
        have hOx_42 := Lib.hid (hOx_41.out.below hb42 (by omega))
        have hOvx_42 := Lib.hid (hOvx_41.out.below hb42 )
        have hOuu_42 := Lib.hid (hOuu_41.out.below hb42 )
        clear hOk_41 hOl1_41 hOl2_41 hOvk_41 hOx_41 hOvx_41 hOuu_41 hb42
        refine hK.out _ _ (⟨⟨hOvx_42.out.1, hOvx_42.out.2.1⟩, ⟨hOvk_42.out.1, hOvk_42.out.2.1⟩, ⟨hOuu_42.out.1, hOuu_42.out.2.1⟩⟩) ?_
        clear hK K
        repeat (first
          | (refine Ord.ord_plain (v := ?_) rfl (fun w' hS => ?_) ?_; rotate_left; (focus ((try dsimp only at hS); go_simp; first | done | with_reducible rfl)); simp only [Act.put, List.setIfInBounds_toArray, List.set_cons_zero, List.set_cons_succ])
          | (refine Ord.ord_skip (by rfl) ?_; simp only [Act.put, List.setIfInBounds_toArray, List.set_cons_zero, List.set_cons_succ])
          | (refine Ord.ord_take (v := ?_) (by rfl) (fun w' hS => ?_) ?_; rotate_left; (focus ((try dsimp only at hS); go_simp; first | done | with_reducible rfl)); simp only [Act.put, List.setIfInBounds_toArray, List.set_cons_zero, List.set_cons_succ]))
        refine Ord.ord_call (fun K hK => ?_)
        go_simp
        refine (Kfg.out _ (hOk_42.out.wide (Nat.zero_le _) (by omega))).mono ?_
        rintro e w43 ⟨A43', c43', B43', d43', rfl, ho43, hb43⟩
        have hB43 := btr hB42 hb43
        have hS43 := hb43.size
        have hOk_43 := Lib.hid (hOk_42.out.below hb43 (by omega))
        have hOl1_43 := Lib.hid (hOl1_42.out.below hb43 (by omega))
        have hOl2_43 := Lib.hid (hOl2_42.out.below hb43 (by omega))
        have hOvk_43 := Lib.hid (hOvk_42.out.below hb43 )
        have hOx_43 := Lib.hid (hOx_42.out.below hb43 (by omega))
        have hOvx_43 := Lib.hid (hOvx_42.out.below hb43 )
        have hOuu_43 := Lib.hid (hOuu_42.out.below hb43 )
        have hOg_43 := Lib.hid ho43
        clear hOk_42 hOl1_42 hOl2_42 hOvk_42 hOx_42 hOvx_42 hOuu_42 ho43 hb43
        refine hK.out _ _ (⟨⟨hOvx_43.out.1, hOvx_43.out.2.1⟩, ⟨hOvk_43.out.1, hOvk_43.out.2.1⟩, ⟨hOuu_43.out.1, hOuu_43.out.2.1⟩⟩) ?_
        clear hK K
        repeat (first
          | (refine Ord.ord_plain (v := ?_) rfl (fun w' hS => ?_) ?_; rotate_left; (focus ((try dsimp only at hS); go_simp; first | done | with_reducible rfl)); simp only [Act.put, List.setIfInBounds_toArray, List.set_cons_zero, List.set_cons_succ])
          | (refine Ord.ord_skip (by rfl) ?_; simp only [Act.put, List.setIfInBounds_toArray, List.set_cons_zero, List.set_cons_succ])
          | (refine Ord.ord_take (v := ?_) (by rfl) (fun w' hS => ?_) ?_; rotate_left; (focus ((try dsimp only at hS); go_simp; first | done | with_reducible rfl)); simp only [Act.put, List.setIfInBounds_toArray, List.set_cons_zero, List.set_cons_succ]))
        refine Ord.ord_call (fun K hK => ?_)
        go_simp
        refine (Kf.out _ _ _ _ _ (hOg_43.out.reads.wide (Nat.zero_le _) (by omega)) (hOl1_43.out.wide (Nat.zero_le _) (by omega)) (hOl2_43.out.wide (Nat.zero_le _) (by omega))).mono ?_
        rintro e w44 ⟨rfl, hb44⟩
        have hB44 := btr hB43 hb44
        have hS44 := hb44.size
        have hOk_44 := Lib.hid (hOk_43.out.below hb44 (by omega))
        have hOl1_44 := Lib.hid (hOl1_43.out.below hb44 (by omega))
        have hOl2_44 := Lib.hid (hOl2_43.out.below hb44 (by omega))
        have hOvk_44 := Lib.hid (hOvk_43.out.below hb44 )
        have hOx_44 := Lib.hid (hOx_43.out.below hb44 (by omega))
        have hOvx_44 := Lib.hid (hOvx_43.out.below hb44 )
        have hOuu_44 := Lib.hid (hOuu_43.out.below hb44 )
        have hOg_44 := Lib.hid (hOg_43.out.below hb44 (by omega))
        clear hOk_43 hOl1_43 hOl2_43 hOvk_43 hOx_43 hOvx_43 hOuu_43 hOg_43 hb44
        refine hK.out _ _ (⟨⟨hOvx_44.out.1, hOvx_44.out.2.1⟩, ⟨hOvk_44.out.1, hOvk_44.out.2.1⟩, ⟨hOuu_44.out.1, hOuu_44.out.2.1⟩⟩) ?_
        clear hK K
        repeat (first
          | (refine Ord.ord_plain (v := ?_) rfl (fun w' hS => ?_) ?_; rotate_left; (focus ((try dsimp only at hS); go_simp; first | done | with_reducible rfl)); simp only [Act.put, List.setIfInBounds_toArray, List.set_cons_zero, List.set_cons_succ])
          | (refine Ord.ord_skip (by rfl) ?_; simp only [Act.put, List.setIfInBounds_toArray, List.set_cons_zero, List.set_cons_succ])
          | (refine Ord.ord_take (v := ?_) (by rfl) (fun w' hS => ?_) ?_; rotate_left; (focus ((try dsimp only at hS); go_simp; first | done | with_reducible rfl)); simp only [Act.put, List.setIfInBounds_toArray, List.set_cons_zero, List.set_cons_succ]))
        clear hOg_44
        refine Ord.ord_call (fun K hK => ?_)
        go_simp
        refine (Kal.out _ (hOk_44.out.wide (Nat.zero_le _) (by omega))).mono ?_
        rintro e w45 ⟨A45', c45', B45', d45', rfl, ho45, hb45⟩
        have hB45 := btr hB44 hb45
        have hS45 := hb45.size
        have hOk_45 := Lib.hid (hOk_44.out.below hb45 (by omega))
        have hOl1_45 := Lib.hid (hOl1_44.out.below hb45 (by omega))
        have hOl2_45 := Lib.hid (hOl2_44.out.below hb45 (by omega))
        have hOvk_45 := Lib.hid (hOvk_44.out.below hb45 )
        have hOx_45 := Lib.hid (hOx_44.out.below hb45 (by omega))
        have hOvx_45 := Lib.hid (hOvx_44.out.below hb45 )
        have hOuu_45 := Lib.hid (hOuu_44.out.below hb45 )
        have hOg_45 := Lib.hid ho45
        clear hOk_44 hOl1_44 hOl2_44 hOvk_44 hOx_44 hOvx_44 hOuu_44 ho45 hb45
        refine hK.out _ _ (⟨⟨hOvx_45.out.1, hOvx_45.out.2.1⟩, ⟨hOvk_45.out.1, hOvk_45.out.2.1⟩, ⟨hOuu_45.out.1, hOuu_45.out.2.1⟩⟩) ?_
        clear hK K
        repeat (first
          | (refine Ord.ord_plain (v := ?_) rfl (fun w' hS => ?_) ?_; rotate_left; (focus ((try dsimp only at hS); go_simp; first | done | with_reducible rfl)); simp only [Act.put, List.setIfInBounds_toArray, List.set_cons_zero, List.set_cons_succ])
          | (refine Ord.ord_skip (by rfl) ?_; simp only [Act.put, List.setIfInBounds_toArray, List.set_cons_zero, List.set_cons_succ])
          | (refine Ord.ord_take (v := ?_) (by rfl) (fun w' hS => ?_) ?_; rotate_left; (focus ((try dsimp only at hS); go_simp; first | done | with_reducible rfl)); simp only [Act.put, List.setIfInBounds_toArray, List.set_cons_zero, List.set_cons_succ]))
        refine Ord.ord_call (fun K hK => ?_)
        go_simp
        refine (Ka.out _ _ _ _ _ (hOg_45.out.reads.wide (Nat.zero_le _) (by omega)) (hOl1_45.out.wide (Nat.zero_le _) (by omega)) (hOl2_45.out.wide (Nat.zero_le _) (by omega))).mono ?_
        rintro e w46 ⟨rfl, hb46⟩
        have hB46 := btr hB45 hb46
        have hS46 := hb46.size
        have hOk_46 := Lib.hid (hOk_45.out.below hb46 (by omega))
        have hOl1_46 := Lib.hid (hOl1_45.out.below hb46 (by omega))
        have hOl2_46 := Lib.hid (hOl2_45.out.below hb46 (by omega))
        have hOvk_46 := Lib.hid (hOvk_45.out.below hb46 )
        have hOx_46 := Lib.hid (hOx_45.out.below hb46 (by omega))
        have hOvx_46 := Lib.hid (hOvx_45.out.below hb46 )
        have hOuu_46 := Lib.hid (hOuu_45.out.below hb46 )
        have hOg_46 := Lib.hid (hOg_45.out.below hb46 (by omega))
        clear hOk_45 hOl1_45 hOl2_45 hOvk_45 hOx_45 hOvx_45 hOuu_45 hOg_45 hb46
        refine hK.out _ _ (⟨⟨hOvx_46.out.1, hOvx_46.out.2.1⟩, ⟨hOvk_46.out.1, hOvk_46.out.2.1⟩, ⟨hOuu_46.out.1, hOuu_46.out.2.1⟩⟩) ?_
        clear hK K
        repeat (first
          | (refine Ord.ord_plain (v := ?_) rfl (fun w' hS => ?_) ?_; rotate_left; (focus ((try dsimp only at hS); go_simp; first | done | with_reducible rfl)); simp only [Act.put, List.setIfInBounds_toArray, List.set_cons_zero, List.set_cons_succ])
          | (refine Ord.ord_skip (by rfl) ?_; simp only [Act.put, List.setIfInBounds_toArray, List.set_cons_zero, List.set_cons_succ])
          | (refine Ord.ord_take (v := ?_) (by rfl) (fun w' hS => ?_) ?_; rotate_left; (focus ((try dsimp only at hS); go_simp; first | done | with_reducible rfl)); simp only [Act.put, List.setIfInBounds_toArray, List.set_cons_zero, List.set_cons_succ]))
        clear hOg_46
        refine Ord.ord_call (fun K hK => ?_)
        go_simp
        refine (Kal.out _ (hOk_46.out.wide (Nat.zero_le _) (by omega))).mono ?_
        rintro e w47 ⟨A47', c47', B47', d47', rfl, ho47, hb47⟩
        have hB47 := btr hB46 hb47
        have hS47 := hb47.size
        have hOk_47 := Lib.hid (hOk_46.out.below hb47 (by omega))
        have hOl1_47 := Lib.hid (hOl1_46.out.below hb47 (by omega))
        have hOl2_47 := Lib.hid (hOl2_46.out.below hb47 (by omega))
        have hOvk_47 := Lib.hid (hOvk_46.out.below hb47 )
        have hOx_47 := Lib.hid (hOx_46.out.below hb47 (by omega))
        have hOvx_47 := Lib.hid (hOvx_46.out.below hb47 )
        have hOuu_47 := Lib.hid (hOuu_46.out.below hb47 )
        have hOg_47 := Lib.hid ho47
        clear hOk_46 hOl1_46 hOl2_46 hOvk_46 hOx_46 hOvx_46 hOuu_46 ho47 hb47
        refine hK.out _ _ (⟨⟨hOvx_47.out.1, hOvx_47.out.2.1⟩, ⟨hOvk_47.out.1, hOvk_47.out.2.1⟩, ⟨hOuu_47.out.1, hOuu_47.out.2.1⟩⟩) ?_
        clear hK K
        repeat (first
          | (refine Ord.ord_plain (v := ?_) rfl (fun w' hS => ?_) ?_; rotate_left; (focus ((try dsimp only at hS); go_simp; first | done | with_reducible rfl)); simp only [Act.put, List.setIfInBounds_toArray, List.set_cons_zero, List.set_cons_succ])
          | (refine Ord.ord_skip (by rfl) ?_; simp only [Act.put, List.setIfInBounds_toArray, List.set_cons_zero, List.set_cons_succ])
          | (refine Ord.ord_take (v := ?_) (by rfl) (fun w' hS => ?_) ?_; rotate_left; (focus ((try dsimp only at hS); go_simp; first | done | with_reducible rfl)); simp only [Act.put, List.setIfInBounds_toArray, List.set_cons_zero, List.set_cons_succ]))
        refine Ord.ord_call (fun K hK => ?_)
        go_simp
        refine (Kz.out _ _ _ _ 0 _ (hOg_47.out.reads.wide (Nat.zero_le _) (by omega))).mono ?_
        rintro e w48 ⟨rfl, hb48⟩
        have hB48 := btr hB47 hb48
        have hS48 := hb48.size
        have hOk_48 := Lib.hid (hOk_47.out.below hb48 (by omega))
        have hOl1_48 := Lib.hid (hOl1_47.out.below hb48 (by omega))
        have hOl2_48 := Lib.hid (hOl2_47.out.below hb48 (by omega))
        have hOvk_48 := Lib.hid (hOvk_47.out.below hb48 )
        have hOx_48 := Lib.hid (hOx_47.out.below hb48 (by omega))
        have hOvx_48 := Lib.hid (hOvx_47.out.below hb48 )
        have hOuu_48 := Lib.hid (hOuu_47.out.below hb48 )
        have hOg_48 := Lib.hid (hOg_47.out.below hb48 (by omega))
        clear hOk_47 hOl1_47 hOl2_47 hOvk_47 hOx_47 hOvx_47 hOuu_47 hOg_47 hb48
        refine hK.out _ _ (⟨⟨hOvx_48.out.1, hOvx_48.out.2.1⟩, ⟨hOvk_48.out.1, hOvk_48.out.2.1⟩, ⟨hOuu_48.out.1, hOuu_48.out.2.1⟩⟩) ?_
        clear hK K
        repeat (first
          | (refine Ord.ord_plain (v := ?_) rfl (fun w' hS => ?_) ?_; rotate_left; (focus ((try dsimp only at hS); go_simp; first | done | with_reducible rfl)); simp only [Act.put, List.setIfInBounds_toArray, List.set_cons_zero, List.set_cons_succ])
          | (refine Ord.ord_skip (by rfl) ?_; simp only [Act.put, List.setIfInBounds_toArray, List.set_cons_zero, List.set_cons_succ])
          | (refine Ord.ord_take (v := ?_) (by rfl) (fun w' hS => ?_) ?_; rotate_left; (focus ((try dsimp only at hS); go_simp; first | done | with_reducible rfl)); simp only [Act.put, List.setIfInBounds_toArray, List.set_cons_zero, List.set_cons_succ]))
        clear hOg_48
        refine Ord.ord_call (fun K hK => ?_)
        go_simp
        refine hK.out _ _ (⟨⟨hOvx_48.out.1, hOvx_48.out.2.1⟩, ⟨hOvk_48.out.1, hOvk_48.out.2.1⟩, ⟨hOuu_48.out.1, hOuu_48.out.2.1⟩⟩) ?_
        clear hK K
        repeat (first
          | (refine Ord.ord_plain (v := ?_) rfl (fun w' hS => ?_) ?_; rotate_left; (focus ((try dsimp only at hS); go_simp; first | done | with_reducible rfl)); simp only [Act.put, List.setIfInBounds_toArray, List.set_cons_zero, List.set_cons_succ])
          | (refine Ord.ord_skip (by rfl) ?_; simp only [Act.put, List.setIfInBounds_toArray, List.set_cons_zero, List.set_cons_succ])
          | (refine Ord.ord_take (v := ?_) (by rfl) (fun w' hS => ?_) ?_; rotate_left; (focus ((try dsimp only at hS); go_simp; first | done | with_reducible rfl)); simp only [Act.put, List.setIfInBounds_toArray, List.set_cons_zero, List.set_cons_succ]))
        refine Ord.ord_call (fun K hK => ?_)
        go_simp
        refine hK.out _ _ (⟨⟨hOvx_48.out.1, hOvx_48.out.2.1⟩, ⟨hOvk_48.out.1, hOvk_48.out.2.1⟩, ⟨hOuu_48.out.1, hOuu_48.out.2.1⟩⟩) ?_
        clear hK K
        repeat (first
          | (refine Ord.ord_plain (v := ?_) rfl (fun w' hS => ?_) ?_; rotate_left; (focus ((try dsimp only at hS); go_simp; first | done | with_reducible rfl)); simp only [Act.put, List.setIfInBounds_toArray, List.set_cons_zero, List.set_cons_succ])
          | (refine Ord.ord_skip (by rfl) ?_; simp only [Act.put, List.setIfInBounds_toArray, List.set_cons_zero, List.set_cons_succ])
          | (refine Ord.ord_take (v := ?_) (by rfl) (fun w' hS => ?_) ?_; rotate_left; (focus ((try dsimp only at hS); go_simp; first | done | with_reducible rfl)); simp only [Act.put, List.setIfInBounds_toArray, List.set_cons_zero, List.set_cons_succ]))
        refine Ord.ord_nil ?_
        go_wp2_with fail
        go_ret
        exact ⟨rfl, hB48⟩
      · rw [show compS (ax, ay) l2 = (ux, uy) from (hask rfl).symm] at hs2
        have Ks2 := Lib.hid hs2
        clear hs2 hask
        go_wp2_with fail
        refine Ord.wp_region_ord (fun w' => (w'.cell? ⟨w3.heap.size, 0, none⟩ = some (.slice A3' n0 c3') ∧ w'.cell? ⟨w3.heap.size, 1, none⟩ = some (.slice B3' m0 d3')) ∧ (w'.cell? ⟨w1.heap.size, 0, none⟩ = some (.slice A0 n0 e0) ∧ w'.cell? ⟨w1.heap.size, 1, none⟩ = some (.slice B0 m0 d0)) ∧ (w'.cell? ⟨w39.heap.size, 0, none⟩ = some (.int .i64 ux) ∧ w'.cell? ⟨w39.heap.size, 1, none⟩ = some (.int .i64 uy))) [(0, true), (1, true), (2, true), (3, false), (4, true), (5, true), (6, true), (8, true), (9, true), (7, false), (10, false), (11, true), (12, true), (13, true), (15, true), (16, true), (14, false), (17, false), (18, true), (19, true), (20, true), (21, false), (22, false), (23, true), (24, true), (25, true), (26, true), (27, true), (28, true), (29, true), (30, true), (31, true), (33, true), (32, false), (34, false), (35, true), (36, true), (37, true), (38, true)] (by kernel_rfl) (by kernel_rfl) rfl (by kernel_rfl) (⟨⟨hOvx_40.out.1, hOvx_40.out.2.1⟩, ⟨hOvk_40.out.1, hOvk_40.out.2.1⟩, ⟨hOuu_40.out.1, hOuu_40.out.2.1⟩⟩) ?_
        simp only [Ord.ordOps, List.getElem?_toArray, List.getElem?_cons_zero, List.getElem?_cons_succ]
        repeat (first
          | (refine Ord.ord_plain (v := ?_) rfl (fun w' hS => ?_) ?_; rotate_left; (focus ((try dsimp only at hS); go_simp; first | done | with_reducible rfl)); simp only [Act.put, List.setIfInBounds_toArray, List.set_cons_zero, List.set_cons_succ])
          | (refine Ord.ord_skip (by rfl) ?_; simp only [Act.put, List.setIfInBounds_toArray, List.set_cons_zero, List.set_cons_succ])
          | (refine Ord.ord_take (v := ?_) (by rfl) (fun w' hS => ?_) ?_; rotate_left; (focus ((try dsimp only at hS); go_simp; first | done | with_reducible rfl)); simp only [Act.put, List.setIfInBounds_toArray, List.set_cons_zero, List.set_cons_succ]))
        have hb41 : Below (w39.alloc (.cells #[.int .i64 ux, .int .i64 uy] 36)).heap.size (w39.alloc (.cells #[.int .i64 ux, .int .i64 uy] 36)) (w39.alloc (.cells #[.int .i64 ux, .int .i64 uy] 36)).drew := (Below.refl _ _).drew
        have hB41 := btr hB40 hb41
        have hS41 : (w39.alloc (.cells #[.int .i64 ux, .int .i64 uy] 36)).heap.size ≤ (w39.alloc (.cells #[.int .i64 ux, .int .i64 uy] 36)).drew.heap.size := hb41.size
        have hOk_41 := Lib.hid (hOk_40.out.below hb41 (by omega))
        have hOl1_41 := Lib.hid (hOl1_40.out.below hb41 (by omega))
        have hOl2_41 := Lib.hid (hOl2_40.out.below hb41 (by omega))
        have hOvk_41 := Lib.hid (hOvk_40.out.below hb41 )
        have hOx_41 := Lib.hid (hOx_40.out.below hb41 (by omega))
        have hOvx_41 := Lib.hid (hOvx_40.out.below hb41 )
        have hOuu_41 := Lib.hid (hOuu_40.out.below hb41 )
        clear hOk_40 hOl1_40 hOl2_40 hOvk_40 hOx_40 hOvx_40 hOuu_40 hb41
        refine Ord.ord_call (fun K hK => ?_)
        go_simp
        refine (Kx.out _ _ _ _ _ (hOx_41.out.reads.wide (Nat.zero_le _) (by omega)) (hOl1_41.out.wide (Nat.zero_le _) (by omega)) (hOl2_41.out.wide (Nat.zero_le _) (by omega))).mono ?_
        rintro e w42 ⟨rfl, hb42⟩
        have hB42 := btr hB41 hb42
        have hS42 := hb42.size
        have hOk_42 := Lib.hid (hOk_41.out.below hb42 (by omega))
        have hOl1_42 := Lib.hid (hOl1_41.out.below hb42 (by omega))
        have hOl2_42 := Lib.hid (hOl2_41.out.below hb42 (by omega))
        have hOvk_42 := Lib.hid (hOvk_41.out.below hb42 )
        have hOx_42 := Lib.hid (hOx_41.out.below hb42 (by omega))
        have hOvx_42 := Lib.hid (hOvx_41.out.below hb42 )
        have hOuu_42 := Lib.hid (hOuu_41.out.below hb42 )
        clear hOk_41 hOl1_41 hOl2_41 hOvk_41 hOx_41 hOvx_41 hOuu_41 hb42
        refine hK.out _ _ (⟨⟨hOvx_42.out.1, hOvx_42.out.2.1⟩, ⟨hOvk_42.out.1, hOvk_42.out.2.1⟩, ⟨hOuu_42.out.1, hOuu_42.out.2.1⟩⟩) ?_
        clear hK K
        repeat (first
          | (refine Ord.ord_plain (v := ?_) rfl (fun w' hS => ?_) ?_; rotate_left; (focus ((try dsimp only at hS); go_simp; first | done | with_reducible rfl)); simp only [Act.put, List.setIfInBounds_toArray, List.set_cons_zero, List.set_cons_succ])
          | (refine Ord.ord_skip (by rfl) ?_; simp only [Act.put, List.setIfInBounds_toArray, List.set_cons_zero, List.set_cons_succ])
          | (refine Ord.ord_take (v := ?_) (by rfl) (fun w' hS => ?_) ?_; rotate_left; (focus ((try dsimp only at hS); go_simp; first | done | with_reducible rfl)); simp only [Act.put, List.setIfInBounds_toArray, List.set_cons_zero, List.set_cons_succ]))
        refine Ord.ord_call (fun K hK => ?_)
        go_simp
        refine (Kfg.out _ (hOk_42.out.wide (Nat.zero_le _) (by omega))).mono ?_
        rintro e w43 ⟨A43', c43', B43', d43', rfl, ho43, hb43⟩
        have hB43 := btr hB42 hb43
        have hS43 := hb43.size
        have hOk_43 := Lib.hid (hOk_42.out.below hb43 (by omega))
        have hOl1_43 := Lib.hid (hOl1_42.out.below hb43 (by omega))
        have hOl2_43 := Lib.hid (hOl2_42.out.below hb43 (by omega))
        have hOvk_43 := Lib.hid (hOvk_42.out.below hb43 )
        have hOx_43 := Lib.hid (hOx_42.out.below hb43 (by omega))
        have hOvx_43 := Lib.hid (hOvx_42.out.below hb43 )
        have hOuu_43 := Lib.hid (hOuu_42.out.below hb43 )
        have hOg_43 := Lib.hid ho43
        clear hOk_42 hOl1_42 hOl2_42 hOvk_42 hOx_42 hOvx_42 hOuu_42 ho43 hb43
        refine hK.out _ _ (⟨⟨hOvx_43.out.1, hOvx_43.out.2.1⟩, ⟨hOvk_43.out.1, hOvk_43.out.2.1⟩, ⟨hOuu_43.out.1, hOuu_43.out.2.1⟩⟩) ?_
        clear hK K
        repeat (first
          | (refine Ord.ord_plain (v := ?_) rfl (fun w' hS => ?_) ?_; rotate_left; (focus ((try dsimp only at hS); go_simp; first | done | with_reducible rfl)); simp only [Act.put, List.setIfInBounds_toArray, List.set_cons_zero, List.set_cons_succ])
          | (refine Ord.ord_skip (by rfl) ?_; simp only [Act.put, List.setIfInBounds_toArray, List.set_cons_zero, List.set_cons_succ])
          | (refine Ord.ord_take (v := ?_) (by rfl) (fun w' hS => ?_) ?_; rotate_left; (focus ((try dsimp only at hS); go_simp; first | done | with_reducible rfl)); simp only [Act.put, List.setIfInBounds_toArray, List.set_cons_zero, List.set_cons_succ]))
        refine Ord.ord_call (fun K hK => ?_)
        go_simp
        refine (Kf.out _ _ _ _ _ (hOg_43.out.reads.wide (Nat.zero_le _) (by omega)) (hOl1_43.out.wide (Nat.zero_le _) (by omega)) (hOl2_43.out.wide (Nat.zero_le _) (by omega))).mono ?_
        rintro e w44 ⟨rfl, hb44⟩
        have hB44 := btr hB43 hb44
        have hS44 := hb44.size
        have hOk_44 := Lib.hid (hOk_43.out.below hb44 (by omega))
        have hOl1_44 := Lib.hid (hOl1_43.out.below hb44 (by omega))
        have hOl2_44 := Lib.hid (hOl2_43.out.below hb44 (by omega))
        have hOvk_44 := Lib.hid (hOvk_43.out.below hb44 )
        have hOx_44 := Lib.hid (hOx_43.out.below hb44 (by omega))
        have hOvx_44 := Lib.hid (hOvx_43.out.below hb44 )
        have hOuu_44 := Lib.hid (hOuu_43.out.below hb44 )
        have hOg_44 := Lib.hid (hOg_43.out.below hb44 (by omega))
        clear hOk_43 hOl1_43 hOl2_43 hOvk_43 hOx_43 hOvx_43 hOuu_43 hOg_43 hb44
        refine hK.out _ _ (⟨⟨hOvx_44.out.1, hOvx_44.out.2.1⟩, ⟨hOvk_44.out.1, hOvk_44.out.2.1⟩, ⟨hOuu_44.out.1, hOuu_44.out.2.1⟩⟩) ?_
        clear hK K
        repeat (first
          | (refine Ord.ord_plain (v := ?_) rfl (fun w' hS => ?_) ?_; rotate_left; (focus ((try dsimp only at hS); go_simp; first | done | with_reducible rfl)); simp only [Act.put, List.setIfInBounds_toArray, List.set_cons_zero, List.set_cons_succ])
          | (refine Ord.ord_skip (by rfl) ?_; simp only [Act.put, List.setIfInBounds_toArray, List.set_cons_zero, List.set_cons_succ])
          | (refine Ord.ord_take (v := ?_) (by rfl) (fun w' hS => ?_) ?_; rotate_left; (focus ((try dsimp only at hS); go_simp; first | done | with_reducible rfl)); simp only [Act.put, List.setIfInBounds_toArray, List.set_cons_zero, List.set_cons_succ]))
        clear hOg_44
        refine Ord.ord_call (fun K hK => ?_)
        go_simp
        refine (Kal.out _ (hOk_44.out.wide (Nat.zero_le _) (by omega))).mono ?_
        rintro e w45 ⟨A45', c45', B45', d45', rfl, ho45, hb45⟩
        have hB45 := btr hB44 hb45
        have hS45 := hb45.size
        have hOk_45 := Lib.hid (hOk_44.out.below hb45 (by omega))
        have hOl1_45 := Lib.hid (hOl1_44.out.below hb45 (by omega))
        have hOl2_45 := Lib.hid (hOl2_44.out.below hb45 (by omega))
        have hOvk_45 := Lib.hid (hOvk_44.out.below hb45 )
        have hOx_45 := Lib.hid (hOx_44.out.below hb45 (by omega))
        have hOvx_45 := Lib.hid (hOvx_44.out.below hb45 )
        have hOuu_45 := Lib.hid (hOuu_44.out.below hb45 )
        have hOg_45 := Lib.hid ho45
        clear hOk_44 hOl1_44 hOl2_44 hOvk_44 hOx_44 hOvx_44 hOuu_44 ho45 hb45
        refine hK.out _ _ (⟨⟨hOvx_45.out.1, hOvx_45.out.2.1⟩, ⟨hOvk_45.out.1, hOvk_45.out.2.1⟩, ⟨hOuu_45.out.1, hOuu_45.out.2.1⟩⟩) ?_
        clear hK K
        repeat (first
          | (refine Ord.ord_plain (v := ?_) rfl (fun w' hS => ?_) ?_; rotate_left; (focus ((try dsimp only at hS); go_simp; first | done | with_reducible rfl)); simp only [Act.put, List.setIfInBounds_toArray, List.set_cons_zero, List.set_cons_succ])
          | (refine Ord.ord_skip (by rfl) ?_; simp only [Act.put, List.setIfInBounds_toArray, List.set_cons_zero, List.set_cons_succ])
          | (refine Ord.ord_take (v := ?_) (by rfl) (fun w' hS => ?_) ?_; rotate_left; (focus ((try dsimp only at hS); go_simp; first | done | with_reducible rfl)); simp only [Act.put, List.setIfInBounds_toArray, List.set_cons_zero, List.set_cons_succ]))
        refine Ord.ord_call (fun K hK => ?_)
        go_simp
        refine (Ka.out _ _ _ _ _ (hOg_45.out.reads.wide (Nat.zero_le _) (by omega)) (hOl1_45.out.wide (Nat.zero_le _) (by omega)) (hOl2_45.out.wide (Nat.zero_le _) (by omega))).mono ?_
        rintro e w46 ⟨rfl, hb46⟩
        have hB46 := btr hB45 hb46
        have hS46 := hb46.size
        have hOk_46 := Lib.hid (hOk_45.out.below hb46 (by omega))
        have hOl1_46 := Lib.hid (hOl1_45.out.below hb46 (by omega))
        have hOl2_46 := Lib.hid (hOl2_45.out.below hb46 (by omega))
        have hOvk_46 := Lib.hid (hOvk_45.out.below hb46 )
        have hOx_46 := Lib.hid (hOx_45.out.below hb46 (by omega))
        have hOvx_46 := Lib.hid (hOvx_45.out.below hb46 )
        have hOuu_46 := Lib.hid (hOuu_45.out.below hb46 )
        have hOg_46 := Lib.hid (hOg_45.out.below hb46 (by omega))
        clear hOk_45 hOl1_45 hOl2_45 hOvk_45 hOx_45 hOvx_45 hOuu_45 hOg_45 hb46
        refine hK.out _ _ (⟨⟨hOvx_46.out.1, hOvx_46.out.2.1⟩, ⟨hOvk_46.out.1, hOvk_46.out.2.1⟩, ⟨hOuu_46.out.1, hOuu_46.out.2.1⟩⟩) ?_
        clear hK K
        repeat (first
          | (refine Ord.ord_plain (v := ?_) rfl (fun w' hS => ?_) ?_; rotate_left; (focus ((try dsimp only at hS); go_simp; first | done | with_reducible rfl)); simp only [Act.put, List.setIfInBounds_toArray, List.set_cons_zero, List.set_cons_succ])
          | (refine Ord.ord_skip (by rfl) ?_; simp only [Act.put, List.setIfInBounds_toArray, List.set_cons_zero, List.set_cons_succ])
          | (refine Ord.ord_take (v := ?_) (by rfl) (fun w' hS => ?_) ?_; rotate_left; (focus ((try dsimp only at hS); go_simp; first | done | with_reducible rfl)); simp only [Act.put, List.setIfInBounds_toArray, List.set_cons_zero, List.set_cons_succ]))
        clear hOg_46
        refine Ord.ord_call (fun K hK => ?_)
        go_simp
        refine (Kal.out _ (hOk_46.out.wide (Nat.zero_le _) (by omega))).mono ?_
        rintro e w47 ⟨A47', c47', B47', d47', rfl, ho47, hb47⟩
        have hB47 := btr hB46 hb47
        have hS47 := hb47.size
        have hOk_47 := Lib.hid (hOk_46.out.below hb47 (by omega))
        have hOl1_47 := Lib.hid (hOl1_46.out.below hb47 (by omega))
        have hOl2_47 := Lib.hid (hOl2_46.out.below hb47 (by omega))
        have hOvk_47 := Lib.hid (hOvk_46.out.below hb47 )
        have hOx_47 := Lib.hid (hOx_46.out.below hb47 (by omega))
        have hOvx_47 := Lib.hid (hOvx_46.out.below hb47 )
        have hOuu_47 := Lib.hid (hOuu_46.out.below hb47 )
        have hOg_47 := Lib.hid ho47
        clear hOk_46 hOl1_46 hOl2_46 hOvk_46 hOx_46 hOvx_46 hOuu_46 ho47 hb47
        refine hK.out _ _ (⟨⟨hOvx_47.out.1, hOvx_47.out.2.1⟩, ⟨hOvk_47.out.1, hOvk_47.out.2.1⟩, ⟨hOuu_47.out.1, hOuu_47.out.2.1⟩⟩) ?_
        clear hK K
        repeat (first
          | (refine Ord.ord_plain (v := ?_) rfl (fun w' hS => ?_) ?_; rotate_left; (focus ((try dsimp only at hS); go_simp; first | done | with_reducible rfl)); simp only [Act.put, List.setIfInBounds_toArray, List.set_cons_zero, List.set_cons_succ])
          | (refine Ord.ord_skip (by rfl) ?_; simp only [Act.put, List.setIfInBounds_toArray, List.set_cons_zero, List.set_cons_succ])
          | (refine Ord.ord_take (v := ?_) (by rfl) (fun w' hS => ?_) ?_; rotate_left; (focus ((try dsimp only at hS); go_simp; first | done | with_reducible rfl)); simp only [Act.put, List.setIfInBounds_toArray, List.set_cons_zero, List.set_cons_succ]))
        refine Ord.ord_call (fun K hK => ?_)
        go_simp
        refine (Kz.out _ _ _ _ 0 _ (hOg_47.out.reads.wide (Nat.zero_le _) (by omega))).mono ?_
        rintro e w48 ⟨rfl, hb48⟩
        have hB48 := btr hB47 hb48
        have hS48 := hb48.size
        have hOk_48 := Lib.hid (hOk_47.out.below hb48 (by omega))
        have hOl1_48 := Lib.hid (hOl1_47.out.below hb48 (by omega))
        have hOl2_48 := Lib.hid (hOl2_47.out.below hb48 (by omega))
        have hOvk_48 := Lib.hid (hOvk_47.out.below hb48 )
        have hOx_48 := Lib.hid (hOx_47.out.below hb48 (by omega))
        have hOvx_48 := Lib.hid (hOvx_47.out.below hb48 )
        have hOuu_48 := Lib.hid (hOuu_47.out.below hb48 )
        have hOg_48 := Lib.hid (hOg_47.out.below hb48 (by omega))
        clear hOk_47 hOl1_47 hOl2_47 hOvk_47 hOx_47 hOvx_47 hOuu_47 hOg_47 hb48
        refine hK.out _ _ (⟨⟨hOvx_48.out.1, hOvx_48.out.2.1⟩, ⟨hOvk_48.out.1, hOvk_48.out.2.1⟩, ⟨hOuu_48.out.1, hOuu_48.out.2.1⟩⟩) ?_
        clear hK K
        repeat (first
          | (refine Ord.ord_plain (v := ?_) rfl (fun w' hS => ?_) ?_; rotate_left; (focus ((try dsimp only at hS); go_simp; first | done | with_reducible rfl)); simp only [Act.put, List.setIfInBounds_toArray, List.set_cons_zero, List.set_cons_succ])
          | (refine Ord.ord_skip (by rfl) ?_; simp only [Act.put, List.setIfInBounds_toArray, List.set_cons_zero, List.set_cons_succ])
          | (refine Ord.ord_take (v := ?_) (by rfl) (fun w' hS => ?_) ?_; rotate_left; (focus ((try dsimp only at hS); go_simp; first | done | with_reducible rfl)); simp only [Act.put, List.setIfInBounds_toArray, List.set_cons_zero, List.set_cons_succ]))
        clear hOg_48
        refine Ord.ord_call (fun K hK => ?_)
        go_simp
        refine (Ks1.out _ (hOl1_48.out.wide (Nat.zero_le _) (by omega))).mono ?_
        rintro e w49 ⟨rfl, hb49⟩
        have hB49 := btr hB48 hb49
        have hS49 := hb49.size
        have hOk_49 := Lib.hid (hOk_48.out.below hb49 (by omega))
        have hOl1_49 := Lib.hid (hOl1_48.out.below hb49 (by omega))
        have hOl2_49 := Lib.hid (hOl2_48.out.below hb49 (by omega))
        have hOvk_49 := Lib.hid (hOvk_48.out.below hb49 )
        have hOx_49 := Lib.hid (hOx_48.out.below hb49 (by omega))
        have hOvx_49 := Lib.hid (hOvx_48.out.below hb49 )
        have hOuu_49 := Lib.hid (hOuu_48.out.below hb49 )
        clear hOk_48 hOl1_48 hOl2_48 hOvk_48 hOx_48 hOvx_48 hOuu_48 hb49
        refine hK.out _ _ (⟨⟨hOvx_49.out.1, hOvx_49.out.2.1⟩, ⟨hOvk_49.out.1, hOvk_49.out.2.1⟩, ⟨hOuu_49.out.1, hOuu_49.out.2.1⟩⟩) ?_
        clear hK K
        repeat (first
          | (refine Ord.ord_plain (v := ?_) rfl (fun w' hS => ?_) ?_; rotate_left; (focus ((try dsimp only at hS); go_simp; first | done | with_reducible rfl)); simp only [Act.put, List.setIfInBounds_toArray, List.set_cons_zero, List.set_cons_succ])
          | (refine Ord.ord_skip (by rfl) ?_; simp only [Act.put, List.setIfInBounds_toArray, List.set_cons_zero, List.set_cons_succ])
          | (refine Ord.ord_take (v := ?_) (by rfl) (fun w' hS => ?_) ?_; rotate_left; (focus ((try dsimp only at hS); go_simp; first | done | with_reducible rfl)); simp only [Act.put, List.setIfInBounds_toArray, List.set_cons_zero, List.set_cons_succ]))
        refine Ord.ord_call (fun K hK => ?_)
        go_simp
        refine (Ks2.out _ (hOl2_49.out.wide (Nat.zero_le _) (by omega))).mono ?_
        rintro e w50 ⟨rfl, hb50⟩
        have hB50 := btr hB49 hb50
        have hS50 := hb50.size
        have hOk_50 := Lib.hid (hOk_49.out.below hb50 (by omega))
        have hOl1_50 := Lib.hid (hOl1_49.out.below hb50 (by omega))
        have hOl2_50 := Lib.hid (hOl2_49.out.below hb50 (by omega))
        have hOvk_50 := Lib.hid (hOvk_49.out.below hb50 )
        have hOx_50 := Lib.hid (hOx_49.out.below hb50 (by omega))
        have hOvx_50 := Lib.hid (hOvx_49.out.below hb50 )
        have hOuu_50 := Lib.hid (hOuu_49.out.below hb50 )
        clear hOk_49 hOl1_49 hOl2_49 hOvk_49 hOx_49 hOvx_49 hOuu_49 hb50
        refine hK.out _ _ (⟨⟨hOvx_50.out.1, hOvx_50.out.2.1⟩, ⟨hOvk_50.out.1, hOvk_50.out.2.1⟩, ⟨hOuu_50.out.1, hOuu_50.out.2.1⟩⟩) ?_
        clear hK K
        repeat (first
          | (refine Ord.ord_plain (v := ?_) rfl (fun w' hS => ?_) ?_; rotate_left; (focus ((try dsimp only at hS); go_simp; first | done | with_reducible rfl)); simp only [Act.put, List.setIfInBounds_toArray, List.set_cons_zero, List.set_cons_succ])
          | (refine Ord.ord_skip (by rfl) ?_; simp only [Act.put, List.setIfInBounds_toArray, List.set_cons_zero, List.set_cons_succ])
          | (refine Ord.ord_take (v := ?_) (by rfl) (fun w' hS => ?_) ?_; rotate_left; (focus ((try dsimp only at hS); go_simp; first | done | with_reducible rfl)); simp only [Act.put, List.setIfInBounds_toArray, List.set_cons_zero, List.set_cons_succ]))
        refine Ord.ord_nil ?_
        go_wp2_with fail
        go_ret
        exact ⟨rfl, hB50⟩

/-! ### The row's step -/
set_option maxRecDepth 100000 in
theorem lifted (os : Os) (started : os.Started) (H : Type) (enc : TypeId × Value → H) :
    ReturnsInHanded {} Try.checked os 3 .any (Rows.fnKeptSpec.pre6 enc Try.prog Try.f3 Rows.fnKeptRow.domain false) (Rows.fnKeptSpec.post enc Try.prog Try.f3 false true false false) := by
  refine returnsInHanded_of_change (C := Try.checked) Base.own started (by kernel_rfl) Try.func3
    (ChangeSpec.witness6 (enc := enc) (C := Try.checked) false ⟨#[], #[.slice none 0 0], []⟩ 8 (by kernel_rfl) (by kernel_rfl) (by kernel_rfl) (by kernel_rfl)) ?_
  intro W base args ds gs before hval0 hW hcnd _
  have hval : ∀ (j : Nat) t v, Try.f3.params[j]? = some t → args[j]? = some v → Value.okWide Try.prog W .any base t v := hval0
  have hW' := hW
  obtain ⟨p, q, hA0, hV, rfl, hfz, hnd⟩ := hW
  have hA : DataW.TrodAll enc Try.prog W 0 (fun _ => true) true Try.f3.params.toList args.toList ds p := hA0
  have hA1 := hA
  rw [Try.params3] at hA hval
  obtain ⟨v0, vs0, d0, ds0, p0, q0, hargs, rfl, rfl, h0, r0⟩ := trodAll_cons hA
  obtain ⟨rfl, rfl, rfl⟩ := trodAll_nil r0
  obtain rfl : args = #[v0] := by cases args; simp_all
  obtain ⟨rfl, rfl⟩ := trodVars_none hV
  obtain ⟨A0, n0, c0, rfl, hn0, hcode0, _⟩ := Draw.open_code (hval 0 22 v0 rfl rfl) h0
  clear hA0 hval0
  rw [List.append_nil] at hW'
  refine (walk A0 n0 c0 hn0 hcode0).mono fun e W' ⟨he, hg⟩ => ?_
  subst he
  exact ⟨_, rfl, Mem.post_args Slots.laid (by kernel_rfl) rfl rfl rfl hW' hA1 hg (fun _ _ _ => (trodAll_cons_mk (shut_bool Try.underlying4 _) trodAll_mk0)) (ok_one (by kernel_rfl) rfl (okWide_bool_mk Try.underlying4 _))⟩

theorem over : Rows.fnKeptRow.holds Try.pinned (OpenSpec.ofChange Rows.fnKeptSpec) :=
  OpenClaim.holds_of_wide 3 Try.f3 rfl rfl rfl rfl rfl rfl rfl ⟨rfl, rfl, rfl, rfl, rfl⟩ rfl rfl rfl rfl rfl (by kernel_rfl) Try.func3 (by kernel_rfl)
    (of_decide_eq_true (by kernel_rfl)) (by unfold Func.isWrapper; first | (rw [if_pos (by decide +kernel)]; kernel_rfl) | (rw [if_neg (by decide +kernel)]; exact ⟨rfl, rfl⟩))
    (fun os started H enc _ => lifted os started H enc)

/-- The given statement. -/
theorem proved : Rows.FnKeptSaid :=
  over
#print axioms proved
end Go.Proofs.Ytfgckkgakghenaa.fnKept
