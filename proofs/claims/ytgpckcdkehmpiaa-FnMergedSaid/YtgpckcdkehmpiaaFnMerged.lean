/-
  For every slice of bytes the law FnMerged returns true: the merged block grants no more than that of the hypervisor, and each event has its owner. No condition.
-/
import Derived.Test.YtgpckcdkehmpiaaOwnImpl
import Derived.Test.YtgpckcdkehmpiaaOwnDraws
import Derived.Test.YtgpckcdkehmpiaaSameInts
import Derived.Test.YtgpckcdkehmpiaaOrdT
import Derived.Test.YtgpckcdkehmpiaaCode
import Derived.Test.YtgpckcdkehmpiaaBig
namespace Go.Proofs.Ytgpckcdkehmpiaa.fnMerged
set_option maxRecDepth 100000
open Go.ChangeShapes Go.WideShapes Go.ChangeAt Go.RowKit
open Go.Proofs.Ytgpckcdkehmpiaa.Base Go.Proofs.Ytgpckcdkehmpiaa.Mem Go.Proofs.Ytgpckcdkehmpiaa.Slots Go.Proofs.Ytgpckcdkehmpiaa.Ints Go.Proofs.Ytgpckcdkehmpiaa.Draw Go.Proofs.Ytgpckcdkehmpiaa.Ctls Go.Proofs.Ytgpckcdkehmpiaa.Owns Go.Proofs.Ytgpckcdkehmpiaa.SDraw
set_option linter.unusedVariables false
set_option linter.unusedSimpArgs false

theorem and_all : ∀ b : Fin 256, (bits .and .i64 (b.val : Int) (bits .xor .i64 255 (b.val : Int)) != 0) = false := by decide +kernel
theorem or_all : ∀ o a : Fin 4, ((bits .and .i64 (a.val : Int) (bits .xor .i64 3 (within (mergeT (o.val : Int) (a.val : Int)) 3)) != 0) = false) := by decide +kernel
theorem ok_range {a b : Int} {q : Bool} (h : ctlOk (a, b, q) = true) : (0 ≤ a ∧ a ≤ 3) ∧ (0 ≤ b ∧ b ≤ 255) := by
  unfold ctlOk ctlF at h
  dsimp only at h
  cases h1 : inB a 0 3
  · rw [h1] at h; simp at h
  · cases h2 : inB b 0 255
    · rw [h1, h2] at h; simp at h
    · exact ⟨inB_iff.1 h1, inB_iff.1 h2⟩
theorem grants_no {o a b : Int} {q : Bool} (ho : 0 ≤ o ∧ o ≤ 3) (h : ctlOk (a, b, q) = true) : grants (mergeT o a, b, q) (a, b, q) = false := by
  obtain ⟨ha, hb⟩ := ok_range h
  unfold grants
  dsimp only
  rw [show within a 3 = a from if_pos (inB_iff.2 ha), show within b 255 = b from if_pos (inB_iff.2 hb)]
  obtain ⟨x, rfl⟩ := Int.eq_ofNat_of_zero_le ho.1
  obtain ⟨y, rfl⟩ := Int.eq_ofNat_of_zero_le ha.1
  obtain ⟨z, rfl⟩ := Int.eq_ofNat_of_zero_le hb.1
  rw [show (bits .and .i64 ((y : Nat) : Int) (bits .xor .i64 3 (within (mergeT ((x : Nat) : Int) ((y : Nat) : Int)) 3)) != 0) = false from or_all ⟨x, by omega⟩ ⟨y, by omega⟩]
  rw [show (bits .and .i64 ((z : Nat) : Int) (bits .xor .i64 255 ((z : Nat) : Int)) != 0) = false from and_all ⟨z, by omega⟩]
  cases q <;> rfl
theorem owner_inner (o i t : Int) : (ownerOf o i t == 1) = hasTrap i t := by
  unfold ownerOf
  cases hasTrap i t
  · cases hasTrap o t <;> rfl
  · rfl

set_option maxRecDepth 100000 in
set_option maxHeartbeats 8000000 in
theorem walk (A : Option Addr) (n c : Nat) (hn : n ≤ maxLen) {w : World} (hcode : CodeAt w A n) :
    Calls Try.prog 3 #[.slice A n c] w fun e w' => e = .returned (.bool true) ∧ Below w.heap.size w w' := by
  have hn' : n ≤ 9223372036854775807 := hn
  have HC := Lib.hid (show ∀ W, Below w.heap.size w W → CodeAt W A n from fun W hb => hcode.below hb)
  clear hcode hn
  by_cases h1 : 1048576 < n
  · go_enter Try.func3, Try.ntmps3
    go_wp2_with (go_at_call 10; refine (big_yes A n c _ hn' h1).mono ?_; rintro e w' ⟨rfl, rfl⟩)
    go_ret
    exact ⟨rfl, Below.refl _ _⟩
  · have hn2 : n ≤ 1048576 := by omega
    clear h1 hn'
    go_enter Try.func3, Try.ntmps3
    go_wp2_with (go_at_call 10; refine (big_no A n c _ hn2).mono ?_; rintro e w' ⟨rfl, rfl⟩)
    go_wp2_with fail
    refine (drawMergedC_any A n c _ hn2 (HC.out _ (Below.refl _ _))).mono ?_
    rintro e w1 ⟨o, a, b, q, rfl, hwo, hws, hb1⟩
    have HWo := Lib.hid hwo
    have HWs := Lib.hid hws
    have hB1 := btr (Below.refl _ _) hb1
    have hS1 := hb1.size
    clear hwo hws hb1
    have hM1 := fun V : World => spec_mergedC o a b q V
    have hM2 := fun V : World => impl_mergedC o a b q V HWo.out HWs.out
    unfold CtlP mergedC at hM1 hM2
    dsimp only at hM1 hM2
    have hG3 := fun (ho : 0 ≤ o ∧ o ≤ 3) (h : ctlOk (a, b, q) = true) => grants_no ho h
    have hwm := mergeT_wf (a := o) (b := a)
    have hG4 := fun V : World => impl_grants (mergeT o a) b q a b q V ⟨hwm, HWs.out.2⟩ HWs.out
    have hOk := fun V : World => spec_ctlOk a b q V
    generalize mergeT o a = mm at hM1 hM2 hG3 hwm hG4
    generalize grants (mm, b, q) (a, b, q) = gq at hG3 hG4
    generalize ctlOk (a, b, q) = ok at hG3 hOk
    have HM1 := Lib.hid hM1
    have HM2 := Lib.hid hM2
    have HG3 := Lib.hid hG3
    have HG4 := Lib.hid hG4
    have HOK := Lib.hid hOk
    clear hM1 hM2 hG3 hG4 hOk hwm
    have hb2 : Below w1.heap.size w1 (w1.alloc (.cells #[.int .i64 a, .int .i64 b, .bool q] 25)) := (Below.refl _ _).alloc (Nat.le_refl _) _
    have hB2 := btr hB1 hb2
    have hS2 : w1.heap.size < (w1.alloc (.cells #[.int .i64 a, .int .i64 b, .bool q] 25)).heap.size := by simp
    have hOc_2 := Lib.hid (Var.new w1 [.int .i64 a, .int .i64 b, .bool q] 25)
    clear hb2
    have zc0 := hOc_2.out.cell 0 (v := .int .i64 a) rfl
    have zc1 := hOc_2.out.cell 1 (v := .int .i64 b) rfl
    have zc2 := hOc_2.out.cell 2 (v := .bool q) rfl
    go_wp2_with fail
    refine (HM2.out _).mono ?_
    rintro e w3 ⟨rfl, hb3⟩
    have hB3 := btr hB2 hb3
    have hS3 := hb3.size
    have hOc_3 := Lib.hid (hOc_2.out.below hb3 (by omega))
    clear hOc_2 hb3
    clear zc0 zc1 zc2
    have hb4 : Below w3.heap.size w3 (w3.alloc (.cells #[.int .i64 mm, .int .i64 b, .bool q] 25)) := (Below.refl _ _).alloc (Nat.le_refl _) _
    have hB4 := btr hB3 hb4
    have hS4 : w3.heap.size < (w3.alloc (.cells #[.int .i64 mm, .int .i64 b, .bool q] 25)).heap.size := by simp
    have hOc_4 := Lib.hid (hOc_3.out.below hb4 (by omega))
    have hOm_4 := Lib.hid (Var.new w3 [.int .i64 mm, .int .i64 b, .bool q] 25)
    clear hOc_3 hb4
    go_wp2_with fail
    refine (drawOwnerOf_any A n c _ hn2 (HC.out _ hB4)).mono ?_
    rintro e w5 ⟨a1, b1, tr, rfl, h1, h2, h3, hb5⟩
    have HWa := Lib.hid h1
    have HWb := Lib.hid h2
    have HWt := Lib.hid h3
    have hB5 := btr hB4 hb5
    have hS5 := hb5.size
    have hOc_5 := Lib.hid (hOc_4.out.below hb5 (by omega))
    have hOm_5 := Lib.hid (hOm_4.out.below hb5 (by omega))
    clear hOc_4 hOm_4 h1 h2 h3 hb5
    have hO1 := fun V : World => spec_ownerOf a1 b1 tr V
    have hO2 := fun V : World => impl_ownerOf a1 b1 tr V HWa.out HWb.out HWt.out
    have hin := owner_inner a1 b1 tr
    have hH := fun V : World => spec_hasTrap b1 tr V
    generalize ownerOf a1 b1 tr = k at hO1 hO2 hin
    generalize hasTrap b1 tr = hv at hin hH
    have HO1 := Lib.hid hO1
    have HO2 := Lib.hid hO2
    have HIN := Lib.hid hin
    have HH := Lib.hid hH
    clear hO1 hO2 hin hH
    go_wp2_with fail
    refine (HO2.out _).mono ?_
    rintro e w6 ⟨rfl, hb6⟩
    have hB6 := btr hB5 hb6
    have hS6 := hb6.size
    have hOc_6 := Lib.hid (hOc_5.out.below hb6 (by omega))
    have hOm_6 := Lib.hid (hOm_5.out.below hb6 (by omega))
    clear hOc_5 hOm_5 hb6
    go_wp2_with fail
    refine (drawOwnersOf_any A n c _ hn2 (HC.out _ hB6)).mono ?_
    rintro e w7 ⟨d, e2, rfl, h1, h2, hb7⟩
    have HWd := Lib.hid h1
    have HWe := Lib.hid h2
    have hB7 := btr hB6 hb7
    have hS7 := hb7.size
    have hOc_7 := Lib.hid (hOc_6.out.below hb7 (by omega))
    have hOm_7 := Lib.hid (hOm_6.out.below hb7 (by omega))
    clear hOc_6 hOm_6 h1 h2 hb7
    have hD1 := fun V : World => spec_ownersOf d e2 V
    have hD2 := fun V : World => impl_ownersOf d e2 V HWd.out HWe.out
    have hl2 : (ownersOf d e2).length = 2 := rfl
    generalize ownersOf d e2 = u at hD1 hD2 hl2
    have HU := Lib.hid hl2
    have hmN : 2 ≤ 1048576 := by omega
    have HD1 := Lib.hid hD1
    have HD2 := Lib.hid hD2
    clear hD1 hD2 hl2
    go_wp2_with fail
    refine (drawGrants_any A n c _ hn2 (HC.out _ hB7)).mono ?_
    rintro e w8 ⟨f0, f1, f2, g0, g1, g2, rfl, h1, h2, hb8⟩
    have HWf := Lib.hid h1
    have HWg := Lib.hid h2
    have hB8 := btr hB7 hb8
    have hS8 := hb8.size
    have hOc_8 := Lib.hid (hOc_7.out.below hb8 (by omega))
    have hOm_8 := Lib.hid (hOm_7.out.below hb8 (by omega))
    clear hOc_7 hOm_7 h1 h2 hb8
    have hR1 := fun V : World => spec_grants f0 f1 f2 g0 g1 g2 V
    have hR2 := fun V : World => impl_grants f0 f1 f2 g0 g1 g2 V HWf.out HWg.out
    generalize grants (f0, f1, f2) (g0, g1, g2) = gv at hR1 hR2
    have HR1 := Lib.hid hR1
    have HR2 := Lib.hid hR2
    clear hR1 hR2
    have hb9 : Below w8.heap.size w8 (w8.alloc (.cells #[.int .i64 f0, .int .i64 f1, .bool f2] 25)) := (Below.refl _ _).alloc (Nat.le_refl _) _
    have hB9 := btr hB8 hb9
    have hS9 : w8.heap.size < (w8.alloc (.cells #[.int .i64 f0, .int .i64 f1, .bool f2] 25)).heap.size := by simp
    have hOc_9 := Lib.hid (hOc_8.out.below hb9 (by omega))
    have hOm_9 := Lib.hid (hOm_8.out.below hb9 (by omega))
    have hOf_9 := Lib.hid (Var.new w8 [.int .i64 f0, .int .i64 f1, .bool f2] 25)
    clear hOc_8 hOm_8 hb9
    have hb10 : Below (w8.alloc (.cells #[.int .i64 f0, .int .i64 f1, .bool f2] 25)).heap.size (w8.alloc (.cells #[.int .i64 f0, .int .i64 f1, .bool f2] 25)) ((w8.alloc (.cells #[.int .i64 f0, .int .i64 f1, .bool f2] 25)).alloc (.cells #[.int .i64 g0, .int .i64 g1, .bool g2] 25)) := (Below.refl _ _).alloc (Nat.le_refl _) _
    have hB10 := btr hB9 hb10
    have hS10 : (w8.alloc (.cells #[.int .i64 f0, .int .i64 f1, .bool f2] 25)).heap.size < ((w8.alloc (.cells #[.int .i64 f0, .int .i64 f1, .bool f2] 25)).alloc (.cells #[.int .i64 g0, .int .i64 g1, .bool g2] 25)).heap.size := by simp
    have hOc_10 := Lib.hid (hOc_9.out.below hb10 (by omega))
    have hOm_10 := Lib.hid (hOm_9.out.below hb10 (by omega))
    have hOf_10 := Lib.hid (hOf_9.out.below hb10 (by omega))
    have hOg_10 := Lib.hid (Var.new (w8.alloc (.cells #[.int .i64 f0, .int .i64 f1, .bool f2] 25)) [.int .i64 g0, .int .i64 g1, .bool g2] 25)
    clear hOc_9 hOm_9 hOf_9 hb10
    rw [show (w8.alloc (.cells #[.int .i64 f0, .int .i64 f1, .bool f2] 25)).heap.size = w8.heap.size + 1 by simp] at hOg_10
    go_wp2_with fail
    refine (drawMergeT_any A n c _ hn2 (HC.out _ hB10)).mono ?_
    rintro e w11 ⟨x, y, rfl, h1, h2, hb11⟩
    have HWx := Lib.hid h1
    have HWy := Lib.hid h2
    have hB11 := btr hB10 hb11
    have hS11 := hb11.size
    have hOc_11 := Lib.hid (hOc_10.out.below hb11 (by omega))
    have hOm_11 := Lib.hid (hOm_10.out.below hb11 (by omega))
    have hOf_11 := Lib.hid (hOf_10.out.below hb11 (by omega))
    have hOg_11 := Lib.hid (hOg_10.out.below hb11 (by omega))
    clear hOc_10 hOm_10 hOf_10 hOg_10 h1 h2 hb11
    have hX1 := fun V : World => spec_mergeT x y V
    have hX2 := fun V : World => impl_mergeT x y V HWx.out HWy.out
    generalize mergeT x y = r at hX1 hX2
    have HX1 := Lib.hid hX1
    have HX2 := Lib.hid hX2
    clear hX1 hX2
    go_wp2_with fail
    refine Ord.wp_region_ord (fun w' => w'.cell? ⟨w1.heap.size, 0, none⟩ = some (.int .i64 a) ∧ w'.cell? ⟨w1.heap.size, 1, none⟩ = some (.int .i64 b) ∧ w'.cell? ⟨w1.heap.size, 2, none⟩ = some (.bool q) ∧ w'.cell? ⟨w3.heap.size, 0, none⟩ = some (.int .i64 mm) ∧ w'.cell? ⟨w3.heap.size, 1, none⟩ = some (.int .i64 b) ∧ w'.cell? ⟨w3.heap.size, 2, none⟩ = some (.bool q) ∧ w'.cell? ⟨w8.heap.size, 0, none⟩ = some (.int .i64 f0) ∧ w'.cell? ⟨w8.heap.size, 1, none⟩ = some (.int .i64 f1) ∧ w'.cell? ⟨w8.heap.size, 2, none⟩ = some (.bool f2) ∧ w'.cell? ⟨w8.heap.size + 1, 0, none⟩ = some (.int .i64 g0) ∧ w'.cell? ⟨w8.heap.size + 1, 1, none⟩ = some (.int .i64 g1) ∧ w'.cell? ⟨w8.heap.size + 1, 2, none⟩ = some (.bool g2)) [(0, true), (1, true), (2, true), (3, false), (4, true), (5, true), (6, true), (7, true), (8, true), (9, true), (10, false), (11, true), (12, true), (13, true), (14, true), (15, true), (17, true), (18, true), (16, false), (19, false), (20, false), (21, true), (22, true), (23, true), (24, true), (25, true), (27, true), (28, true), (26, false), (29, false), (30, true), (31, true), (32, true), (33, true), (34, true), (36, true), (37, true), (35, false), (38, false), (39, true), (40, true)] (by kernel_rfl) (by kernel_rfl) rfl (by kernel_rfl) (⟨hOc_11.out.cell 0 (v := .int .i64 a) rfl, hOc_11.out.cell 1 (v := .int .i64 b) rfl, hOc_11.out.cell 2 (v := .bool q) rfl, hOm_11.out.cell 0 (v := .int .i64 mm) rfl, hOm_11.out.cell 1 (v := .int .i64 b) rfl, hOm_11.out.cell 2 (v := .bool q) rfl, hOf_11.out.cell 0 (v := .int .i64 f0) rfl, hOf_11.out.cell 1 (v := .int .i64 f1) rfl, hOf_11.out.cell 2 (v := .bool f2) rfl, hOg_11.out.cell 0 (v := .int .i64 g0) rfl, hOg_11.out.cell 1 (v := .int .i64 g1) rfl, hOg_11.out.cell 2 (v := .bool g2) rfl⟩) ?_
    simp only [Ord.ordOps, List.getElem?_toArray, List.getElem?_cons_zero, List.getElem?_cons_succ]
    repeat (first
      | (refine Ord.ord_plain (v := ?_) rfl (fun w' hS => ?_) ?_; rotate_left; (focus ((try dsimp only at hS); go_simp; first | done | with_reducible rfl)); simp only [Act.put, List.setIfInBounds_toArray, List.set_cons_zero, List.set_cons_succ])
      | (refine Ord.ord_skip (by rfl) ?_; simp only [Act.put, List.setIfInBounds_toArray, List.set_cons_zero, List.set_cons_succ])
      | (refine Ord.ord_take (v := ?_) (by rfl) (fun w' hS => ?_) ?_; rotate_left; (focus ((try dsimp only at hS); go_simp; first | done | with_reducible rfl)); simp only [Act.put, List.setIfInBounds_toArray, List.set_cons_zero, List.set_cons_succ]))
    have hb12 : Below w11.heap.size w11 w11.drew := (Below.refl _ _).drew
    have hB12 := btr hB11 hb12
    have hS12 := hb12.size
    have hOc_12 := Lib.hid (hOc_11.out.below hb12 (by omega))
    have hOm_12 := Lib.hid (hOm_11.out.below hb12 (by omega))
    have hOf_12 := Lib.hid (hOf_11.out.below hb12 (by omega))
    have hOg_12 := Lib.hid (hOg_11.out.below hb12 (by omega))
    clear hOc_11 hOm_11 hOf_11 hOg_11 hb12
    refine Ord.ord_call (fun K hK => ?_)
    go_simp
    refine (HM1.out _).mono ?_
    rintro e w13 ⟨rfl, hb13⟩
    have hB13 := btr hB12 hb13
    have hS13 := hb13.size
    have hOc_13 := Lib.hid (hOc_12.out.below hb13 (by omega))
    have hOm_13 := Lib.hid (hOm_12.out.below hb13 (by omega))
    have hOf_13 := Lib.hid (hOf_12.out.below hb13 (by omega))
    have hOg_13 := Lib.hid (hOg_12.out.below hb13 (by omega))
    clear hOc_12 hOm_12 hOf_12 hOg_12 hb13
    refine hK.out _ _ (⟨hOc_13.out.cell 0 (v := .int .i64 a) rfl, hOc_13.out.cell 1 (v := .int .i64 b) rfl, hOc_13.out.cell 2 (v := .bool q) rfl, hOm_13.out.cell 0 (v := .int .i64 mm) rfl, hOm_13.out.cell 1 (v := .int .i64 b) rfl, hOm_13.out.cell 2 (v := .bool q) rfl, hOf_13.out.cell 0 (v := .int .i64 f0) rfl, hOf_13.out.cell 1 (v := .int .i64 f1) rfl, hOf_13.out.cell 2 (v := .bool f2) rfl, hOg_13.out.cell 0 (v := .int .i64 g0) rfl, hOg_13.out.cell 1 (v := .int .i64 g1) rfl, hOg_13.out.cell 2 (v := .bool g2) rfl⟩) ?_
    clear hK K
    repeat (first
      | (refine Ord.ord_plain (v := ?_) rfl (fun w' hS => ?_) ?_; rotate_left; (focus ((try dsimp only at hS); go_simp; first | done | with_reducible rfl)); simp only [Act.put, List.setIfInBounds_toArray, List.set_cons_zero, List.set_cons_succ])
      | (refine Ord.ord_skip (by rfl) ?_; simp only [Act.put, List.setIfInBounds_toArray, List.set_cons_zero, List.set_cons_succ])
      | (refine Ord.ord_take (v := ?_) (by rfl) (fun w' hS => ?_) ?_; rotate_left; (focus ((try dsimp only at hS); go_simp; first | done | with_reducible rfl)); simp only [Act.put, List.setIfInBounds_toArray, List.set_cons_zero, List.set_cons_succ]))
    refine Ord.ord_call (fun K hK => ?_)
    go_simp
    refine (HO1.out _).mono ?_
    rintro e w' ⟨rfl, rfl⟩
    refine hK.out _ _ (⟨hOc_13.out.cell 0 (v := .int .i64 a) rfl, hOc_13.out.cell 1 (v := .int .i64 b) rfl, hOc_13.out.cell 2 (v := .bool q) rfl, hOm_13.out.cell 0 (v := .int .i64 mm) rfl, hOm_13.out.cell 1 (v := .int .i64 b) rfl, hOm_13.out.cell 2 (v := .bool q) rfl, hOf_13.out.cell 0 (v := .int .i64 f0) rfl, hOf_13.out.cell 1 (v := .int .i64 f1) rfl, hOf_13.out.cell 2 (v := .bool f2) rfl, hOg_13.out.cell 0 (v := .int .i64 g0) rfl, hOg_13.out.cell 1 (v := .int .i64 g1) rfl, hOg_13.out.cell 2 (v := .bool g2) rfl⟩) ?_
    clear hK K
    repeat (first
      | (refine Ord.ord_plain (v := ?_) rfl (fun w' hS => ?_) ?_; rotate_left; (focus ((try dsimp only at hS); go_simp; first | done | with_reducible rfl)); simp only [Act.put, List.setIfInBounds_toArray, List.set_cons_zero, List.set_cons_succ])
      | (refine Ord.ord_skip (by rfl) ?_; simp only [Act.put, List.setIfInBounds_toArray, List.set_cons_zero, List.set_cons_succ])
      | (refine Ord.ord_take (v := ?_) (by rfl) (fun w' hS => ?_) ?_; rotate_left; (focus ((try dsimp only at hS); go_simp; first | done | with_reducible rfl)); simp only [Act.put, List.setIfInBounds_toArray, List.set_cons_zero, List.set_cons_succ]))
    refine Ord.ord_call (fun K hK => ?_)
    go_simp
    refine (HD2.out _).mono ?_
    rintro e w14 ⟨A14', n14', c14', rfl, hl14, ho14, hb14⟩
    have he14 := HU.out.symm.trans hl14
    subst he14
    have hB14 := btr hB13 hb14
    have hS14 := hb14.size
    have hOc_14 := Lib.hid (hOc_13.out.below hb14 (by omega))
    have hOm_14 := Lib.hid (hOm_13.out.below hb14 (by omega))
    have hOf_14 := Lib.hid (hOf_13.out.below hb14 (by omega))
    have hOg_14 := Lib.hid (hOg_13.out.below hb14 (by omega))
    have hOto_14 := Lib.hid ho14
    clear hOc_13 hOm_13 hOf_13 hOg_13 hl14 ho14 hb14
    refine hK.out _ _ (⟨hOc_14.out.cell 0 (v := .int .i64 a) rfl, hOc_14.out.cell 1 (v := .int .i64 b) rfl, hOc_14.out.cell 2 (v := .bool q) rfl, hOm_14.out.cell 0 (v := .int .i64 mm) rfl, hOm_14.out.cell 1 (v := .int .i64 b) rfl, hOm_14.out.cell 2 (v := .bool q) rfl, hOf_14.out.cell 0 (v := .int .i64 f0) rfl, hOf_14.out.cell 1 (v := .int .i64 f1) rfl, hOf_14.out.cell 2 (v := .bool f2) rfl, hOg_14.out.cell 0 (v := .int .i64 g0) rfl, hOg_14.out.cell 1 (v := .int .i64 g1) rfl, hOg_14.out.cell 2 (v := .bool g2) rfl⟩) ?_
    clear hK K
    repeat (first
      | (refine Ord.ord_plain (v := ?_) rfl (fun w' hS => ?_) ?_; rotate_left; (focus ((try dsimp only at hS); go_simp; first | done | with_reducible rfl)); simp only [Act.put, List.setIfInBounds_toArray, List.set_cons_zero, List.set_cons_succ])
      | (refine Ord.ord_skip (by rfl) ?_; simp only [Act.put, List.setIfInBounds_toArray, List.set_cons_zero, List.set_cons_succ])
      | (refine Ord.ord_take (v := ?_) (by rfl) (fun w' hS => ?_) ?_; rotate_left; (focus ((try dsimp only at hS); go_simp; first | done | with_reducible rfl)); simp only [Act.put, List.setIfInBounds_toArray, List.set_cons_zero, List.set_cons_succ]))
    refine Ord.ord_call (fun K hK => ?_)
    go_simp
    refine (HD1.out _).mono ?_
    rintro e w15 ⟨A15', n15', c15', rfl, hl15, ho15, hb15⟩
    have he15 := HU.out.symm.trans hl15
    subst he15
    have hB15 := btr hB14 hb15
    have hS15 := hb15.size
    have hOc_15 := Lib.hid (hOc_14.out.below hb15 (by omega))
    have hOm_15 := Lib.hid (hOm_14.out.below hb15 (by omega))
    have hOf_15 := Lib.hid (hOf_14.out.below hb15 (by omega))
    have hOg_15 := Lib.hid (hOg_14.out.below hb15 (by omega))
    have hOto_15 := Lib.hid (hOto_14.out.below hb15 (by omega))
    have hOts_15 := Lib.hid ho15
    clear hOc_14 hOm_14 hOf_14 hOg_14 hOto_14 hl15 ho15 hb15
    refine hK.out _ _ (⟨hOc_15.out.cell 0 (v := .int .i64 a) rfl, hOc_15.out.cell 1 (v := .int .i64 b) rfl, hOc_15.out.cell 2 (v := .bool q) rfl, hOm_15.out.cell 0 (v := .int .i64 mm) rfl, hOm_15.out.cell 1 (v := .int .i64 b) rfl, hOm_15.out.cell 2 (v := .bool q) rfl, hOf_15.out.cell 0 (v := .int .i64 f0) rfl, hOf_15.out.cell 1 (v := .int .i64 f1) rfl, hOf_15.out.cell 2 (v := .bool f2) rfl, hOg_15.out.cell 0 (v := .int .i64 g0) rfl, hOg_15.out.cell 1 (v := .int .i64 g1) rfl, hOg_15.out.cell 2 (v := .bool g2) rfl⟩) ?_
    clear hK K
    repeat (first
      | (refine Ord.ord_plain (v := ?_) rfl (fun w' hS => ?_) ?_; rotate_left; (focus ((try dsimp only at hS); go_simp; first | done | with_reducible rfl)); simp only [Act.put, List.setIfInBounds_toArray, List.set_cons_zero, List.set_cons_succ])
      | (refine Ord.ord_skip (by rfl) ?_; simp only [Act.put, List.setIfInBounds_toArray, List.set_cons_zero, List.set_cons_succ])
      | (refine Ord.ord_take (v := ?_) (by rfl) (fun w' hS => ?_) ?_; rotate_left; (focus ((try dsimp only at hS); go_simp; first | done | with_reducible rfl)); simp only [Act.put, List.setIfInBounds_toArray, List.set_cons_zero, List.set_cons_succ]))
    refine Ord.ord_call (fun K hK => ?_)
    go_simp
    refine (sameInts_same A14' A15' 2 c14' c15' _ _ _ _ u _ hmN HU.out hOto_15.out.1 hOts_15.out.1).mono ?_
    rintro e w16 ⟨rfl, hb16⟩
    have hB16 := btr hB15 hb16
    have hS16 := hb16.size
    have hOc_16 := Lib.hid (hOc_15.out.below hb16 (by omega))
    have hOm_16 := Lib.hid (hOm_15.out.below hb16 (by omega))
    have hOf_16 := Lib.hid (hOf_15.out.below hb16 (by omega))
    have hOg_16 := Lib.hid (hOg_15.out.below hb16 (by omega))
    have hOto_16 := Lib.hid (hOto_15.out.below hb16 (by omega))
    have hOts_16 := Lib.hid (hOts_15.out.below hb16 (by omega))
    clear hOc_15 hOm_15 hOf_15 hOg_15 hOto_15 hOts_15 hb16
    refine hK.out _ _ (⟨hOc_16.out.cell 0 (v := .int .i64 a) rfl, hOc_16.out.cell 1 (v := .int .i64 b) rfl, hOc_16.out.cell 2 (v := .bool q) rfl, hOm_16.out.cell 0 (v := .int .i64 mm) rfl, hOm_16.out.cell 1 (v := .int .i64 b) rfl, hOm_16.out.cell 2 (v := .bool q) rfl, hOf_16.out.cell 0 (v := .int .i64 f0) rfl, hOf_16.out.cell 1 (v := .int .i64 f1) rfl, hOf_16.out.cell 2 (v := .bool f2) rfl, hOg_16.out.cell 0 (v := .int .i64 g0) rfl, hOg_16.out.cell 1 (v := .int .i64 g1) rfl, hOg_16.out.cell 2 (v := .bool g2) rfl⟩) ?_
    clear hK K
    repeat (first
      | (refine Ord.ord_plain (v := ?_) rfl (fun w' hS => ?_) ?_; rotate_left; (focus ((try dsimp only at hS); go_simp; first | done | with_reducible rfl)); simp only [Act.put, List.setIfInBounds_toArray, List.set_cons_zero, List.set_cons_succ])
      | (refine Ord.ord_skip (by rfl) ?_; simp only [Act.put, List.setIfInBounds_toArray, List.set_cons_zero, List.set_cons_succ])
      | (refine Ord.ord_take (v := ?_) (by rfl) (fun w' hS => ?_) ?_; rotate_left; (focus ((try dsimp only at hS); go_simp; first | done | with_reducible rfl)); simp only [Act.put, List.setIfInBounds_toArray, List.set_cons_zero, List.set_cons_succ]))
    clear hOto_16
    clear hOts_16
    refine Ord.ord_call (fun K hK => ?_)
    go_simp
    refine (HR2.out _).mono ?_
    rintro e w17 ⟨rfl, hb17⟩
    have hB17 := btr hB16 hb17
    have hS17 := hb17.size
    have hOc_17 := Lib.hid (hOc_16.out.below hb17 (by omega))
    have hOm_17 := Lib.hid (hOm_16.out.below hb17 (by omega))
    have hOf_17 := Lib.hid (hOf_16.out.below hb17 (by omega))
    have hOg_17 := Lib.hid (hOg_16.out.below hb17 (by omega))
    clear hOc_16 hOm_16 hOf_16 hOg_16 hb17
    refine hK.out _ _ (⟨hOc_17.out.cell 0 (v := .int .i64 a) rfl, hOc_17.out.cell 1 (v := .int .i64 b) rfl, hOc_17.out.cell 2 (v := .bool q) rfl, hOm_17.out.cell 0 (v := .int .i64 mm) rfl, hOm_17.out.cell 1 (v := .int .i64 b) rfl, hOm_17.out.cell 2 (v := .bool q) rfl, hOf_17.out.cell 0 (v := .int .i64 f0) rfl, hOf_17.out.cell 1 (v := .int .i64 f1) rfl, hOf_17.out.cell 2 (v := .bool f2) rfl, hOg_17.out.cell 0 (v := .int .i64 g0) rfl, hOg_17.out.cell 1 (v := .int .i64 g1) rfl, hOg_17.out.cell 2 (v := .bool g2) rfl⟩) ?_
    clear hK K
    repeat (first
      | (refine Ord.ord_plain (v := ?_) rfl (fun w' hS => ?_) ?_; rotate_left; (focus ((try dsimp only at hS); go_simp; first | done | with_reducible rfl)); simp only [Act.put, List.setIfInBounds_toArray, List.set_cons_zero, List.set_cons_succ])
      | (refine Ord.ord_skip (by rfl) ?_; simp only [Act.put, List.setIfInBounds_toArray, List.set_cons_zero, List.set_cons_succ])
      | (refine Ord.ord_take (v := ?_) (by rfl) (fun w' hS => ?_) ?_; rotate_left; (focus ((try dsimp only at hS); go_simp; first | done | with_reducible rfl)); simp only [Act.put, List.setIfInBounds_toArray, List.set_cons_zero, List.set_cons_succ]))
    refine Ord.ord_call (fun K hK => ?_)
    go_simp
    refine (HR1.out _).mono ?_
    rintro e w18 ⟨rfl, hb18⟩
    have hB18 := btr hB17 hb18
    have hS18 := hb18.size
    have hOc_18 := Lib.hid (hOc_17.out.below hb18 (by omega))
    have hOm_18 := Lib.hid (hOm_17.out.below hb18 (by omega))
    have hOf_18 := Lib.hid (hOf_17.out.below hb18 (by omega))
    have hOg_18 := Lib.hid (hOg_17.out.below hb18 (by omega))
    clear hOc_17 hOm_17 hOf_17 hOg_17 hb18
    refine hK.out _ _ (⟨hOc_18.out.cell 0 (v := .int .i64 a) rfl, hOc_18.out.cell 1 (v := .int .i64 b) rfl, hOc_18.out.cell 2 (v := .bool q) rfl, hOm_18.out.cell 0 (v := .int .i64 mm) rfl, hOm_18.out.cell 1 (v := .int .i64 b) rfl, hOm_18.out.cell 2 (v := .bool q) rfl, hOf_18.out.cell 0 (v := .int .i64 f0) rfl, hOf_18.out.cell 1 (v := .int .i64 f1) rfl, hOf_18.out.cell 2 (v := .bool f2) rfl, hOg_18.out.cell 0 (v := .int .i64 g0) rfl, hOg_18.out.cell 1 (v := .int .i64 g1) rfl, hOg_18.out.cell 2 (v := .bool g2) rfl⟩) ?_
    clear hK K
    repeat (first
      | (refine Ord.ord_plain (v := ?_) rfl (fun w' hS => ?_) ?_; rotate_left; (focus ((try dsimp only at hS); go_simp; first | done | with_reducible rfl)); simp only [Act.put, List.setIfInBounds_toArray, List.set_cons_zero, List.set_cons_succ])
      | (refine Ord.ord_skip (by rfl) ?_; simp only [Act.put, List.setIfInBounds_toArray, List.set_cons_zero, List.set_cons_succ])
      | (refine Ord.ord_take (v := ?_) (by rfl) (fun w' hS => ?_) ?_; rotate_left; (focus ((try dsimp only at hS); go_simp; first | done | with_reducible rfl)); simp only [Act.put, List.setIfInBounds_toArray, List.set_cons_zero, List.set_cons_succ]))
    refine Ord.ord_call (fun K hK => ?_)
    go_simp
    refine (HX2.out _).mono ?_
    rintro e w19 ⟨rfl, hb19⟩
    have hB19 := btr hB18 hb19
    have hS19 := hb19.size
    have hOc_19 := Lib.hid (hOc_18.out.below hb19 (by omega))
    have hOm_19 := Lib.hid (hOm_18.out.below hb19 (by omega))
    have hOf_19 := Lib.hid (hOf_18.out.below hb19 (by omega))
    have hOg_19 := Lib.hid (hOg_18.out.below hb19 (by omega))
    clear hOc_18 hOm_18 hOf_18 hOg_18 hb19
    refine hK.out _ _ (⟨hOc_19.out.cell 0 (v := .int .i64 a) rfl, hOc_19.out.cell 1 (v := .int .i64 b) rfl, hOc_19.out.cell 2 (v := .bool q) rfl, hOm_19.out.cell 0 (v := .int .i64 mm) rfl, hOm_19.out.cell 1 (v := .int .i64 b) rfl, hOm_19.out.cell 2 (v := .bool q) rfl, hOf_19.out.cell 0 (v := .int .i64 f0) rfl, hOf_19.out.cell 1 (v := .int .i64 f1) rfl, hOf_19.out.cell 2 (v := .bool f2) rfl, hOg_19.out.cell 0 (v := .int .i64 g0) rfl, hOg_19.out.cell 1 (v := .int .i64 g1) rfl, hOg_19.out.cell 2 (v := .bool g2) rfl⟩) ?_
    clear hK K
    repeat (first
      | (refine Ord.ord_plain (v := ?_) rfl (fun w' hS => ?_) ?_; rotate_left; (focus ((try dsimp only at hS); go_simp; first | done | with_reducible rfl)); simp only [Act.put, List.setIfInBounds_toArray, List.set_cons_zero, List.set_cons_succ])
      | (refine Ord.ord_skip (by rfl) ?_; simp only [Act.put, List.setIfInBounds_toArray, List.set_cons_zero, List.set_cons_succ])
      | (refine Ord.ord_take (v := ?_) (by rfl) (fun w' hS => ?_) ?_; rotate_left; (focus ((try dsimp only at hS); go_simp; first | done | with_reducible rfl)); simp only [Act.put, List.setIfInBounds_toArray, List.set_cons_zero, List.set_cons_succ]))
    refine Ord.ord_call (fun K hK => ?_)
    go_simp
    refine (HX1.out _).mono ?_
    rintro e w' ⟨rfl, rfl⟩
    refine hK.out _ _ (⟨hOc_19.out.cell 0 (v := .int .i64 a) rfl, hOc_19.out.cell 1 (v := .int .i64 b) rfl, hOc_19.out.cell 2 (v := .bool q) rfl, hOm_19.out.cell 0 (v := .int .i64 mm) rfl, hOm_19.out.cell 1 (v := .int .i64 b) rfl, hOm_19.out.cell 2 (v := .bool q) rfl, hOf_19.out.cell 0 (v := .int .i64 f0) rfl, hOf_19.out.cell 1 (v := .int .i64 f1) rfl, hOf_19.out.cell 2 (v := .bool f2) rfl, hOg_19.out.cell 0 (v := .int .i64 g0) rfl, hOg_19.out.cell 1 (v := .int .i64 g1) rfl, hOg_19.out.cell 2 (v := .bool g2) rfl⟩) ?_
    clear hK K
    repeat (first
      | (refine Ord.ord_plain (v := ?_) rfl (fun w' hS => ?_) ?_; rotate_left; (focus ((try dsimp only at hS); go_simp; first | done | with_reducible rfl)); simp only [Act.put, List.setIfInBounds_toArray, List.set_cons_zero, List.set_cons_succ])
      | (refine Ord.ord_skip (by rfl) ?_; simp only [Act.put, List.setIfInBounds_toArray, List.set_cons_zero, List.set_cons_succ])
      | (refine Ord.ord_take (v := ?_) (by rfl) (fun w' hS => ?_) ?_; rotate_left; (focus ((try dsimp only at hS); go_simp; first | done | with_reducible rfl)); simp only [Act.put, List.setIfInBounds_toArray, List.set_cons_zero, List.set_cons_succ]))
    refine Ord.ord_nil ?_
    clear hOf_19
    clear hOg_19
    have HI := Lib.hid HIN.out
    have hP1 := fun V : World => impl_ownerOf 1 0 1 V (by decide) (by decide) (by decide)
    rw [show ownerOf 1 0 1 = 2 from by decide] at hP1
    have hP2 := fun V : World => impl_ownerOf 1 1 1 V (by decide) (by decide) (by decide)
    rw [show ownerOf 1 1 1 = 1 from by decide] at hP2
    have HP1 := Lib.hid hP1
    have HP2 := Lib.hid hP2
    clear hP1 hP2
    by_cases ho1 : o < 0
    · clear hOc_19
      clear hOm_19
      have hki := HIN.out
      go_wp2_with fail
      refine (HH.out _).mono ?_
      rintro e w' ⟨rfl, rfl⟩
      go_wp2_with fail
      refine (HP1.out _).mono ?_
      rintro e w20 ⟨rfl, hb20⟩
      have hB20 := btr hB19 hb20
      have hS20 := hb20.size
      clear hb20
      go_wp2_with fail
      refine (HP2.out _).mono ?_
      rintro e w21 ⟨rfl, hb21⟩
      have hB21 := btr hB20 hb21
      have hS21 := hb21.size
      clear hb21
      go_wp2_with fail
      go_ret
      exact ⟨rfl, hB21⟩
    · by_cases ho2 : 3 < o
      · clear hOc_19
        clear hOm_19
        have hki := HIN.out
        go_wp2_with fail
        refine (HH.out _).mono ?_
        rintro e w' ⟨rfl, rfl⟩
        go_wp2_with fail
        refine (HP1.out _).mono ?_
        rintro e w20 ⟨rfl, hb20⟩
        have hB20 := btr hB19 hb20
        have hS20 := hb20.size
        clear hb20
        go_wp2_with fail
        refine (HP2.out _).mono ?_
        rintro e w21 ⟨rfl, hb21⟩
        have hB21 := btr hB20 hb21
        have hS21 := hb21.size
        clear hb21
        go_wp2_with fail
        go_ret
        exact ⟨rfl, hB21⟩
      · have hog := HG3.out ⟨by omega, by omega⟩
        cases ok
        · clear hog
          have zc0 := hOc_19.out.cell 0 (v := .int .i64 a) rfl
          have zc1 := hOc_19.out.cell 1 (v := .int .i64 b) rfl
          have zc2 := hOc_19.out.cell 2 (v := .bool q) rfl
          go_wp2_with fail
          refine (HOK.out _).mono ?_
          rintro e w20 ⟨rfl, hb20⟩
          have hB20 := btr hB19 hb20
          have hS20 := hb20.size
          have hOc_20 := Lib.hid (hOc_19.out.below hb20 (by omega))
          have hOm_20 := Lib.hid (hOm_19.out.below hb20 (by omega))
          clear hOc_19 hOm_19 hb20
          clear zc0 zc1 zc2
          clear hOc_20
          clear hOm_20
          have hki := HIN.out
          go_wp2_with fail
          refine (HH.out _).mono ?_
          rintro e w' ⟨rfl, rfl⟩
          go_wp2_with fail
          refine (HP1.out _).mono ?_
          rintro e w21 ⟨rfl, hb21⟩
          have hB21 := btr hB20 hb21
          have hS21 := hb21.size
          clear hb21
          go_wp2_with fail
          refine (HP2.out _).mono ?_
          rintro e w22 ⟨rfl, hb22⟩
          have hB22 := btr hB21 hb22
          have hS22 := hb22.size
          clear hb22
          go_wp2_with fail
          go_ret
          exact ⟨rfl, hB22⟩
        · obtain rfl := hog rfl
          have zc0 := hOc_19.out.cell 0 (v := .int .i64 a) rfl
          have zc1 := hOc_19.out.cell 1 (v := .int .i64 b) rfl
          have zc2 := hOc_19.out.cell 2 (v := .bool q) rfl
          go_wp2_with fail
          refine (HOK.out _).mono ?_
          rintro e w20 ⟨rfl, hb20⟩
          have hB20 := btr hB19 hb20
          have hS20 := hb20.size
          have hOc_20 := Lib.hid (hOc_19.out.below hb20 (by omega))
          have hOm_20 := Lib.hid (hOm_19.out.below hb20 (by omega))
          clear hOc_19 hOm_19 hb20
          clear zc0 zc1 zc2
          have zc0 := hOc_20.out.cell 0 (v := .int .i64 a) rfl
          have zc1 := hOc_20.out.cell 1 (v := .int .i64 b) rfl
          have zc2 := hOc_20.out.cell 2 (v := .bool q) rfl
          have zm0 := hOm_20.out.cell 0 (v := .int .i64 mm) rfl
          have zm1 := hOm_20.out.cell 1 (v := .int .i64 b) rfl
          have zm2 := hOm_20.out.cell 2 (v := .bool q) rfl
          go_wp2_with fail
          refine (HG4.out _).mono ?_
          rintro e w21 ⟨rfl, hb21⟩
          have hB21 := btr hB20 hb21
          have hS21 := hb21.size
          have hOc_21 := Lib.hid (hOc_20.out.below hb21 (by omega))
          have hOm_21 := Lib.hid (hOm_20.out.below hb21 (by omega))
          clear hOc_20 hOm_20 hb21
          clear zc0 zc1 zc2 zm0 zm1 zm2
          clear hOc_21
          clear hOm_21
          have hki := HIN.out
          go_wp2_with fail
          refine (HH.out _).mono ?_
          rintro e w' ⟨rfl, rfl⟩
          go_wp2_with fail
          refine (HP1.out _).mono ?_
          rintro e w22 ⟨rfl, hb22⟩
          have hB22 := btr hB21 hb22
          have hS22 := hb22.size
          clear hb22
          go_wp2_with fail
          refine (HP2.out _).mono ?_
          rintro e w23 ⟨rfl, hb23⟩
          have hB23 := btr hB22 hb23
          have hS23 := hb23.size
          clear hb23
          go_wp2_with fail
          go_ret
          exact ⟨rfl, hB23⟩

/-! ### The row's step -/
set_option maxRecDepth 100000 in
theorem lifted (os : Os) (started : os.Started) (H : Type) (enc : TypeId × Value → H) :
    ReturnsInHanded {} Try.checked os 3 .any (Rows.fnMergedSpec.pre6 enc Try.prog Try.f3 Rows.fnMergedRow.domain false) (Rows.fnMergedSpec.post enc Try.prog Try.f3 false true false false) := by
  refine returnsInHanded_of_change (C := Try.checked) Base.own started (by kernel_rfl) Try.func3
    (ChangeSpec.witness6 (enc := enc) (C := Try.checked) false ⟨#[], #[.slice none 0 0], []⟩ 8 (by kernel_rfl) (by kernel_rfl) (by kernel_rfl) (by kernel_rfl)) ?_
  intro W base args ds gs before hval0 hW hcnd _
  have hval : ∀ (j : Nat) t v, Try.f3.params[j]? = some t → args[j]? = some v → Value.okWide Try.prog W .any base t v := hval0
  have hW' := hW
  obtain ⟨p, q, hA0, hV, rfl, hfz, hnd⟩ := hW
  have hA : DataW.TrodAll enc Try.prog W 0 (fun _ => true) true Try.f3.params.toList args.toList ds p := hA0
  have hA1 := hA
  rw [Try.params3] at hA hval
  obtain ⟨v0, vs0, d0, ds0, p0, q0, hargs, rfl, rfl, h0, r0⟩ := trodAll_cons hA
  obtain ⟨rfl, rfl, rfl⟩ := trodAll_nil r0
  obtain rfl : args = #[v0] := by cases args; simp_all
  obtain ⟨rfl, rfl⟩ := trodVars_none hV
  obtain ⟨A0, n0, c0, rfl, hn0, hcode0, _⟩ := Draw.open_code (hval 0 22 v0 rfl rfl) h0
  clear hA0 hval0
  rw [List.append_nil] at hW'
  refine (walk A0 n0 c0 hn0 hcode0).mono fun e W' ⟨he, hg⟩ => ?_
  subst he
  exact ⟨_, rfl, Mem.post_args Slots.laid (by kernel_rfl) rfl rfl rfl hW' hA1 hg (fun _ _ _ => (trodAll_cons_mk (shut_bool Try.underlying4 _) trodAll_mk0)) (ok_one (by kernel_rfl) rfl (okWide_bool_mk Try.underlying4 _))⟩

theorem over : Rows.fnMergedRow.holds Try.pinned (OpenSpec.ofChange Rows.fnMergedSpec) :=
  OpenClaim.holds_of_wide 3 Try.f3 rfl rfl rfl rfl rfl rfl rfl ⟨rfl, rfl, rfl, rfl, rfl⟩ rfl rfl rfl rfl rfl (by kernel_rfl) Try.func3 (by kernel_rfl)
    (of_decide_eq_true (by kernel_rfl)) (by unfold Func.isWrapper; first | (rw [if_pos (by decide +kernel)]; kernel_rfl) | (rw [if_neg (by decide +kernel)]; exact ⟨rfl, rfl⟩))
    (fun os started H enc _ => lifted os started H enc)

/-- The given statement. -/
theorem proved : Rows.FnMergedSaid :=
  over
#print axioms proved
end Go.Proofs.Ytgpckcdkehmpiaa.fnMerged
