/-
  For every slice of bytes the law FnExits returns true: the makers of exits set their fields, and an exit is right just when they are within their ranges. The tables of strconv, math/bits and the project that the row lists are tied to the program's text by the given card (over the pruned copy of the project that the seat holds). No other condition.
-/
import Derived.Test.YtikamndjelamgaaDoorCards
import Derived.Test.YtikamndjelamgaaDoorTie
import Derived.Test.YtikamndjelamgaaDoorExitImpl
import Derived.Test.YtikamndjelamgaaDoorExitImplD
import Derived.Test.YtikamndjelamgaaDoorExitDraws
import Derived.Test.YtikamndjelamgaaDoorCode
import Derived.Test.YtikamndjelamgaaDoorBig
import Derived.Deep.DeepHandedRow
import Derived.Deep.DeepWitnessRowRef
import Derived.Deep.RegionHeld3
import Derived.Lay
namespace Go.Proofs.YtikamndjelamgaaDoor.fnExits
set_option maxRecDepth 100000
open Go.ChangeShapes Go.WideShapes Go.ChangeAt Go.RowKit
open Go.Proofs.YtikamndjelamgaaDoor.Base Go.Proofs.YtikamndjelamgaaDoor.Mem Go.Proofs.YtikamndjelamgaaDoor.Slots Go.Proofs.YtikamndjelamgaaDoor.Ints Go.Proofs.YtikamndjelamgaaDoor.Draw Go.Proofs.YtikamndjelamgaaDoor.Exits
set_option linter.unusedVariables false
set_option linter.unusedSimpArgs false

theorem facts {W : World} (h : laidMetH Tryd.prog Rows.fnExitsRow.laid W) : ExF W := by
  have h' : laidMet Tryd.prog Rows.fnExitsRow.laid W := h
  exact ⟨Laid.pow_of_head h'.tail.tail, ex_tab h'.tail.tail.tail⟩

theorem ok_fault (p : Int) (q : Bool) : exitOk (1, p, q, 0) = inB p 0 3 := by
  show (inB p 0 3 && ((0 : Int) == 0)) = _
  exact Bool.and_true _
theorem ok_call (n : Int) : exitOk (2, 0, false, n) = inB n 0 99 := by
  show (inB n 0 99 && ((0 : Int) == 0) && (!false)) = _
  rw [show ((0 : Int) == 0) = true from rfl, Bool.and_true]; exact Bool.and_true _
theorem wf_12 : (Lit.int .i64 1).wf = true ∧ (Lit.int .i64 2).wf = true ∧ (Lit.int .i64 3).wf = true := by decide

set_option maxRecDepth 100000 in
set_option maxHeartbeats 8000000 in
theorem walk (A : Option Addr) (n c : Nat) (hn : n ≤ maxLen) {w : World} (hcode : CodeAt w A n) (hF : ExF w) :
    Calls Tryd.prog 3 #[.slice A n c] w fun e w' => e = .returned (.bool true) ∧ Below w.heap.size w w' := by
  have hn' : n ≤ 9223372036854775807 := hn
  have HC := Lib.hid (show ∀ W, Below w.heap.size w W → CodeAt W A n from fun W hb => hcode.below hb)
  have HF := Lib.hid (fun (V : World) (hb : Below w.heap.size w V) => hF.below hb)
  clear hcode hn hF
  by_cases h1 : 1048576 < n
  · go_enter Tryd.func3, Tryd.ntmps3
    go_wp2_with (go_at_call 7; refine (big_yes A n c _ hn' h1).mono ?_; rintro e w' ⟨rfl, rfl⟩)
    go_ret
    exact ⟨rfl, Below.refl _ _⟩
  · have hn2 : n ≤ 1048576 := by omega
    clear h1 hn'
    go_enter Tryd.func3, Tryd.ntmps3
    go_wp2_with (go_at_call 7; refine (big_no A n c _ hn2).mono ?_; rintro e w' ⟨rfl, rfl⟩)
    go_wp2_with fail
    refine (drawFaultExit_any A n c _ hn2 (HC.out _ (Below.refl _ _))).mono ?_
    rintro e w1 ⟨p, q, rfl, hp, hb1⟩
    have HWp := Lib.hid hp
    have hB1 := btr (Below.refl _ _) hb1
    have hS1 := hb1.size
    clear hp hb1
    go_wp2_with fail
    refine (drawCallExit_any A n c _ hn2 (HC.out _ hB1)).mono ?_
    rintro e w2 ⟨m, rfl, hm, hb2⟩
    have HWm := Lib.hid hm
    have hB2 := btr hB1 hb2
    have hS2 := hb2.size
    clear hm hb2
    go_wp2_with fail
    refine (drawOutExit_any A n c _ hn2 (HC.out _ hB2)).mono ?_
    rintro e w3 ⟨o, rfl, ho, hb3⟩
    have HWo := Lib.hid ho
    have hB3 := btr hB2 hb3
    have hS3 := hb3.size
    clear ho hb3
    go_wp2_with fail
    refine (drawExitOk_any A n c _ hn2 (HC.out _ hB3)).mono ?_
    rintro e w4 ⟨e0, e1, e2, e3, rfl, hw, hb4⟩
    have HWe := Lib.hid hw
    have hB4 := btr hB3 hb4
    have hS4 := hb4.size
    clear hw hb4
    have hK1 := fun V : World => spec_exitOk e0 e1 e2 e3 V
    have hK2 := fun V : World => impl_exitOk e0 e1 e2 e3 V HWe.out
    generalize exitOk (e0, e1, e2, e3) = eo at hK1 hK2
    have hT1 := fun V : World => spec_exitT e0 e1 e2 e3 V HWe.out
    have hT2 := fun (V : World) (h : ExF V) => impl_exitT e0 e1 e2 e3 V HWe.out h
    generalize exitT (e0, e1, e2, e3) = et at hT1 hT2
    have HK1 := Lib.hid hK1
    have HK2 := Lib.hid hK2
    have HT1 := Lib.hid hT1
    have HT2 := Lib.hid hT2
    clear hK1 hK2 hT1 hT2
    have hb5 : Below w4.heap.size w4 (w4.alloc (.cells #[.int .i64 e0, .int .i64 e1, .bool e2, .int .i64 e3] 28)) := (Below.refl _ _).alloc (Nat.le_refl _) _
    have hB5 := btr hB4 hb5
    have hS5 : w4.heap.size < (w4.alloc (.cells #[.int .i64 e0, .int .i64 e1, .bool e2, .int .i64 e3] 28)).heap.size := by simp
    have hOe_5 := Lib.hid (Var.new w4 [.int .i64 e0, .int .i64 e1, .bool e2, .int .i64 e3] 28)
    clear hb5
    go_wp2_with fail
    refine (drawExitName_any A n c _ hn2 (HC.out _ hB5)).mono ?_
    rintro e w6 ⟨kd, rfl, hkd, hb6⟩
    have HWk := Lib.hid hkd
    have hB6 := btr hB5 hb6
    have hS6 := hb6.size
    have hOe_6 := Lib.hid (hOe_5.out.below hb6 (by omega))
    clear hOe_5 hkd hb6
    have hN1 := fun V : World => spec_exitName kd V
    have hN2 := fun (V : World) (h : ExF V) => impl_exitName kd V h.tab
    generalize exitName kd = nm at hN1 hN2
    have HN1 := Lib.hid hN1
    have HN2 := Lib.hid hN2
    clear hN1 hN2
    have h1 := fun V : World => spec_fault p q V
    have h2 := fun V : World => impl_fault p q V HWp.out
    unfold ExitP at h1 h2
    dsimp only at h1 h2
    have Hf1 := Lib.hid h1
    have Hf2 := Lib.hid h2
    clear h1 h2
    go_wp2_with fail
    refine (Hf2.out _).mono ?_
    rintro e w7 ⟨rfl, hb7⟩
    have hB7 := btr hB6 hb7
    have hS7 := hb7.size
    have hOe_7 := Lib.hid (hOe_6.out.below hb7 (by omega))
    clear hOe_6 hb7
    have hb8 : Below w7.heap.size w7 (w7.alloc (.cells #[.int .i64 1, .int .i64 p, .bool q, .int .i64 0] 28)) := (Below.refl _ _).alloc (Nat.le_refl _) _
    have hB8 := btr hB7 hb8
    have hS8 : w7.heap.size < (w7.alloc (.cells #[.int .i64 1, .int .i64 p, .bool q, .int .i64 0] 28)).heap.size := by simp
    have hOe_8 := Lib.hid (hOe_7.out.below hb8 (by omega))
    have hOf_8 := Lib.hid (Var.new w7 [.int .i64 1, .int .i64 p, .bool q, .int .i64 0] 28)
    clear hOe_7 hb8
    have h1 := fun V : World => spec_call m V
    have h2 := fun V : World => impl_call m V HWm.out
    unfold ExitP at h1 h2
    dsimp only at h1 h2
    have Hc1 := Lib.hid h1
    have Hc2 := Lib.hid h2
    clear h1 h2
    go_wp2_with fail
    refine (Hc2.out _).mono ?_
    rintro e w9 ⟨rfl, hb9⟩
    have hB9 := btr hB8 hb9
    have hS9 := hb9.size
    have hOe_9 := Lib.hid (hOe_8.out.below hb9 (by omega))
    have hOf_9 := Lib.hid (hOf_8.out.below hb9 (by omega))
    clear hOe_8 hOf_8 hb9
    have hb10 : Below w9.heap.size w9 (w9.alloc (.cells #[.int .i64 2, .int .i64 0, .bool false, .int .i64 m] 28)) := (Below.refl _ _).alloc (Nat.le_refl _) _
    have hB10 := btr hB9 hb10
    have hS10 : w9.heap.size < (w9.alloc (.cells #[.int .i64 2, .int .i64 0, .bool false, .int .i64 m] 28)).heap.size := by simp
    have hOe_10 := Lib.hid (hOe_9.out.below hb10 (by omega))
    have hOf_10 := Lib.hid (hOf_9.out.below hb10 (by omega))
    have hOc_10 := Lib.hid (Var.new w9 [.int .i64 2, .int .i64 0, .bool false, .int .i64 m] 28)
    clear hOe_9 hOf_9 hb10
    have h1 := fun V : World => spec_out o V
    have h2 := fun V : World => impl_out o V HWo.out
    unfold ExitP at h1 h2
    dsimp only at h1 h2
    have Hd1 := Lib.hid h1
    have Hd2 := Lib.hid h2
    clear h1 h2
    go_wp2_with fail
    refine (Hd2.out _).mono ?_
    rintro e w11 ⟨rfl, hb11⟩
    have hB11 := btr hB10 hb11
    have hS11 := hb11.size
    have hOe_11 := Lib.hid (hOe_10.out.below hb11 (by omega))
    have hOf_11 := Lib.hid (hOf_10.out.below hb11 (by omega))
    have hOc_11 := Lib.hid (hOc_10.out.below hb11 (by omega))
    clear hOe_10 hOf_10 hOc_10 hb11
    have hb12 : Below w11.heap.size w11 (w11.alloc (.cells #[.int .i64 3, .int .i64 0, .bool false, .int .i64 o] 28)) := (Below.refl _ _).alloc (Nat.le_refl _) _
    have hB12 := btr hB11 hb12
    have hS12 : w11.heap.size < (w11.alloc (.cells #[.int .i64 3, .int .i64 0, .bool false, .int .i64 o] 28)).heap.size := by simp
    have hOe_12 := Lib.hid (hOe_11.out.below hb12 (by omega))
    have hOf_12 := Lib.hid (hOf_11.out.below hb12 (by omega))
    have hOc_12 := Lib.hid (hOc_11.out.below hb12 (by omega))
    have hOd_12 := Lib.hid (Var.new w11 [.int .i64 3, .int .i64 0, .bool false, .int .i64 o] 28)
    clear hOe_11 hOf_11 hOc_11 hb12
    have hX := fun V : World => impl_exitOk 1 p q 0 V ⟨wf_12.1, HWp.out, trivial, wf_0⟩
    rw [ok_fault] at hX
    have hY := fun V : World => impl_exitOk 2 0 false m V ⟨wf_12.2.1, wf_0, trivial, HWm.out⟩
    rw [ok_call] at hY
    have hZ := fun (V : World) (h : ExF V) => impl_exitT 1 2 true 0 V ⟨wf_12.1, wf_12.2.1, trivial, wf_0⟩ h
    rw [show exitT (1, 2, true, 0) = ⟨#[102, 97, 117, 108, 116, 32, 50, 32, 119]⟩ from by kernel_rfl] at hZ
    have HZ := Lib.hid hZ
    clear hZ
    obtain ⟨bx, hbx⟩ : ∃ b, inB p 0 3 = b := ⟨_, rfl⟩
    rw [hbx] at hX
    have HX := Lib.hid hX
    have HBX := Lib.hid hbx
    obtain ⟨by', hby⟩ : ∃ b, inB m 0 99 = b := ⟨_, rfl⟩
    rw [hby] at hY
    have HY := Lib.hid hY
    have HBY := Lib.hid hby
    clear hX hY hbx hby
    go_wp2_with fail
    refine Ord.wp_region_ord (fun w' => w'.cell? ⟨w7.heap.size, 0, none⟩ = some (.int .i64 1) ∧ w'.cell? ⟨w7.heap.size, 1, none⟩ = some (.int .i64 p) ∧ w'.cell? ⟨w7.heap.size, 2, none⟩ = some (.bool q) ∧ w'.cell? ⟨w7.heap.size, 3, none⟩ = some (.int .i64 0) ∧ w'.cell? ⟨w9.heap.size, 0, none⟩ = some (.int .i64 2) ∧ w'.cell? ⟨w9.heap.size, 1, none⟩ = some (.int .i64 0) ∧ w'.cell? ⟨w9.heap.size, 2, none⟩ = some (.bool false) ∧ w'.cell? ⟨w9.heap.size, 3, none⟩ = some (.int .i64 m) ∧ w'.cell? ⟨w11.heap.size, 0, none⟩ = some (.int .i64 3) ∧ w'.cell? ⟨w11.heap.size, 1, none⟩ = some (.int .i64 0) ∧ w'.cell? ⟨w11.heap.size, 2, none⟩ = some (.bool false) ∧ w'.cell? ⟨w11.heap.size, 3, none⟩ = some (.int .i64 o) ∧ w'.cell? ⟨w4.heap.size, 0, none⟩ = some (.int .i64 e0) ∧ w'.cell? ⟨w4.heap.size, 1, none⟩ = some (.int .i64 e1) ∧ w'.cell? ⟨w4.heap.size, 2, none⟩ = some (.bool e2) ∧ w'.cell? ⟨w4.heap.size, 3, none⟩ = some (.int .i64 e3)) [(0, true), (1, true), (2, true), (3, false), (4, true), (5, true), (6, true), (7, true), (8, false), (9, true), (10, true), (11, true), (12, true), (13, true), (14, false), (15, true), (16, true), (17, true), (18, true), (20, true), (19, false), (21, false), (22, true), (23, true), (24, true), (25, true), (27, true), (26, false), (28, false), (29, true), (30, true), (31, true), (32, true), (34, true), (33, false), (35, false), (36, true), (37, true), (38, true), (39, true), (41, true), (42, true), (40, false), (43, true), (44, true), (45, true), (46, true), (47, true), (48, true), (49, true), (50, true), (52, true), (53, true), (51, false), (54, true), (55, true), (56, true), (57, true), (58, true), (59, true), (60, true), (61, true), (62, false), (63, true), (64, true), (65, true)] (by kernel_rfl) (by kernel_rfl) rfl (by kernel_rfl) (⟨hOf_12.out.cell 0 (v := .int .i64 1) rfl, hOf_12.out.cell 1 (v := .int .i64 p) rfl, hOf_12.out.cell 2 (v := .bool q) rfl, hOf_12.out.cell 3 (v := .int .i64 0) rfl, hOc_12.out.cell 0 (v := .int .i64 2) rfl, hOc_12.out.cell 1 (v := .int .i64 0) rfl, hOc_12.out.cell 2 (v := .bool false) rfl, hOc_12.out.cell 3 (v := .int .i64 m) rfl, hOd_12.out.cell 0 (v := .int .i64 3) rfl, hOd_12.out.cell 1 (v := .int .i64 0) rfl, hOd_12.out.cell 2 (v := .bool false) rfl, hOd_12.out.cell 3 (v := .int .i64 o) rfl, hOe_12.out.cell 0 (v := .int .i64 e0) rfl, hOe_12.out.cell 1 (v := .int .i64 e1) rfl, hOe_12.out.cell 2 (v := .bool e2) rfl, hOe_12.out.cell 3 (v := .int .i64 e3) rfl⟩) ?_
    simp only [Ord.ordOps, List.getElem?_toArray, List.getElem?_cons_zero, List.getElem?_cons_succ]
    repeat (first
      | (refine Ord.ord_plain (v := ?_) rfl (fun w' hS => ?_) ?_; rotate_left; (focus ((try dsimp only at hS); go_simp; first | done | with_reducible rfl)); simp only [Act.put, List.setIfInBounds_toArray, List.set_cons_zero, List.set_cons_succ])
      | (refine Ord.ord_skip (by rfl) ?_; simp only [Act.put, List.setIfInBounds_toArray, List.set_cons_zero, List.set_cons_succ])
      | (refine Ord.ord_take (v := ?_) (by rfl) (fun w' hS => ?_) ?_; rotate_left; (focus ((try dsimp only at hS); go_simp; first | done | with_reducible rfl)); simp only [Act.put, List.setIfInBounds_toArray, List.set_cons_zero, List.set_cons_succ]))
    have hb13 : Below (w11.alloc (.cells #[.int .i64 3, .int .i64 0, .bool false, .int .i64 o] 28)).heap.size (w11.alloc (.cells #[.int .i64 3, .int .i64 0, .bool false, .int .i64 o] 28)) (w11.alloc (.cells #[.int .i64 3, .int .i64 0, .bool false, .int .i64 o] 28)).drew := (Below.refl _ _).drew
    have hB13 := btr hB12 hb13
    have hS13 := hb13.size
    have hOe_13 := Lib.hid (hOe_12.out.below hb13 (by omega))
    have hOf_13 := Lib.hid (hOf_12.out.below hb13 (by omega))
    have hOc_13 := Lib.hid (hOc_12.out.below hb13 (by omega))
    have hOd_13 := Lib.hid (hOd_12.out.below hb13 (by omega))
    clear hOe_12 hOf_12 hOc_12 hOd_12 hb13
    refine Ord.ord_call (fun K hK => ?_)
    go_simp
    refine (Hf1.out _).mono ?_
    rintro e w14 ⟨rfl, hb14⟩
    have hB14 := btr hB13 hb14
    have hS14 := hb14.size
    have hOe_14 := Lib.hid (hOe_13.out.below hb14 (by omega))
    have hOf_14 := Lib.hid (hOf_13.out.below hb14 (by omega))
    have hOc_14 := Lib.hid (hOc_13.out.below hb14 (by omega))
    have hOd_14 := Lib.hid (hOd_13.out.below hb14 (by omega))
    clear hOe_13 hOf_13 hOc_13 hOd_13 hb14
    refine hK.out _ _ (⟨hOf_14.out.cell 0 (v := .int .i64 1) rfl, hOf_14.out.cell 1 (v := .int .i64 p) rfl, hOf_14.out.cell 2 (v := .bool q) rfl, hOf_14.out.cell 3 (v := .int .i64 0) rfl, hOc_14.out.cell 0 (v := .int .i64 2) rfl, hOc_14.out.cell 1 (v := .int .i64 0) rfl, hOc_14.out.cell 2 (v := .bool false) rfl, hOc_14.out.cell 3 (v := .int .i64 m) rfl, hOd_14.out.cell 0 (v := .int .i64 3) rfl, hOd_14.out.cell 1 (v := .int .i64 0) rfl, hOd_14.out.cell 2 (v := .bool false) rfl, hOd_14.out.cell 3 (v := .int .i64 o) rfl, hOe_14.out.cell 0 (v := .int .i64 e0) rfl, hOe_14.out.cell 1 (v := .int .i64 e1) rfl, hOe_14.out.cell 2 (v := .bool e2) rfl, hOe_14.out.cell 3 (v := .int .i64 e3) rfl⟩) ?_
    clear hK K
    repeat (first
      | (refine Ord.ord_plain (v := ?_) rfl (fun w' hS => ?_) ?_; rotate_left; (focus ((try dsimp only at hS); go_simp; first | done | with_reducible rfl)); simp only [Act.put, List.setIfInBounds_toArray, List.set_cons_zero, List.set_cons_succ])
      | (refine Ord.ord_skip (by rfl) ?_; simp only [Act.put, List.setIfInBounds_toArray, List.set_cons_zero, List.set_cons_succ])
      | (refine Ord.ord_take (v := ?_) (by rfl) (fun w' hS => ?_) ?_; rotate_left; (focus ((try dsimp only at hS); go_simp; first | done | with_reducible rfl)); simp only [Act.put, List.setIfInBounds_toArray, List.set_cons_zero, List.set_cons_succ]))
    refine Ord.ord_call (fun K hK => ?_)
    go_simp
    refine (Hc1.out _).mono ?_
    rintro e w15 ⟨rfl, hb15⟩
    have hB15 := btr hB14 hb15
    have hS15 := hb15.size
    have hOe_15 := Lib.hid (hOe_14.out.below hb15 (by omega))
    have hOf_15 := Lib.hid (hOf_14.out.below hb15 (by omega))
    have hOc_15 := Lib.hid (hOc_14.out.below hb15 (by omega))
    have hOd_15 := Lib.hid (hOd_14.out.below hb15 (by omega))
    clear hOe_14 hOf_14 hOc_14 hOd_14 hb15
    refine hK.out _ _ (⟨hOf_15.out.cell 0 (v := .int .i64 1) rfl, hOf_15.out.cell 1 (v := .int .i64 p) rfl, hOf_15.out.cell 2 (v := .bool q) rfl, hOf_15.out.cell 3 (v := .int .i64 0) rfl, hOc_15.out.cell 0 (v := .int .i64 2) rfl, hOc_15.out.cell 1 (v := .int .i64 0) rfl, hOc_15.out.cell 2 (v := .bool false) rfl, hOc_15.out.cell 3 (v := .int .i64 m) rfl, hOd_15.out.cell 0 (v := .int .i64 3) rfl, hOd_15.out.cell 1 (v := .int .i64 0) rfl, hOd_15.out.cell 2 (v := .bool false) rfl, hOd_15.out.cell 3 (v := .int .i64 o) rfl, hOe_15.out.cell 0 (v := .int .i64 e0) rfl, hOe_15.out.cell 1 (v := .int .i64 e1) rfl, hOe_15.out.cell 2 (v := .bool e2) rfl, hOe_15.out.cell 3 (v := .int .i64 e3) rfl⟩) ?_
    clear hK K
    repeat (first
      | (refine Ord.ord_plain (v := ?_) rfl (fun w' hS => ?_) ?_; rotate_left; (focus ((try dsimp only at hS); go_simp; first | done | with_reducible rfl)); simp only [Act.put, List.setIfInBounds_toArray, List.set_cons_zero, List.set_cons_succ])
      | (refine Ord.ord_skip (by rfl) ?_; simp only [Act.put, List.setIfInBounds_toArray, List.set_cons_zero, List.set_cons_succ])
      | (refine Ord.ord_take (v := ?_) (by rfl) (fun w' hS => ?_) ?_; rotate_left; (focus ((try dsimp only at hS); go_simp; first | done | with_reducible rfl)); simp only [Act.put, List.setIfInBounds_toArray, List.set_cons_zero, List.set_cons_succ]))
    refine Ord.ord_call (fun K hK => ?_)
    go_simp
    refine (Hd1.out _).mono ?_
    rintro e w16 ⟨rfl, hb16⟩
    have hB16 := btr hB15 hb16
    have hS16 := hb16.size
    have hOe_16 := Lib.hid (hOe_15.out.below hb16 (by omega))
    have hOf_16 := Lib.hid (hOf_15.out.below hb16 (by omega))
    have hOc_16 := Lib.hid (hOc_15.out.below hb16 (by omega))
    have hOd_16 := Lib.hid (hOd_15.out.below hb16 (by omega))
    clear hOe_15 hOf_15 hOc_15 hOd_15 hb16
    refine hK.out _ _ (⟨hOf_16.out.cell 0 (v := .int .i64 1) rfl, hOf_16.out.cell 1 (v := .int .i64 p) rfl, hOf_16.out.cell 2 (v := .bool q) rfl, hOf_16.out.cell 3 (v := .int .i64 0) rfl, hOc_16.out.cell 0 (v := .int .i64 2) rfl, hOc_16.out.cell 1 (v := .int .i64 0) rfl, hOc_16.out.cell 2 (v := .bool false) rfl, hOc_16.out.cell 3 (v := .int .i64 m) rfl, hOd_16.out.cell 0 (v := .int .i64 3) rfl, hOd_16.out.cell 1 (v := .int .i64 0) rfl, hOd_16.out.cell 2 (v := .bool false) rfl, hOd_16.out.cell 3 (v := .int .i64 o) rfl, hOe_16.out.cell 0 (v := .int .i64 e0) rfl, hOe_16.out.cell 1 (v := .int .i64 e1) rfl, hOe_16.out.cell 2 (v := .bool e2) rfl, hOe_16.out.cell 3 (v := .int .i64 e3) rfl⟩) ?_
    clear hK K
    repeat (first
      | (refine Ord.ord_plain (v := ?_) rfl (fun w' hS => ?_) ?_; rotate_left; (focus ((try dsimp only at hS); go_simp; first | done | with_reducible rfl)); simp only [Act.put, List.setIfInBounds_toArray, List.set_cons_zero, List.set_cons_succ])
      | (refine Ord.ord_skip (by rfl) ?_; simp only [Act.put, List.setIfInBounds_toArray, List.set_cons_zero, List.set_cons_succ])
      | (refine Ord.ord_take (v := ?_) (by rfl) (fun w' hS => ?_) ?_; rotate_left; (focus ((try dsimp only at hS); go_simp; first | done | with_reducible rfl)); simp only [Act.put, List.setIfInBounds_toArray, List.set_cons_zero, List.set_cons_succ]))
    refine Ord.ord_call (fun K hK => ?_)
    go_simp
    refine (HK2.out _).mono ?_
    rintro e w17 ⟨rfl, hb17⟩
    have hB17 := btr hB16 hb17
    have hS17 := hb17.size
    have hOe_17 := Lib.hid (hOe_16.out.below hb17 (by omega))
    have hOf_17 := Lib.hid (hOf_16.out.below hb17 (by omega))
    have hOc_17 := Lib.hid (hOc_16.out.below hb17 (by omega))
    have hOd_17 := Lib.hid (hOd_16.out.below hb17 (by omega))
    clear hOe_16 hOf_16 hOc_16 hOd_16 hb17
    refine hK.out _ _ (⟨hOf_17.out.cell 0 (v := .int .i64 1) rfl, hOf_17.out.cell 1 (v := .int .i64 p) rfl, hOf_17.out.cell 2 (v := .bool q) rfl, hOf_17.out.cell 3 (v := .int .i64 0) rfl, hOc_17.out.cell 0 (v := .int .i64 2) rfl, hOc_17.out.cell 1 (v := .int .i64 0) rfl, hOc_17.out.cell 2 (v := .bool false) rfl, hOc_17.out.cell 3 (v := .int .i64 m) rfl, hOd_17.out.cell 0 (v := .int .i64 3) rfl, hOd_17.out.cell 1 (v := .int .i64 0) rfl, hOd_17.out.cell 2 (v := .bool false) rfl, hOd_17.out.cell 3 (v := .int .i64 o) rfl, hOe_17.out.cell 0 (v := .int .i64 e0) rfl, hOe_17.out.cell 1 (v := .int .i64 e1) rfl, hOe_17.out.cell 2 (v := .bool e2) rfl, hOe_17.out.cell 3 (v := .int .i64 e3) rfl⟩) ?_
    clear hK K
    repeat (first
      | (refine Ord.ord_plain (v := ?_) rfl (fun w' hS => ?_) ?_; rotate_left; (focus ((try dsimp only at hS); go_simp; first | done | with_reducible rfl)); simp only [Act.put, List.setIfInBounds_toArray, List.set_cons_zero, List.set_cons_succ])
      | (refine Ord.ord_skip (by rfl) ?_; simp only [Act.put, List.setIfInBounds_toArray, List.set_cons_zero, List.set_cons_succ])
      | (refine Ord.ord_take (v := ?_) (by rfl) (fun w' hS => ?_) ?_; rotate_left; (focus ((try dsimp only at hS); go_simp; first | done | with_reducible rfl)); simp only [Act.put, List.setIfInBounds_toArray, List.set_cons_zero, List.set_cons_succ]))
    refine Ord.ord_call (fun K hK => ?_)
    go_simp
    refine (HK1.out _).mono ?_
    rintro e w18 ⟨rfl, hb18⟩
    have hB18 := btr hB17 hb18
    have hS18 := hb18.size
    have hOe_18 := Lib.hid (hOe_17.out.below hb18 (by omega))
    have hOf_18 := Lib.hid (hOf_17.out.below hb18 (by omega))
    have hOc_18 := Lib.hid (hOc_17.out.below hb18 (by omega))
    have hOd_18 := Lib.hid (hOd_17.out.below hb18 (by omega))
    clear hOe_17 hOf_17 hOc_17 hOd_17 hb18
    refine hK.out _ _ (⟨hOf_18.out.cell 0 (v := .int .i64 1) rfl, hOf_18.out.cell 1 (v := .int .i64 p) rfl, hOf_18.out.cell 2 (v := .bool q) rfl, hOf_18.out.cell 3 (v := .int .i64 0) rfl, hOc_18.out.cell 0 (v := .int .i64 2) rfl, hOc_18.out.cell 1 (v := .int .i64 0) rfl, hOc_18.out.cell 2 (v := .bool false) rfl, hOc_18.out.cell 3 (v := .int .i64 m) rfl, hOd_18.out.cell 0 (v := .int .i64 3) rfl, hOd_18.out.cell 1 (v := .int .i64 0) rfl, hOd_18.out.cell 2 (v := .bool false) rfl, hOd_18.out.cell 3 (v := .int .i64 o) rfl, hOe_18.out.cell 0 (v := .int .i64 e0) rfl, hOe_18.out.cell 1 (v := .int .i64 e1) rfl, hOe_18.out.cell 2 (v := .bool e2) rfl, hOe_18.out.cell 3 (v := .int .i64 e3) rfl⟩) ?_
    clear hK K
    repeat (first
      | (refine Ord.ord_plain (v := ?_) rfl (fun w' hS => ?_) ?_; rotate_left; (focus ((try dsimp only at hS); go_simp; first | done | with_reducible rfl)); simp only [Act.put, List.setIfInBounds_toArray, List.set_cons_zero, List.set_cons_succ])
      | (refine Ord.ord_skip (by rfl) ?_; simp only [Act.put, List.setIfInBounds_toArray, List.set_cons_zero, List.set_cons_succ])
      | (refine Ord.ord_take (v := ?_) (by rfl) (fun w' hS => ?_) ?_; rotate_left; (focus ((try dsimp only at hS); go_simp; first | done | with_reducible rfl)); simp only [Act.put, List.setIfInBounds_toArray, List.set_cons_zero, List.set_cons_succ]))
    refine Ord.ord_call (fun K hK => ?_)
    go_simp
    refine (HT2.out _ (HF.out _ hB18)).mono ?_
    rintro e w19 ⟨rfl, hb19⟩
    have hB19 := btr hB18 hb19
    have hS19 := hb19.size
    have hOe_19 := Lib.hid (hOe_18.out.below hb19 (by omega))
    have hOf_19 := Lib.hid (hOf_18.out.below hb19 (by omega))
    have hOc_19 := Lib.hid (hOc_18.out.below hb19 (by omega))
    have hOd_19 := Lib.hid (hOd_18.out.below hb19 (by omega))
    clear hOe_18 hOf_18 hOc_18 hOd_18 hb19
    refine hK.out _ _ (⟨hOf_19.out.cell 0 (v := .int .i64 1) rfl, hOf_19.out.cell 1 (v := .int .i64 p) rfl, hOf_19.out.cell 2 (v := .bool q) rfl, hOf_19.out.cell 3 (v := .int .i64 0) rfl, hOc_19.out.cell 0 (v := .int .i64 2) rfl, hOc_19.out.cell 1 (v := .int .i64 0) rfl, hOc_19.out.cell 2 (v := .bool false) rfl, hOc_19.out.cell 3 (v := .int .i64 m) rfl, hOd_19.out.cell 0 (v := .int .i64 3) rfl, hOd_19.out.cell 1 (v := .int .i64 0) rfl, hOd_19.out.cell 2 (v := .bool false) rfl, hOd_19.out.cell 3 (v := .int .i64 o) rfl, hOe_19.out.cell 0 (v := .int .i64 e0) rfl, hOe_19.out.cell 1 (v := .int .i64 e1) rfl, hOe_19.out.cell 2 (v := .bool e2) rfl, hOe_19.out.cell 3 (v := .int .i64 e3) rfl⟩) ?_
    clear hK K
    repeat (first
      | (refine Ord.ord_plain (v := ?_) rfl (fun w' hS => ?_) ?_; rotate_left; (focus ((try dsimp only at hS); go_simp; first | done | with_reducible rfl)); simp only [Act.put, List.setIfInBounds_toArray, List.set_cons_zero, List.set_cons_succ])
      | (refine Ord.ord_skip (by rfl) ?_; simp only [Act.put, List.setIfInBounds_toArray, List.set_cons_zero, List.set_cons_succ])
      | (refine Ord.ord_take (v := ?_) (by rfl) (fun w' hS => ?_) ?_; rotate_left; (focus ((try dsimp only at hS); go_simp; first | done | with_reducible rfl)); simp only [Act.put, List.setIfInBounds_toArray, List.set_cons_zero, List.set_cons_succ]))
    refine Ord.ord_call (fun K hK => ?_)
    go_simp
    refine (HT1.out _).mono ?_
    rintro e w20 ⟨rfl, hb20⟩
    have hB20 := btr hB19 hb20
    have hS20 := hb20.size
    have hOe_20 := Lib.hid (hOe_19.out.below hb20 (by omega))
    have hOf_20 := Lib.hid (hOf_19.out.below hb20 (by omega))
    have hOc_20 := Lib.hid (hOc_19.out.below hb20 (by omega))
    have hOd_20 := Lib.hid (hOd_19.out.below hb20 (by omega))
    clear hOe_19 hOf_19 hOc_19 hOd_19 hb20
    refine hK.out _ _ (⟨hOf_20.out.cell 0 (v := .int .i64 1) rfl, hOf_20.out.cell 1 (v := .int .i64 p) rfl, hOf_20.out.cell 2 (v := .bool q) rfl, hOf_20.out.cell 3 (v := .int .i64 0) rfl, hOc_20.out.cell 0 (v := .int .i64 2) rfl, hOc_20.out.cell 1 (v := .int .i64 0) rfl, hOc_20.out.cell 2 (v := .bool false) rfl, hOc_20.out.cell 3 (v := .int .i64 m) rfl, hOd_20.out.cell 0 (v := .int .i64 3) rfl, hOd_20.out.cell 1 (v := .int .i64 0) rfl, hOd_20.out.cell 2 (v := .bool false) rfl, hOd_20.out.cell 3 (v := .int .i64 o) rfl, hOe_20.out.cell 0 (v := .int .i64 e0) rfl, hOe_20.out.cell 1 (v := .int .i64 e1) rfl, hOe_20.out.cell 2 (v := .bool e2) rfl, hOe_20.out.cell 3 (v := .int .i64 e3) rfl⟩) ?_
    clear hK K
    repeat (first
      | (refine Ord.ord_plain (v := ?_) rfl (fun w' hS => ?_) ?_; rotate_left; (focus ((try dsimp only at hS); go_simp; first | done | with_reducible rfl)); simp only [Act.put, List.setIfInBounds_toArray, List.set_cons_zero, List.set_cons_succ])
      | (refine Ord.ord_skip (by rfl) ?_; simp only [Act.put, List.setIfInBounds_toArray, List.set_cons_zero, List.set_cons_succ])
      | (refine Ord.ord_take (v := ?_) (by rfl) (fun w' hS => ?_) ?_; rotate_left; (focus ((try dsimp only at hS); go_simp; first | done | with_reducible rfl)); simp only [Act.put, List.setIfInBounds_toArray, List.set_cons_zero, List.set_cons_succ]))
    refine Ord.ord_call (fun K hK => ?_)
    go_simp
    refine (HN2.out _ (HF.out _ hB20)).mono ?_
    rintro e w21 ⟨rfl, hb21⟩
    have hB21 := btr hB20 hb21
    have hS21 := hb21.size
    have hOe_21 := Lib.hid (hOe_20.out.below hb21 (by omega))
    have hOf_21 := Lib.hid (hOf_20.out.below hb21 (by omega))
    have hOc_21 := Lib.hid (hOc_20.out.below hb21 (by omega))
    have hOd_21 := Lib.hid (hOd_20.out.below hb21 (by omega))
    clear hOe_20 hOf_20 hOc_20 hOd_20 hb21
    refine hK.out _ _ (⟨hOf_21.out.cell 0 (v := .int .i64 1) rfl, hOf_21.out.cell 1 (v := .int .i64 p) rfl, hOf_21.out.cell 2 (v := .bool q) rfl, hOf_21.out.cell 3 (v := .int .i64 0) rfl, hOc_21.out.cell 0 (v := .int .i64 2) rfl, hOc_21.out.cell 1 (v := .int .i64 0) rfl, hOc_21.out.cell 2 (v := .bool false) rfl, hOc_21.out.cell 3 (v := .int .i64 m) rfl, hOd_21.out.cell 0 (v := .int .i64 3) rfl, hOd_21.out.cell 1 (v := .int .i64 0) rfl, hOd_21.out.cell 2 (v := .bool false) rfl, hOd_21.out.cell 3 (v := .int .i64 o) rfl, hOe_21.out.cell 0 (v := .int .i64 e0) rfl, hOe_21.out.cell 1 (v := .int .i64 e1) rfl, hOe_21.out.cell 2 (v := .bool e2) rfl, hOe_21.out.cell 3 (v := .int .i64 e3) rfl⟩) ?_
    clear hK K
    repeat (first
      | (refine Ord.ord_plain (v := ?_) rfl (fun w' hS => ?_) ?_; rotate_left; (focus ((try dsimp only at hS); go_simp; first | done | with_reducible rfl)); simp only [Act.put, List.setIfInBounds_toArray, List.set_cons_zero, List.set_cons_succ])
      | (refine Ord.ord_skip (by rfl) ?_; simp only [Act.put, List.setIfInBounds_toArray, List.set_cons_zero, List.set_cons_succ])
      | (refine Ord.ord_take (v := ?_) (by rfl) (fun w' hS => ?_) ?_; rotate_left; (focus ((try dsimp only at hS); go_simp; first | done | with_reducible rfl)); simp only [Act.put, List.setIfInBounds_toArray, List.set_cons_zero, List.set_cons_succ]))
    by_cases hp0 : p < 0
    · obtain rfl : bx = false := HBX.out.symm.trans (inB_false.2 (.inl hp0))
      have hp9 : ¬ p ≥ 0 := by omega
      have hp8 : decide (p ≥ 0) = false := decide_eq_false hp9
      refine Ord.ord_call (fun K hK => ?_)
      go_simp
      refine (HN1.out _).mono ?_
      rintro e w22 ⟨rfl, hb22⟩
      have hB22 := btr hB21 hb22
      have hS22 := hb22.size
      have hOe_22 := Lib.hid (hOe_21.out.below hb22 (by omega))
      have hOf_22 := Lib.hid (hOf_21.out.below hb22 (by omega))
      have hOc_22 := Lib.hid (hOc_21.out.below hb22 (by omega))
      have hOd_22 := Lib.hid (hOd_21.out.below hb22 (by omega))
      clear hOe_21 hOf_21 hOc_21 hOd_21 hb22
      refine hK.out _ _ (⟨hOf_22.out.cell 0 (v := .int .i64 1) rfl, hOf_22.out.cell 1 (v := .int .i64 p) rfl, hOf_22.out.cell 2 (v := .bool q) rfl, hOf_22.out.cell 3 (v := .int .i64 0) rfl, hOc_22.out.cell 0 (v := .int .i64 2) rfl, hOc_22.out.cell 1 (v := .int .i64 0) rfl, hOc_22.out.cell 2 (v := .bool false) rfl, hOc_22.out.cell 3 (v := .int .i64 m) rfl, hOd_22.out.cell 0 (v := .int .i64 3) rfl, hOd_22.out.cell 1 (v := .int .i64 0) rfl, hOd_22.out.cell 2 (v := .bool false) rfl, hOd_22.out.cell 3 (v := .int .i64 o) rfl, hOe_22.out.cell 0 (v := .int .i64 e0) rfl, hOe_22.out.cell 1 (v := .int .i64 e1) rfl, hOe_22.out.cell 2 (v := .bool e2) rfl, hOe_22.out.cell 3 (v := .int .i64 e3) rfl⟩) ?_
      clear hK K
      repeat (first
        | (refine Ord.ord_plain (v := ?_) rfl (fun w' hS => ?_) ?_; rotate_left; (focus ((try dsimp only at hS); go_simp; first | done | with_reducible rfl)); simp only [Act.put, List.setIfInBounds_toArray, List.set_cons_zero, List.set_cons_succ])
        | (refine Ord.ord_skip (by rfl) ?_; simp only [Act.put, List.setIfInBounds_toArray, List.set_cons_zero, List.set_cons_succ])
        | (refine Ord.ord_take (v := ?_) (by rfl) (fun w' hS => ?_) ?_; rotate_left; (focus ((try dsimp only at hS); go_simp; first | done | with_reducible rfl)); simp only [Act.put, List.setIfInBounds_toArray, List.set_cons_zero, List.set_cons_succ]))
      by_cases hm0 : m < 0
      · obtain rfl : by' = false := HBY.out.symm.trans (inB_false.2 (.inl hm0))
        have hm9 : ¬ m ≥ 0 := by omega
        have hm8 : decide (m ≥ 0) = false := decide_eq_false hm9
        refine Ord.ord_call (fun K hK => ?_)
        go_simp
        refine (HX.out _).mono ?_
        rintro e w23 ⟨rfl, hb23⟩
        have hB23 := btr hB22 hb23
        have hS23 := hb23.size
        have hOe_23 := Lib.hid (hOe_22.out.below hb23 (by omega))
        have hOf_23 := Lib.hid (hOf_22.out.below hb23 (by omega))
        have hOc_23 := Lib.hid (hOc_22.out.below hb23 (by omega))
        have hOd_23 := Lib.hid (hOd_22.out.below hb23 (by omega))
        clear hOe_22 hOf_22 hOc_22 hOd_22 hb23
        refine hK.out _ _ (⟨hOf_23.out.cell 0 (v := .int .i64 1) rfl, hOf_23.out.cell 1 (v := .int .i64 p) rfl, hOf_23.out.cell 2 (v := .bool q) rfl, hOf_23.out.cell 3 (v := .int .i64 0) rfl, hOc_23.out.cell 0 (v := .int .i64 2) rfl, hOc_23.out.cell 1 (v := .int .i64 0) rfl, hOc_23.out.cell 2 (v := .bool false) rfl, hOc_23.out.cell 3 (v := .int .i64 m) rfl, hOd_23.out.cell 0 (v := .int .i64 3) rfl, hOd_23.out.cell 1 (v := .int .i64 0) rfl, hOd_23.out.cell 2 (v := .bool false) rfl, hOd_23.out.cell 3 (v := .int .i64 o) rfl, hOe_23.out.cell 0 (v := .int .i64 e0) rfl, hOe_23.out.cell 1 (v := .int .i64 e1) rfl, hOe_23.out.cell 2 (v := .bool e2) rfl, hOe_23.out.cell 3 (v := .int .i64 e3) rfl⟩) ?_
        clear hK K
        repeat (first
          | (refine Ord.ord_plain (v := ?_) rfl (fun w' hS => ?_) ?_; rotate_left; (focus ((try dsimp only at hS); go_simp; first | done | with_reducible rfl)); simp only [Act.put, List.setIfInBounds_toArray, List.set_cons_zero, List.set_cons_succ])
          | (refine Ord.ord_skip (by rfl) ?_; simp only [Act.put, List.setIfInBounds_toArray, List.set_cons_zero, List.set_cons_succ])
          | (refine Ord.ord_take (v := ?_) (by rfl) (fun w' hS => ?_) ?_; rotate_left; (focus ((try dsimp only at hS); go_simp; first | done | with_reducible rfl)); simp only [Act.put, List.setIfInBounds_toArray, List.set_cons_zero, List.set_cons_succ]))
        refine Ord.ord_call (fun K hK => ?_)
        go_simp
        refine (HY.out _).mono ?_
        rintro e w24 ⟨rfl, hb24⟩
        have hB24 := btr hB23 hb24
        have hS24 := hb24.size
        have hOe_24 := Lib.hid (hOe_23.out.below hb24 (by omega))
        have hOf_24 := Lib.hid (hOf_23.out.below hb24 (by omega))
        have hOc_24 := Lib.hid (hOc_23.out.below hb24 (by omega))
        have hOd_24 := Lib.hid (hOd_23.out.below hb24 (by omega))
        clear hOe_23 hOf_23 hOc_23 hOd_23 hb24
        refine hK.out _ _ (⟨hOf_24.out.cell 0 (v := .int .i64 1) rfl, hOf_24.out.cell 1 (v := .int .i64 p) rfl, hOf_24.out.cell 2 (v := .bool q) rfl, hOf_24.out.cell 3 (v := .int .i64 0) rfl, hOc_24.out.cell 0 (v := .int .i64 2) rfl, hOc_24.out.cell 1 (v := .int .i64 0) rfl, hOc_24.out.cell 2 (v := .bool false) rfl, hOc_24.out.cell 3 (v := .int .i64 m) rfl, hOd_24.out.cell 0 (v := .int .i64 3) rfl, hOd_24.out.cell 1 (v := .int .i64 0) rfl, hOd_24.out.cell 2 (v := .bool false) rfl, hOd_24.out.cell 3 (v := .int .i64 o) rfl, hOe_24.out.cell 0 (v := .int .i64 e0) rfl, hOe_24.out.cell 1 (v := .int .i64 e1) rfl, hOe_24.out.cell 2 (v := .bool e2) rfl, hOe_24.out.cell 3 (v := .int .i64 e3) rfl⟩) ?_
        clear hK K
        repeat (first
          | (refine Ord.ord_plain (v := ?_) rfl (fun w' hS => ?_) ?_; rotate_left; (focus ((try dsimp only at hS); go_simp; first | done | with_reducible rfl)); simp only [Act.put, List.setIfInBounds_toArray, List.set_cons_zero, List.set_cons_succ])
          | (refine Ord.ord_skip (by rfl) ?_; simp only [Act.put, List.setIfInBounds_toArray, List.set_cons_zero, List.set_cons_succ])
          | (refine Ord.ord_take (v := ?_) (by rfl) (fun w' hS => ?_) ?_; rotate_left; (focus ((try dsimp only at hS); go_simp; first | done | with_reducible rfl)); simp only [Act.put, List.setIfInBounds_toArray, List.set_cons_zero, List.set_cons_succ]))
        refine Ord.ord_call (fun K hK => ?_)
        go_simp
        refine (HZ.out _ (HF.out _ hB24)).mono ?_
        rintro e w25 ⟨rfl, hb25⟩
        have hB25 := btr hB24 hb25
        have hS25 := hb25.size
        have hOe_25 := Lib.hid (hOe_24.out.below hb25 (by omega))
        have hOf_25 := Lib.hid (hOf_24.out.below hb25 (by omega))
        have hOc_25 := Lib.hid (hOc_24.out.below hb25 (by omega))
        have hOd_25 := Lib.hid (hOd_24.out.below hb25 (by omega))
        clear hOe_24 hOf_24 hOc_24 hOd_24 hb25
        refine hK.out _ _ (⟨hOf_25.out.cell 0 (v := .int .i64 1) rfl, hOf_25.out.cell 1 (v := .int .i64 p) rfl, hOf_25.out.cell 2 (v := .bool q) rfl, hOf_25.out.cell 3 (v := .int .i64 0) rfl, hOc_25.out.cell 0 (v := .int .i64 2) rfl, hOc_25.out.cell 1 (v := .int .i64 0) rfl, hOc_25.out.cell 2 (v := .bool false) rfl, hOc_25.out.cell 3 (v := .int .i64 m) rfl, hOd_25.out.cell 0 (v := .int .i64 3) rfl, hOd_25.out.cell 1 (v := .int .i64 0) rfl, hOd_25.out.cell 2 (v := .bool false) rfl, hOd_25.out.cell 3 (v := .int .i64 o) rfl, hOe_25.out.cell 0 (v := .int .i64 e0) rfl, hOe_25.out.cell 1 (v := .int .i64 e1) rfl, hOe_25.out.cell 2 (v := .bool e2) rfl, hOe_25.out.cell 3 (v := .int .i64 e3) rfl⟩) ?_
        clear hK K
        repeat (first
          | (refine Ord.ord_plain (v := ?_) rfl (fun w' hS => ?_) ?_; rotate_left; (focus ((try dsimp only at hS); go_simp; first | done | with_reducible rfl)); simp only [Act.put, List.setIfInBounds_toArray, List.set_cons_zero, List.set_cons_succ])
          | (refine Ord.ord_skip (by rfl) ?_; simp only [Act.put, List.setIfInBounds_toArray, List.set_cons_zero, List.set_cons_succ])
          | (refine Ord.ord_take (v := ?_) (by rfl) (fun w' hS => ?_) ?_; rotate_left; (focus ((try dsimp only at hS); go_simp; first | done | with_reducible rfl)); simp only [Act.put, List.setIfInBounds_toArray, List.set_cons_zero, List.set_cons_succ]))
        refine Ord.ord_nil ?_
        go_wp2_with fail
        go_ret
        exact ⟨rfl, hB25⟩
      · by_cases hm1 : 99 < m
        · obtain rfl : by' = false := HBY.out.symm.trans (inB_false.2 (.inr hm1))
          have hm2 : m ≥ 0 := by omega
          have hm3 : ¬ m ≤ 99 := by omega
          refine Ord.ord_call (fun K hK => ?_)
          go_simp
          refine (HX.out _).mono ?_
          rintro e w23 ⟨rfl, hb23⟩
          have hB23 := btr hB22 hb23
          have hS23 := hb23.size
          have hOe_23 := Lib.hid (hOe_22.out.below hb23 (by omega))
          have hOf_23 := Lib.hid (hOf_22.out.below hb23 (by omega))
          have hOc_23 := Lib.hid (hOc_22.out.below hb23 (by omega))
          have hOd_23 := Lib.hid (hOd_22.out.below hb23 (by omega))
          clear hOe_22 hOf_22 hOc_22 hOd_22 hb23
          refine hK.out _ _ (⟨hOf_23.out.cell 0 (v := .int .i64 1) rfl, hOf_23.out.cell 1 (v := .int .i64 p) rfl, hOf_23.out.cell 2 (v := .bool q) rfl, hOf_23.out.cell 3 (v := .int .i64 0) rfl, hOc_23.out.cell 0 (v := .int .i64 2) rfl, hOc_23.out.cell 1 (v := .int .i64 0) rfl, hOc_23.out.cell 2 (v := .bool false) rfl, hOc_23.out.cell 3 (v := .int .i64 m) rfl, hOd_23.out.cell 0 (v := .int .i64 3) rfl, hOd_23.out.cell 1 (v := .int .i64 0) rfl, hOd_23.out.cell 2 (v := .bool false) rfl, hOd_23.out.cell 3 (v := .int .i64 o) rfl, hOe_23.out.cell 0 (v := .int .i64 e0) rfl, hOe_23.out.cell 1 (v := .int .i64 e1) rfl, hOe_23.out.cell 2 (v := .bool e2) rfl, hOe_23.out.cell 3 (v := .int .i64 e3) rfl⟩) ?_
          clear hK K
          repeat (first
            | (refine Ord.ord_plain (v := ?_) rfl (fun w' hS => ?_) ?_; rotate_left; (focus ((try dsimp only at hS); go_simp; first | done | with_reducible rfl)); simp only [Act.put, List.setIfInBounds_toArray, List.set_cons_zero, List.set_cons_succ])
            | (refine Ord.ord_skip (by rfl) ?_; simp only [Act.put, List.setIfInBounds_toArray, List.set_cons_zero, List.set_cons_succ])
            | (refine Ord.ord_take (v := ?_) (by rfl) (fun w' hS => ?_) ?_; rotate_left; (focus ((try dsimp only at hS); go_simp; first | done | with_reducible rfl)); simp only [Act.put, List.setIfInBounds_toArray, List.set_cons_zero, List.set_cons_succ]))
          refine Ord.ord_call (fun K hK => ?_)
          go_simp
          refine (HY.out _).mono ?_
          rintro e w24 ⟨rfl, hb24⟩
          have hB24 := btr hB23 hb24
          have hS24 := hb24.size
          have hOe_24 := Lib.hid (hOe_23.out.below hb24 (by omega))
          have hOf_24 := Lib.hid (hOf_23.out.below hb24 (by omega))
          have hOc_24 := Lib.hid (hOc_23.out.below hb24 (by omega))
          have hOd_24 := Lib.hid (hOd_23.out.below hb24 (by omega))
          clear hOe_23 hOf_23 hOc_23 hOd_23 hb24
          refine hK.out _ _ (⟨hOf_24.out.cell 0 (v := .int .i64 1) rfl, hOf_24.out.cell 1 (v := .int .i64 p) rfl, hOf_24.out.cell 2 (v := .bool q) rfl, hOf_24.out.cell 3 (v := .int .i64 0) rfl, hOc_24.out.cell 0 (v := .int .i64 2) rfl, hOc_24.out.cell 1 (v := .int .i64 0) rfl, hOc_24.out.cell 2 (v := .bool false) rfl, hOc_24.out.cell 3 (v := .int .i64 m) rfl, hOd_24.out.cell 0 (v := .int .i64 3) rfl, hOd_24.out.cell 1 (v := .int .i64 0) rfl, hOd_24.out.cell 2 (v := .bool false) rfl, hOd_24.out.cell 3 (v := .int .i64 o) rfl, hOe_24.out.cell 0 (v := .int .i64 e0) rfl, hOe_24.out.cell 1 (v := .int .i64 e1) rfl, hOe_24.out.cell 2 (v := .bool e2) rfl, hOe_24.out.cell 3 (v := .int .i64 e3) rfl⟩) ?_
          clear hK K
          repeat (first
            | (refine Ord.ord_plain (v := ?_) rfl (fun w' hS => ?_) ?_; rotate_left; (focus ((try dsimp only at hS); go_simp; first | done | with_reducible rfl)); simp only [Act.put, List.setIfInBounds_toArray, List.set_cons_zero, List.set_cons_succ])
            | (refine Ord.ord_skip (by rfl) ?_; simp only [Act.put, List.setIfInBounds_toArray, List.set_cons_zero, List.set_cons_succ])
            | (refine Ord.ord_take (v := ?_) (by rfl) (fun w' hS => ?_) ?_; rotate_left; (focus ((try dsimp only at hS); go_simp; first | done | with_reducible rfl)); simp only [Act.put, List.setIfInBounds_toArray, List.set_cons_zero, List.set_cons_succ]))
          refine Ord.ord_call (fun K hK => ?_)
          go_simp
          refine (HZ.out _ (HF.out _ hB24)).mono ?_
          rintro e w25 ⟨rfl, hb25⟩
          have hB25 := btr hB24 hb25
          have hS25 := hb25.size
          have hOe_25 := Lib.hid (hOe_24.out.below hb25 (by omega))
          have hOf_25 := Lib.hid (hOf_24.out.below hb25 (by omega))
          have hOc_25 := Lib.hid (hOc_24.out.below hb25 (by omega))
          have hOd_25 := Lib.hid (hOd_24.out.below hb25 (by omega))
          clear hOe_24 hOf_24 hOc_24 hOd_24 hb25
          refine hK.out _ _ (⟨hOf_25.out.cell 0 (v := .int .i64 1) rfl, hOf_25.out.cell 1 (v := .int .i64 p) rfl, hOf_25.out.cell 2 (v := .bool q) rfl, hOf_25.out.cell 3 (v := .int .i64 0) rfl, hOc_25.out.cell 0 (v := .int .i64 2) rfl, hOc_25.out.cell 1 (v := .int .i64 0) rfl, hOc_25.out.cell 2 (v := .bool false) rfl, hOc_25.out.cell 3 (v := .int .i64 m) rfl, hOd_25.out.cell 0 (v := .int .i64 3) rfl, hOd_25.out.cell 1 (v := .int .i64 0) rfl, hOd_25.out.cell 2 (v := .bool false) rfl, hOd_25.out.cell 3 (v := .int .i64 o) rfl, hOe_25.out.cell 0 (v := .int .i64 e0) rfl, hOe_25.out.cell 1 (v := .int .i64 e1) rfl, hOe_25.out.cell 2 (v := .bool e2) rfl, hOe_25.out.cell 3 (v := .int .i64 e3) rfl⟩) ?_
          clear hK K
          repeat (first
            | (refine Ord.ord_plain (v := ?_) rfl (fun w' hS => ?_) ?_; rotate_left; (focus ((try dsimp only at hS); go_simp; first | done | with_reducible rfl)); simp only [Act.put, List.setIfInBounds_toArray, List.set_cons_zero, List.set_cons_succ])
            | (refine Ord.ord_skip (by rfl) ?_; simp only [Act.put, List.setIfInBounds_toArray, List.set_cons_zero, List.set_cons_succ])
            | (refine Ord.ord_take (v := ?_) (by rfl) (fun w' hS => ?_) ?_; rotate_left; (focus ((try dsimp only at hS); go_simp; first | done | with_reducible rfl)); simp only [Act.put, List.setIfInBounds_toArray, List.set_cons_zero, List.set_cons_succ]))
          refine Ord.ord_nil ?_
          go_wp2_with fail
          go_ret
          exact ⟨rfl, hB25⟩
        · obtain rfl : by' = true := HBY.out.symm.trans (inB_iff.2 ⟨by omega, by omega⟩)
          have hm2 : m ≥ 0 := by omega
          have hm3 : m ≤ 99 := by omega
          refine Ord.ord_call (fun K hK => ?_)
          go_simp
          refine (HX.out _).mono ?_
          rintro e w23 ⟨rfl, hb23⟩
          have hB23 := btr hB22 hb23
          have hS23 := hb23.size
          have hOe_23 := Lib.hid (hOe_22.out.below hb23 (by omega))
          have hOf_23 := Lib.hid (hOf_22.out.below hb23 (by omega))
          have hOc_23 := Lib.hid (hOc_22.out.below hb23 (by omega))
          have hOd_23 := Lib.hid (hOd_22.out.below hb23 (by omega))
          clear hOe_22 hOf_22 hOc_22 hOd_22 hb23
          refine hK.out _ _ (⟨hOf_23.out.cell 0 (v := .int .i64 1) rfl, hOf_23.out.cell 1 (v := .int .i64 p) rfl, hOf_23.out.cell 2 (v := .bool q) rfl, hOf_23.out.cell 3 (v := .int .i64 0) rfl, hOc_23.out.cell 0 (v := .int .i64 2) rfl, hOc_23.out.cell 1 (v := .int .i64 0) rfl, hOc_23.out.cell 2 (v := .bool false) rfl, hOc_23.out.cell 3 (v := .int .i64 m) rfl, hOd_23.out.cell 0 (v := .int .i64 3) rfl, hOd_23.out.cell 1 (v := .int .i64 0) rfl, hOd_23.out.cell 2 (v := .bool false) rfl, hOd_23.out.cell 3 (v := .int .i64 o) rfl, hOe_23.out.cell 0 (v := .int .i64 e0) rfl, hOe_23.out.cell 1 (v := .int .i64 e1) rfl, hOe_23.out.cell 2 (v := .bool e2) rfl, hOe_23.out.cell 3 (v := .int .i64 e3) rfl⟩) ?_
          clear hK K
          repeat (first
            | (refine Ord.ord_plain (v := ?_) rfl (fun w' hS => ?_) ?_; rotate_left; (focus ((try dsimp only at hS); go_simp; first | done | with_reducible rfl)); simp only [Act.put, List.setIfInBounds_toArray, List.set_cons_zero, List.set_cons_succ])
            | (refine Ord.ord_skip (by rfl) ?_; simp only [Act.put, List.setIfInBounds_toArray, List.set_cons_zero, List.set_cons_succ])
            | (refine Ord.ord_take (v := ?_) (by rfl) (fun w' hS => ?_) ?_; rotate_left; (focus ((try dsimp only at hS); go_simp; first | done | with_reducible rfl)); simp only [Act.put, List.setIfInBounds_toArray, List.set_cons_zero, List.set_cons_succ]))
          refine Ord.ord_call (fun K hK => ?_)
          go_simp
          refine (HY.out _).mono ?_
          rintro e w24 ⟨rfl, hb24⟩
          have hB24 := btr hB23 hb24
          have hS24 := hb24.size
          have hOe_24 := Lib.hid (hOe_23.out.below hb24 (by omega))
          have hOf_24 := Lib.hid (hOf_23.out.below hb24 (by omega))
          have hOc_24 := Lib.hid (hOc_23.out.below hb24 (by omega))
          have hOd_24 := Lib.hid (hOd_23.out.below hb24 (by omega))
          clear hOe_23 hOf_23 hOc_23 hOd_23 hb24
          refine hK.out _ _ (⟨hOf_24.out.cell 0 (v := .int .i64 1) rfl, hOf_24.out.cell 1 (v := .int .i64 p) rfl, hOf_24.out.cell 2 (v := .bool q) rfl, hOf_24.out.cell 3 (v := .int .i64 0) rfl, hOc_24.out.cell 0 (v := .int .i64 2) rfl, hOc_24.out.cell 1 (v := .int .i64 0) rfl, hOc_24.out.cell 2 (v := .bool false) rfl, hOc_24.out.cell 3 (v := .int .i64 m) rfl, hOd_24.out.cell 0 (v := .int .i64 3) rfl, hOd_24.out.cell 1 (v := .int .i64 0) rfl, hOd_24.out.cell 2 (v := .bool false) rfl, hOd_24.out.cell 3 (v := .int .i64 o) rfl, hOe_24.out.cell 0 (v := .int .i64 e0) rfl, hOe_24.out.cell 1 (v := .int .i64 e1) rfl, hOe_24.out.cell 2 (v := .bool e2) rfl, hOe_24.out.cell 3 (v := .int .i64 e3) rfl⟩) ?_
          clear hK K
          repeat (first
            | (refine Ord.ord_plain (v := ?_) rfl (fun w' hS => ?_) ?_; rotate_left; (focus ((try dsimp only at hS); go_simp; first | done | with_reducible rfl)); simp only [Act.put, List.setIfInBounds_toArray, List.set_cons_zero, List.set_cons_succ])
            | (refine Ord.ord_skip (by rfl) ?_; simp only [Act.put, List.setIfInBounds_toArray, List.set_cons_zero, List.set_cons_succ])
            | (refine Ord.ord_take (v := ?_) (by rfl) (fun w' hS => ?_) ?_; rotate_left; (focus ((try dsimp only at hS); go_simp; first | done | with_reducible rfl)); simp only [Act.put, List.setIfInBounds_toArray, List.set_cons_zero, List.set_cons_succ]))
          refine Ord.ord_call (fun K hK => ?_)
          go_simp
          refine (HZ.out _ (HF.out _ hB24)).mono ?_
          rintro e w25 ⟨rfl, hb25⟩
          have hB25 := btr hB24 hb25
          have hS25 := hb25.size
          have hOe_25 := Lib.hid (hOe_24.out.below hb25 (by omega))
          have hOf_25 := Lib.hid (hOf_24.out.below hb25 (by omega))
          have hOc_25 := Lib.hid (hOc_24.out.below hb25 (by omega))
          have hOd_25 := Lib.hid (hOd_24.out.below hb25 (by omega))
          clear hOe_24 hOf_24 hOc_24 hOd_24 hb25
          refine hK.out _ _ (⟨hOf_25.out.cell 0 (v := .int .i64 1) rfl, hOf_25.out.cell 1 (v := .int .i64 p) rfl, hOf_25.out.cell 2 (v := .bool q) rfl, hOf_25.out.cell 3 (v := .int .i64 0) rfl, hOc_25.out.cell 0 (v := .int .i64 2) rfl, hOc_25.out.cell 1 (v := .int .i64 0) rfl, hOc_25.out.cell 2 (v := .bool false) rfl, hOc_25.out.cell 3 (v := .int .i64 m) rfl, hOd_25.out.cell 0 (v := .int .i64 3) rfl, hOd_25.out.cell 1 (v := .int .i64 0) rfl, hOd_25.out.cell 2 (v := .bool false) rfl, hOd_25.out.cell 3 (v := .int .i64 o) rfl, hOe_25.out.cell 0 (v := .int .i64 e0) rfl, hOe_25.out.cell 1 (v := .int .i64 e1) rfl, hOe_25.out.cell 2 (v := .bool e2) rfl, hOe_25.out.cell 3 (v := .int .i64 e3) rfl⟩) ?_
          clear hK K
          repeat (first
            | (refine Ord.ord_plain (v := ?_) rfl (fun w' hS => ?_) ?_; rotate_left; (focus ((try dsimp only at hS); go_simp; first | done | with_reducible rfl)); simp only [Act.put, List.setIfInBounds_toArray, List.set_cons_zero, List.set_cons_succ])
            | (refine Ord.ord_skip (by rfl) ?_; simp only [Act.put, List.setIfInBounds_toArray, List.set_cons_zero, List.set_cons_succ])
            | (refine Ord.ord_take (v := ?_) (by rfl) (fun w' hS => ?_) ?_; rotate_left; (focus ((try dsimp only at hS); go_simp; first | done | with_reducible rfl)); simp only [Act.put, List.setIfInBounds_toArray, List.set_cons_zero, List.set_cons_succ]))
          refine Ord.ord_nil ?_
          go_wp2_with fail
          go_ret
          exact ⟨rfl, hB25⟩
    · by_cases hp1 : 3 < p
      · obtain rfl : bx = false := HBX.out.symm.trans (inB_false.2 (.inr hp1))
        have hp2 : p ≥ 0 := by omega
        have hp3 : ¬ p ≤ 3 := by omega
        refine Ord.ord_call (fun K hK => ?_)
        go_simp
        refine (HN1.out _).mono ?_
        rintro e w22 ⟨rfl, hb22⟩
        have hB22 := btr hB21 hb22
        have hS22 := hb22.size
        have hOe_22 := Lib.hid (hOe_21.out.below hb22 (by omega))
        have hOf_22 := Lib.hid (hOf_21.out.below hb22 (by omega))
        have hOc_22 := Lib.hid (hOc_21.out.below hb22 (by omega))
        have hOd_22 := Lib.hid (hOd_21.out.below hb22 (by omega))
        clear hOe_21 hOf_21 hOc_21 hOd_21 hb22
        refine hK.out _ _ (⟨hOf_22.out.cell 0 (v := .int .i64 1) rfl, hOf_22.out.cell 1 (v := .int .i64 p) rfl, hOf_22.out.cell 2 (v := .bool q) rfl, hOf_22.out.cell 3 (v := .int .i64 0) rfl, hOc_22.out.cell 0 (v := .int .i64 2) rfl, hOc_22.out.cell 1 (v := .int .i64 0) rfl, hOc_22.out.cell 2 (v := .bool false) rfl, hOc_22.out.cell 3 (v := .int .i64 m) rfl, hOd_22.out.cell 0 (v := .int .i64 3) rfl, hOd_22.out.cell 1 (v := .int .i64 0) rfl, hOd_22.out.cell 2 (v := .bool false) rfl, hOd_22.out.cell 3 (v := .int .i64 o) rfl, hOe_22.out.cell 0 (v := .int .i64 e0) rfl, hOe_22.out.cell 1 (v := .int .i64 e1) rfl, hOe_22.out.cell 2 (v := .bool e2) rfl, hOe_22.out.cell 3 (v := .int .i64 e3) rfl⟩) ?_
        clear hK K
        repeat (first
          | (refine Ord.ord_plain (v := ?_) rfl (fun w' hS => ?_) ?_; rotate_left; (focus ((try dsimp only at hS); go_simp; first | done | with_reducible rfl)); simp only [Act.put, List.setIfInBounds_toArray, List.set_cons_zero, List.set_cons_succ])
          | (refine Ord.ord_skip (by rfl) ?_; simp only [Act.put, List.setIfInBounds_toArray, List.set_cons_zero, List.set_cons_succ])
          | (refine Ord.ord_take (v := ?_) (by rfl) (fun w' hS => ?_) ?_; rotate_left; (focus ((try dsimp only at hS); go_simp; first | done | with_reducible rfl)); simp only [Act.put, List.setIfInBounds_toArray, List.set_cons_zero, List.set_cons_succ]))
        by_cases hm0 : m < 0
        · obtain rfl : by' = false := HBY.out.symm.trans (inB_false.2 (.inl hm0))
          have hm9 : ¬ m ≥ 0 := by omega
          have hm8 : decide (m ≥ 0) = false := decide_eq_false hm9
          refine Ord.ord_call (fun K hK => ?_)
          go_simp
          refine (HX.out _).mono ?_
          rintro e w23 ⟨rfl, hb23⟩
          have hB23 := btr hB22 hb23
          have hS23 := hb23.size
          have hOe_23 := Lib.hid (hOe_22.out.below hb23 (by omega))
          have hOf_23 := Lib.hid (hOf_22.out.below hb23 (by omega))
          have hOc_23 := Lib.hid (hOc_22.out.below hb23 (by omega))
          have hOd_23 := Lib.hid (hOd_22.out.below hb23 (by omega))
          clear hOe_22 hOf_22 hOc_22 hOd_22 hb23
          refine hK.out _ _ (⟨hOf_23.out.cell 0 (v := .int .i64 1) rfl, hOf_23.out.cell 1 (v := .int .i64 p) rfl, hOf_23.out.cell 2 (v := .bool q) rfl, hOf_23.out.cell 3 (v := .int .i64 0) rfl, hOc_23.out.cell 0 (v := .int .i64 2) rfl, hOc_23.out.cell 1 (v := .int .i64 0) rfl, hOc_23.out.cell 2 (v := .bool false) rfl, hOc_23.out.cell 3 (v := .int .i64 m) rfl, hOd_23.out.cell 0 (v := .int .i64 3) rfl, hOd_23.out.cell 1 (v := .int .i64 0) rfl, hOd_23.out.cell 2 (v := .bool false) rfl, hOd_23.out.cell 3 (v := .int .i64 o) rfl, hOe_23.out.cell 0 (v := .int .i64 e0) rfl, hOe_23.out.cell 1 (v := .int .i64 e1) rfl, hOe_23.out.cell 2 (v := .bool e2) rfl, hOe_23.out.cell 3 (v := .int .i64 e3) rfl⟩) ?_
          clear hK K
          repeat (first
            | (refine Ord.ord_plain (v := ?_) rfl (fun w' hS => ?_) ?_; rotate_left; (focus ((try dsimp only at hS); go_simp; first | done | with_reducible rfl)); simp only [Act.put, List.setIfInBounds_toArray, List.set_cons_zero, List.set_cons_succ])
            | (refine Ord.ord_skip (by rfl) ?_; simp only [Act.put, List.setIfInBounds_toArray, List.set_cons_zero, List.set_cons_succ])
            | (refine Ord.ord_take (v := ?_) (by rfl) (fun w' hS => ?_) ?_; rotate_left; (focus ((try dsimp only at hS); go_simp; first | done | with_reducible rfl)); simp only [Act.put, List.setIfInBounds_toArray, List.set_cons_zero, List.set_cons_succ]))
          refine Ord.ord_call (fun K hK => ?_)
          go_simp
          refine (HY.out _).mono ?_
          rintro e w24 ⟨rfl, hb24⟩
          have hB24 := btr hB23 hb24
          have hS24 := hb24.size
          have hOe_24 := Lib.hid (hOe_23.out.below hb24 (by omega))
          have hOf_24 := Lib.hid (hOf_23.out.below hb24 (by omega))
          have hOc_24 := Lib.hid (hOc_23.out.below hb24 (by omega))
          have hOd_24 := Lib.hid (hOd_23.out.below hb24 (by omega))
          clear hOe_23 hOf_23 hOc_23 hOd_23 hb24
          refine hK.out _ _ (⟨hOf_24.out.cell 0 (v := .int .i64 1) rfl, hOf_24.out.cell 1 (v := .int .i64 p) rfl, hOf_24.out.cell 2 (v := .bool q) rfl, hOf_24.out.cell 3 (v := .int .i64 0) rfl, hOc_24.out.cell 0 (v := .int .i64 2) rfl, hOc_24.out.cell 1 (v := .int .i64 0) rfl, hOc_24.out.cell 2 (v := .bool false) rfl, hOc_24.out.cell 3 (v := .int .i64 m) rfl, hOd_24.out.cell 0 (v := .int .i64 3) rfl, hOd_24.out.cell 1 (v := .int .i64 0) rfl, hOd_24.out.cell 2 (v := .bool false) rfl, hOd_24.out.cell 3 (v := .int .i64 o) rfl, hOe_24.out.cell 0 (v := .int .i64 e0) rfl, hOe_24.out.cell 1 (v := .int .i64 e1) rfl, hOe_24.out.cell 2 (v := .bool e2) rfl, hOe_24.out.cell 3 (v := .int .i64 e3) rfl⟩) ?_
          clear hK K
          repeat (first
            | (refine Ord.ord_plain (v := ?_) rfl (fun w' hS => ?_) ?_; rotate_left; (focus ((try dsimp only at hS); go_simp; first | done | with_reducible rfl)); simp only [Act.put, List.setIfInBounds_toArray, List.set_cons_zero, List.set_cons_succ])
            | (refine Ord.ord_skip (by rfl) ?_; simp only [Act.put, List.setIfInBounds_toArray, List.set_cons_zero, List.set_cons_succ])
            | (refine Ord.ord_take (v := ?_) (by rfl) (fun w' hS => ?_) ?_; rotate_left; (focus ((try dsimp only at hS); go_simp; first | done | with_reducible rfl)); simp only [Act.put, List.setIfInBounds_toArray, List.set_cons_zero, List.set_cons_succ]))
          refine Ord.ord_call (fun K hK => ?_)
          go_simp
          refine (HZ.out _ (HF.out _ hB24)).mono ?_
          rintro e w25 ⟨rfl, hb25⟩
          have hB25 := btr hB24 hb25
          have hS25 := hb25.size
          have hOe_25 := Lib.hid (hOe_24.out.below hb25 (by omega))
          have hOf_25 := Lib.hid (hOf_24.out.below hb25 (by omega))
          have hOc_25 := Lib.hid (hOc_24.out.below hb25 (by omega))
          have hOd_25 := Lib.hid (hOd_24.out.below hb25 (by omega))
          clear hOe_24 hOf_24 hOc_24 hOd_24 hb25
          refine hK.out _ _ (⟨hOf_25.out.cell 0 (v := .int .i64 1) rfl, hOf_25.out.cell 1 (v := .int .i64 p) rfl, hOf_25.out.cell 2 (v := .bool q) rfl, hOf_25.out.cell 3 (v := .int .i64 0) rfl, hOc_25.out.cell 0 (v := .int .i64 2) rfl, hOc_25.out.cell 1 (v := .int .i64 0) rfl, hOc_25.out.cell 2 (v := .bool false) rfl, hOc_25.out.cell 3 (v := .int .i64 m) rfl, hOd_25.out.cell 0 (v := .int .i64 3) rfl, hOd_25.out.cell 1 (v := .int .i64 0) rfl, hOd_25.out.cell 2 (v := .bool false) rfl, hOd_25.out.cell 3 (v := .int .i64 o) rfl, hOe_25.out.cell 0 (v := .int .i64 e0) rfl, hOe_25.out.cell 1 (v := .int .i64 e1) rfl, hOe_25.out.cell 2 (v := .bool e2) rfl, hOe_25.out.cell 3 (v := .int .i64 e3) rfl⟩) ?_
          clear hK K
          repeat (first
            | (refine Ord.ord_plain (v := ?_) rfl (fun w' hS => ?_) ?_; rotate_left; (focus ((try dsimp only at hS); go_simp; first | done | with_reducible rfl)); simp only [Act.put, List.setIfInBounds_toArray, List.set_cons_zero, List.set_cons_succ])
            | (refine Ord.ord_skip (by rfl) ?_; simp only [Act.put, List.setIfInBounds_toArray, List.set_cons_zero, List.set_cons_succ])
            | (refine Ord.ord_take (v := ?_) (by rfl) (fun w' hS => ?_) ?_; rotate_left; (focus ((try dsimp only at hS); go_simp; first | done | with_reducible rfl)); simp only [Act.put, List.setIfInBounds_toArray, List.set_cons_zero, List.set_cons_succ]))
          refine Ord.ord_nil ?_
          go_wp2_with fail
          go_ret
          exact ⟨rfl, hB25⟩
        · by_cases hm1 : 99 < m
          · obtain rfl : by' = false := HBY.out.symm.trans (inB_false.2 (.inr hm1))
            have hm2 : m ≥ 0 := by omega
            have hm3 : ¬ m ≤ 99 := by omega
            refine Ord.ord_call (fun K hK => ?_)
            go_simp
            refine (HX.out _).mono ?_
            rintro e w23 ⟨rfl, hb23⟩
            have hB23 := btr hB22 hb23
            have hS23 := hb23.size
            have hOe_23 := Lib.hid (hOe_22.out.below hb23 (by omega))
            have hOf_23 := Lib.hid (hOf_22.out.below hb23 (by omega))
            have hOc_23 := Lib.hid (hOc_22.out.below hb23 (by omega))
            have hOd_23 := Lib.hid (hOd_22.out.below hb23 (by omega))
            clear hOe_22 hOf_22 hOc_22 hOd_22 hb23
            refine hK.out _ _ (⟨hOf_23.out.cell 0 (v := .int .i64 1) rfl, hOf_23.out.cell 1 (v := .int .i64 p) rfl, hOf_23.out.cell 2 (v := .bool q) rfl, hOf_23.out.cell 3 (v := .int .i64 0) rfl, hOc_23.out.cell 0 (v := .int .i64 2) rfl, hOc_23.out.cell 1 (v := .int .i64 0) rfl, hOc_23.out.cell 2 (v := .bool false) rfl, hOc_23.out.cell 3 (v := .int .i64 m) rfl, hOd_23.out.cell 0 (v := .int .i64 3) rfl, hOd_23.out.cell 1 (v := .int .i64 0) rfl, hOd_23.out.cell 2 (v := .bool false) rfl, hOd_23.out.cell 3 (v := .int .i64 o) rfl, hOe_23.out.cell 0 (v := .int .i64 e0) rfl, hOe_23.out.cell 1 (v := .int .i64 e1) rfl, hOe_23.out.cell 2 (v := .bool e2) rfl, hOe_23.out.cell 3 (v := .int .i64 e3) rfl⟩) ?_
            clear hK K
            repeat (first
              | (refine Ord.ord_plain (v := ?_) rfl (fun w' hS => ?_) ?_; rotate_left; (focus ((try dsimp only at hS); go_simp; first | done | with_reducible rfl)); simp only [Act.put, List.setIfInBounds_toArray, List.set_cons_zero, List.set_cons_succ])
              | (refine Ord.ord_skip (by rfl) ?_; simp only [Act.put, List.setIfInBounds_toArray, List.set_cons_zero, List.set_cons_succ])
              | (refine Ord.ord_take (v := ?_) (by rfl) (fun w' hS => ?_) ?_; rotate_left; (focus ((try dsimp only at hS); go_simp; first | done | with_reducible rfl)); simp only [Act.put, List.setIfInBounds_toArray, List.set_cons_zero, List.set_cons_succ]))
            refine Ord.ord_call (fun K hK => ?_)
            go_simp
            refine (HY.out _).mono ?_
            rintro e w24 ⟨rfl, hb24⟩
            have hB24 := btr hB23 hb24
            have hS24 := hb24.size
            have hOe_24 := Lib.hid (hOe_23.out.below hb24 (by omega))
            have hOf_24 := Lib.hid (hOf_23.out.below hb24 (by omega))
            have hOc_24 := Lib.hid (hOc_23.out.below hb24 (by omega))
            have hOd_24 := Lib.hid (hOd_23.out.below hb24 (by omega))
            clear hOe_23 hOf_23 hOc_23 hOd_23 hb24
            refine hK.out _ _ (⟨hOf_24.out.cell 0 (v := .int .i64 1) rfl, hOf_24.out.cell 1 (v := .int .i64 p) rfl, hOf_24.out.cell 2 (v := .bool q) rfl, hOf_24.out.cell 3 (v := .int .i64 0) rfl, hOc_24.out.cell 0 (v := .int .i64 2) rfl, hOc_24.out.cell 1 (v := .int .i64 0) rfl, hOc_24.out.cell 2 (v := .bool false) rfl, hOc_24.out.cell 3 (v := .int .i64 m) rfl, hOd_24.out.cell 0 (v := .int .i64 3) rfl, hOd_24.out.cell 1 (v := .int .i64 0) rfl, hOd_24.out.cell 2 (v := .bool false) rfl, hOd_24.out.cell 3 (v := .int .i64 o) rfl, hOe_24.out.cell 0 (v := .int .i64 e0) rfl, hOe_24.out.cell 1 (v := .int .i64 e1) rfl, hOe_24.out.cell 2 (v := .bool e2) rfl, hOe_24.out.cell 3 (v := .int .i64 e3) rfl⟩) ?_
            clear hK K
            repeat (first
              | (refine Ord.ord_plain (v := ?_) rfl (fun w' hS => ?_) ?_; rotate_left; (focus ((try dsimp only at hS); go_simp; first | done | with_reducible rfl)); simp only [Act.put, List.setIfInBounds_toArray, List.set_cons_zero, List.set_cons_succ])
              | (refine Ord.ord_skip (by rfl) ?_; simp only [Act.put, List.setIfInBounds_toArray, List.set_cons_zero, List.set_cons_succ])
              | (refine Ord.ord_take (v := ?_) (by rfl) (fun w' hS => ?_) ?_; rotate_left; (focus ((try dsimp only at hS); go_simp; first | done | with_reducible rfl)); simp only [Act.put, List.setIfInBounds_toArray, List.set_cons_zero, List.set_cons_succ]))
            refine Ord.ord_call (fun K hK => ?_)
            go_simp
            refine (HZ.out _ (HF.out _ hB24)).mono ?_
            rintro e w25 ⟨rfl, hb25⟩
            have hB25 := btr hB24 hb25
            have hS25 := hb25.size
            have hOe_25 := Lib.hid (hOe_24.out.below hb25 (by omega))
            have hOf_25 := Lib.hid (hOf_24.out.below hb25 (by omega))
            have hOc_25 := Lib.hid (hOc_24.out.below hb25 (by omega))
            have hOd_25 := Lib.hid (hOd_24.out.below hb25 (by omega))
            clear hOe_24 hOf_24 hOc_24 hOd_24 hb25
            refine hK.out _ _ (⟨hOf_25.out.cell 0 (v := .int .i64 1) rfl, hOf_25.out.cell 1 (v := .int .i64 p) rfl, hOf_25.out.cell 2 (v := .bool q) rfl, hOf_25.out.cell 3 (v := .int .i64 0) rfl, hOc_25.out.cell 0 (v := .int .i64 2) rfl, hOc_25.out.cell 1 (v := .int .i64 0) rfl, hOc_25.out.cell 2 (v := .bool false) rfl, hOc_25.out.cell 3 (v := .int .i64 m) rfl, hOd_25.out.cell 0 (v := .int .i64 3) rfl, hOd_25.out.cell 1 (v := .int .i64 0) rfl, hOd_25.out.cell 2 (v := .bool false) rfl, hOd_25.out.cell 3 (v := .int .i64 o) rfl, hOe_25.out.cell 0 (v := .int .i64 e0) rfl, hOe_25.out.cell 1 (v := .int .i64 e1) rfl, hOe_25.out.cell 2 (v := .bool e2) rfl, hOe_25.out.cell 3 (v := .int .i64 e3) rfl⟩) ?_
            clear hK K
            repeat (first
              | (refine Ord.ord_plain (v := ?_) rfl (fun w' hS => ?_) ?_; rotate_left; (focus ((try dsimp only at hS); go_simp; first | done | with_reducible rfl)); simp only [Act.put, List.setIfInBounds_toArray, List.set_cons_zero, List.set_cons_succ])
              | (refine Ord.ord_skip (by rfl) ?_; simp only [Act.put, List.setIfInBounds_toArray, List.set_cons_zero, List.set_cons_succ])
              | (refine Ord.ord_take (v := ?_) (by rfl) (fun w' hS => ?_) ?_; rotate_left; (focus ((try dsimp only at hS); go_simp; first | done | with_reducible rfl)); simp only [Act.put, List.setIfInBounds_toArray, List.set_cons_zero, List.set_cons_succ]))
            refine Ord.ord_nil ?_
            go_wp2_with fail
            go_ret
            exact ⟨rfl, hB25⟩
          · obtain rfl : by' = true := HBY.out.symm.trans (inB_iff.2 ⟨by omega, by omega⟩)
            have hm2 : m ≥ 0 := by omega
            have hm3 : m ≤ 99 := by omega
            refine Ord.ord_call (fun K hK => ?_)
            go_simp
            refine (HX.out _).mono ?_
            rintro e w23 ⟨rfl, hb23⟩
            have hB23 := btr hB22 hb23
            have hS23 := hb23.size
            have hOe_23 := Lib.hid (hOe_22.out.below hb23 (by omega))
            have hOf_23 := Lib.hid (hOf_22.out.below hb23 (by omega))
            have hOc_23 := Lib.hid (hOc_22.out.below hb23 (by omega))
            have hOd_23 := Lib.hid (hOd_22.out.below hb23 (by omega))
            clear hOe_22 hOf_22 hOc_22 hOd_22 hb23
            refine hK.out _ _ (⟨hOf_23.out.cell 0 (v := .int .i64 1) rfl, hOf_23.out.cell 1 (v := .int .i64 p) rfl, hOf_23.out.cell 2 (v := .bool q) rfl, hOf_23.out.cell 3 (v := .int .i64 0) rfl, hOc_23.out.cell 0 (v := .int .i64 2) rfl, hOc_23.out.cell 1 (v := .int .i64 0) rfl, hOc_23.out.cell 2 (v := .bool false) rfl, hOc_23.out.cell 3 (v := .int .i64 m) rfl, hOd_23.out.cell 0 (v := .int .i64 3) rfl, hOd_23.out.cell 1 (v := .int .i64 0) rfl, hOd_23.out.cell 2 (v := .bool false) rfl, hOd_23.out.cell 3 (v := .int .i64 o) rfl, hOe_23.out.cell 0 (v := .int .i64 e0) rfl, hOe_23.out.cell 1 (v := .int .i64 e1) rfl, hOe_23.out.cell 2 (v := .bool e2) rfl, hOe_23.out.cell 3 (v := .int .i64 e3) rfl⟩) ?_
            clear hK K
            repeat (first
              | (refine Ord.ord_plain (v := ?_) rfl (fun w' hS => ?_) ?_; rotate_left; (focus ((try dsimp only at hS); go_simp; first | done | with_reducible rfl)); simp only [Act.put, List.setIfInBounds_toArray, List.set_cons_zero, List.set_cons_succ])
              | (refine Ord.ord_skip (by rfl) ?_; simp only [Act.put, List.setIfInBounds_toArray, List.set_cons_zero, List.set_cons_succ])
              | (refine Ord.ord_take (v := ?_) (by rfl) (fun w' hS => ?_) ?_; rotate_left; (focus ((try dsimp only at hS); go_simp; first | done | with_reducible rfl)); simp only [Act.put, List.setIfInBounds_toArray, List.set_cons_zero, List.set_cons_succ]))
            refine Ord.ord_call (fun K hK => ?_)
            go_simp
            refine (HY.out _).mono ?_
            rintro e w24 ⟨rfl, hb24⟩
            have hB24 := btr hB23 hb24
            have hS24 := hb24.size
            have hOe_24 := Lib.hid (hOe_23.out.below hb24 (by omega))
            have hOf_24 := Lib.hid (hOf_23.out.below hb24 (by omega))
            have hOc_24 := Lib.hid (hOc_23.out.below hb24 (by omega))
            have hOd_24 := Lib.hid (hOd_23.out.below hb24 (by omega))
            clear hOe_23 hOf_23 hOc_23 hOd_23 hb24
            refine hK.out _ _ (⟨hOf_24.out.cell 0 (v := .int .i64 1) rfl, hOf_24.out.cell 1 (v := .int .i64 p) rfl, hOf_24.out.cell 2 (v := .bool q) rfl, hOf_24.out.cell 3 (v := .int .i64 0) rfl, hOc_24.out.cell 0 (v := .int .i64 2) rfl, hOc_24.out.cell 1 (v := .int .i64 0) rfl, hOc_24.out.cell 2 (v := .bool false) rfl, hOc_24.out.cell 3 (v := .int .i64 m) rfl, hOd_24.out.cell 0 (v := .int .i64 3) rfl, hOd_24.out.cell 1 (v := .int .i64 0) rfl, hOd_24.out.cell 2 (v := .bool false) rfl, hOd_24.out.cell 3 (v := .int .i64 o) rfl, hOe_24.out.cell 0 (v := .int .i64 e0) rfl, hOe_24.out.cell 1 (v := .int .i64 e1) rfl, hOe_24.out.cell 2 (v := .bool e2) rfl, hOe_24.out.cell 3 (v := .int .i64 e3) rfl⟩) ?_
            clear hK K
            repeat (first
              | (refine Ord.ord_plain (v := ?_) rfl (fun w' hS => ?_) ?_; rotate_left; (focus ((try dsimp only at hS); go_simp; first | done | with_reducible rfl)); simp only [Act.put, List.setIfInBounds_toArray, List.set_cons_zero, List.set_cons_succ])
              | (refine Ord.ord_skip (by rfl) ?_; simp only [Act.put, List.setIfInBounds_toArray, List.set_cons_zero, List.set_cons_succ])
              | (refine Ord.ord_take (v := ?_) (by rfl) (fun w' hS => ?_) ?_; rotate_left; (focus ((try dsimp only at hS); go_simp; first | done | with_reducible rfl)); simp only [Act.put, List.setIfInBounds_toArray, List.set_cons_zero, List.set_cons_succ]))
            refine Ord.ord_call (fun K hK => ?_)
            go_simp
            refine (HZ.out _ (HF.out _ hB24)).mono ?_
            rintro e w25 ⟨rfl, hb25⟩
            have hB25 := btr hB24 hb25
            have hS25 := hb25.size
            have hOe_25 := Lib.hid (hOe_24.out.below hb25 (by omega))
            have hOf_25 := Lib.hid (hOf_24.out.below hb25 (by omega))
            have hOc_25 := Lib.hid (hOc_24.out.below hb25 (by omega))
            have hOd_25 := Lib.hid (hOd_24.out.below hb25 (by omega))
            clear hOe_24 hOf_24 hOc_24 hOd_24 hb25
            refine hK.out _ _ (⟨hOf_25.out.cell 0 (v := .int .i64 1) rfl, hOf_25.out.cell 1 (v := .int .i64 p) rfl, hOf_25.out.cell 2 (v := .bool q) rfl, hOf_25.out.cell 3 (v := .int .i64 0) rfl, hOc_25.out.cell 0 (v := .int .i64 2) rfl, hOc_25.out.cell 1 (v := .int .i64 0) rfl, hOc_25.out.cell 2 (v := .bool false) rfl, hOc_25.out.cell 3 (v := .int .i64 m) rfl, hOd_25.out.cell 0 (v := .int .i64 3) rfl, hOd_25.out.cell 1 (v := .int .i64 0) rfl, hOd_25.out.cell 2 (v := .bool false) rfl, hOd_25.out.cell 3 (v := .int .i64 o) rfl, hOe_25.out.cell 0 (v := .int .i64 e0) rfl, hOe_25.out.cell 1 (v := .int .i64 e1) rfl, hOe_25.out.cell 2 (v := .bool e2) rfl, hOe_25.out.cell 3 (v := .int .i64 e3) rfl⟩) ?_
            clear hK K
            repeat (first
              | (refine Ord.ord_plain (v := ?_) rfl (fun w' hS => ?_) ?_; rotate_left; (focus ((try dsimp only at hS); go_simp; first | done | with_reducible rfl)); simp only [Act.put, List.setIfInBounds_toArray, List.set_cons_zero, List.set_cons_succ])
              | (refine Ord.ord_skip (by rfl) ?_; simp only [Act.put, List.setIfInBounds_toArray, List.set_cons_zero, List.set_cons_succ])
              | (refine Ord.ord_take (v := ?_) (by rfl) (fun w' hS => ?_) ?_; rotate_left; (focus ((try dsimp only at hS); go_simp; first | done | with_reducible rfl)); simp only [Act.put, List.setIfInBounds_toArray, List.set_cons_zero, List.set_cons_succ]))
            refine Ord.ord_nil ?_
            go_wp2_with fail
            go_ret
            exact ⟨rfl, hB25⟩
      · obtain rfl : bx = true := HBX.out.symm.trans (inB_iff.2 ⟨by omega, by omega⟩)
        have hp2 : p ≥ 0 := by omega
        have hp3 : p ≤ 3 := by omega
        refine Ord.ord_call (fun K hK => ?_)
        go_simp
        refine (HN1.out _).mono ?_
        rintro e w22 ⟨rfl, hb22⟩
        have hB22 := btr hB21 hb22
        have hS22 := hb22.size
        have hOe_22 := Lib.hid (hOe_21.out.below hb22 (by omega))
        have hOf_22 := Lib.hid (hOf_21.out.below hb22 (by omega))
        have hOc_22 := Lib.hid (hOc_21.out.below hb22 (by omega))
        have hOd_22 := Lib.hid (hOd_21.out.below hb22 (by omega))
        clear hOe_21 hOf_21 hOc_21 hOd_21 hb22
        refine hK.out _ _ (⟨hOf_22.out.cell 0 (v := .int .i64 1) rfl, hOf_22.out.cell 1 (v := .int .i64 p) rfl, hOf_22.out.cell 2 (v := .bool q) rfl, hOf_22.out.cell 3 (v := .int .i64 0) rfl, hOc_22.out.cell 0 (v := .int .i64 2) rfl, hOc_22.out.cell 1 (v := .int .i64 0) rfl, hOc_22.out.cell 2 (v := .bool false) rfl, hOc_22.out.cell 3 (v := .int .i64 m) rfl, hOd_22.out.cell 0 (v := .int .i64 3) rfl, hOd_22.out.cell 1 (v := .int .i64 0) rfl, hOd_22.out.cell 2 (v := .bool false) rfl, hOd_22.out.cell 3 (v := .int .i64 o) rfl, hOe_22.out.cell 0 (v := .int .i64 e0) rfl, hOe_22.out.cell 1 (v := .int .i64 e1) rfl, hOe_22.out.cell 2 (v := .bool e2) rfl, hOe_22.out.cell 3 (v := .int .i64 e3) rfl⟩) ?_
        clear hK K
        repeat (first
          | (refine Ord.ord_plain (v := ?_) rfl (fun w' hS => ?_) ?_; rotate_left; (focus ((try dsimp only at hS); go_simp; first | done | with_reducible rfl)); simp only [Act.put, List.setIfInBounds_toArray, List.set_cons_zero, List.set_cons_succ])
          | (refine Ord.ord_skip (by rfl) ?_; simp only [Act.put, List.setIfInBounds_toArray, List.set_cons_zero, List.set_cons_succ])
          | (refine Ord.ord_take (v := ?_) (by rfl) (fun w' hS => ?_) ?_; rotate_left; (focus ((try dsimp only at hS); go_simp; first | done | with_reducible rfl)); simp only [Act.put, List.setIfInBounds_toArray, List.set_cons_zero, List.set_cons_succ]))
        by_cases hm0 : m < 0
        · obtain rfl : by' = false := HBY.out.symm.trans (inB_false.2 (.inl hm0))
          have hm9 : ¬ m ≥ 0 := by omega
          have hm8 : decide (m ≥ 0) = false := decide_eq_false hm9
          refine Ord.ord_call (fun K hK => ?_)
          go_simp
          refine (HX.out _).mono ?_
          rintro e w23 ⟨rfl, hb23⟩
          have hB23 := btr hB22 hb23
          have hS23 := hb23.size
          have hOe_23 := Lib.hid (hOe_22.out.below hb23 (by omega))
          have hOf_23 := Lib.hid (hOf_22.out.below hb23 (by omega))
          have hOc_23 := Lib.hid (hOc_22.out.below hb23 (by omega))
          have hOd_23 := Lib.hid (hOd_22.out.below hb23 (by omega))
          clear hOe_22 hOf_22 hOc_22 hOd_22 hb23
          refine hK.out _ _ (⟨hOf_23.out.cell 0 (v := .int .i64 1) rfl, hOf_23.out.cell 1 (v := .int .i64 p) rfl, hOf_23.out.cell 2 (v := .bool q) rfl, hOf_23.out.cell 3 (v := .int .i64 0) rfl, hOc_23.out.cell 0 (v := .int .i64 2) rfl, hOc_23.out.cell 1 (v := .int .i64 0) rfl, hOc_23.out.cell 2 (v := .bool false) rfl, hOc_23.out.cell 3 (v := .int .i64 m) rfl, hOd_23.out.cell 0 (v := .int .i64 3) rfl, hOd_23.out.cell 1 (v := .int .i64 0) rfl, hOd_23.out.cell 2 (v := .bool false) rfl, hOd_23.out.cell 3 (v := .int .i64 o) rfl, hOe_23.out.cell 0 (v := .int .i64 e0) rfl, hOe_23.out.cell 1 (v := .int .i64 e1) rfl, hOe_23.out.cell 2 (v := .bool e2) rfl, hOe_23.out.cell 3 (v := .int .i64 e3) rfl⟩) ?_
          clear hK K
          repeat (first
            | (refine Ord.ord_plain (v := ?_) rfl (fun w' hS => ?_) ?_; rotate_left; (focus ((try dsimp only at hS); go_simp; first | done | with_reducible rfl)); simp only [Act.put, List.setIfInBounds_toArray, List.set_cons_zero, List.set_cons_succ])
            | (refine Ord.ord_skip (by rfl) ?_; simp only [Act.put, List.setIfInBounds_toArray, List.set_cons_zero, List.set_cons_succ])
            | (refine Ord.ord_take (v := ?_) (by rfl) (fun w' hS => ?_) ?_; rotate_left; (focus ((try dsimp only at hS); go_simp; first | done | with_reducible rfl)); simp only [Act.put, List.setIfInBounds_toArray, List.set_cons_zero, List.set_cons_succ]))
          refine Ord.ord_call (fun K hK => ?_)
          go_simp
          refine (HY.out _).mono ?_
          rintro e w24 ⟨rfl, hb24⟩
          have hB24 := btr hB23 hb24
          have hS24 := hb24.size
          have hOe_24 := Lib.hid (hOe_23.out.below hb24 (by omega))
          have hOf_24 := Lib.hid (hOf_23.out.below hb24 (by omega))
          have hOc_24 := Lib.hid (hOc_23.out.below hb24 (by omega))
          have hOd_24 := Lib.hid (hOd_23.out.below hb24 (by omega))
          clear hOe_23 hOf_23 hOc_23 hOd_23 hb24
          refine hK.out _ _ (⟨hOf_24.out.cell 0 (v := .int .i64 1) rfl, hOf_24.out.cell 1 (v := .int .i64 p) rfl, hOf_24.out.cell 2 (v := .bool q) rfl, hOf_24.out.cell 3 (v := .int .i64 0) rfl, hOc_24.out.cell 0 (v := .int .i64 2) rfl, hOc_24.out.cell 1 (v := .int .i64 0) rfl, hOc_24.out.cell 2 (v := .bool false) rfl, hOc_24.out.cell 3 (v := .int .i64 m) rfl, hOd_24.out.cell 0 (v := .int .i64 3) rfl, hOd_24.out.cell 1 (v := .int .i64 0) rfl, hOd_24.out.cell 2 (v := .bool false) rfl, hOd_24.out.cell 3 (v := .int .i64 o) rfl, hOe_24.out.cell 0 (v := .int .i64 e0) rfl, hOe_24.out.cell 1 (v := .int .i64 e1) rfl, hOe_24.out.cell 2 (v := .bool e2) rfl, hOe_24.out.cell 3 (v := .int .i64 e3) rfl⟩) ?_
          clear hK K
          repeat (first
            | (refine Ord.ord_plain (v := ?_) rfl (fun w' hS => ?_) ?_; rotate_left; (focus ((try dsimp only at hS); go_simp; first | done | with_reducible rfl)); simp only [Act.put, List.setIfInBounds_toArray, List.set_cons_zero, List.set_cons_succ])
            | (refine Ord.ord_skip (by rfl) ?_; simp only [Act.put, List.setIfInBounds_toArray, List.set_cons_zero, List.set_cons_succ])
            | (refine Ord.ord_take (v := ?_) (by rfl) (fun w' hS => ?_) ?_; rotate_left; (focus ((try dsimp only at hS); go_simp; first | done | with_reducible rfl)); simp only [Act.put, List.setIfInBounds_toArray, List.set_cons_zero, List.set_cons_succ]))
          refine Ord.ord_call (fun K hK => ?_)
          go_simp
          refine (HZ.out _ (HF.out _ hB24)).mono ?_
          rintro e w25 ⟨rfl, hb25⟩
          have hB25 := btr hB24 hb25
          have hS25 := hb25.size
          have hOe_25 := Lib.hid (hOe_24.out.below hb25 (by omega))
          have hOf_25 := Lib.hid (hOf_24.out.below hb25 (by omega))
          have hOc_25 := Lib.hid (hOc_24.out.below hb25 (by omega))
          have hOd_25 := Lib.hid (hOd_24.out.below hb25 (by omega))
          clear hOe_24 hOf_24 hOc_24 hOd_24 hb25
          refine hK.out _ _ (⟨hOf_25.out.cell 0 (v := .int .i64 1) rfl, hOf_25.out.cell 1 (v := .int .i64 p) rfl, hOf_25.out.cell 2 (v := .bool q) rfl, hOf_25.out.cell 3 (v := .int .i64 0) rfl, hOc_25.out.cell 0 (v := .int .i64 2) rfl, hOc_25.out.cell 1 (v := .int .i64 0) rfl, hOc_25.out.cell 2 (v := .bool false) rfl, hOc_25.out.cell 3 (v := .int .i64 m) rfl, hOd_25.out.cell 0 (v := .int .i64 3) rfl, hOd_25.out.cell 1 (v := .int .i64 0) rfl, hOd_25.out.cell 2 (v := .bool false) rfl, hOd_25.out.cell 3 (v := .int .i64 o) rfl, hOe_25.out.cell 0 (v := .int .i64 e0) rfl, hOe_25.out.cell 1 (v := .int .i64 e1) rfl, hOe_25.out.cell 2 (v := .bool e2) rfl, hOe_25.out.cell 3 (v := .int .i64 e3) rfl⟩) ?_
          clear hK K
          repeat (first
            | (refine Ord.ord_plain (v := ?_) rfl (fun w' hS => ?_) ?_; rotate_left; (focus ((try dsimp only at hS); go_simp; first | done | with_reducible rfl)); simp only [Act.put, List.setIfInBounds_toArray, List.set_cons_zero, List.set_cons_succ])
            | (refine Ord.ord_skip (by rfl) ?_; simp only [Act.put, List.setIfInBounds_toArray, List.set_cons_zero, List.set_cons_succ])
            | (refine Ord.ord_take (v := ?_) (by rfl) (fun w' hS => ?_) ?_; rotate_left; (focus ((try dsimp only at hS); go_simp; first | done | with_reducible rfl)); simp only [Act.put, List.setIfInBounds_toArray, List.set_cons_zero, List.set_cons_succ]))
          refine Ord.ord_nil ?_
          go_wp2_with fail
          go_ret
          exact ⟨rfl, hB25⟩
        · by_cases hm1 : 99 < m
          · obtain rfl : by' = false := HBY.out.symm.trans (inB_false.2 (.inr hm1))
            have hm2 : m ≥ 0 := by omega
            have hm3 : ¬ m ≤ 99 := by omega
            refine Ord.ord_call (fun K hK => ?_)
            go_simp
            refine (HX.out _).mono ?_
            rintro e w23 ⟨rfl, hb23⟩
            have hB23 := btr hB22 hb23
            have hS23 := hb23.size
            have hOe_23 := Lib.hid (hOe_22.out.below hb23 (by omega))
            have hOf_23 := Lib.hid (hOf_22.out.below hb23 (by omega))
            have hOc_23 := Lib.hid (hOc_22.out.below hb23 (by omega))
            have hOd_23 := Lib.hid (hOd_22.out.below hb23 (by omega))
            clear hOe_22 hOf_22 hOc_22 hOd_22 hb23
            refine hK.out _ _ (⟨hOf_23.out.cell 0 (v := .int .i64 1) rfl, hOf_23.out.cell 1 (v := .int .i64 p) rfl, hOf_23.out.cell 2 (v := .bool q) rfl, hOf_23.out.cell 3 (v := .int .i64 0) rfl, hOc_23.out.cell 0 (v := .int .i64 2) rfl, hOc_23.out.cell 1 (v := .int .i64 0) rfl, hOc_23.out.cell 2 (v := .bool false) rfl, hOc_23.out.cell 3 (v := .int .i64 m) rfl, hOd_23.out.cell 0 (v := .int .i64 3) rfl, hOd_23.out.cell 1 (v := .int .i64 0) rfl, hOd_23.out.cell 2 (v := .bool false) rfl, hOd_23.out.cell 3 (v := .int .i64 o) rfl, hOe_23.out.cell 0 (v := .int .i64 e0) rfl, hOe_23.out.cell 1 (v := .int .i64 e1) rfl, hOe_23.out.cell 2 (v := .bool e2) rfl, hOe_23.out.cell 3 (v := .int .i64 e3) rfl⟩) ?_
            clear hK K
            repeat (first
              | (refine Ord.ord_plain (v := ?_) rfl (fun w' hS => ?_) ?_; rotate_left; (focus ((try dsimp only at hS); go_simp; first | done | with_reducible rfl)); simp only [Act.put, List.setIfInBounds_toArray, List.set_cons_zero, List.set_cons_succ])
              | (refine Ord.ord_skip (by rfl) ?_; simp only [Act.put, List.setIfInBounds_toArray, List.set_cons_zero, List.set_cons_succ])
              | (refine Ord.ord_take (v := ?_) (by rfl) (fun w' hS => ?_) ?_; rotate_left; (focus ((try dsimp only at hS); go_simp; first | done | with_reducible rfl)); simp only [Act.put, List.setIfInBounds_toArray, List.set_cons_zero, List.set_cons_succ]))
            refine Ord.ord_call (fun K hK => ?_)
            go_simp
            refine (HY.out _).mono ?_
            rintro e w24 ⟨rfl, hb24⟩
            have hB24 := btr hB23 hb24
            have hS24 := hb24.size
            have hOe_24 := Lib.hid (hOe_23.out.below hb24 (by omega))
            have hOf_24 := Lib.hid (hOf_23.out.below hb24 (by omega))
            have hOc_24 := Lib.hid (hOc_23.out.below hb24 (by omega))
            have hOd_24 := Lib.hid (hOd_23.out.below hb24 (by omega))
            clear hOe_23 hOf_23 hOc_23 hOd_23 hb24
            refine hK.out _ _ (⟨hOf_24.out.cell 0 (v := .int .i64 1) rfl, hOf_24.out.cell 1 (v := .int .i64 p) rfl, hOf_24.out.cell 2 (v := .bool q) rfl, hOf_24.out.cell 3 (v := .int .i64 0) rfl, hOc_24.out.cell 0 (v := .int .i64 2) rfl, hOc_24.out.cell 1 (v := .int .i64 0) rfl, hOc_24.out.cell 2 (v := .bool false) rfl, hOc_24.out.cell 3 (v := .int .i64 m) rfl, hOd_24.out.cell 0 (v := .int .i64 3) rfl, hOd_24.out.cell 1 (v := .int .i64 0) rfl, hOd_24.out.cell 2 (v := .bool false) rfl, hOd_24.out.cell 3 (v := .int .i64 o) rfl, hOe_24.out.cell 0 (v := .int .i64 e0) rfl, hOe_24.out.cell 1 (v := .int .i64 e1) rfl, hOe_24.out.cell 2 (v := .bool e2) rfl, hOe_24.out.cell 3 (v := .int .i64 e3) rfl⟩) ?_
            clear hK K
            repeat (first
              | (refine Ord.ord_plain (v := ?_) rfl (fun w' hS => ?_) ?_; rotate_left; (focus ((try dsimp only at hS); go_simp; first | done | with_reducible rfl)); simp only [Act.put, List.setIfInBounds_toArray, List.set_cons_zero, List.set_cons_succ])
              | (refine Ord.ord_skip (by rfl) ?_; simp only [Act.put, List.setIfInBounds_toArray, List.set_cons_zero, List.set_cons_succ])
              | (refine Ord.ord_take (v := ?_) (by rfl) (fun w' hS => ?_) ?_; rotate_left; (focus ((try dsimp only at hS); go_simp; first | done | with_reducible rfl)); simp only [Act.put, List.setIfInBounds_toArray, List.set_cons_zero, List.set_cons_succ]))
            refine Ord.ord_call (fun K hK => ?_)
            go_simp
            refine (HZ.out _ (HF.out _ hB24)).mono ?_
            rintro e w25 ⟨rfl, hb25⟩
            have hB25 := btr hB24 hb25
            have hS25 := hb25.size
            have hOe_25 := Lib.hid (hOe_24.out.below hb25 (by omega))
            have hOf_25 := Lib.hid (hOf_24.out.below hb25 (by omega))
            have hOc_25 := Lib.hid (hOc_24.out.below hb25 (by omega))
            have hOd_25 := Lib.hid (hOd_24.out.below hb25 (by omega))
            clear hOe_24 hOf_24 hOc_24 hOd_24 hb25
            refine hK.out _ _ (⟨hOf_25.out.cell 0 (v := .int .i64 1) rfl, hOf_25.out.cell 1 (v := .int .i64 p) rfl, hOf_25.out.cell 2 (v := .bool q) rfl, hOf_25.out.cell 3 (v := .int .i64 0) rfl, hOc_25.out.cell 0 (v := .int .i64 2) rfl, hOc_25.out.cell 1 (v := .int .i64 0) rfl, hOc_25.out.cell 2 (v := .bool false) rfl, hOc_25.out.cell 3 (v := .int .i64 m) rfl, hOd_25.out.cell 0 (v := .int .i64 3) rfl, hOd_25.out.cell 1 (v := .int .i64 0) rfl, hOd_25.out.cell 2 (v := .bool false) rfl, hOd_25.out.cell 3 (v := .int .i64 o) rfl, hOe_25.out.cell 0 (v := .int .i64 e0) rfl, hOe_25.out.cell 1 (v := .int .i64 e1) rfl, hOe_25.out.cell 2 (v := .bool e2) rfl, hOe_25.out.cell 3 (v := .int .i64 e3) rfl⟩) ?_
            clear hK K
            repeat (first
              | (refine Ord.ord_plain (v := ?_) rfl (fun w' hS => ?_) ?_; rotate_left; (focus ((try dsimp only at hS); go_simp; first | done | with_reducible rfl)); simp only [Act.put, List.setIfInBounds_toArray, List.set_cons_zero, List.set_cons_succ])
              | (refine Ord.ord_skip (by rfl) ?_; simp only [Act.put, List.setIfInBounds_toArray, List.set_cons_zero, List.set_cons_succ])
              | (refine Ord.ord_take (v := ?_) (by rfl) (fun w' hS => ?_) ?_; rotate_left; (focus ((try dsimp only at hS); go_simp; first | done | with_reducible rfl)); simp only [Act.put, List.setIfInBounds_toArray, List.set_cons_zero, List.set_cons_succ]))
            refine Ord.ord_nil ?_
            go_wp2_with fail
            go_ret
            exact ⟨rfl, hB25⟩
          · obtain rfl : by' = true := HBY.out.symm.trans (inB_iff.2 ⟨by omega, by omega⟩)
            have hm2 : m ≥ 0 := by omega
            have hm3 : m ≤ 99 := by omega
            refine Ord.ord_call (fun K hK => ?_)
            go_simp
            refine (HX.out _).mono ?_
            rintro e w23 ⟨rfl, hb23⟩
            have hB23 := btr hB22 hb23
            have hS23 := hb23.size
            have hOe_23 := Lib.hid (hOe_22.out.below hb23 (by omega))
            have hOf_23 := Lib.hid (hOf_22.out.below hb23 (by omega))
            have hOc_23 := Lib.hid (hOc_22.out.below hb23 (by omega))
            have hOd_23 := Lib.hid (hOd_22.out.below hb23 (by omega))
            clear hOe_22 hOf_22 hOc_22 hOd_22 hb23
            refine hK.out _ _ (⟨hOf_23.out.cell 0 (v := .int .i64 1) rfl, hOf_23.out.cell 1 (v := .int .i64 p) rfl, hOf_23.out.cell 2 (v := .bool q) rfl, hOf_23.out.cell 3 (v := .int .i64 0) rfl, hOc_23.out.cell 0 (v := .int .i64 2) rfl, hOc_23.out.cell 1 (v := .int .i64 0) rfl, hOc_23.out.cell 2 (v := .bool false) rfl, hOc_23.out.cell 3 (v := .int .i64 m) rfl, hOd_23.out.cell 0 (v := .int .i64 3) rfl, hOd_23.out.cell 1 (v := .int .i64 0) rfl, hOd_23.out.cell 2 (v := .bool false) rfl, hOd_23.out.cell 3 (v := .int .i64 o) rfl, hOe_23.out.cell 0 (v := .int .i64 e0) rfl, hOe_23.out.cell 1 (v := .int .i64 e1) rfl, hOe_23.out.cell 2 (v := .bool e2) rfl, hOe_23.out.cell 3 (v := .int .i64 e3) rfl⟩) ?_
            clear hK K
            repeat (first
              | (refine Ord.ord_plain (v := ?_) rfl (fun w' hS => ?_) ?_; rotate_left; (focus ((try dsimp only at hS); go_simp; first | done | with_reducible rfl)); simp only [Act.put, List.setIfInBounds_toArray, List.set_cons_zero, List.set_cons_succ])
              | (refine Ord.ord_skip (by rfl) ?_; simp only [Act.put, List.setIfInBounds_toArray, List.set_cons_zero, List.set_cons_succ])
              | (refine Ord.ord_take (v := ?_) (by rfl) (fun w' hS => ?_) ?_; rotate_left; (focus ((try dsimp only at hS); go_simp; first | done | with_reducible rfl)); simp only [Act.put, List.setIfInBounds_toArray, List.set_cons_zero, List.set_cons_succ]))
            refine Ord.ord_call (fun K hK => ?_)
            go_simp
            refine (HY.out _).mono ?_
            rintro e w24 ⟨rfl, hb24⟩
            have hB24 := btr hB23 hb24
            have hS24 := hb24.size
            have hOe_24 := Lib.hid (hOe_23.out.below hb24 (by omega))
            have hOf_24 := Lib.hid (hOf_23.out.below hb24 (by omega))
            have hOc_24 := Lib.hid (hOc_23.out.below hb24 (by omega))
            have hOd_24 := Lib.hid (hOd_23.out.below hb24 (by omega))
            clear hOe_23 hOf_23 hOc_23 hOd_23 hb24
            refine hK.out _ _ (⟨hOf_24.out.cell 0 (v := .int .i64 1) rfl, hOf_24.out.cell 1 (v := .int .i64 p) rfl, hOf_24.out.cell 2 (v := .bool q) rfl, hOf_24.out.cell 3 (v := .int .i64 0) rfl, hOc_24.out.cell 0 (v := .int .i64 2) rfl, hOc_24.out.cell 1 (v := .int .i64 0) rfl, hOc_24.out.cell 2 (v := .bool false) rfl, hOc_24.out.cell 3 (v := .int .i64 m) rfl, hOd_24.out.cell 0 (v := .int .i64 3) rfl, hOd_24.out.cell 1 (v := .int .i64 0) rfl, hOd_24.out.cell 2 (v := .bool false) rfl, hOd_24.out.cell 3 (v := .int .i64 o) rfl, hOe_24.out.cell 0 (v := .int .i64 e0) rfl, hOe_24.out.cell 1 (v := .int .i64 e1) rfl, hOe_24.out.cell 2 (v := .bool e2) rfl, hOe_24.out.cell 3 (v := .int .i64 e3) rfl⟩) ?_
            clear hK K
            repeat (first
              | (refine Ord.ord_plain (v := ?_) rfl (fun w' hS => ?_) ?_; rotate_left; (focus ((try dsimp only at hS); go_simp; first | done | with_reducible rfl)); simp only [Act.put, List.setIfInBounds_toArray, List.set_cons_zero, List.set_cons_succ])
              | (refine Ord.ord_skip (by rfl) ?_; simp only [Act.put, List.setIfInBounds_toArray, List.set_cons_zero, List.set_cons_succ])
              | (refine Ord.ord_take (v := ?_) (by rfl) (fun w' hS => ?_) ?_; rotate_left; (focus ((try dsimp only at hS); go_simp; first | done | with_reducible rfl)); simp only [Act.put, List.setIfInBounds_toArray, List.set_cons_zero, List.set_cons_succ]))
            refine Ord.ord_call (fun K hK => ?_)
            go_simp
            refine (HZ.out _ (HF.out _ hB24)).mono ?_
            rintro e w25 ⟨rfl, hb25⟩
            have hB25 := btr hB24 hb25
            have hS25 := hb25.size
            have hOe_25 := Lib.hid (hOe_24.out.below hb25 (by omega))
            have hOf_25 := Lib.hid (hOf_24.out.below hb25 (by omega))
            have hOc_25 := Lib.hid (hOc_24.out.below hb25 (by omega))
            have hOd_25 := Lib.hid (hOd_24.out.below hb25 (by omega))
            clear hOe_24 hOf_24 hOc_24 hOd_24 hb25
            refine hK.out _ _ (⟨hOf_25.out.cell 0 (v := .int .i64 1) rfl, hOf_25.out.cell 1 (v := .int .i64 p) rfl, hOf_25.out.cell 2 (v := .bool q) rfl, hOf_25.out.cell 3 (v := .int .i64 0) rfl, hOc_25.out.cell 0 (v := .int .i64 2) rfl, hOc_25.out.cell 1 (v := .int .i64 0) rfl, hOc_25.out.cell 2 (v := .bool false) rfl, hOc_25.out.cell 3 (v := .int .i64 m) rfl, hOd_25.out.cell 0 (v := .int .i64 3) rfl, hOd_25.out.cell 1 (v := .int .i64 0) rfl, hOd_25.out.cell 2 (v := .bool false) rfl, hOd_25.out.cell 3 (v := .int .i64 o) rfl, hOe_25.out.cell 0 (v := .int .i64 e0) rfl, hOe_25.out.cell 1 (v := .int .i64 e1) rfl, hOe_25.out.cell 2 (v := .bool e2) rfl, hOe_25.out.cell 3 (v := .int .i64 e3) rfl⟩) ?_
            clear hK K
            repeat (first
              | (refine Ord.ord_plain (v := ?_) rfl (fun w' hS => ?_) ?_; rotate_left; (focus ((try dsimp only at hS); go_simp; first | done | with_reducible rfl)); simp only [Act.put, List.setIfInBounds_toArray, List.set_cons_zero, List.set_cons_succ])
              | (refine Ord.ord_skip (by rfl) ?_; simp only [Act.put, List.setIfInBounds_toArray, List.set_cons_zero, List.set_cons_succ])
              | (refine Ord.ord_take (v := ?_) (by rfl) (fun w' hS => ?_) ?_; rotate_left; (focus ((try dsimp only at hS); go_simp; first | done | with_reducible rfl)); simp only [Act.put, List.setIfInBounds_toArray, List.set_cons_zero, List.set_cons_succ]))
            refine Ord.ord_nil ?_
            go_wp2_with fail
            go_ret
            exact ⟨rfl, hB25⟩
/-! ### The row's step, and the card -/
theorem contract (H : Type) (enc : TypeId × Value → H) (W : World) (base : Nat) (args : Array Value) (ds gs : List (DataW H)) (before : List MemPlace)
    (hval : ∀ (j : Nat) t v, Tryd.f3.params[j]? = some t → args[j]? = some v → Value.okWide Tryd.prog W .any base t v)
    (hW : DataW.Whole enc Tryd.prog Tryd.f3.params.toList Rows.fnExitsSpec.vars false W args.toList ds gs before) (hL : laidMetH Tryd.prog Rows.fnExitsRow.laid W) :
    Calls Tryd.prog 3 args W fun e W' => ∃ v, e = .returned v ∧ Rows.fnExitsSpec.post enc Tryd.prog Tryd.f3 false true false false W args v W' := by
  have hF := facts hL
  have hW' := hW
  obtain ⟨p, q, hA0, hV0, rfl, hfz, hnd⟩ := hW
  have hA : DataW.TrodAll enc Tryd.prog W 0 (fun _ => true) true Tryd.f3.params.toList args.toList ds p := hA0
  have hA1 := hA
  obtain ⟨rfl, rfl⟩ := DataW.TrodVars.unique hV0 (ex_readF enc hF _)
  rw [Tryd.params3] at hA hval
  obtain ⟨v0, vs0, d0, ds0, p0, q0, hargs, rfl, rfl, h0, r0⟩ := trodAll_cons hA
  obtain ⟨rfl, rfl, rfl⟩ := trodAll_nil r0
  obtain rfl : args = #[v0] := by cases args; simp_all
  obtain ⟨A0, n0, c0, rfl, hn0, hcode0, _⟩ := Draw.open_code (hval 0 22 v0 rfl rfl) h0
  clear hA0 hV0
  refine (walk A0 n0 c0 hn0 hcode0 hF).mono fun e W' ⟨he, hg⟩ => ?_
  subst he
  exact ⟨_, rfl, StrTab.post_named Slots.laid (by kernel_rfl) rfl rfl hW' hA1 hg (fun sp => ex_readF enc (hF.below hg) sp) (fun _ _ _ => (trodAll_cons_mk (shut_bool Tryd.underlying4 _) trodAll_mk0)) (ok_one (by kernel_rfl) rfl (okWide_bool_mk Tryd.underlying4 _))⟩

theorem laid_met (os : Os) : laidMet Tryd.prog Rows.fnExitsRow.laid ((World.laidAll Tryd.prog os Rows.fnExitsRow.laid).forCall (fun _ _ => 0) ⟨#[], #[.slice none 0 0], []⟩).memory :=
  laidMet_laidAll _ (by kernel_rfl) (by kernel_rfl)

set_option maxRecDepth 100000 in
theorem lifted (os : Os) (started : os.Started) (H : Type) (enc : TypeId × Value → H) (F : Stop.Interp) :
    ReturnsInHanded {} Tryd.checked os 3 .any ((OpenSpec.ofChange Rows.fnExitsSpec).preRow enc Tryd.prog Tryd.f3 Rows.fnExitsRow.domain false Rows.fnExitsRow.laid) (((OpenSpec.ofChange Rows.fnExitsSpec).at F).post enc Tryd.prog Tryd.f3 false true false false) := by
  refine returnsInHanded_of_row (C := Tryd.checked) (s := OpenSpec.ofChange Rows.fnExitsSpec) Base.own started (by kernel_rfl) Tryd.func3
    (witness_row_atRef (enc := enc) (C := Tryd.checked) false (World.laidAll Tryd.prog os Rows.fnExitsRow.laid) #[.slice none 0 0] (World.laidAll_os _ _ _) (by kernel_rfl) (by kernel_rfl) (by kernel_rfl)
      (OpenSpec.preRow_of_B rfl 8 (by kernel_rfl) (by kernel_rfl) (laid_met os))) ?_
  intro W base args ds gs before hval hW _ _ _ hL _ _
  exact contract H enc W base args ds gs before hval hW hL

theorem said : Rows.FnExitsSaid :=
  OpenClaim.holds_of_cond 3 Tryd.f3 rfl rfl rfl rfl rfl rfl rfl ⟨rfl, rfl, rfl, rfl, rfl⟩ rfl rfl rfl rfl rfl (by kernel_rfl) Tryd.func3 (by kernel_rfl)
    (of_decide_eq_true (by kernel_rfl)) (by unfold Func.isWrapper; first | (rw [if_pos (by decide +kernel)]; kernel_rfl) | (rw [if_neg (by decide +kernel)]; exact ⟨rfl, rfl⟩))
    (fun os started H enc _ F => by rw [OpenClaim.pre_eq_preRow]; exact lifted os started H enc F)

theorem plain (f : FuncId) (fn : Func) (hf : Tryd.pinned.checked.prog.funcNamed "loop.example/g00975/laws.FnExits" = some f) (hfn : Tryd.pinned.checked.prog.funcs[f]? = some fn) :
    Rows.fnExitsCard.stood.looks = Tryd.pinned.checked.prog.looks [] ∧ ∀ (j : Nat) t, fn.params[j]? = some t → Tryd.pinned.checked.prog.wantsStandIn t = false := by
  obtain rfl : f = 3 := Option.some.inj ((show Tryd.prog.funcNamed "loop.example/g00975/laws.FnExits" = some 3 by kernel_rfl).symm.trans hf) |>.symm
  obtain rfl : fn = Tryd.f3 := (Option.some.inj (Tryd.func3.symm.trans hfn)).symm
  refine ⟨by kernel_rfl, fun j t ht => ?_⟩
  have hall : Tryd.f3.params.toList.all (fun t => !Tryd.prog.wantsStandIn t) = true := by kernel_rfl
  have hm := List.all_eq_true.1 hall t (by simpa using Array.mem_of_getElem? ht)
  exact (show Tryd.prog.wantsStandIn t = false by simpa using hm)

/-- The given statement: the card. -/
theorem proved : Rows.FnExitsCardSaid :=
  Claim7.holds_tied_plain_at .later [] _ _ _ _ said (fun _ h => by cases h) (by kernel_rfl) (fun _ h => by cases h) fnExits_row_tie rfl ⟨rfl, rfl⟩ (by kernel_rfl) rfl plain (by kernel_rfl)
#print axioms proved
end Go.Proofs.YtikamndjelamgaaDoor.fnExits
