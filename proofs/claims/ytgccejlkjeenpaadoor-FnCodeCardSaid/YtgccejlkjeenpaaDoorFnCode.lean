/-
  For every slice of bytes the law FnCode returns true: a valid instruction touches a page of its guest or none, and what is behind the last one halts. The project's table that the row lists is tied to the program's text by the given card (over the pruned copy of the project that the seat holds). No other condition.
-/
import Derived.Test.YtgccejlkjeenpaaDoorCards
import Derived.Test.YtgccejlkjeenpaaDoorTie
import Derived.Test.YtgccejlkjeenpaaDoorInsTab
import Derived.Test.YtgccejlkjeenpaaDoorInsImpl
import Derived.Test.YtgccejlkjeenpaaDoorInsDraw3
import Derived.Test.YtgccejlkjeenpaaDoorOrdT
import Derived.Test.YtgccejlkjeenpaaDoorCode
import Derived.Test.YtgccejlkjeenpaaDoorBig
import Derived.Deep.DeepHandedRow
import Derived.Deep.DeepWitnessRowRef
import Derived.Lay
namespace Go.Proofs.YtgccejlkjeenpaaDoor.fnCode
set_option maxRecDepth 100000
open Go.ChangeShapes Go.WideShapes Go.ChangeAt Go.RowKit
open Go.Proofs.YtgccejlkjeenpaaDoor.Base Go.Proofs.YtgccejlkjeenpaaDoor.Mem Go.Proofs.YtgccejlkjeenpaaDoor.Slots Go.Proofs.YtgccejlkjeenpaaDoor.Ints Go.Proofs.YtgccejlkjeenpaaDoor.Draw Go.Proofs.YtgccejlkjeenpaaDoor.SDraw Go.Proofs.YtgccejlkjeenpaaDoor.Inss Go.Proofs.YtgccejlkjeenpaaDoor.Addrs
set_option linter.unusedVariables false
set_option linter.unusedSimpArgs false

theorem lies_block {w : World} {B : Nat} {cs : Array Value} {t : TypeId} {fr : Nat × Nat} (hb : w.heap[B]? = some (.cells cs t fr)) (hB : B < w.heap.size) : Lies w 0 w.heap.size (some ⟨B, 0, none⟩) cs.toList := fun j u hu =>
  ⟨B, 0, rfl, Nat.zero_le _, hB, by have h := World.news_of_block hb j u hu; rwa [Addr.add_lit] at h⟩
theorem lies_nil {w : World} {A : Option Addr} : Lies w 0 w.heap.size A (jcells []) := fun j u hu => by simp [jcells] at hu
theorem field1 (u v : Value) (W : World) : (Instr.field 25 (.agg #[u, v]) 1).run Tryd.prog W = .ok v W := by kernel_rfl
theorem wf_set5 : wfJL [(1, 5)] := fun s hs => by rw [List.mem_singleton.1 hs]; exact ⟨by decide, by decide⟩
theorem touches_page {o x : Int} (h : insOk (o, x) = true) : -1 ≤ (touches (o, x)).1 ∧ (touches (o, x)).1 ≤ 3 := by
  by_cases h3 : o = 3
  · subst h3
    have hi := inB_iff.1 (show inB x 0 15 = true from h)
    show -1 ≤ addrP x ∧ addrP x ≤ 3
    unfold addrP; rw [if_neg (by omega)]; omega
  · by_cases h4 : o = 4
    · subst h4
      have hi := inB_iff.1 (show inB x 0 15 = true from h)
      show -1 ≤ addrP x ∧ addrP x ≤ 3
      unfold addrP; rw [if_neg (by omega)]; omega
    · rw [touches_else (by simpa using h3) (by simpa using h4)]; decide

set_option maxRecDepth 100000 in
set_option maxHeartbeats 8000000 in
theorem walk (A : Option Addr) (n c : Nat) (hn : n ≤ maxLen) {w : World} (hcode : CodeAt w A n) (hF : OpTab w) :
    Calls Tryd.prog 3 #[.slice A n c] w fun e w' => e = .returned (.bool true) ∧ Below w.heap.size w w' := by
  have hn' : n ≤ 9223372036854775807 := hn
  have HC := Lib.hid (show ∀ W, Below w.heap.size w W → CodeAt W A n from fun W hb => hcode.below hb)
  have HT := Lib.hid (show ∀ V, Below w.heap.size w V → OpTab V from fun V hb => hF.below hb)
  clear hcode hn hF
  by_cases h1 : 1048576 < n
  · go_enter Tryd.func3, Tryd.ntmps3
    go_wp2_with (go_at_call 5; refine (big_yes A n c _ hn' h1).mono ?_; rintro e w' ⟨rfl, rfl⟩)
    go_ret
    exact ⟨rfl, Below.refl _ _⟩
  · have hn2 : n ≤ 1048576 := by omega
    clear h1 hn'
    go_enter Tryd.func3, Tryd.ntmps3
    go_wp2_with (go_at_call 5; refine (big_no A n c _ hn2).mono ?_; rintro e w' ⟨rfl, rfl⟩)
    go_wp2_with fail
    refine (drawTouches_any A n c _ hn2 (HC.out _ (Below.refl _ _))).mono ?_
    rintro e w1 ⟨o, x, rfl, hw, hb1⟩
    have HWs := Lib.hid hw
    have hB1 := btr (Below.refl _ _) hb1
    have hS1 := hb1.size
    clear hw hb1
    have hT1 := fun V : World => spec_touches o x V HWs.out.2
    have hT2 := fun V : World => impl_touches o x V HWs.out
    have hI1 := fun V : World => spec_insOk o x V
    have hI2 := fun V : World => impl_insOk o x V HWs.out
    have hpg := fun h => touches_page (o := o) (x := x) h
    unfold TwoI at hT1 hT2
    generalize touches (o, x) = z at hT1 hT2 hpg
    obtain ⟨z0, z1⟩ := z
    generalize insOk (o, x) = v at hI1 hI2 hpg
    dsimp only at hpg
    have HT1 := Lib.hid hT1
    have HT2 := Lib.hid hT2
    have HI1 := Lib.hid hI1
    have HI2 := Lib.hid hI2
    have HPG := Lib.hid hpg
    clear hT1 hT2 hI1 hI2 hpg
    have hb2 : Below w1.heap.size w1 (w1.alloc (.cells #[.int .i64 o, .int .i64 x] 25)) := (Below.refl _ _).alloc (Nat.le_refl _) _
    have hB2 := btr hB1 hb2
    have hS2 : w1.heap.size < (w1.alloc (.cells #[.int .i64 o, .int .i64 x] 25)).heap.size := by simp
    have hOi_2 := Lib.hid (Var.new w1 [.int .i64 o, .int .i64 x] 25)
    clear hb2
    have zi0 := hOi_2.out.cell 0 (v := .int .i64 o) rfl
    have zi1 := hOi_2.out.cell 1 (v := .int .i64 x) rfl
    go_wp2_with fail
    refine (HT2.out _).mono ?_
    rintro e w3 ⟨rfl, hb3⟩
    have hB3 := btr hB2 hb3
    have hS3 := hb3.size
    have hOi_3 := Lib.hid (hOi_2.out.below hb3 (by omega))
    clear hOi_2 hb3
    clear zi0 zi1
    have zi0 := hOi_3.out.cell 0 (v := .int .i64 o) rfl
    have zi1 := hOi_3.out.cell 1 (v := .int .i64 x) rfl
    go_wp2_with fail
    refine (HT1.out _).mono ?_
    rintro e w4 ⟨rfl, hb4⟩
    have hB4 := btr hB3 hb4
    have hS4 := hb4.size
    have hOi_4 := Lib.hid (hOi_3.out.below hb4 (by omega))
    clear hOi_3 hb4
    clear zi0 zi1
    go_wp2_with fail
    refine (drawProgOk_any A n c _ hn2 (HC.out _ hB4)).mono ?_
    rintro e w5 ⟨ad1, m1, p1, l1, rfl, hE, hb5⟩
    have HL1 := Lib.hid hE.2.1
    have HW1 := Lib.hid hE.2.2.1
    have hm1 : m1 ≤ 1048576 := by have := hE.1; omega
    have hB5 := btr hB4 hb5
    have hS5 := hb5.size
    have hOi_5 := Lib.hid (hOi_4.out.below hb5 (by omega))
    have hOb1_5 := Lib.hid (hE.2.2.2)
    clear hOi_4 hE hb5
    have hP1 := fun (A : Option Addr) (c : Nat) (V : World) (h : Lies V 0 V.heap.size A (jcells l1)) => spec_progOk A m1 c 0 l1 V hm1 HL1.out h
    have hP2 := fun (A : Option Addr) (c : Nat) (V : World) (h : Lies V 0 V.heap.size A (jcells l1)) => impl_progOk A m1 c l1 V hm1 HL1.out h HW1.out
    generalize progOk l1 = pv at hP1 hP2
    have HP1 := Lib.hid hP1
    have HP2 := Lib.hid hP2
    clear hP1 hP2
    go_wp2_with fail
    refine (drawInsAt_any A n c _ hn2 (HC.out _ hB5)).mono ?_
    rintro e w6 ⟨ad2, m2, p2, l2, pc, rfl, hwp, hE, hb6⟩
    have HL2 := Lib.hid hE.2.1
    have HW2 := Lib.hid hE.2.2.1
    have hm2 : m2 ≤ 1048576 := by have := hE.1; omega
    have HWp := Lib.hid hwp
    have hB6 := btr hB5 hb6
    have hS6 := hb6.size
    have hOi_6 := Lib.hid (hOi_5.out.below hb6 (by omega))
    have hOb1_6 := Lib.hid (hOb1_5.out.below hb6 (by omega))
    have hOb2_6 := Lib.hid (hE.2.2.2)
    clear hOi_5 hOb1_5 hE hwp hb6
    have hA1 := fun (A : Option Addr) (c : Nat) (V : World) (h : Lies V 0 V.heap.size A (jcells l2)) => spec_insAt A m2 c 0 pc l2 V hm2 HL2.out h
    have hA2 := fun (A : Option Addr) (c : Nat) (V : World) (h : Lies V 0 V.heap.size A (jcells l2)) => impl_insAt A m2 c pc l2 V hm2 HL2.out h HW2.out HWp.out
    unfold OneIns at hA1 hA2
    generalize insAt l2 pc = y at hA1 hA2
    obtain ⟨y0, y1⟩ := y
    have HA1 := Lib.hid hA1
    have HA2 := Lib.hid hA2
    clear hA1 hA2
    go_wp2_with fail
    refine (drawOpName_any A n c _ hn2 (HC.out _ hB6)).mono ?_
    rintro e w7 ⟨op, rfl, hwo, hb7⟩
    have HWo := Lib.hid hwo
    have hB7 := btr hB6 hb7
    have hS7 := hb7.size
    have hOi_7 := Lib.hid (hOi_6.out.below hb7 (by omega))
    have hOb1_7 := Lib.hid (hOb1_6.out.below hb7 (by omega))
    have hOb2_7 := Lib.hid (hOb2_6.out.below hb7 (by omega))
    clear hOi_6 hOb1_6 hOb2_6 hwo hb7
    have hO1 := fun V : World => spec_opName op V
    have hO2 := fun (V : World) (h : OpTab V) => impl_opName op V h HWo.out
    generalize opName op = str at hO1 hO2
    have HO1 := Lib.hid hO1
    have HO2 := Lib.hid hO2
    clear hO1 hO2
    go_wp2_with fail
    refine (drawSameProg_any A n c _ hn2 (HC.out _ hB7)).mono ?_
    rintro e w8 ⟨ad3, m3, p3, l3, ad4, m4, p4, l4, rfl, hE, hF, hb8⟩
    have HL3 := Lib.hid hE.2.1
    have HW3 := Lib.hid hE.2.2.1
    have hm3 : m3 ≤ 1048576 := by have := hE.1; omega
    have HL4 := Lib.hid hF.2.1
    have HW4 := Lib.hid hF.2.2.1
    have hm4 : m4 ≤ 1048576 := by have := hF.1; omega
    have hB8 := btr hB7 hb8
    have hS8 := hb8.size
    have hOi_8 := Lib.hid (hOi_7.out.below hb8 (by omega))
    have hOb1_8 := Lib.hid (hOb1_7.out.below hb8 (by omega))
    have hOb2_8 := Lib.hid (hOb2_7.out.below hb8 (by omega))
    have hOb3_8 := Lib.hid (hE.2.2.2)
    have hOb4_8 := Lib.hid (hF.2.2.2)
    clear hOi_7 hOb1_7 hOb2_7 hE hF hb8
    have hS1 := fun (A B : Option Addr) (c d : Nat) (V : World) (h : Lies V 0 V.heap.size A (jcells l3)) (h2 : Lies V 0 V.heap.size B (jcells l4)) => law_sameB A B m3 m4 c d l3 l4 V hm3 hm4 HL3.out HL4.out h h2
    have hS2 := fun (A B : Option Addr) (c d : Nat) (V : World) (h : Lies V 0 V.heap.size A (jcells l3)) (h2 : Lies V 0 V.heap.size B (jcells l4)) => impl_same A B m3 m4 c d l3 l4 V hm3 hm4 HL3.out HL4.out h h2 HW3.out HW4.out
    generalize decide (l3 = l4) = sv at hS1 hS2
    have HS1 := Lib.hid hS1
    have HS2 := Lib.hid hS2
    clear hS1 hS2
    go_wp2_with fail
    refine Ord.wp_region_ord (fun w' => w'.cell? ⟨w1.heap.size, 0, none⟩ = some (.int .i64 o) ∧ w'.cell? ⟨w1.heap.size, 1, none⟩ = some (.int .i64 x)) [(0, true), (1, true), (2, true), (3, true), (4, true), (5, true), (6, true), (7, true), (8, true), (9, true), (11, true), (10, false), (12, false), (13, true), (14, true), (15, true), (16, true), (18, true), (17, false), (19, false), (20, true), (21, true), (22, true), (23, true), (24, true), (26, true), (27, true), (25, false), (28, false), (29, true), (30, true), (31, true), (32, true), (34, true), (33, false), (35, false), (36, true), (37, true), (38, true), (39, true), (40, true), (42, true), (43, true), (41, false), (44, false), (45, true), (46, true)] (by kernel_rfl) (by kernel_rfl) rfl (by kernel_rfl) (⟨hOi_8.out.cell 0 (v := .int .i64 o) rfl, hOi_8.out.cell 1 (v := .int .i64 x) rfl⟩) ?_
    simp only [Ord.ordOps, List.getElem?_toArray, List.getElem?_cons_zero, List.getElem?_cons_succ]
    repeat (first
      | (refine Ord.ord_plain (v := ?_) rfl (fun w' hS => ?_) ?_; rotate_left; (focus ((try dsimp only at hS); go_simp; first | done | with_reducible rfl)); simp only [Act.put, List.setIfInBounds_toArray, List.set_cons_zero, List.set_cons_succ])
      | (refine Ord.ord_skip (by rfl) ?_; simp only [Act.put, List.setIfInBounds_toArray, List.set_cons_zero, List.set_cons_succ])
      | (refine Ord.ord_take (v := ?_) (by rfl) (fun w' hS => ?_) ?_; rotate_left; (focus ((try dsimp only at hS); go_simp; first | done | with_reducible rfl)); simp only [Act.put, List.setIfInBounds_toArray, List.set_cons_zero, List.set_cons_succ]))
    have hb9 : Below w8.heap.size w8 w8.drew := (Below.refl _ _).drew
    have hB9 := btr hB8 hb9
    have hS9 := hb9.size
    have hOi_9 := Lib.hid (hOi_8.out.below hb9 (by omega))
    have hOb1_9 := Lib.hid (hOb1_8.out.below hb9 (by omega))
    have hOb2_9 := Lib.hid (hOb2_8.out.below hb9 (by omega))
    have hOb3_9 := Lib.hid (hOb3_8.out.below hb9 (by omega))
    have hOb4_9 := Lib.hid (hOb4_8.out.below hb9 (by omega))
    clear hOi_8 hOb1_8 hOb2_8 hOb3_8 hOb4_8 hb9
    refine Ord.ord_call (fun K hK => ?_)
    go_simp
    refine (HI2.out _).mono ?_
    rintro e w10 ⟨rfl, hb10⟩
    have hB10 := btr hB9 hb10
    have hS10 := hb10.size
    have hOi_10 := Lib.hid (hOi_9.out.below hb10 (by omega))
    have hOb1_10 := Lib.hid (hOb1_9.out.below hb10 (by omega))
    have hOb2_10 := Lib.hid (hOb2_9.out.below hb10 (by omega))
    have hOb3_10 := Lib.hid (hOb3_9.out.below hb10 (by omega))
    have hOb4_10 := Lib.hid (hOb4_9.out.below hb10 (by omega))
    clear hOi_9 hOb1_9 hOb2_9 hOb3_9 hOb4_9 hb10
    refine hK.out _ _ (⟨hOi_10.out.cell 0 (v := .int .i64 o) rfl, hOi_10.out.cell 1 (v := .int .i64 x) rfl⟩) ?_
    clear hK K
    repeat (first
      | (refine Ord.ord_plain (v := ?_) rfl (fun w' hS => ?_) ?_; rotate_left; (focus ((try dsimp only at hS); go_simp; first | done | with_reducible rfl)); simp only [Act.put, List.setIfInBounds_toArray, List.set_cons_zero, List.set_cons_succ])
      | (refine Ord.ord_skip (by rfl) ?_; simp only [Act.put, List.setIfInBounds_toArray, List.set_cons_zero, List.set_cons_succ])
      | (refine Ord.ord_take (v := ?_) (by rfl) (fun w' hS => ?_) ?_; rotate_left; (focus ((try dsimp only at hS); go_simp; first | done | with_reducible rfl)); simp only [Act.put, List.setIfInBounds_toArray, List.set_cons_zero, List.set_cons_succ]))
    refine Ord.ord_call (fun K hK => ?_)
    go_simp
    refine (HI1.out _).mono ?_
    rintro e w11 ⟨rfl, hb11⟩
    have hB11 := btr hB10 hb11
    have hS11 := hb11.size
    have hOi_11 := Lib.hid (hOi_10.out.below hb11 (by omega))
    have hOb1_11 := Lib.hid (hOb1_10.out.below hb11 (by omega))
    have hOb2_11 := Lib.hid (hOb2_10.out.below hb11 (by omega))
    have hOb3_11 := Lib.hid (hOb3_10.out.below hb11 (by omega))
    have hOb4_11 := Lib.hid (hOb4_10.out.below hb11 (by omega))
    clear hOi_10 hOb1_10 hOb2_10 hOb3_10 hOb4_10 hb11
    refine hK.out _ _ (⟨hOi_11.out.cell 0 (v := .int .i64 o) rfl, hOi_11.out.cell 1 (v := .int .i64 x) rfl⟩) ?_
    clear hK K
    repeat (first
      | (refine Ord.ord_plain (v := ?_) rfl (fun w' hS => ?_) ?_; rotate_left; (focus ((try dsimp only at hS); go_simp; first | done | with_reducible rfl)); simp only [Act.put, List.setIfInBounds_toArray, List.set_cons_zero, List.set_cons_succ])
      | (refine Ord.ord_skip (by rfl) ?_; simp only [Act.put, List.setIfInBounds_toArray, List.set_cons_zero, List.set_cons_succ])
      | (refine Ord.ord_take (v := ?_) (by rfl) (fun w' hS => ?_) ?_; rotate_left; (focus ((try dsimp only at hS); go_simp; first | done | with_reducible rfl)); simp only [Act.put, List.setIfInBounds_toArray, List.set_cons_zero, List.set_cons_succ]))
    refine Ord.ord_call (fun K hK => ?_)
    go_simp
    refine (HP2.out _ _ _ (hOb1_11.out.wide (Nat.zero_le _) (by omega))).mono ?_
    rintro e w12 ⟨rfl, hb12⟩
    have hB12 := btr hB11 hb12
    have hS12 := hb12.size
    have hOi_12 := Lib.hid (hOi_11.out.below hb12 (by omega))
    have hOb1_12 := Lib.hid (hOb1_11.out.below hb12 (by omega))
    have hOb2_12 := Lib.hid (hOb2_11.out.below hb12 (by omega))
    have hOb3_12 := Lib.hid (hOb3_11.out.below hb12 (by omega))
    have hOb4_12 := Lib.hid (hOb4_11.out.below hb12 (by omega))
    clear hOi_11 hOb1_11 hOb2_11 hOb3_11 hOb4_11 hb12
    refine hK.out _ _ (⟨hOi_12.out.cell 0 (v := .int .i64 o) rfl, hOi_12.out.cell 1 (v := .int .i64 x) rfl⟩) ?_
    clear hK K
    repeat (first
      | (refine Ord.ord_plain (v := ?_) rfl (fun w' hS => ?_) ?_; rotate_left; (focus ((try dsimp only at hS); go_simp; first | done | with_reducible rfl)); simp only [Act.put, List.setIfInBounds_toArray, List.set_cons_zero, List.set_cons_succ])
      | (refine Ord.ord_skip (by rfl) ?_; simp only [Act.put, List.setIfInBounds_toArray, List.set_cons_zero, List.set_cons_succ])
      | (refine Ord.ord_take (v := ?_) (by rfl) (fun w' hS => ?_) ?_; rotate_left; (focus ((try dsimp only at hS); go_simp; first | done | with_reducible rfl)); simp only [Act.put, List.setIfInBounds_toArray, List.set_cons_zero, List.set_cons_succ]))
    refine Ord.ord_call (fun K hK => ?_)
    go_simp
    refine (HP1.out _ _ _ (hOb1_12.out.wide (Nat.zero_le _) (by omega))).mono ?_
    rintro e w13 ⟨rfl, hb13⟩
    have hB13 := btr hB12 hb13
    have hS13 := hb13.size
    have hOi_13 := Lib.hid (hOi_12.out.below hb13 (by omega))
    have hOb1_13 := Lib.hid (hOb1_12.out.below hb13 (by omega))
    have hOb2_13 := Lib.hid (hOb2_12.out.below hb13 (by omega))
    have hOb3_13 := Lib.hid (hOb3_12.out.below hb13 (by omega))
    have hOb4_13 := Lib.hid (hOb4_12.out.below hb13 (by omega))
    clear hOi_12 hOb1_12 hOb2_12 hOb3_12 hOb4_12 hb13
    refine hK.out _ _ (⟨hOi_13.out.cell 0 (v := .int .i64 o) rfl, hOi_13.out.cell 1 (v := .int .i64 x) rfl⟩) ?_
    clear hK K
    repeat (first
      | (refine Ord.ord_plain (v := ?_) rfl (fun w' hS => ?_) ?_; rotate_left; (focus ((try dsimp only at hS); go_simp; first | done | with_reducible rfl)); simp only [Act.put, List.setIfInBounds_toArray, List.set_cons_zero, List.set_cons_succ])
      | (refine Ord.ord_skip (by rfl) ?_; simp only [Act.put, List.setIfInBounds_toArray, List.set_cons_zero, List.set_cons_succ])
      | (refine Ord.ord_take (v := ?_) (by rfl) (fun w' hS => ?_) ?_; rotate_left; (focus ((try dsimp only at hS); go_simp; first | done | with_reducible rfl)); simp only [Act.put, List.setIfInBounds_toArray, List.set_cons_zero, List.set_cons_succ]))
    refine Ord.ord_call (fun K hK => ?_)
    go_simp
    refine (HA2.out _ _ _ (hOb2_13.out.wide (Nat.zero_le _) (by omega))).mono ?_
    rintro e w14 ⟨rfl, hb14⟩
    have hB14 := btr hB13 hb14
    have hS14 := hb14.size
    have hOi_14 := Lib.hid (hOi_13.out.below hb14 (by omega))
    have hOb1_14 := Lib.hid (hOb1_13.out.below hb14 (by omega))
    have hOb2_14 := Lib.hid (hOb2_13.out.below hb14 (by omega))
    have hOb3_14 := Lib.hid (hOb3_13.out.below hb14 (by omega))
    have hOb4_14 := Lib.hid (hOb4_13.out.below hb14 (by omega))
    clear hOi_13 hOb1_13 hOb2_13 hOb3_13 hOb4_13 hb14
    refine hK.out _ _ (⟨hOi_14.out.cell 0 (v := .int .i64 o) rfl, hOi_14.out.cell 1 (v := .int .i64 x) rfl⟩) ?_
    clear hK K
    repeat (first
      | (refine Ord.ord_plain (v := ?_) rfl (fun w' hS => ?_) ?_; rotate_left; (focus ((try dsimp only at hS); go_simp; first | done | with_reducible rfl)); simp only [Act.put, List.setIfInBounds_toArray, List.set_cons_zero, List.set_cons_succ])
      | (refine Ord.ord_skip (by rfl) ?_; simp only [Act.put, List.setIfInBounds_toArray, List.set_cons_zero, List.set_cons_succ])
      | (refine Ord.ord_take (v := ?_) (by rfl) (fun w' hS => ?_) ?_; rotate_left; (focus ((try dsimp only at hS); go_simp; first | done | with_reducible rfl)); simp only [Act.put, List.setIfInBounds_toArray, List.set_cons_zero, List.set_cons_succ]))
    refine Ord.ord_call (fun K hK => ?_)
    go_simp
    refine (HA1.out _ _ _ (hOb2_14.out.wide (Nat.zero_le _) (by omega))).mono ?_
    rintro e w15 ⟨rfl, hb15⟩
    have hB15 := btr hB14 hb15
    have hS15 := hb15.size
    have hOi_15 := Lib.hid (hOi_14.out.below hb15 (by omega))
    have hOb1_15 := Lib.hid (hOb1_14.out.below hb15 (by omega))
    have hOb2_15 := Lib.hid (hOb2_14.out.below hb15 (by omega))
    have hOb3_15 := Lib.hid (hOb3_14.out.below hb15 (by omega))
    have hOb4_15 := Lib.hid (hOb4_14.out.below hb15 (by omega))
    clear hOi_14 hOb1_14 hOb2_14 hOb3_14 hOb4_14 hb15
    refine hK.out _ _ (⟨hOi_15.out.cell 0 (v := .int .i64 o) rfl, hOi_15.out.cell 1 (v := .int .i64 x) rfl⟩) ?_
    clear hK K
    repeat (first
      | (refine Ord.ord_plain (v := ?_) rfl (fun w' hS => ?_) ?_; rotate_left; (focus ((try dsimp only at hS); go_simp; first | done | with_reducible rfl)); simp only [Act.put, List.setIfInBounds_toArray, List.set_cons_zero, List.set_cons_succ])
      | (refine Ord.ord_skip (by rfl) ?_; simp only [Act.put, List.setIfInBounds_toArray, List.set_cons_zero, List.set_cons_succ])
      | (refine Ord.ord_take (v := ?_) (by rfl) (fun w' hS => ?_) ?_; rotate_left; (focus ((try dsimp only at hS); go_simp; first | done | with_reducible rfl)); simp only [Act.put, List.setIfInBounds_toArray, List.set_cons_zero, List.set_cons_succ]))
    refine Ord.ord_call (fun K hK => ?_)
    go_simp
    refine (HO2.out _ (HT.out _ hB15)).mono ?_
    rintro e w16 ⟨rfl, hb16⟩
    have hB16 := btr hB15 hb16
    have hS16 := hb16.size
    have hOi_16 := Lib.hid (hOi_15.out.below hb16 (by omega))
    have hOb1_16 := Lib.hid (hOb1_15.out.below hb16 (by omega))
    have hOb2_16 := Lib.hid (hOb2_15.out.below hb16 (by omega))
    have hOb3_16 := Lib.hid (hOb3_15.out.below hb16 (by omega))
    have hOb4_16 := Lib.hid (hOb4_15.out.below hb16 (by omega))
    clear hOi_15 hOb1_15 hOb2_15 hOb3_15 hOb4_15 hb16
    refine hK.out _ _ (⟨hOi_16.out.cell 0 (v := .int .i64 o) rfl, hOi_16.out.cell 1 (v := .int .i64 x) rfl⟩) ?_
    clear hK K
    repeat (first
      | (refine Ord.ord_plain (v := ?_) rfl (fun w' hS => ?_) ?_; rotate_left; (focus ((try dsimp only at hS); go_simp; first | done | with_reducible rfl)); simp only [Act.put, List.setIfInBounds_toArray, List.set_cons_zero, List.set_cons_succ])
      | (refine Ord.ord_skip (by rfl) ?_; simp only [Act.put, List.setIfInBounds_toArray, List.set_cons_zero, List.set_cons_succ])
      | (refine Ord.ord_take (v := ?_) (by rfl) (fun w' hS => ?_) ?_; rotate_left; (focus ((try dsimp only at hS); go_simp; first | done | with_reducible rfl)); simp only [Act.put, List.setIfInBounds_toArray, List.set_cons_zero, List.set_cons_succ]))
    refine Ord.ord_call (fun K hK => ?_)
    go_simp
    refine (HO1.out _).mono ?_
    rintro e w17 ⟨rfl, hb17⟩
    have hB17 := btr hB16 hb17
    have hS17 := hb17.size
    have hOi_17 := Lib.hid (hOi_16.out.below hb17 (by omega))
    have hOb1_17 := Lib.hid (hOb1_16.out.below hb17 (by omega))
    have hOb2_17 := Lib.hid (hOb2_16.out.below hb17 (by omega))
    have hOb3_17 := Lib.hid (hOb3_16.out.below hb17 (by omega))
    have hOb4_17 := Lib.hid (hOb4_16.out.below hb17 (by omega))
    clear hOi_16 hOb1_16 hOb2_16 hOb3_16 hOb4_16 hb17
    refine hK.out _ _ (⟨hOi_17.out.cell 0 (v := .int .i64 o) rfl, hOi_17.out.cell 1 (v := .int .i64 x) rfl⟩) ?_
    clear hK K
    repeat (first
      | (refine Ord.ord_plain (v := ?_) rfl (fun w' hS => ?_) ?_; rotate_left; (focus ((try dsimp only at hS); go_simp; first | done | with_reducible rfl)); simp only [Act.put, List.setIfInBounds_toArray, List.set_cons_zero, List.set_cons_succ])
      | (refine Ord.ord_skip (by rfl) ?_; simp only [Act.put, List.setIfInBounds_toArray, List.set_cons_zero, List.set_cons_succ])
      | (refine Ord.ord_take (v := ?_) (by rfl) (fun w' hS => ?_) ?_; rotate_left; (focus ((try dsimp only at hS); go_simp; first | done | with_reducible rfl)); simp only [Act.put, List.setIfInBounds_toArray, List.set_cons_zero, List.set_cons_succ]))
    refine Ord.ord_call (fun K hK => ?_)
    go_simp
    refine (HS2.out _ _ _ _ _ (hOb3_17.out.wide (Nat.zero_le _) (by omega)) (hOb4_17.out.wide (Nat.zero_le _) (by omega))).mono ?_
    rintro e w18 ⟨rfl, hb18⟩
    have hB18 := btr hB17 hb18
    have hS18 := hb18.size
    have hOi_18 := Lib.hid (hOi_17.out.below hb18 (by omega))
    have hOb1_18 := Lib.hid (hOb1_17.out.below hb18 (by omega))
    have hOb2_18 := Lib.hid (hOb2_17.out.below hb18 (by omega))
    have hOb3_18 := Lib.hid (hOb3_17.out.below hb18 (by omega))
    have hOb4_18 := Lib.hid (hOb4_17.out.below hb18 (by omega))
    clear hOi_17 hOb1_17 hOb2_17 hOb3_17 hOb4_17 hb18
    refine hK.out _ _ (⟨hOi_18.out.cell 0 (v := .int .i64 o) rfl, hOi_18.out.cell 1 (v := .int .i64 x) rfl⟩) ?_
    clear hK K
    repeat (first
      | (refine Ord.ord_plain (v := ?_) rfl (fun w' hS => ?_) ?_; rotate_left; (focus ((try dsimp only at hS); go_simp; first | done | with_reducible rfl)); simp only [Act.put, List.setIfInBounds_toArray, List.set_cons_zero, List.set_cons_succ])
      | (refine Ord.ord_skip (by rfl) ?_; simp only [Act.put, List.setIfInBounds_toArray, List.set_cons_zero, List.set_cons_succ])
      | (refine Ord.ord_take (v := ?_) (by rfl) (fun w' hS => ?_) ?_; rotate_left; (focus ((try dsimp only at hS); go_simp; first | done | with_reducible rfl)); simp only [Act.put, List.setIfInBounds_toArray, List.set_cons_zero, List.set_cons_succ]))
    refine Ord.ord_call (fun K hK => ?_)
    go_simp
    refine (HS1.out _ _ _ _ _ (hOb3_18.out.wide (Nat.zero_le _) (by omega)) (hOb4_18.out.wide (Nat.zero_le _) (by omega))).mono ?_
    rintro e w19 ⟨rfl, hb19⟩
    have hB19 := btr hB18 hb19
    have hS19 := hb19.size
    have hOi_19 := Lib.hid (hOi_18.out.below hb19 (by omega))
    have hOb1_19 := Lib.hid (hOb1_18.out.below hb19 (by omega))
    have hOb2_19 := Lib.hid (hOb2_18.out.below hb19 (by omega))
    have hOb3_19 := Lib.hid (hOb3_18.out.below hb19 (by omega))
    have hOb4_19 := Lib.hid (hOb4_18.out.below hb19 (by omega))
    clear hOi_18 hOb1_18 hOb2_18 hOb3_18 hOb4_18 hb19
    refine hK.out _ _ (⟨hOi_19.out.cell 0 (v := .int .i64 o) rfl, hOi_19.out.cell 1 (v := .int .i64 x) rfl⟩) ?_
    clear hK K
    repeat (first
      | (refine Ord.ord_plain (v := ?_) rfl (fun w' hS => ?_) ?_; rotate_left; (focus ((try dsimp only at hS); go_simp; first | done | with_reducible rfl)); simp only [Act.put, List.setIfInBounds_toArray, List.set_cons_zero, List.set_cons_succ])
      | (refine Ord.ord_skip (by rfl) ?_; simp only [Act.put, List.setIfInBounds_toArray, List.set_cons_zero, List.set_cons_succ])
      | (refine Ord.ord_take (v := ?_) (by rfl) (fun w' hS => ?_) ?_; rotate_left; (focus ((try dsimp only at hS); go_simp; first | done | with_reducible rfl)); simp only [Act.put, List.setIfInBounds_toArray, List.set_cons_zero, List.set_cons_succ]))
    refine Ord.ord_nil ?_
    clear hOb1_19
    clear hOb2_19
    clear hOb3_19
    clear hOb4_19
    have zi0 := hOi_19.out.cell 0 (v := .int .i64 o) rfl
    have zi1 := hOi_19.out.cell 1 (v := .int .i64 x) rfl
    go_wp2_with fail
    refine (HI1.out _).mono ?_
    rintro e w20 ⟨rfl, hb20⟩
    have hB20 := btr hB19 hb20
    have hS20 := hb20.size
    have hOi_20 := Lib.hid (hOi_19.out.below hb20 (by omega))
    clear hOi_19 hb20
    clear zi0 zi1
    clear hOi_20
    have hN := fun V : World => impl_insAt none 0 0 0 [] V (by omega) rfl lies_nil (fun _ h => by cases h) (by decide)
    rw [show insAt [] 0 = (7, 0) from rfl] at hN
    unfold OneIns at hN
    have hJ := fun (V : World) (h : OpTab V) => impl_opName 8 V h (by decide)
    rw [show opName 8 = ⟨#[106, 117, 109, 112]⟩ from rfl] at hJ
    have hQ := fun (A : Option Addr) (c : Nat) (V : World) (h : Lies V 0 V.heap.size A (jcells [(1, 5)])) => impl_insAt A 1 c 0 [(1, 5)] V (by omega) rfl h wf_set5 (by decide)
    rw [show insAt [(1, 5)] 0 = (1, 5) from rfl] at hQ
    unfold OneIns at hQ
    dsimp only at hN hQ
    have HN := Lib.hid hN
    have HJ := Lib.hid hJ
    have HQ := Lib.hid hQ
    clear hN hJ hQ
    cases v
    · go_wp2_with fail
      refine (HN.out _).mono ?_
      rintro e w21 ⟨rfl, hb21⟩
      have hB21 := btr hB20 hb21
      have hS21 := hb21.size
      clear hb21
      go_wp2_with fail
      refine (HJ.out _ (HT.out _ hB21)).mono ?_
      rintro e w22 ⟨rfl, hb22⟩
      have hB22 := btr hB21 hb22
      have hS22 := hb22.size
      clear hb22
      go_wp2_with fail
      have hLq : Lies (w22.alloc (.cells #[.int .i64 1, .int .i64 5] 25)) 0 (w22.alloc (.cells #[.int .i64 1, .int .i64 5] 25)).heap.size (some ⟨w22.heap.size, 0, none⟩) (jcells [(1, 5)]) := lies_block (heap_alloc_new w22 (.cells #[.int .i64 1, .int .i64 5] 25)) (by simp)
      have hBq := hB22.alloc hB22.size (.cells #[.int .i64 1, .int .i64 5] 25)
      refine (HQ.out _ _ _ hLq).mono ?_
      rintro e wz ⟨rfl, hbz⟩
      have HBZ := Lib.hid (btr hBq hbz)
      clear hbz hLq hBq
      have hfl := field1
      go_wp2_with fail
      go_ret
      exact ⟨rfl, HBZ.out⟩
    · obtain ⟨hp1, hp2⟩ := HPG.out rfl
      go_wp2_with fail
      refine (HN.out _).mono ?_
      rintro e w21 ⟨rfl, hb21⟩
      have hB21 := btr hB20 hb21
      have hS21 := hb21.size
      clear hb21
      go_wp2_with fail
      refine (HJ.out _ (HT.out _ hB21)).mono ?_
      rintro e w22 ⟨rfl, hb22⟩
      have hB22 := btr hB21 hb22
      have hS22 := hb22.size
      clear hb22
      go_wp2_with fail
      have hLq : Lies (w22.alloc (.cells #[.int .i64 1, .int .i64 5] 25)) 0 (w22.alloc (.cells #[.int .i64 1, .int .i64 5] 25)).heap.size (some ⟨w22.heap.size, 0, none⟩) (jcells [(1, 5)]) := lies_block (heap_alloc_new w22 (.cells #[.int .i64 1, .int .i64 5] 25)) (by simp)
      have hBq := hB22.alloc hB22.size (.cells #[.int .i64 1, .int .i64 5] 25)
      refine (HQ.out _ _ _ hLq).mono ?_
      rintro e wz ⟨rfl, hbz⟩
      have HBZ := Lib.hid (btr hBq hbz)
      clear hbz hLq hBq
      have hfl := field1
      go_wp2_with fail
      go_ret
      exact ⟨rfl, HBZ.out⟩
/-! ### The row's step, and the card -/
theorem contract (H : Type) (enc : TypeId × Value → H) (W : World) (base : Nat) (args : Array Value) (ds gs : List (DataW H)) (before : List MemPlace)
    (hval : ∀ (j : Nat) t v, Tryd.f3.params[j]? = some t → args[j]? = some v → Value.okWide Tryd.prog W .any base t v)
    (hW : DataW.Whole enc Tryd.prog Tryd.f3.params.toList Rows.fnCodeSpec.vars false W args.toList ds gs before) (hL : laidMetH Tryd.prog Rows.fnCodeRow.laid W) :
    Calls Tryd.prog 3 args W fun e W' => ∃ v, e = .returned v ∧ Rows.fnCodeSpec.post enc Tryd.prog Tryd.f3 false true false false W args v W' := by
  have hF := op_tab hL
  have hW' := hW
  obtain ⟨p, q, hA0, hV0, rfl, hfz, hnd⟩ := hW
  have hA : DataW.TrodAll enc Tryd.prog W 0 (fun _ => true) true Tryd.f3.params.toList args.toList ds p := hA0
  have hA1 := hA
  obtain ⟨rfl, rfl⟩ := DataW.TrodVars.unique hV0 (op_read enc hF _)
  rw [Tryd.params3] at hA hval
  obtain ⟨v0, vs0, d0, ds0, p0, q0, hargs, rfl, rfl, h0, r0⟩ := trodAll_cons hA
  obtain ⟨rfl, rfl, rfl⟩ := trodAll_nil r0
  obtain rfl : args = #[v0] := by cases args; simp_all
  obtain ⟨A0, n0, c0, rfl, hn0, hcode0, _⟩ := Draw.open_code (hval 0 22 v0 rfl rfl) h0
  clear hA0 hV0
  refine (walk A0 n0 c0 hn0 hcode0 hF).mono fun e W' ⟨he, hg⟩ => ?_
  subst he
  exact ⟨_, rfl, StrTab.post_named Slots.laid (by kernel_rfl) rfl rfl hW' hA1 hg (fun sp => op_read enc (hF.below hg) sp) (fun _ _ _ => (trodAll_cons_mk (shut_bool Tryd.underlying4 _) trodAll_mk0)) (ok_one (by kernel_rfl) rfl (okWide_bool_mk Tryd.underlying4 _))⟩

theorem laid_met (os : Os) : laidMet Tryd.prog Rows.fnCodeRow.laid ((World.laidAll Tryd.prog os Rows.fnCodeRow.laid).forCall (fun _ _ => 0) ⟨#[], #[.slice none 0 0], []⟩).memory :=
  laidMet_laidAll _ (by kernel_rfl) (by kernel_rfl)

set_option maxRecDepth 100000 in
theorem lifted (os : Os) (started : os.Started) (H : Type) (enc : TypeId × Value → H) (F : Stop.Interp) :
    ReturnsInHanded {} Tryd.checked os 3 .any ((OpenSpec.ofChange Rows.fnCodeSpec).preRow enc Tryd.prog Tryd.f3 Rows.fnCodeRow.domain false Rows.fnCodeRow.laid) (((OpenSpec.ofChange Rows.fnCodeSpec).at F).post enc Tryd.prog Tryd.f3 false true false false) := by
  refine returnsInHanded_of_row (C := Tryd.checked) (s := OpenSpec.ofChange Rows.fnCodeSpec) Base.own started (by kernel_rfl) Tryd.func3
    (witness_row_atRef (enc := enc) (C := Tryd.checked) false (World.laidAll Tryd.prog os Rows.fnCodeRow.laid) #[.slice none 0 0] (World.laidAll_os _ _ _) (by kernel_rfl) (by kernel_rfl) (by kernel_rfl)
      (OpenSpec.preRow_of_B rfl 8 (by kernel_rfl) (by kernel_rfl) (laid_met os))) ?_
  intro W base args ds gs before hval hW _ _ _ hL _ _
  exact contract H enc W base args ds gs before hval hW hL

theorem said : Rows.FnCodeSaid :=
  OpenClaim.holds_of_cond 3 Tryd.f3 rfl rfl rfl rfl rfl rfl rfl ⟨rfl, rfl, rfl, rfl, rfl⟩ rfl rfl rfl rfl rfl (by kernel_rfl) Tryd.func3 (by kernel_rfl)
    (of_decide_eq_true (by kernel_rfl)) (by unfold Func.isWrapper; first | (rw [if_pos (by decide +kernel)]; kernel_rfl) | (rw [if_neg (by decide +kernel)]; exact ⟨rfl, rfl⟩))
    (fun os started H enc _ F => by rw [OpenClaim.pre_eq_preRow]; exact lifted os started H enc F)

theorem plain (f : FuncId) (fn : Func) (hf : Tryd.pinned.checked.prog.funcNamed "loop.example/g00975/laws.FnCode" = some f) (hfn : Tryd.pinned.checked.prog.funcs[f]? = some fn) :
    Rows.fnCodeCard.stood.looks = Tryd.pinned.checked.prog.looks [] ∧ ∀ (j : Nat) t, fn.params[j]? = some t → Tryd.pinned.checked.prog.wantsStandIn t = false := by
  obtain rfl : f = 3 := Option.some.inj ((show Tryd.prog.funcNamed "loop.example/g00975/laws.FnCode" = some 3 by kernel_rfl).symm.trans hf) |>.symm
  obtain rfl : fn = Tryd.f3 := (Option.some.inj (Tryd.func3.symm.trans hfn)).symm
  refine ⟨by kernel_rfl, fun j t ht => ?_⟩
  have hall : Tryd.f3.params.toList.all (fun t => !Tryd.prog.wantsStandIn t) = true := by kernel_rfl
  have hm := List.all_eq_true.1 hall t (by simpa using Array.mem_of_getElem? ht)
  exact (show Tryd.prog.wantsStandIn t = false by simpa using hm)

/-- The given statement: the card. -/
theorem proved : Rows.FnCodeCardSaid :=
  Claim7.holds_tied_plain_at .later [] _ _ _ _ said (fun _ h => by cases h) (by kernel_rfl) (fun _ h => by cases h) fnCode_row_tie rfl ⟨rfl, rfl⟩ (by kernel_rfl) rfl plain (by kernel_rfl)
#print axioms proved
end Go.Proofs.YtgccejlkjeenpaaDoor.fnCode
