/-
  For every slice of bytes the law FnControl returns true: a control block is right just when nothing is wrong with it, and what is wrong is told in one order, each once. The tables of strconv and math/bits that the row lists are tied to the program's text by the given card (over the pruned copy of the project that the seat holds). No other condition.
-/
import Derived.Test.YtcdkagpmepdggaaDoorCards
import Derived.Test.YtcdkagpmepdggaaDoorTie
import Derived.Test.YtcdkagpmepdggaaDoorCtlImpl
import Derived.Test.YtcdkagpmepdggaaDoorCtlImplD
import Derived.Test.YtcdkagpmepdggaaDoorCtlDraws
import Derived.Test.YtcdkagpmepdggaaDoorSameInts
import Derived.Test.YtcdkagpmepdggaaDoorOrdT
import Derived.Test.YtcdkagpmepdggaaDoorCode
import Derived.Test.YtcdkagpmepdggaaDoorBig
import Derived.Deep.DeepHandedRow
import Derived.Deep.DeepWitnessRowRef
import Derived.Deep.RegionHeld3
import Derived.Lay
namespace Go.Proofs.YtcdkagpmepdggaaDoor.fnControl
set_option maxRecDepth 100000
open Go.ChangeShapes Go.WideShapes Go.ChangeAt Go.RowKit
open Go.Proofs.YtcdkagpmepdggaaDoor.Base Go.Proofs.YtcdkagpmepdggaaDoor.Mem Go.Proofs.YtcdkagpmepdggaaDoor.Slots Go.Proofs.YtcdkagpmepdggaaDoor.Ints Go.Proofs.YtcdkagpmepdggaaDoor.Draw Go.Proofs.YtcdkagpmepdggaaDoor.SDraw Go.Proofs.YtcdkagpmepdggaaDoor.Ctls
set_option linter.unusedVariables false
set_option linter.unusedSimpArgs false

def Facts (W : World) : Prop := Laid.Pow W
theorem facts {W : World} (h : laidMetH Tryd.prog Rows.fnControlRow.laid W) : Facts W := by
  have h' : laidMet Tryd.prog Rows.fnControlRow.laid W := h
  exact Laid.pow_of_head h'.tail.tail
theorem ctlF_pair (s : CT) : (ctlF s).Pairwise (· < ·) := by
  unfold ctlF
  split <;> split <;> split <;> split <;> simp
theorem ctlF_asc {l : List Int} (h : l.Pairwise (· < ·)) {i : Nat} (hi : i + 1 < l.length) : l[i] < l[i + 1] := List.pairwise_iff_getElem.1 h i (i + 1) (by omega) hi (by omega)
theorem posts_open {a b n : Int} {o : Bool} (h : posts (a, b, o) n = true) : o = true := by
  cases o
  · unfold posts at h
    by_cases hb : b = 0
    · subst hb
      have hx : bitAt (a, (0 : Int), false).2.1 n = false := by show bitAt 0 n = false; unfold bitAt; rw [Int.zero_ediv]; decide
      rw [hx, Bool.and_false] at h; cases h
    · have hx : ctlOk (a, b, false) = false := by
        unfold ctlOk ctlF; dsimp only
        simp [hb]
      rw [hx, Bool.false_and, Bool.false_and] at h; cases h
  · rfl
theorem nat_zero (N : Nat) : (N == 0) = ((N : Int) == 0) := by
  by_cases h : N = 0
  · subst h; rfl
  · rw [beq_eq_false_iff_ne.2 h, beq_eq_false_iff_ne.2 (show (N : Int) ≠ 0 by omega)]
theorem block_lies {w : World} {l : List Int} {B : Nat} {t : TypeId} {fr : Nat × Nat} (hb : w.heap[B]? = some (.cells (ncells l).toArray t fr)) (hB : B < w.heap.size) : Lies w 0 w.heap.size (some ⟨B, 0, none⟩) (ncells l) := fun j u hu =>
  ⟨B, 0, rfl, Nat.zero_le _, hB, by have h := World.news_of_block hb j u hu; rwa [Addr.add_lit] at h⟩

set_option maxRecDepth 100000 in
set_option maxHeartbeats 8000000 in
theorem walk (A : Option Addr) (n c : Nat) (hn : n ≤ maxLen) {w : World} (hcode : CodeAt w A n) (hF : Facts w) :
    Calls Tryd.prog 3 #[.slice A n c] w fun e w' => e = .returned (.bool true) ∧ Below w.heap.size w w' := by
  have hn' : n ≤ 9223372036854775807 := hn
  have HC := Lib.hid (show ∀ W, Below w.heap.size w W → CodeAt W A n from fun W hb => hcode.below hb)
  have HF := Lib.hid (fun (V : World) (hb : Below w.heap.size w V) => Laid.pow_below hF hb)
  clear hcode hn hF
  by_cases h1 : 1048576 < n
  · go_enter Tryd.func3, Tryd.ntmps3
    go_wp2_with (go_at_call 5; refine (big_yes A n c _ hn' h1).mono ?_; rintro e w' ⟨rfl, rfl⟩)
    go_ret
    exact ⟨rfl, Below.refl _ _⟩
  · have hn2 : n ≤ 1048576 := by omega
    clear h1 hn'
    go_enter Tryd.func3, Tryd.ntmps3
    go_wp2_with (go_at_call 5; refine (big_no A n c _ hn2).mono ?_; rintro e w' ⟨rfl, rfl⟩)
    go_wp2_with fail
    refine (drawCtlFaults_any A n c _ hn2 (HC.out _ (Below.refl _ _))).mono ?_
    rintro e w1 ⟨a, b, o, rfl, hw, hb1⟩
    have HW := Lib.hid hw
    have hB1 := btr (Below.refl _ _) hb1
    have hS1 := hb1.size
    clear hw hb1
    have hK1 := fun V : World => spec_ctlF a b o V
    have hK2 := fun V : World => impl_ctlF a b o V HW.out
    have hv : ctlOk (a, b, o) = ((ctlF (a, b, o)).length == 0) := rfl
    have hle := ctlF_le (a, b, o)
    have hpw := ctlF_pair (a, b, o)
    generalize ctlF (a, b, o) = u at hK1 hK2 hv hle hpw
    have hO := fun V : World => impl_ctlOk a b o V HW.out
    rw [hv] at hO
    obtain ⟨N, hN⟩ : ∃ N, u.length = N := ⟨_, rfl⟩
    rw [hN] at hO
    have HU := Lib.hid hN
    have hmN : N ≤ 1048576 := by omega
    have hN0 : (N == 0) = ((N : Int) == 0) := nat_zero N
    rw [hN0] at hO
    have HK1 := Lib.hid hK1
    have HK2 := Lib.hid hK2
    have HO := Lib.hid hO
    have HPW := Lib.hid hpw
    have hT1 := fun V : World => spec_ctlT a b o V HW.out
    have hT2 := fun (V : World) (h : Laid.Pow V) => impl_ctlT a b o V HW.out h
    generalize ctlT (a, b, o) = tx at hT1 hT2
    have HT1 := Lib.hid hT1
    have HT2 := Lib.hid hT2
    clear hK1 hK2 hv hle hpw hO hN hN0 hT1 hT2
    have hb2 : Below w1.heap.size w1 (w1.alloc (.cells #[.int .i64 a, .int .i64 b, .bool o] 25)) := (Below.refl _ _).alloc (Nat.le_refl _) _
    have hB2 := btr hB1 hb2
    have hS2 : w1.heap.size < (w1.alloc (.cells #[.int .i64 a, .int .i64 b, .bool o] 25)).heap.size := by simp
    have hOc_2 := Lib.hid (Var.new w1 [.int .i64 a, .int .i64 b, .bool o] 25)
    clear hb2
    have zc0 := hOc_2.out.cell 0 (v := .int .i64 a) rfl
    have zc1 := hOc_2.out.cell 1 (v := .int .i64 b) rfl
    have zc2 := hOc_2.out.cell 2 (v := .bool o) rfl
    go_wp2_with fail
    refine (HK2.out _).mono ?_
    rintro e w3 ⟨A3', n3', c3', rfl, hl3, ho3, hb3⟩
    have he3 := HU.out.symm.trans hl3
    subst he3
    have hB3 := btr hB2 hb3
    have hS3 := hb3.size
    have hOc_3 := Lib.hid (hOc_2.out.below hb3 (by omega))
    have hOx_3 := Lib.hid ho3
    clear hOc_2 hl3 ho3 hb3
    clear zc0 zc1 zc2
    go_wp2_with fail
    refine (drawHasTrap_any A n c _ hn2 (HC.out _ hB3)).mono ?_
    rintro e w4 ⟨t1, t2, rfl, hwa, hwb, hb4⟩
    have HWa := Lib.hid hwa
    have HWb := Lib.hid hwb
    have hB4 := btr hB3 hb4
    have hS4 := hb4.size
    have hOc_4 := Lib.hid (hOc_3.out.below hb4 (by omega))
    have hOx_4 := Lib.hid (hOx_3.out.below hb4 (by omega))
    clear hOc_3 hOx_3 hwa hwb hb4
    have hH1 := fun V : World => spec_hasTrap t1 t2 V
    have hH2 := fun V : World => impl_hasTrap t1 t2 V HWa.out HWb.out
    generalize hasTrap t1 t2 = hv at hH1 hH2
    have HH1 := Lib.hid hH1
    have HH2 := Lib.hid hH2
    clear hH1 hH2
    go_wp2_with fail
    refine (drawPosts_any A n c _ hn2 (HC.out _ hB4)).mono ?_
    rintro e w5 ⟨d, e1, p, m, rfl, hwx, hwm, hb5⟩
    have HWx := Lib.hid hwx
    have HWm := Lib.hid hwm
    have hB5 := btr hB4 hb5
    have hS5 := hb5.size
    have hOc_5 := Lib.hid (hOc_4.out.below hb5 (by omega))
    have hOx_5 := Lib.hid (hOx_4.out.below hb5 (by omega))
    clear hOc_4 hOx_4 hwx hwm hb5
    have hP1 := fun V : World => spec_posts d e1 p m V
    have hP2 := fun V : World => impl_posts d e1 p m V HWx.out HWm.out
    have hop := fun h => posts_open (a := d) (b := e1) (n := m) (o := p) h
    generalize posts (d, e1, p) m = pv at hP1 hP2 hop
    have HP1 := Lib.hid hP1
    have HP2 := Lib.hid hP2
    have HOP := Lib.hid hop
    clear hP1 hP2 hop
    have hb6 : Below w5.heap.size w5 (w5.alloc (.cells #[.int .i64 d, .int .i64 e1, .bool p] 25)) := (Below.refl _ _).alloc (Nat.le_refl _) _
    have hB6 := btr hB5 hb6
    have hS6 : w5.heap.size < (w5.alloc (.cells #[.int .i64 d, .int .i64 e1, .bool p] 25)).heap.size := by simp
    have hOc_6 := Lib.hid (hOc_5.out.below hb6 (by omega))
    have hOx_6 := Lib.hid (hOx_5.out.below hb6 (by omega))
    have hOy_6 := Lib.hid (Var.new w5 [.int .i64 d, .int .i64 e1, .bool p] 25)
    clear hOc_5 hOx_5 hb6
    go_wp2_with fail
    refine Ord.wp_region_ord (fun w' => w'.cell? ⟨w1.heap.size, 0, none⟩ = some (.int .i64 a) ∧ w'.cell? ⟨w1.heap.size, 1, none⟩ = some (.int .i64 b) ∧ w'.cell? ⟨w1.heap.size, 2, none⟩ = some (.bool o) ∧ w'.cell? ⟨w5.heap.size, 0, none⟩ = some (.int .i64 d) ∧ w'.cell? ⟨w5.heap.size, 1, none⟩ = some (.int .i64 e1) ∧ w'.cell? ⟨w5.heap.size, 2, none⟩ = some (.bool p)) [(0, true), (1, true), (2, false), (3, false), (4, true), (5, true), (6, true), (8, true), (9, true), (10, true), (7, false), (11, true), (12, true), (13, true), (14, true), (15, true), (17, true), (18, true), (16, false), (19, false), (20, true), (21, true), (22, true), (23, true), (24, true), (26, true), (27, true), (25, false), (28, false), (29, true), (30, true), (31, true), (32, true), (34, true), (33, false), (35, false), (36, true), (37, true)] (by kernel_rfl) (by kernel_rfl) rfl (by kernel_rfl) (⟨hOc_6.out.cell 0 (v := .int .i64 a) rfl, hOc_6.out.cell 1 (v := .int .i64 b) rfl, hOc_6.out.cell 2 (v := .bool o) rfl, hOy_6.out.cell 0 (v := .int .i64 d) rfl, hOy_6.out.cell 1 (v := .int .i64 e1) rfl, hOy_6.out.cell 2 (v := .bool p) rfl⟩) ?_
    simp only [Ord.ordOps, List.getElem?_toArray, List.getElem?_cons_zero, List.getElem?_cons_succ]
    repeat (first
      | (refine Ord.ord_plain (v := ?_) rfl (fun w' hS => ?_) ?_; rotate_left; (focus ((try dsimp only at hS); go_simp; first | done | with_reducible rfl)); simp only [Act.put, List.setIfInBounds_toArray, List.set_cons_zero, List.set_cons_succ])
      | (refine Ord.ord_skip (by rfl) ?_; simp only [Act.put, List.setIfInBounds_toArray, List.set_cons_zero, List.set_cons_succ])
      | (refine Ord.ord_take (v := ?_) (by rfl) (fun w' hS => ?_) ?_; rotate_left; (focus ((try dsimp only at hS); go_simp; first | done | with_reducible rfl)); simp only [Act.put, List.setIfInBounds_toArray, List.set_cons_zero, List.set_cons_succ]))
    have hb7 : Below (w5.alloc (.cells #[.int .i64 d, .int .i64 e1, .bool p] 25)).heap.size (w5.alloc (.cells #[.int .i64 d, .int .i64 e1, .bool p] 25)) (w5.alloc (.cells #[.int .i64 d, .int .i64 e1, .bool p] 25)).drew := (Below.refl _ _).drew
    have hB7 := btr hB6 hb7
    have hS7 := hb7.size
    have hOc_7 := Lib.hid (hOc_6.out.below hb7 (by omega))
    have hOx_7 := Lib.hid (hOx_6.out.below hb7 (by omega))
    have hOy_7 := Lib.hid (hOy_6.out.below hb7 (by omega))
    clear hOc_6 hOx_6 hOy_6 hb7
    refine Ord.ord_call (fun K hK => ?_)
    go_simp
    refine (HK1.out _).mono ?_
    rintro e w8 ⟨A8', n8', c8', rfl, hl8, ho8, hb8⟩
    have he8 := HU.out.symm.trans hl8
    subst he8
    have hB8 := btr hB7 hb8
    have hS8 := hb8.size
    have hOc_8 := Lib.hid (hOc_7.out.below hb8 (by omega))
    have hOx_8 := Lib.hid (hOx_7.out.below hb8 (by omega))
    have hOy_8 := Lib.hid (hOy_7.out.below hb8 (by omega))
    have hOz_8 := Lib.hid ho8
    clear hOc_7 hOx_7 hOy_7 hl8 ho8 hb8
    refine hK.out _ _ (⟨hOc_8.out.cell 0 (v := .int .i64 a) rfl, hOc_8.out.cell 1 (v := .int .i64 b) rfl, hOc_8.out.cell 2 (v := .bool o) rfl, hOy_8.out.cell 0 (v := .int .i64 d) rfl, hOy_8.out.cell 1 (v := .int .i64 e1) rfl, hOy_8.out.cell 2 (v := .bool p) rfl⟩) ?_
    clear hK K
    repeat (first
      | (refine Ord.ord_plain (v := ?_) rfl (fun w' hS => ?_) ?_; rotate_left; (focus ((try dsimp only at hS); go_simp; first | done | with_reducible rfl)); simp only [Act.put, List.setIfInBounds_toArray, List.set_cons_zero, List.set_cons_succ])
      | (refine Ord.ord_skip (by rfl) ?_; simp only [Act.put, List.setIfInBounds_toArray, List.set_cons_zero, List.set_cons_succ])
      | (refine Ord.ord_take (v := ?_) (by rfl) (fun w' hS => ?_) ?_; rotate_left; (focus ((try dsimp only at hS); go_simp; first | done | with_reducible rfl)); simp only [Act.put, List.setIfInBounds_toArray, List.set_cons_zero, List.set_cons_succ]))
    refine Ord.ord_call (fun K hK => ?_)
    go_simp
    refine (sameInts_same A3' A8' N c3' c8' _ _ _ _ u _ hmN HU.out hOx_8.out.1 hOz_8.out.1).mono ?_
    rintro e w9 ⟨rfl, hb9⟩
    have hB9 := btr hB8 hb9
    have hS9 := hb9.size
    have hOc_9 := Lib.hid (hOc_8.out.below hb9 (by omega))
    have hOx_9 := Lib.hid (hOx_8.out.below hb9 (by omega))
    have hOy_9 := Lib.hid (hOy_8.out.below hb9 (by omega))
    have hOz_9 := Lib.hid (hOz_8.out.below hb9 (by omega))
    clear hOc_8 hOx_8 hOy_8 hOz_8 hb9
    refine hK.out _ _ (⟨hOc_9.out.cell 0 (v := .int .i64 a) rfl, hOc_9.out.cell 1 (v := .int .i64 b) rfl, hOc_9.out.cell 2 (v := .bool o) rfl, hOy_9.out.cell 0 (v := .int .i64 d) rfl, hOy_9.out.cell 1 (v := .int .i64 e1) rfl, hOy_9.out.cell 2 (v := .bool p) rfl⟩) ?_
    clear hK K
    repeat (first
      | (refine Ord.ord_plain (v := ?_) rfl (fun w' hS => ?_) ?_; rotate_left; (focus ((try dsimp only at hS); go_simp; first | done | with_reducible rfl)); simp only [Act.put, List.setIfInBounds_toArray, List.set_cons_zero, List.set_cons_succ])
      | (refine Ord.ord_skip (by rfl) ?_; simp only [Act.put, List.setIfInBounds_toArray, List.set_cons_zero, List.set_cons_succ])
      | (refine Ord.ord_take (v := ?_) (by rfl) (fun w' hS => ?_) ?_; rotate_left; (focus ((try dsimp only at hS); go_simp; first | done | with_reducible rfl)); simp only [Act.put, List.setIfInBounds_toArray, List.set_cons_zero, List.set_cons_succ]))
    clear hOz_9
    refine Ord.ord_call (fun K hK => ?_)
    go_simp
    refine (HO.out _).mono ?_
    rintro e w10 ⟨rfl, hb10⟩
    have hB10 := btr hB9 hb10
    have hS10 := hb10.size
    have hOc_10 := Lib.hid (hOc_9.out.below hb10 (by omega))
    have hOx_10 := Lib.hid (hOx_9.out.below hb10 (by omega))
    have hOy_10 := Lib.hid (hOy_9.out.below hb10 (by omega))
    clear hOc_9 hOx_9 hOy_9 hb10
    refine hK.out _ _ (⟨hOc_10.out.cell 0 (v := .int .i64 a) rfl, hOc_10.out.cell 1 (v := .int .i64 b) rfl, hOc_10.out.cell 2 (v := .bool o) rfl, hOy_10.out.cell 0 (v := .int .i64 d) rfl, hOy_10.out.cell 1 (v := .int .i64 e1) rfl, hOy_10.out.cell 2 (v := .bool p) rfl⟩) ?_
    clear hK K
    repeat (first
      | (refine Ord.ord_plain (v := ?_) rfl (fun w' hS => ?_) ?_; rotate_left; (focus ((try dsimp only at hS); go_simp; first | done | with_reducible rfl)); simp only [Act.put, List.setIfInBounds_toArray, List.set_cons_zero, List.set_cons_succ])
      | (refine Ord.ord_skip (by rfl) ?_; simp only [Act.put, List.setIfInBounds_toArray, List.set_cons_zero, List.set_cons_succ])
      | (refine Ord.ord_take (v := ?_) (by rfl) (fun w' hS => ?_) ?_; rotate_left; (focus ((try dsimp only at hS); go_simp; first | done | with_reducible rfl)); simp only [Act.put, List.setIfInBounds_toArray, List.set_cons_zero, List.set_cons_succ]))
    refine Ord.ord_call (fun K hK => ?_)
    go_simp
    refine (HH2.out _).mono ?_
    rintro e w11 ⟨rfl, hb11⟩
    have hB11 := btr hB10 hb11
    have hS11 := hb11.size
    have hOc_11 := Lib.hid (hOc_10.out.below hb11 (by omega))
    have hOx_11 := Lib.hid (hOx_10.out.below hb11 (by omega))
    have hOy_11 := Lib.hid (hOy_10.out.below hb11 (by omega))
    clear hOc_10 hOx_10 hOy_10 hb11
    refine hK.out _ _ (⟨hOc_11.out.cell 0 (v := .int .i64 a) rfl, hOc_11.out.cell 1 (v := .int .i64 b) rfl, hOc_11.out.cell 2 (v := .bool o) rfl, hOy_11.out.cell 0 (v := .int .i64 d) rfl, hOy_11.out.cell 1 (v := .int .i64 e1) rfl, hOy_11.out.cell 2 (v := .bool p) rfl⟩) ?_
    clear hK K
    repeat (first
      | (refine Ord.ord_plain (v := ?_) rfl (fun w' hS => ?_) ?_; rotate_left; (focus ((try dsimp only at hS); go_simp; first | done | with_reducible rfl)); simp only [Act.put, List.setIfInBounds_toArray, List.set_cons_zero, List.set_cons_succ])
      | (refine Ord.ord_skip (by rfl) ?_; simp only [Act.put, List.setIfInBounds_toArray, List.set_cons_zero, List.set_cons_succ])
      | (refine Ord.ord_take (v := ?_) (by rfl) (fun w' hS => ?_) ?_; rotate_left; (focus ((try dsimp only at hS); go_simp; first | done | with_reducible rfl)); simp only [Act.put, List.setIfInBounds_toArray, List.set_cons_zero, List.set_cons_succ]))
    refine Ord.ord_call (fun K hK => ?_)
    go_simp
    refine (HH1.out _).mono ?_
    rintro e w' ⟨rfl, rfl⟩
    refine hK.out _ _ (⟨hOc_11.out.cell 0 (v := .int .i64 a) rfl, hOc_11.out.cell 1 (v := .int .i64 b) rfl, hOc_11.out.cell 2 (v := .bool o) rfl, hOy_11.out.cell 0 (v := .int .i64 d) rfl, hOy_11.out.cell 1 (v := .int .i64 e1) rfl, hOy_11.out.cell 2 (v := .bool p) rfl⟩) ?_
    clear hK K
    repeat (first
      | (refine Ord.ord_plain (v := ?_) rfl (fun w' hS => ?_) ?_; rotate_left; (focus ((try dsimp only at hS); go_simp; first | done | with_reducible rfl)); simp only [Act.put, List.setIfInBounds_toArray, List.set_cons_zero, List.set_cons_succ])
      | (refine Ord.ord_skip (by rfl) ?_; simp only [Act.put, List.setIfInBounds_toArray, List.set_cons_zero, List.set_cons_succ])
      | (refine Ord.ord_take (v := ?_) (by rfl) (fun w' hS => ?_) ?_; rotate_left; (focus ((try dsimp only at hS); go_simp; first | done | with_reducible rfl)); simp only [Act.put, List.setIfInBounds_toArray, List.set_cons_zero, List.set_cons_succ]))
    refine Ord.ord_call (fun K hK => ?_)
    go_simp
    refine (HP2.out _).mono ?_
    rintro e w12 ⟨rfl, hb12⟩
    have hB12 := btr hB11 hb12
    have hS12 := hb12.size
    have hOc_12 := Lib.hid (hOc_11.out.below hb12 (by omega))
    have hOx_12 := Lib.hid (hOx_11.out.below hb12 (by omega))
    have hOy_12 := Lib.hid (hOy_11.out.below hb12 (by omega))
    clear hOc_11 hOx_11 hOy_11 hb12
    refine hK.out _ _ (⟨hOc_12.out.cell 0 (v := .int .i64 a) rfl, hOc_12.out.cell 1 (v := .int .i64 b) rfl, hOc_12.out.cell 2 (v := .bool o) rfl, hOy_12.out.cell 0 (v := .int .i64 d) rfl, hOy_12.out.cell 1 (v := .int .i64 e1) rfl, hOy_12.out.cell 2 (v := .bool p) rfl⟩) ?_
    clear hK K
    repeat (first
      | (refine Ord.ord_plain (v := ?_) rfl (fun w' hS => ?_) ?_; rotate_left; (focus ((try dsimp only at hS); go_simp; first | done | with_reducible rfl)); simp only [Act.put, List.setIfInBounds_toArray, List.set_cons_zero, List.set_cons_succ])
      | (refine Ord.ord_skip (by rfl) ?_; simp only [Act.put, List.setIfInBounds_toArray, List.set_cons_zero, List.set_cons_succ])
      | (refine Ord.ord_take (v := ?_) (by rfl) (fun w' hS => ?_) ?_; rotate_left; (focus ((try dsimp only at hS); go_simp; first | done | with_reducible rfl)); simp only [Act.put, List.setIfInBounds_toArray, List.set_cons_zero, List.set_cons_succ]))
    refine Ord.ord_call (fun K hK => ?_)
    go_simp
    refine (HP1.out _).mono ?_
    rintro e w13 ⟨rfl, hb13⟩
    have hB13 := btr hB12 hb13
    have hS13 := hb13.size
    have hOc_13 := Lib.hid (hOc_12.out.below hb13 (by omega))
    have hOx_13 := Lib.hid (hOx_12.out.below hb13 (by omega))
    have hOy_13 := Lib.hid (hOy_12.out.below hb13 (by omega))
    clear hOc_12 hOx_12 hOy_12 hb13
    refine hK.out _ _ (⟨hOc_13.out.cell 0 (v := .int .i64 a) rfl, hOc_13.out.cell 1 (v := .int .i64 b) rfl, hOc_13.out.cell 2 (v := .bool o) rfl, hOy_13.out.cell 0 (v := .int .i64 d) rfl, hOy_13.out.cell 1 (v := .int .i64 e1) rfl, hOy_13.out.cell 2 (v := .bool p) rfl⟩) ?_
    clear hK K
    repeat (first
      | (refine Ord.ord_plain (v := ?_) rfl (fun w' hS => ?_) ?_; rotate_left; (focus ((try dsimp only at hS); go_simp; first | done | with_reducible rfl)); simp only [Act.put, List.setIfInBounds_toArray, List.set_cons_zero, List.set_cons_succ])
      | (refine Ord.ord_skip (by rfl) ?_; simp only [Act.put, List.setIfInBounds_toArray, List.set_cons_zero, List.set_cons_succ])
      | (refine Ord.ord_take (v := ?_) (by rfl) (fun w' hS => ?_) ?_; rotate_left; (focus ((try dsimp only at hS); go_simp; first | done | with_reducible rfl)); simp only [Act.put, List.setIfInBounds_toArray, List.set_cons_zero, List.set_cons_succ]))
    refine Ord.ord_call (fun K hK => ?_)
    go_simp
    refine (HT2.out _ (HF.out _ hB13)).mono ?_
    rintro e w14 ⟨rfl, hb14⟩
    have hB14 := btr hB13 hb14
    have hS14 := hb14.size
    have hOc_14 := Lib.hid (hOc_13.out.below hb14 (by omega))
    have hOx_14 := Lib.hid (hOx_13.out.below hb14 (by omega))
    have hOy_14 := Lib.hid (hOy_13.out.below hb14 (by omega))
    clear hOc_13 hOx_13 hOy_13 hb14
    refine hK.out _ _ (⟨hOc_14.out.cell 0 (v := .int .i64 a) rfl, hOc_14.out.cell 1 (v := .int .i64 b) rfl, hOc_14.out.cell 2 (v := .bool o) rfl, hOy_14.out.cell 0 (v := .int .i64 d) rfl, hOy_14.out.cell 1 (v := .int .i64 e1) rfl, hOy_14.out.cell 2 (v := .bool p) rfl⟩) ?_
    clear hK K
    repeat (first
      | (refine Ord.ord_plain (v := ?_) rfl (fun w' hS => ?_) ?_; rotate_left; (focus ((try dsimp only at hS); go_simp; first | done | with_reducible rfl)); simp only [Act.put, List.setIfInBounds_toArray, List.set_cons_zero, List.set_cons_succ])
      | (refine Ord.ord_skip (by rfl) ?_; simp only [Act.put, List.setIfInBounds_toArray, List.set_cons_zero, List.set_cons_succ])
      | (refine Ord.ord_take (v := ?_) (by rfl) (fun w' hS => ?_) ?_; rotate_left; (focus ((try dsimp only at hS); go_simp; first | done | with_reducible rfl)); simp only [Act.put, List.setIfInBounds_toArray, List.set_cons_zero, List.set_cons_succ]))
    refine Ord.ord_call (fun K hK => ?_)
    go_simp
    refine (HT1.out _).mono ?_
    rintro e w15 ⟨rfl, hb15⟩
    have hB15 := btr hB14 hb15
    have hS15 := hb15.size
    have hOc_15 := Lib.hid (hOc_14.out.below hb15 (by omega))
    have hOx_15 := Lib.hid (hOx_14.out.below hb15 (by omega))
    have hOy_15 := Lib.hid (hOy_14.out.below hb15 (by omega))
    clear hOc_14 hOx_14 hOy_14 hb15
    refine hK.out _ _ (⟨hOc_15.out.cell 0 (v := .int .i64 a) rfl, hOc_15.out.cell 1 (v := .int .i64 b) rfl, hOc_15.out.cell 2 (v := .bool o) rfl, hOy_15.out.cell 0 (v := .int .i64 d) rfl, hOy_15.out.cell 1 (v := .int .i64 e1) rfl, hOy_15.out.cell 2 (v := .bool p) rfl⟩) ?_
    clear hK K
    repeat (first
      | (refine Ord.ord_plain (v := ?_) rfl (fun w' hS => ?_) ?_; rotate_left; (focus ((try dsimp only at hS); go_simp; first | done | with_reducible rfl)); simp only [Act.put, List.setIfInBounds_toArray, List.set_cons_zero, List.set_cons_succ])
      | (refine Ord.ord_skip (by rfl) ?_; simp only [Act.put, List.setIfInBounds_toArray, List.set_cons_zero, List.set_cons_succ])
      | (refine Ord.ord_take (v := ?_) (by rfl) (fun w' hS => ?_) ?_; rotate_left; (focus ((try dsimp only at hS); go_simp; first | done | with_reducible rfl)); simp only [Act.put, List.setIfInBounds_toArray, List.set_cons_zero, List.set_cons_succ]))
    refine Ord.ord_nil ?_
    clear hOc_15
    go_wp2_with fail
    have HBW := Lib.hid hB15
    have HX := Lib.hid (show Lies w15 0 w15.heap.size A3' (ncells u) from (hOx_15.out.1.wide (Nat.zero_le _) (by omega)))
    have HY := Lib.hid (hOy_15.out)
    clear hOx_15
    clear hOy_15
    generalize w15 = W at HX HY HBW ⊢
    go_loopw [9] (fun i wr => ∃ (k : Nat), 1 ≤ k ∧ (k ≤ N ∨ k = 1) ∧ i = .int .i64 k ∧ Below W.heap.size W wr) (fun i _ => N - (intOf i).toNat)
    case atStart => exact ⟨1, Nat.le_refl _, .inr rfl, rfl, Below.refl _ _⟩
    case round =>
      obtain ⟨k, hk1, hkN, rfl, hbr⟩ := hrel
      by_cases hlt : k < N
      · have hj1 : (k : Int) < (N : Int) := by omega
        have hj0 : (0 : Int) ≤ (k : Int) := by omega
        have hj2 : (0 : Int) ≤ (k : Int) - 1 := by omega
        have hj3 : (k : Int) - 1 < (N : Int) := by omega
        obtain ⟨j, rfl⟩ : ∃ j, k = j + 1 := ⟨k - 1, by omega⟩
        have hjl : j + 1 < u.length := by have := HU.out; omega
        obtain ⟨b1, off, eA, _, hbW, c1⟩ := int_at HX.out (j + 1) hjl
        obtain ⟨b2, off2, eA2, _, _, c0⟩ := int_at HX.out j (by omega)
        have hasc := ctlF_asc HPW.out hjl
        rw [eA] at eA2
        cases eA2
        have d0 := (hbr.cell (p := ⟨b1, off + j, none⟩) hbW).trans c0
        have d1 := (hbr.cell (p := ⟨b1, off + (j + 1), none⟩) hbW).trans c1
        generalize u[j] = y0 at d0 hasc
        generalize u[j + 1] = y1 at d1 hasc
        have hge : ¬ y0 ≥ y1 := by omega
        have HBR := Lib.hid hbr
        have hpc : (((j + 1 : Nat) : Int) - 1).toNat = j := by omega
        have hpd : (((j + 1 : Nat) : Int)).toNat = j + 1 := by omega
        clear c0 c1 hbr hk1 hkN
        cases eA
        go_wp2_with fail
        go_quiet (fail)
        go_wp2_with fail
        go_roundw
        case rel => exact ⟨j + 2, by omega, .inl (by omega), by go_num, below_drewN HBR.out _⟩
        case measure => simp [intOf]; omega
      · have HB1 := Lib.hid (btr HBW.out hbr)
        have HY2 := Lib.hid (HY.out.below hbr (by have := HY.out.2; omega))
        have q0 := HY2.out.cell 0 (v := .int .i64 d) rfl
        have q1 := HY2.out.cell 1 (v := .int .i64 e1) rfl
        have q2 := HY2.out.cell 2 (v := .bool p) rfl
        clear hbr
        have hD := fun V : World => impl_ctlF 4 300 false V ⟨by decide, by decide, trivial⟩
        rw [show ctlF (4, 300, false) = [1, 2, 3] from by decide] at hD
        have hE := fun (V : World) (h : Laid.Pow V) => impl_ctlT 1 2 true V ⟨by decide, by decide, trivial⟩ h
        rw [show ctlT (1, 2, true) = ⟨#[49, 32, 50, 32, 111, 112, 101, 110]⟩ from by kernel_rfl] at hE
        have HD := Lib.hid hD
        have HE := Lib.hid hE
        clear hD hE
        go_wp2_with fail
        refine (HP2.out _).mono ?_
        rintro e v1 ⟨rfl, hb2⟩
        have HB2 := Lib.hid (btr HB1.out hb2)
        have HY3 := Lib.hid (HY2.out.below hb2 (by have := HY2.out.2; omega))
        clear hb2 q0 q1 q2
        have q0 := HY3.out.cell 0 (v := .int .i64 d) rfl
        have q1 := HY3.out.cell 1 (v := .int .i64 e1) rfl
        have q2 := HY3.out.cell 2 (v := .bool p) rfl
        cases pv
        · go_wp2_with fail
          refine (HD.out _).mono ?_
          rintro e v2 ⟨AD, nD, cD, rfl, hlD, hoD, hb3⟩
          obtain rfl : 3 = nD := hlD
          have HB3 := Lib.hid (btr HB2.out hb3)
          have HLD := Lib.hid hoD.1
          clear hb3 hoD
          go_wp2_with fail
          have hb4 := (Below.refl v2.heap.size v2).alloc (Nat.le_refl _) (.cells #[.int .i64 1, .int .i64 2, .int .i64 3] 3)
          have hLq : Lies (v2.alloc (.cells #[.int .i64 1, .int .i64 2, .int .i64 3] 3)) 0 (v2.alloc (.cells #[.int .i64 1, .int .i64 2, .int .i64 3] 3)).heap.size (some ⟨v2.heap.size, 0, none⟩) (ncells [1, 2, 3]) := block_lies (heap_alloc_new v2 _) (by simp)
          refine (sameInts_same _ _ 3 _ _ _ _ _ _ [1, 2, 3] _ (by omega) rfl (HLD.out.below hb4 (Nat.le_refl _)) hLq).mono ?_
          rintro e v3 ⟨rfl, hb5⟩
          have HB5 := Lib.hid (btr (btr HB3.out hb4) hb5)
          clear hb4 hb5 hLq
          go_wp2_with fail
          refine (HE.out _ (HF.out _ HB5.out)).mono ?_
          rintro e v4 ⟨rfl, hb6⟩
          have HB6 := Lib.hid (btr HB5.out hb6)
          clear hb6
          go_wp2_with fail
          go_ret
          exact ⟨rfl, HB6.out⟩
        · obtain rfl := HOP.out rfl
          go_wp2_with fail
          refine (HD.out _).mono ?_
          rintro e v2 ⟨AD, nD, cD, rfl, hlD, hoD, hb3⟩
          obtain rfl : 3 = nD := hlD
          have HB3 := Lib.hid (btr HB2.out hb3)
          have HLD := Lib.hid hoD.1
          clear hb3 hoD
          go_wp2_with fail
          have hb4 := (Below.refl v2.heap.size v2).alloc (Nat.le_refl _) (.cells #[.int .i64 1, .int .i64 2, .int .i64 3] 3)
          have hLq : Lies (v2.alloc (.cells #[.int .i64 1, .int .i64 2, .int .i64 3] 3)) 0 (v2.alloc (.cells #[.int .i64 1, .int .i64 2, .int .i64 3] 3)).heap.size (some ⟨v2.heap.size, 0, none⟩) (ncells [1, 2, 3]) := block_lies (heap_alloc_new v2 _) (by simp)
          refine (sameInts_same _ _ 3 _ _ _ _ _ _ [1, 2, 3] _ (by omega) rfl (HLD.out.below hb4 (Nat.le_refl _)) hLq).mono ?_
          rintro e v3 ⟨rfl, hb5⟩
          have HB5 := Lib.hid (btr (btr HB3.out hb4) hb5)
          clear hb4 hb5 hLq
          go_wp2_with fail
          refine (HE.out _ (HF.out _ HB5.out)).mono ?_
          rintro e v4 ⟨rfl, hb6⟩
          have HB6 := Lib.hid (btr HB5.out hb6)
          clear hb6
          go_wp2_with fail
          go_ret
          exact ⟨rfl, HB6.out⟩

/-! ### The row's step, and the card -/
theorem contract (H : Type) (enc : TypeId × Value → H) (W : World) (base : Nat) (args : Array Value) (ds gs : List (DataW H)) (before : List MemPlace)
    (hval : ∀ (j : Nat) t v, Tryd.f3.params[j]? = some t → args[j]? = some v → Value.okWide Tryd.prog W .any base t v)
    (hW : DataW.Whole enc Tryd.prog Tryd.f3.params.toList Rows.fnControlSpec.vars false W args.toList ds gs before) (hL : laidMetH Tryd.prog Rows.fnControlRow.laid W) :
    Calls Tryd.prog 3 args W fun e W' => ∃ v, e = .returned v ∧ Rows.fnControlSpec.post enc Tryd.prog Tryd.f3 false true false false W args v W' := by
  have hF := facts hL
  have hW' := hW
  obtain ⟨p, q, hA0, hV, rfl, hfz, hnd⟩ := hW
  have hA : DataW.TrodAll enc Tryd.prog W 0 (fun _ => true) true Tryd.f3.params.toList args.toList ds p := hA0
  have hA1 := hA
  rw [Tryd.params3] at hA hval
  obtain ⟨v0, vs0, d0, ds0, p0, q0, hargs, rfl, rfl, h0, r0⟩ := trodAll_cons hA
  obtain ⟨rfl, rfl, rfl⟩ := trodAll_nil r0
  obtain rfl : args = #[v0] := by cases args; simp_all
  obtain ⟨rfl, rfl⟩ := trodVars_none hV
  obtain ⟨A0, n0, c0, rfl, hn0, hcode0, _⟩ := Draw.open_code (hval 0 22 v0 rfl rfl) h0
  clear hA0
  rw [List.append_nil] at hW'
  refine (walk A0 n0 c0 hn0 hcode0 hF).mono fun e W' ⟨he, hg⟩ => ?_
  subst he
  exact ⟨_, rfl, Mem.post_args Slots.laid (by kernel_rfl) rfl rfl rfl hW' hA1 hg (fun _ _ _ => (trodAll_cons_mk (shut_bool Tryd.underlying4 _) trodAll_mk0)) (ok_one (by kernel_rfl) rfl (okWide_bool_mk Tryd.underlying4 _))⟩

theorem laid_met (os : Os) : laidMet Tryd.prog Rows.fnControlRow.laid ((World.laidAll Tryd.prog os Rows.fnControlRow.laid).forCall (fun _ _ => 0) ⟨#[], #[.slice none 0 0], []⟩).memory :=
  laidMet_laidAll _ (by kernel_rfl) (by kernel_rfl)

set_option maxRecDepth 100000 in
theorem lifted (os : Os) (started : os.Started) (H : Type) (enc : TypeId × Value → H) (F : Stop.Interp) :
    ReturnsInHanded {} Tryd.checked os 3 .any ((OpenSpec.ofChange Rows.fnControlSpec).preRow enc Tryd.prog Tryd.f3 Rows.fnControlRow.domain false Rows.fnControlRow.laid) (((OpenSpec.ofChange Rows.fnControlSpec).at F).post enc Tryd.prog Tryd.f3 false true false false) := by
  refine returnsInHanded_of_row (C := Tryd.checked) (s := OpenSpec.ofChange Rows.fnControlSpec) Base.own started (by kernel_rfl) Tryd.func3
    (witness_row_atRef (enc := enc) (C := Tryd.checked) false (World.laidAll Tryd.prog os Rows.fnControlRow.laid) #[.slice none 0 0] (World.laidAll_os _ _ _) (by kernel_rfl) (by kernel_rfl) (by kernel_rfl)
      (OpenSpec.preRow_of_B rfl 8 (by kernel_rfl) (by kernel_rfl) (laid_met os))) ?_
  intro W base args ds gs before hval hW _ _ _ hL _ _
  exact contract H enc W base args ds gs before hval hW hL

theorem said : Rows.FnControlSaid :=
  OpenClaim.holds_of_cond 3 Tryd.f3 rfl rfl rfl rfl rfl rfl rfl ⟨rfl, rfl, rfl, rfl, rfl⟩ rfl rfl rfl rfl rfl (by kernel_rfl) Tryd.func3 (by kernel_rfl)
    (of_decide_eq_true (by kernel_rfl)) (by unfold Func.isWrapper; first | (rw [if_pos (by decide +kernel)]; kernel_rfl) | (rw [if_neg (by decide +kernel)]; exact ⟨rfl, rfl⟩))
    (fun os started H enc _ F => by rw [OpenClaim.pre_eq_preRow]; exact lifted os started H enc F)

theorem plain (f : FuncId) (fn : Func) (hf : Tryd.pinned.checked.prog.funcNamed "loop.example/g00975/laws.FnControl" = some f) (hfn : Tryd.pinned.checked.prog.funcs[f]? = some fn) :
    Rows.fnControlCard.stood.looks = Tryd.pinned.checked.prog.looks [] ∧ ∀ (j : Nat) t, fn.params[j]? = some t → Tryd.pinned.checked.prog.wantsStandIn t = false := by
  obtain rfl : f = 3 := Option.some.inj ((show Tryd.prog.funcNamed "loop.example/g00975/laws.FnControl" = some 3 by kernel_rfl).symm.trans hf) |>.symm
  obtain rfl : fn = Tryd.f3 := (Option.some.inj (Tryd.func3.symm.trans hfn)).symm
  refine ⟨by kernel_rfl, fun j t ht => ?_⟩
  have hall : Tryd.f3.params.toList.all (fun t => !Tryd.prog.wantsStandIn t) = true := by kernel_rfl
  have hm := List.all_eq_true.1 hall t (by simpa using Array.mem_of_getElem? ht)
  exact (show Tryd.prog.wantsStandIn t = false by simpa using hm)

/-- The given statement: the card. -/
theorem proved : Rows.FnControlCardSaid :=
  Claim7.holds_tied_plain_at .later [] _ _ _ _ said (fun _ h => by cases h) (by kernel_rfl) (fun _ h => by cases h) fnControl_row_tie rfl ⟨rfl, rfl⟩ (by kernel_rfl) rfl plain (by kernel_rfl)
#print axioms proved
end Go.Proofs.YtcdkagpmepdggaaDoor.fnControl
