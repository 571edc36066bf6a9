/-
  For every slice of bytes the law FnExitWords returns true: different exits of these kinds have different texts. The tables of strconv, math/bits and the project that the row lists are tied to the program's text by the given card (over the pruned copy of the project that the seat holds). No other condition.
-/
import Derived.Test.YtikamndjelamgaaDoorCards
import Derived.Test.YtikamndjelamgaaDoorTie
import Derived.Test.YtikamndjelamgaaDoorExitImpl
import Derived.Test.YtikamndjelamgaaDoorExitImplD
import Derived.Test.YtikamndjelamgaaDoorPlaces
import Derived.Test.YtikamndjelamgaaDoorOrdT
import Derived.Test.YtikamndjelamgaaDoorCode
import Derived.Test.YtikamndjelamgaaDoorBig
import Derived.Deep.DeepHandedRow
import Derived.Deep.DeepWitnessRowRef
import Derived.Deep.RegionHeld3
import Derived.Lay
namespace Go.Proofs.YtikamndjelamgaaDoor.fnExitWords
set_option maxRecDepth 100000
open Go.ChangeShapes Go.WideShapes Go.ChangeAt Go.RowKit
open Go.Proofs.YtikamndjelamgaaDoor.Base Go.Proofs.YtikamndjelamgaaDoor.Mem Go.Proofs.YtikamndjelamgaaDoor.Slots Go.Proofs.YtikamndjelamgaaDoor.Ints Go.Proofs.YtikamndjelamgaaDoor.Draw Go.Proofs.YtikamndjelamgaaDoor.Exits
set_option linter.unusedVariables false
set_option linter.unusedSimpArgs false

theorem facts {W : World} (h : laidMetH Tryd.prog Rows.fnExitWordsRow.laid W) : ExF W := by
  have h' : laidMet Tryd.prog Rows.fnExitWordsRow.laid W := h
  exact ⟨Laid.pow_of_head h'.tail.tail, ex_tab h'.tail.tail.tail⟩

theorem row_var {w : World} {base g n c : Nat} {e : TypeId} {l : List Int} (h : w.ownsRow base e 1 (.slice (some ⟨g, 0, none⟩) n c) n (icells l)) (h0 : 0 < l.length) : Var w g (icells l) := by
  have hl := h.1
  have hc : ∀ i v, (icells l)[i]? = some v → w.cell? ⟨g, i, none⟩ = some v := fun i v hv => by
    have hi : i < (icells l).length := (List.getElem?_eq_some_iff.1 hv).1
    simp only [icells, List.length_map] at hl hi
    rw [h.cellAt i (by omega)]
    exact hv
  have hi : (icells l)[0]? = some (.int .i64 l[0]) := by simp [icells, h0]
  exact ⟨fun i v hv => ⟨hc i v hv, (Owned.of_row h).2 g 0 rfl (by simpa [icells] using h0) i⟩, World.block_lt_of_cell? w (a := ⟨g, 0, none⟩) (hc 0 _ hi)⟩
def wordsOk (p q : Int) (b c : Bool) : Bool := ((exitT (1, p, b, 0)).data.toList == (exitT (1, q, c, 0)).data.toList) == (p == q && b == c)
theorem words_all : ∀ (x y : Fin 4) (b c : Bool), wordsOk (x.val : Int) (y.val : Int) b c = true := by decide +kernel
theorem words_at {p q : Int} (b c : Bool) (hp : 0 ≤ p ∧ p ≤ 3) (hq : 0 ≤ q ∧ q ≤ 3) : ((exitT (1, p, b, 0)).toList == (exitT (1, q, c, 0)).toList) = (p == q && b == c) := by
  rw [Go.ByteArray.toList_eq, Go.ByteArray.toList_eq]
  obtain ⟨x, rfl⟩ := Int.eq_ofNat_of_zero_le hp.1
  obtain ⟨y, rfl⟩ := Int.eq_ofNat_of_zero_le hq.1
  have h := words_all ⟨x, by omega⟩ ⟨y, by omega⟩ b c
  unfold wordsOk at h
  exact eq_of_beq h
theorem text_ne (n : Int) : ((exitT (2, 0, false, n)).toList != (exitT (3, 0, false, n)).toList) = true := by
  refine bne_iff_ne.2 fun h => ?_
  rw [Go.ByteArray.toList_eq, Go.ByteArray.toList_eq] at h
  have h0 := congrArg List.length h
  rw [Array.length_toList, Array.length_toList] at h0
  have h1 : (exitT (2, 0, false, n)).size = (exitT (3, 0, false, n)).size := h0
  have e2 : exitT (2, 0, false, n) = ⟨#[99, 97, 108, 108]⟩ ++ ⟨#[32]⟩ ++ itoaE n := rfl
  have e3 : exitT (3, 0, false, n) = ⟨#[111, 117, 116]⟩ ++ ⟨#[32]⟩ ++ itoaE n := rfl
  rw [e2, e3, ByteArray.size_append, ByteArray.size_append, ByteArray.size_append, ByteArray.size_append] at h1
  have s1 : (⟨#[99, 97, 108, 108]⟩ : ByteArray).size = 4 := rfl
  have s2 : (⟨#[111, 117, 116]⟩ : ByteArray).size = 3 := rfl
  omega
theorem text_ne' (n : Int) : ((exitT (2, 0, false, n)).toList == (exitT (3, 0, false, n)).toList) = false := by
  have h := text_ne n
  unfold bne at h
  simpa using h
theorem rem_in (q m : Int) (h0 : 0 ≤ q) (hm : 0 < m) : 0 ≤ q.tmod m ∧ q.tmod m < m := by
  rw [Int.tmod_eq_emod_of_nonneg h0]
  exact ⟨Int.emod_nonneg q (by omega), Int.emod_lt_of_pos q hm⟩
theorem wf_sm {x : Int} (h0 : 0 ≤ x) (h1 : x < 10000) : (Lit.int .i64 x).wf = true := by
  simp [Lit.wf]
  have e1 : IntKind.i64.min = -9223372036854775808 := by decide
  have e2 : IntKind.i64.max = 9223372036854775807 := by decide
  omega
theorem wf_0 : (Lit.int .i64 0).wf = true := by decide
theorem wf_12 : (Lit.int .i64 1).wf = true ∧ (Lit.int .i64 2).wf = true ∧ (Lit.int .i64 3).wf = true := by decide
theorem ok_fault (p : Int) (q : Bool) : exitOk (1, p, q, 0) = inB p 0 3 := by
  show (inB p 0 3 && ((0 : Int) == 0)) = _
  exact Bool.and_true _
theorem ok_two (k n : Int) (hk : k = 2 ∨ k = 3) : exitOk (k, 0, false, n) = inB n 0 99 := by
  rcases hk with rfl | rfl <;> (show (inB n 0 99 && ((0 : Int) == 0) && (!false)) = _; rw [show ((0 : Int) == 0) = true from rfl, Bool.and_true]; exact Bool.and_true _)

set_option maxRecDepth 100000 in
set_option maxHeartbeats 8000000 in
theorem walk (A : Option Addr) (n c : Nat) (hn : n ≤ maxLen) {w : World} (hcode : CodeAt w A n) (hF : ExF w) :
    Calls Tryd.prog 4 #[.slice A n c] w fun e w' => e = .returned (.bool true) ∧ Below w.heap.size w w' := by
  have hn' : n ≤ 9223372036854775807 := hn
  have HC := Lib.hid (show ∀ W, Below w.heap.size w W → CodeAt W A n from fun W hb => hcode.below hb)
  have HF := Lib.hid (fun (V : World) (hb : Below w.heap.size w V) => hF.below hb)
  clear hcode hn hF
  by_cases h1 : 1048576 < n
  · go_enter Tryd.func4, Tryd.ntmps4
    go_wp2_with (go_at_call 7; refine (big_yes A n c _ hn' h1).mono ?_; rintro e w' ⟨rfl, rfl⟩)
    go_ret
    exact ⟨rfl, Below.refl _ _⟩
  · have hn2 : n ≤ 1048576 := by omega
    clear h1 hn'
    go_enter Tryd.func4, Tryd.ntmps4
    go_wp2_with (go_at_call 7; refine (big_no A n c _ hn2).mono ?_; rintro e w' ⟨rfl, rfl⟩)
    go_wp2_with fail
    refine (places_any A n c _ hn2 (HC.out _ (Below.refl _ _))).mono ?_
    rintro e w1 ⟨gp, capp, l, rfl, hl, hall, hown, hb1⟩
    obtain ⟨q0, q1, q2, q3, q4, q5, q6, q7, q8, q9, q10, q11, rfl⟩ := list12 hl
    have hv := row_var hown (by simp)
    simp only [icells, List.map_cons, List.map_nil] at hv
    have hgp := hv.2
    have hr0 := rem_in q0 4 (hall q0 (by simp)).1 (by omega)
    have hr2 := rem_in q2 4 (hall q2 (by simp)).1 (by omega)
    have hr1 := rem_in q1 2 (hall q1 (by simp)).1 (by omega)
    have hr3 := rem_in q3 2 (hall q3 (by simp)).1 (by omega)
    have hr4 := rem_in q4 100 (hall q4 (by simp)).1 (by omega)
    have hB1 := btr (Below.refl _ _) hb1
    have hS1 := hb1.size
    have hOpl_0 := Lib.hid hv
    obtain ⟨pa, hpa⟩ : ∃ a, q0.tmod 4 = a := ⟨_, rfl⟩
    rw [hpa] at hr0
    obtain ⟨pb, hpb⟩ : ∃ a, q2.tmod 4 = a := ⟨_, rfl⟩
    rw [hpb] at hr2
    obtain ⟨m, hm⟩ : ∃ a, q4.tmod 100 = a := ⟨_, rfl⟩
    rw [hm] at hr4
    obtain ⟨ba, hba⟩ : ∃ a, (q1.tmod 2 == 0) = a := ⟨_, rfl⟩
    obtain ⟨bb, hbb⟩ : ∃ a, (q3.tmod 2 == 0) = a := ⟨_, rfl⟩
    have hE := words_at ba bb (p := pa) (q := pb) (by omega) (by omega)
    have hN := text_ne m
    have hN2 := text_ne' m
    have wpa := wf_sm hr0.1 (by omega)
    have wpb := wf_sm hr2.1 (by omega)
    have wm := wf_sm hr4.1 (by omega)
    have g1 := fun V : World => impl_fault pa ba V wpa
    have g2 := fun V : World => impl_fault pb bb V wpb
    have g3 := fun V : World => impl_call m V wm
    have g4 := fun V : World => impl_out m V wm
    unfold ExitP at g1 g2 g3 g4
    dsimp only at g1 g2 g3 g4
    have g5 := fun (V : World) (h : ExF V) => impl_exitT 1 pa ba 0 V ⟨wf_12.1, wpa, trivial, wf_0⟩ h
    have g6 := fun (V : World) (h : ExF V) => impl_exitT 1 pb bb 0 V ⟨wf_12.1, wpb, trivial, wf_0⟩ h
    have g7 := fun (V : World) (h : ExF V) => impl_exitT 2 0 false m V ⟨wf_12.2.1, wf_0, trivial, wm⟩ h
    have g8 := fun (V : World) (h : ExF V) => impl_exitT 3 0 false m V ⟨wf_12.2.2, wf_0, trivial, wm⟩ h
    have g9 := fun V : World => impl_exitOk 1 pa ba 0 V ⟨wf_12.1, wpa, trivial, wf_0⟩
    have g10 := fun V : World => impl_exitOk 2 0 false m V ⟨wf_12.2.1, wf_0, trivial, wm⟩
    have g11 := fun V : World => impl_exitOk 3 0 false m V ⟨wf_12.2.2, wf_0, trivial, wm⟩
    rw [ok_fault, inB_iff.2 ⟨by omega, by omega⟩] at g9
    rw [ok_two 2 m (.inl rfl), inB_iff.2 ⟨by omega, by omega⟩] at g10
    rw [ok_two 3 m (.inr rfl), inB_iff.2 ⟨by omega, by omega⟩] at g11
    generalize exitT (1, pa, ba, 0) = ta at g5 hE
    generalize exitT (1, pb, bb, 0) = tb at g6 hE
    generalize exitT (2, 0, false, m) = tc at g7 hN hN2
    generalize exitT (3, 0, false, m) = td at g8 hN hN2
    have G1 := Lib.hid g1
    have G2 := Lib.hid g2
    have G3 := Lib.hid g3
    have G4 := Lib.hid g4
    have G5 := Lib.hid g5
    have G6 := Lib.hid g6
    have G7 := Lib.hid g7
    have G8 := Lib.hid g8
    have G9 := Lib.hid g9
    have G10 := Lib.hid g10
    have G11 := Lib.hid g11
    clear g1 g2 g3 g4 g5 g6 g7 g8 g9 g10 g11 wpa wpb wm hall hl hown hr0 hr1 hr2 hr3 hr4 hv
    clear hb1
    go_wp2_with fail
    refine Ord.wp_region_tree (fun w' => w'.cell? ⟨gp, 0, none⟩ = some (.int .i64 q0) ∧ w'.cell? ⟨gp, 1, none⟩ = some (.int .i64 q1)) (.take 0 (.take 1 (.take 2 (.take 3 (.take 4 (.take 5 (.take 6 (.take 7 (.take 8 (.two 9 (.alone 10 (.alone 11 .nil)) 10 (.alone 9 (.alone 11 .nil)))))))))))) (by kernel_rfl) (by kernel_rfl) (by kernel_rfl) (⟨hOpl_0.out.cell 0 (v := .int .i64 q0) rfl, hOpl_0.out.cell 1 (v := .int .i64 q1) rfl⟩) ?_
    have hb2 : Below w1.heap.size w1 w1.drew := (Below.refl _ _).drew
    have hB2 := btr hB1 hb2
    have hS2 := hb2.size
    have hOpl_2 := Lib.hid (hOpl_0.out.below hb2 (by omega))
    clear hOpl_0 hb2
    generalize w1.drew = D2 at hB2 hS2 hOpl_2 ⊢
    (refine Ord.ot_take (v := ?_) rfl (by rfl) (fun w' hS => ?_) ?_; rotate_left; (focus ((try dsimp only at hS); go_simp; first | done | with_reducible rfl)); simp only [Act.put, List.setIfInBounds_toArray, List.set_cons_zero, List.set_cons_succ])
    (refine Ord.ot_take (v := ?_) rfl (by rfl) (fun w' hS => ?_) ?_; rotate_left; (focus ((try dsimp only at hS); go_simp; first | done | with_reducible rfl)); simp only [Act.put, List.setIfInBounds_toArray, List.set_cons_zero, List.set_cons_succ])
    (refine Ord.ot_take (v := ?_) rfl (by rfl) (fun w' hS => ?_) ?_; rotate_left; (focus ((try dsimp only at hS); go_simp; first | done | with_reducible rfl)); simp only [Act.put, List.setIfInBounds_toArray, List.set_cons_zero, List.set_cons_succ])
    (refine Ord.ot_take (v := ?_) rfl (by rfl) (fun w' hS => ?_) ?_; rotate_left; (focus ((try dsimp only at hS); go_simp; first | done | with_reducible rfl)); simp only [Act.put, List.setIfInBounds_toArray, List.set_cons_zero, List.set_cons_succ])
    (refine Ord.ot_take (v := ?_) rfl (by rfl) (fun w' hS => ?_) ?_; rotate_left; (focus ((try dsimp only at hS); go_simp; first | done | with_reducible rfl)); simp only [Act.put, List.setIfInBounds_toArray, List.set_cons_zero, List.set_cons_succ])
    (refine Ord.ot_take (v := ?_) rfl (by rfl) (fun w' hS => ?_) ?_; rotate_left; (focus ((try dsimp only at hS); go_simp; first | done | with_reducible rfl)); simp only [Act.put, List.setIfInBounds_toArray, List.set_cons_zero, List.set_cons_succ])
    (refine Ord.ot_take (v := ?_) rfl (by rfl) (fun w' hS => ?_) ?_; rotate_left; (focus ((try dsimp only at hS); go_simp; first | done | with_reducible rfl)); simp only [Act.put, List.setIfInBounds_toArray, List.set_cons_zero, List.set_cons_succ])
    (refine Ord.ot_take (v := ?_) rfl (by rfl) (fun w' hS => ?_) ?_; rotate_left; (focus ((try dsimp only at hS); go_simp; first | done | with_reducible rfl)); simp only [Act.put, List.setIfInBounds_toArray, List.set_cons_zero, List.set_cons_succ])
    (refine Ord.ot_take (v := ?_) rfl (by rfl) (fun w' hS => ?_) ?_; rotate_left; (focus ((try dsimp only at hS); go_simp; first | done | with_reducible rfl)); simp only [Act.put, List.setIfInBounds_toArray, List.set_cons_zero, List.set_cons_succ])
    refine Ord.ot_two rfl rfl (fun K hK => ?_) (fun K hK => ?_)
    · go_simp
      refine (G1.out _).mono ?_
      rintro e w3 ⟨rfl, hb3⟩
      have hB3 := btr hB2 hb3
      have hS3 := hb3.size
      have hOpl_3 := Lib.hid (hOpl_2.out.below hb3 (by omega))
      clear hOpl_2 hb3
      refine hK.out _ _ (⟨hOpl_3.out.cell 0 (v := .int .i64 q0) rfl, hOpl_3.out.cell 1 (v := .int .i64 q1) rfl⟩) ?_
      clear hK K
      (try simp only [Act.put, List.setIfInBounds_toArray, List.set_cons_zero, List.set_cons_succ])
      refine Ord.ot_alone rfl (fun K hK => ?_)
      go_simp
      have hpz : Var (w3.alloc (.cells #[.int .i64 0, .int .i64 0, .bool false, .int .i64 0] 28)) gp [.int .i64 q0, .int .i64 q1, .int .i64 q2, .int .i64 q3, .int .i64 q4, .int .i64 q5, .int .i64 q6, .int .i64 q7, .int .i64 q8, .int .i64 q9, .int .i64 q10, .int .i64 q11] := hOpl_3.out.below ((Below.refl w3.heap.size w3).alloc (Nat.le_refl _) _) (by omega)
      refine hK.out _ _ (⟨hpz.cell 0 (v := .int .i64 q0) rfl, hpz.cell 1 (v := .int .i64 q1) rfl⟩) ?_
      clear hK K hpz
      (try simp only [Act.put, List.setIfInBounds_toArray, List.set_cons_zero, List.set_cons_succ])
      refine Ord.ot_alone rfl (fun K hK => ?_)
      go_simp
      have hb4 : Below w3.heap.size w3 (w3.alloc (.cells #[.int .i64 1, .int .i64 pa, .bool ba, .int .i64 0] 28)) := (Below.refl _ _).alloc (Nat.le_refl _) _
      have hB4 := btr hB3 hb4
      have hS4 : w3.heap.size < (w3.alloc (.cells #[.int .i64 1, .int .i64 pa, .bool ba, .int .i64 0] 28)).heap.size := by simp
      have hOpl_4 := Lib.hid (hOpl_3.out.below hb4 (by omega))
      have hOa_4 := Lib.hid (Var.new w3 [.int .i64 1, .int .i64 pa, .bool ba, .int .i64 0] 28)
      clear hOpl_3 hb4
      refine hK.out _ _ (⟨hOpl_4.out.cell 0 (v := .int .i64 q0) rfl, hOpl_4.out.cell 1 (v := .int .i64 q1) rfl⟩) ?_
      clear hK K
      (try simp only [Act.put, List.setIfInBounds_toArray, List.set_cons_zero, List.set_cons_succ])
      refine Ord.ot_nil ?_
      go_wp2_with fail
      refine Ord.wp_region_tree (fun w' => w'.cell? ⟨gp, 2, none⟩ = some (.int .i64 q2) ∧ w'.cell? ⟨gp, 3, none⟩ = some (.int .i64 q3)) (.take 0 (.take 1 (.take 2 (.take 3 (.take 4 (.take 5 (.take 6 (.take 7 (.take 8 (.two 9 (.alone 10 (.alone 11 .nil)) 10 (.alone 9 (.alone 11 .nil)))))))))))) (by kernel_rfl) (by kernel_rfl) (by kernel_rfl) (⟨hOpl_4.out.cell 2 (v := .int .i64 q2) rfl, hOpl_4.out.cell 3 (v := .int .i64 q3) rfl⟩) ?_
      have hb5 : Below (w3.alloc (.cells #[.int .i64 1, .int .i64 pa, .bool ba, .int .i64 0] 28)).heap.size (w3.alloc (.cells #[.int .i64 1, .int .i64 pa, .bool ba, .int .i64 0] 28)) (w3.alloc (.cells #[.int .i64 1, .int .i64 pa, .bool ba, .int .i64 0] 28)).drew := (Below.refl _ _).drew
      have hB5 := btr hB4 hb5
      have hS5 := hb5.size
      have hOpl_5 := Lib.hid (hOpl_4.out.below hb5 (by omega))
      have hOa_5 := Lib.hid (hOa_4.out.below hb5 (by omega))
      clear hOpl_4 hOa_4 hb5
      generalize (w3.alloc (.cells #[.int .i64 1, .int .i64 pa, .bool ba, .int .i64 0] 28)).drew = D5 at hB5 hS5 hOpl_5 hOa_5 ⊢
      (refine Ord.ot_take (v := ?_) rfl (by rfl) (fun w' hS => ?_) ?_; rotate_left; (focus ((try dsimp only at hS); go_simp; first | done | with_reducible rfl)); simp only [Act.put, List.setIfInBounds_toArray, List.set_cons_zero, List.set_cons_succ])
      (refine Ord.ot_take (v := ?_) rfl (by rfl) (fun w' hS => ?_) ?_; rotate_left; (focus ((try dsimp only at hS); go_simp; first | done | with_reducible rfl)); simp only [Act.put, List.setIfInBounds_toArray, List.set_cons_zero, List.set_cons_succ])
      (refine Ord.ot_take (v := ?_) rfl (by rfl) (fun w' hS => ?_) ?_; rotate_left; (focus ((try dsimp only at hS); go_simp; first | done | with_reducible rfl)); simp only [Act.put, List.setIfInBounds_toArray, List.set_cons_zero, List.set_cons_succ])
      (refine Ord.ot_take (v := ?_) rfl (by rfl) (fun w' hS => ?_) ?_; rotate_left; (focus ((try dsimp only at hS); go_simp; first | done | with_reducible rfl)); simp only [Act.put, List.setIfInBounds_toArray, List.set_cons_zero, List.set_cons_succ])
      (refine Ord.ot_take (v := ?_) rfl (by rfl) (fun w' hS => ?_) ?_; rotate_left; (focus ((try dsimp only at hS); go_simp; first | done | with_reducible rfl)); simp only [Act.put, List.setIfInBounds_toArray, List.set_cons_zero, List.set_cons_succ])
      (refine Ord.ot_take (v := ?_) rfl (by rfl) (fun w' hS => ?_) ?_; rotate_left; (focus ((try dsimp only at hS); go_simp; first | done | with_reducible rfl)); simp only [Act.put, List.setIfInBounds_toArray, List.set_cons_zero, List.set_cons_succ])
      (refine Ord.ot_take (v := ?_) rfl (by rfl) (fun w' hS => ?_) ?_; rotate_left; (focus ((try dsimp only at hS); go_simp; first | done | with_reducible rfl)); simp only [Act.put, List.setIfInBounds_toArray, List.set_cons_zero, List.set_cons_succ])
      (refine Ord.ot_take (v := ?_) rfl (by rfl) (fun w' hS => ?_) ?_; rotate_left; (focus ((try dsimp only at hS); go_simp; first | done | with_reducible rfl)); simp only [Act.put, List.setIfInBounds_toArray, List.set_cons_zero, List.set_cons_succ])
      (refine Ord.ot_take (v := ?_) rfl (by rfl) (fun w' hS => ?_) ?_; rotate_left; (focus ((try dsimp only at hS); go_simp; first | done | with_reducible rfl)); simp only [Act.put, List.setIfInBounds_toArray, List.set_cons_zero, List.set_cons_succ])
      refine Ord.ot_two rfl rfl (fun K hK => ?_) (fun K hK => ?_)
      · go_simp
        refine (G2.out _).mono ?_
        rintro e w6 ⟨rfl, hb6⟩
        have hB6 := btr hB5 hb6
        have hS6 := hb6.size
        have hOpl_6 := Lib.hid (hOpl_5.out.below hb6 (by omega))
        have hOa_6 := Lib.hid (hOa_5.out.below hb6 (by omega))
        clear hOpl_5 hOa_5 hb6
        refine hK.out _ _ (⟨hOpl_6.out.cell 2 (v := .int .i64 q2) rfl, hOpl_6.out.cell 3 (v := .int .i64 q3) rfl⟩) ?_
        clear hK K
        (try simp only [Act.put, List.setIfInBounds_toArray, List.set_cons_zero, List.set_cons_succ])
        refine Ord.ot_alone rfl (fun K hK => ?_)
        go_simp
        have hpz : Var (w6.alloc (.cells #[.int .i64 0, .int .i64 0, .bool false, .int .i64 0] 28)) gp [.int .i64 q0, .int .i64 q1, .int .i64 q2, .int .i64 q3, .int .i64 q4, .int .i64 q5, .int .i64 q6, .int .i64 q7, .int .i64 q8, .int .i64 q9, .int .i64 q10, .int .i64 q11] := hOpl_6.out.below ((Below.refl w6.heap.size w6).alloc (Nat.le_refl _) _) (by omega)
        refine hK.out _ _ (⟨hpz.cell 2 (v := .int .i64 q2) rfl, hpz.cell 3 (v := .int .i64 q3) rfl⟩) ?_
        clear hK K hpz
        (try simp only [Act.put, List.setIfInBounds_toArray, List.set_cons_zero, List.set_cons_succ])
        refine Ord.ot_alone rfl (fun K hK => ?_)
        go_simp
        have hb7 : Below w6.heap.size w6 (w6.alloc (.cells #[.int .i64 1, .int .i64 pb, .bool bb, .int .i64 0] 28)) := (Below.refl _ _).alloc (Nat.le_refl _) _
        have hB7 := btr hB6 hb7
        have hS7 : w6.heap.size < (w6.alloc (.cells #[.int .i64 1, .int .i64 pb, .bool bb, .int .i64 0] 28)).heap.size := by simp
        have hOpl_7 := Lib.hid (hOpl_6.out.below hb7 (by omega))
        have hOa_7 := Lib.hid (hOa_6.out.below hb7 (by omega))
        have hOb_7 := Lib.hid (Var.new w6 [.int .i64 1, .int .i64 pb, .bool bb, .int .i64 0] 28)
        clear hOpl_6 hOa_6 hb7
        refine hK.out _ _ (⟨hOpl_7.out.cell 2 (v := .int .i64 q2) rfl, hOpl_7.out.cell 3 (v := .int .i64 q3) rfl⟩) ?_
        clear hK K
        (try simp only [Act.put, List.setIfInBounds_toArray, List.set_cons_zero, List.set_cons_succ])
        refine Ord.ot_nil ?_
        have zp := hOpl_7.out.cell 4 (v := .int .i64 q4) rfl
        go_wp2_with fail
        refine (G3.out _).mono ?_
        rintro e w8 ⟨rfl, hb8⟩
        have hB8 := btr hB7 hb8
        have hS8 := hb8.size
        have hOpl_8 := Lib.hid (hOpl_7.out.below hb8 (by omega))
        have hOa_8 := Lib.hid (hOa_7.out.below hb8 (by omega))
        have hOb_8 := Lib.hid (hOb_7.out.below hb8 (by omega))
        clear hOpl_7 hOa_7 hOb_7 hb8
        clear zp
        have hb9 : Below w8.heap.size w8 (w8.alloc (.cells #[.int .i64 2, .int .i64 0, .bool false, .int .i64 m] 28)) := (Below.refl _ _).alloc (Nat.le_refl _) _
        have hB9 := btr hB8 hb9
        have hS9 : w8.heap.size < (w8.alloc (.cells #[.int .i64 2, .int .i64 0, .bool false, .int .i64 m] 28)).heap.size := by simp
        have hOpl_9 := Lib.hid (hOpl_8.out.below hb9 (by omega))
        have hOa_9 := Lib.hid (hOa_8.out.below hb9 (by omega))
        have hOb_9 := Lib.hid (hOb_8.out.below hb9 (by omega))
        have hOc_9 := Lib.hid (Var.new w8 [.int .i64 2, .int .i64 0, .bool false, .int .i64 m] 28)
        clear hOpl_8 hOa_8 hOb_8 hb9
        have zp := hOpl_9.out.cell 4 (v := .int .i64 q4) rfl
        go_wp2_with fail
        refine (G4.out _).mono ?_
        rintro e w10 ⟨rfl, hb10⟩
        have hB10 := btr hB9 hb10
        have hS10 := hb10.size
        have hOpl_10 := Lib.hid (hOpl_9.out.below hb10 (by omega))
        have hOa_10 := Lib.hid (hOa_9.out.below hb10 (by omega))
        have hOb_10 := Lib.hid (hOb_9.out.below hb10 (by omega))
        have hOc_10 := Lib.hid (hOc_9.out.below hb10 (by omega))
        clear hOpl_9 hOa_9 hOb_9 hOc_9 hb10
        clear zp
        have hb11 : Below w10.heap.size w10 (w10.alloc (.cells #[.int .i64 3, .int .i64 0, .bool false, .int .i64 m] 28)) := (Below.refl _ _).alloc (Nat.le_refl _) _
        have hB11 := btr hB10 hb11
        have hS11 : w10.heap.size < (w10.alloc (.cells #[.int .i64 3, .int .i64 0, .bool false, .int .i64 m] 28)).heap.size := by simp
        have hOpl_11 := Lib.hid (hOpl_10.out.below hb11 (by omega))
        have hOa_11 := Lib.hid (hOa_10.out.below hb11 (by omega))
        have hOb_11 := Lib.hid (hOb_10.out.below hb11 (by omega))
        have hOc_11 := Lib.hid (hOc_10.out.below hb11 (by omega))
        have hOd_11 := Lib.hid (Var.new w10 [.int .i64 3, .int .i64 0, .bool false, .int .i64 m] 28)
        clear hOpl_10 hOa_10 hOb_10 hOc_10 hb11
        go_wp2_with fail
        refine Ord.wp_region_ord (fun w' => w'.cell? ⟨w3.heap.size, 0, none⟩ = some (.int .i64 1) ∧ w'.cell? ⟨w3.heap.size, 1, none⟩ = some (.int .i64 pa) ∧ w'.cell? ⟨w3.heap.size, 2, none⟩ = some (.bool ba) ∧ w'.cell? ⟨w3.heap.size, 3, none⟩ = some (.int .i64 0) ∧ w'.cell? ⟨w6.heap.size, 0, none⟩ = some (.int .i64 1) ∧ w'.cell? ⟨w6.heap.size, 1, none⟩ = some (.int .i64 pb) ∧ w'.cell? ⟨w6.heap.size, 2, none⟩ = some (.bool bb) ∧ w'.cell? ⟨w6.heap.size, 3, none⟩ = some (.int .i64 0) ∧ w'.cell? ⟨w8.heap.size, 0, none⟩ = some (.int .i64 2) ∧ w'.cell? ⟨w8.heap.size, 1, none⟩ = some (.int .i64 0) ∧ w'.cell? ⟨w8.heap.size, 2, none⟩ = some (.bool false) ∧ w'.cell? ⟨w8.heap.size, 3, none⟩ = some (.int .i64 m) ∧ w'.cell? ⟨w10.heap.size, 0, none⟩ = some (.int .i64 3) ∧ w'.cell? ⟨w10.heap.size, 1, none⟩ = some (.int .i64 0) ∧ w'.cell? ⟨w10.heap.size, 2, none⟩ = some (.bool false) ∧ w'.cell? ⟨w10.heap.size, 3, none⟩ = some (.int .i64 m) ∧ w'.cell? ⟨gp, 4, none⟩ = some (.int .i64 q4)) [(0, true), (2, true), (5, true), (6, true), (7, true), (1, false), (3, false), (4, true), (8, true), (9, true), (10, true), (12, true), (11, false), (13, false), (14, true), (15, true), (16, true), (17, true), (18, false), (19, true), (20, true), (21, true), (22, false), (23, true), (24, true), (25, true), (26, false), (27, true), (28, true), (29, true), (30, true), (31, true), (32, true), (33, true), (34, true), (35, true), (36, true), (37, true)] (by kernel_rfl) (by kernel_rfl) rfl (by kernel_rfl) (⟨hOa_11.out.cell 0 (v := .int .i64 1) rfl, hOa_11.out.cell 1 (v := .int .i64 pa) rfl, hOa_11.out.cell 2 (v := .bool ba) rfl, hOa_11.out.cell 3 (v := .int .i64 0) rfl, hOb_11.out.cell 0 (v := .int .i64 1) rfl, hOb_11.out.cell 1 (v := .int .i64 pb) rfl, hOb_11.out.cell 2 (v := .bool bb) rfl, hOb_11.out.cell 3 (v := .int .i64 0) rfl, hOc_11.out.cell 0 (v := .int .i64 2) rfl, hOc_11.out.cell 1 (v := .int .i64 0) rfl, hOc_11.out.cell 2 (v := .bool false) rfl, hOc_11.out.cell 3 (v := .int .i64 m) rfl, hOd_11.out.cell 0 (v := .int .i64 3) rfl, hOd_11.out.cell 1 (v := .int .i64 0) rfl, hOd_11.out.cell 2 (v := .bool false) rfl, hOd_11.out.cell 3 (v := .int .i64 m) rfl, hOpl_11.out.cell 4 (v := .int .i64 q4) rfl⟩) ?_
        simp only [Ord.ordOps, List.getElem?_toArray, List.getElem?_cons_zero, List.getElem?_cons_succ]
        repeat (first
          | (refine Ord.ord_plain (v := ?_) rfl (fun w' hS => ?_) ?_; rotate_left; (focus ((try dsimp only at hS); go_simp; first | done | with_reducible rfl)); simp only [Act.put, List.setIfInBounds_toArray, List.set_cons_zero, List.set_cons_succ])
          | (refine Ord.ord_skip (by rfl) ?_; simp only [Act.put, List.setIfInBounds_toArray, List.set_cons_zero, List.set_cons_succ])
          | (refine Ord.ord_take (v := ?_) (by rfl) (fun w' hS => ?_) ?_; rotate_left; (focus ((try dsimp only at hS); go_simp; first | done | with_reducible rfl)); simp only [Act.put, List.setIfInBounds_toArray, List.set_cons_zero, List.set_cons_succ]))
        have hb12 : Below (w10.alloc (.cells #[.int .i64 3, .int .i64 0, .bool false, .int .i64 m] 28)).heap.size (w10.alloc (.cells #[.int .i64 3, .int .i64 0, .bool false, .int .i64 m] 28)) (w10.alloc (.cells #[.int .i64 3, .int .i64 0, .bool false, .int .i64 m] 28)).drew := (Below.refl _ _).drew
        have hB12 := btr hB11 hb12
        have hS12 := hb12.size
        have hOpl_12 := Lib.hid (hOpl_11.out.below hb12 (by omega))
        have hOa_12 := Lib.hid (hOa_11.out.below hb12 (by omega))
        have hOb_12 := Lib.hid (hOb_11.out.below hb12 (by omega))
        have hOc_12 := Lib.hid (hOc_11.out.below hb12 (by omega))
        have hOd_12 := Lib.hid (hOd_11.out.below hb12 (by omega))
        clear hOpl_11 hOa_11 hOb_11 hOc_11 hOd_11 hb12
        refine Ord.ord_plain (v := .bool (pa == pb && ba == bb)) rfl (fun w' hS => ?_) ?_
        · cases h1 : (pa == pb) <;> cases h2 : (ba == bb) <;> ((try dsimp only at hS); go_simp; first | done | with_reducible rfl)
        simp only [Act.put, List.setIfInBounds_toArray, List.set_cons_zero, List.set_cons_succ]
        refine Ord.ord_call (fun K hK => ?_)
        go_simp
        refine (G5.out _ (HF.out _ hB12)).mono ?_
        rintro e w13 ⟨rfl, hb13⟩
        have hB13 := btr hB12 hb13
        have hS13 := hb13.size
        have hOpl_13 := Lib.hid (hOpl_12.out.below hb13 (by omega))
        have hOa_13 := Lib.hid (hOa_12.out.below hb13 (by omega))
        have hOb_13 := Lib.hid (hOb_12.out.below hb13 (by omega))
        have hOc_13 := Lib.hid (hOc_12.out.below hb13 (by omega))
        have hOd_13 := Lib.hid (hOd_12.out.below hb13 (by omega))
        clear hOpl_12 hOa_12 hOb_12 hOc_12 hOd_12 hb13
        refine hK.out _ _ (⟨hOa_13.out.cell 0 (v := .int .i64 1) rfl, hOa_13.out.cell 1 (v := .int .i64 pa) rfl, hOa_13.out.cell 2 (v := .bool ba) rfl, hOa_13.out.cell 3 (v := .int .i64 0) rfl, hOb_13.out.cell 0 (v := .int .i64 1) rfl, hOb_13.out.cell 1 (v := .int .i64 pb) rfl, hOb_13.out.cell 2 (v := .bool bb) rfl, hOb_13.out.cell 3 (v := .int .i64 0) rfl, hOc_13.out.cell 0 (v := .int .i64 2) rfl, hOc_13.out.cell 1 (v := .int .i64 0) rfl, hOc_13.out.cell 2 (v := .bool false) rfl, hOc_13.out.cell 3 (v := .int .i64 m) rfl, hOd_13.out.cell 0 (v := .int .i64 3) rfl, hOd_13.out.cell 1 (v := .int .i64 0) rfl, hOd_13.out.cell 2 (v := .bool false) rfl, hOd_13.out.cell 3 (v := .int .i64 m) rfl, hOpl_13.out.cell 4 (v := .int .i64 q4) rfl⟩) ?_
        clear hK K
        repeat (first
          | (refine Ord.ord_plain (v := ?_) rfl (fun w' hS => ?_) ?_; rotate_left; (focus ((try dsimp only at hS); go_simp; first | done | with_reducible rfl)); simp only [Act.put, List.setIfInBounds_toArray, List.set_cons_zero, List.set_cons_succ])
          | (refine Ord.ord_skip (by rfl) ?_; simp only [Act.put, List.setIfInBounds_toArray, List.set_cons_zero, List.set_cons_succ])
          | (refine Ord.ord_take (v := ?_) (by rfl) (fun w' hS => ?_) ?_; rotate_left; (focus ((try dsimp only at hS); go_simp; first | done | with_reducible rfl)); simp only [Act.put, List.setIfInBounds_toArray, List.set_cons_zero, List.set_cons_succ]))
        refine Ord.ord_call (fun K hK => ?_)
        go_simp
        refine (G6.out _ (HF.out _ hB13)).mono ?_
        rintro e w14 ⟨rfl, hb14⟩
        have hB14 := btr hB13 hb14
        have hS14 := hb14.size
        have hOpl_14 := Lib.hid (hOpl_13.out.below hb14 (by omega))
        have hOa_14 := Lib.hid (hOa_13.out.below hb14 (by omega))
        have hOb_14 := Lib.hid (hOb_13.out.below hb14 (by omega))
        have hOc_14 := Lib.hid (hOc_13.out.below hb14 (by omega))
        have hOd_14 := Lib.hid (hOd_13.out.below hb14 (by omega))
        clear hOpl_13 hOa_13 hOb_13 hOc_13 hOd_13 hb14
        refine hK.out _ _ (⟨hOa_14.out.cell 0 (v := .int .i64 1) rfl, hOa_14.out.cell 1 (v := .int .i64 pa) rfl, hOa_14.out.cell 2 (v := .bool ba) rfl, hOa_14.out.cell 3 (v := .int .i64 0) rfl, hOb_14.out.cell 0 (v := .int .i64 1) rfl, hOb_14.out.cell 1 (v := .int .i64 pb) rfl, hOb_14.out.cell 2 (v := .bool bb) rfl, hOb_14.out.cell 3 (v := .int .i64 0) rfl, hOc_14.out.cell 0 (v := .int .i64 2) rfl, hOc_14.out.cell 1 (v := .int .i64 0) rfl, hOc_14.out.cell 2 (v := .bool false) rfl, hOc_14.out.cell 3 (v := .int .i64 m) rfl, hOd_14.out.cell 0 (v := .int .i64 3) rfl, hOd_14.out.cell 1 (v := .int .i64 0) rfl, hOd_14.out.cell 2 (v := .bool false) rfl, hOd_14.out.cell 3 (v := .int .i64 m) rfl, hOpl_14.out.cell 4 (v := .int .i64 q4) rfl⟩) ?_
        clear hK K
        repeat (first
          | (refine Ord.ord_plain (v := ?_) rfl (fun w' hS => ?_) ?_; rotate_left; (focus ((try dsimp only at hS); go_simp; first | done | with_reducible rfl)); simp only [Act.put, List.setIfInBounds_toArray, List.set_cons_zero, List.set_cons_succ])
          | (refine Ord.ord_skip (by rfl) ?_; simp only [Act.put, List.setIfInBounds_toArray, List.set_cons_zero, List.set_cons_succ])
          | (refine Ord.ord_take (v := ?_) (by rfl) (fun w' hS => ?_) ?_; rotate_left; (focus ((try dsimp only at hS); go_simp; first | done | with_reducible rfl)); simp only [Act.put, List.setIfInBounds_toArray, List.set_cons_zero, List.set_cons_succ]))
        refine Ord.ord_call (fun K hK => ?_)
        go_simp
        refine (G7.out _ (HF.out _ hB14)).mono ?_
        rintro e w15 ⟨rfl, hb15⟩
        have hB15 := btr hB14 hb15
        have hS15 := hb15.size
        have hOpl_15 := Lib.hid (hOpl_14.out.below hb15 (by omega))
        have hOa_15 := Lib.hid (hOa_14.out.below hb15 (by omega))
        have hOb_15 := Lib.hid (hOb_14.out.below hb15 (by omega))
        have hOc_15 := Lib.hid (hOc_14.out.below hb15 (by omega))
        have hOd_15 := Lib.hid (hOd_14.out.below hb15 (by omega))
        clear hOpl_14 hOa_14 hOb_14 hOc_14 hOd_14 hb15
        refine hK.out _ _ (⟨hOa_15.out.cell 0 (v := .int .i64 1) rfl, hOa_15.out.cell 1 (v := .int .i64 pa) rfl, hOa_15.out.cell 2 (v := .bool ba) rfl, hOa_15.out.cell 3 (v := .int .i64 0) rfl, hOb_15.out.cell 0 (v := .int .i64 1) rfl, hOb_15.out.cell 1 (v := .int .i64 pb) rfl, hOb_15.out.cell 2 (v := .bool bb) rfl, hOb_15.out.cell 3 (v := .int .i64 0) rfl, hOc_15.out.cell 0 (v := .int .i64 2) rfl, hOc_15.out.cell 1 (v := .int .i64 0) rfl, hOc_15.out.cell 2 (v := .bool false) rfl, hOc_15.out.cell 3 (v := .int .i64 m) rfl, hOd_15.out.cell 0 (v := .int .i64 3) rfl, hOd_15.out.cell 1 (v := .int .i64 0) rfl, hOd_15.out.cell 2 (v := .bool false) rfl, hOd_15.out.cell 3 (v := .int .i64 m) rfl, hOpl_15.out.cell 4 (v := .int .i64 q4) rfl⟩) ?_
        clear hK K
        repeat (first
          | (refine Ord.ord_plain (v := ?_) rfl (fun w' hS => ?_) ?_; rotate_left; (focus ((try dsimp only at hS); go_simp; first | done | with_reducible rfl)); simp only [Act.put, List.setIfInBounds_toArray, List.set_cons_zero, List.set_cons_succ])
          | (refine Ord.ord_skip (by rfl) ?_; simp only [Act.put, List.setIfInBounds_toArray, List.set_cons_zero, List.set_cons_succ])
          | (refine Ord.ord_take (v := ?_) (by rfl) (fun w' hS => ?_) ?_; rotate_left; (focus ((try dsimp only at hS); go_simp; first | done | with_reducible rfl)); simp only [Act.put, List.setIfInBounds_toArray, List.set_cons_zero, List.set_cons_succ]))
        refine Ord.ord_call (fun K hK => ?_)
        go_simp
        refine (G8.out _ (HF.out _ hB15)).mono ?_
        rintro e w16 ⟨rfl, hb16⟩
        have hB16 := btr hB15 hb16
        have hS16 := hb16.size
        have hOpl_16 := Lib.hid (hOpl_15.out.below hb16 (by omega))
        have hOa_16 := Lib.hid (hOa_15.out.below hb16 (by omega))
        have hOb_16 := Lib.hid (hOb_15.out.below hb16 (by omega))
        have hOc_16 := Lib.hid (hOc_15.out.below hb16 (by omega))
        have hOd_16 := Lib.hid (hOd_15.out.below hb16 (by omega))
        clear hOpl_15 hOa_15 hOb_15 hOc_15 hOd_15 hb16
        refine hK.out _ _ (⟨hOa_16.out.cell 0 (v := .int .i64 1) rfl, hOa_16.out.cell 1 (v := .int .i64 pa) rfl, hOa_16.out.cell 2 (v := .bool ba) rfl, hOa_16.out.cell 3 (v := .int .i64 0) rfl, hOb_16.out.cell 0 (v := .int .i64 1) rfl, hOb_16.out.cell 1 (v := .int .i64 pb) rfl, hOb_16.out.cell 2 (v := .bool bb) rfl, hOb_16.out.cell 3 (v := .int .i64 0) rfl, hOc_16.out.cell 0 (v := .int .i64 2) rfl, hOc_16.out.cell 1 (v := .int .i64 0) rfl, hOc_16.out.cell 2 (v := .bool false) rfl, hOc_16.out.cell 3 (v := .int .i64 m) rfl, hOd_16.out.cell 0 (v := .int .i64 3) rfl, hOd_16.out.cell 1 (v := .int .i64 0) rfl, hOd_16.out.cell 2 (v := .bool false) rfl, hOd_16.out.cell 3 (v := .int .i64 m) rfl, hOpl_16.out.cell 4 (v := .int .i64 q4) rfl⟩) ?_
        clear hK K
        repeat (first
          | (refine Ord.ord_plain (v := ?_) rfl (fun w' hS => ?_) ?_; rotate_left; (focus ((try dsimp only at hS); go_simp; first | done | with_reducible rfl)); simp only [Act.put, List.setIfInBounds_toArray, List.set_cons_zero, List.set_cons_succ])
          | (refine Ord.ord_skip (by rfl) ?_; simp only [Act.put, List.setIfInBounds_toArray, List.set_cons_zero, List.set_cons_succ])
          | (refine Ord.ord_take (v := ?_) (by rfl) (fun w' hS => ?_) ?_; rotate_left; (focus ((try dsimp only at hS); go_simp; first | done | with_reducible rfl)); simp only [Act.put, List.setIfInBounds_toArray, List.set_cons_zero, List.set_cons_succ]))
        refine Ord.ord_call (fun K hK => ?_)
        go_simp
        refine (G9.out _).mono ?_
        rintro e w17 ⟨rfl, hb17⟩
        have hB17 := btr hB16 hb17
        have hS17 := hb17.size
        have hOpl_17 := Lib.hid (hOpl_16.out.below hb17 (by omega))
        have hOa_17 := Lib.hid (hOa_16.out.below hb17 (by omega))
        have hOb_17 := Lib.hid (hOb_16.out.below hb17 (by omega))
        have hOc_17 := Lib.hid (hOc_16.out.below hb17 (by omega))
        have hOd_17 := Lib.hid (hOd_16.out.below hb17 (by omega))
        clear hOpl_16 hOa_16 hOb_16 hOc_16 hOd_16 hb17
        refine hK.out _ _ (⟨hOa_17.out.cell 0 (v := .int .i64 1) rfl, hOa_17.out.cell 1 (v := .int .i64 pa) rfl, hOa_17.out.cell 2 (v := .bool ba) rfl, hOa_17.out.cell 3 (v := .int .i64 0) rfl, hOb_17.out.cell 0 (v := .int .i64 1) rfl, hOb_17.out.cell 1 (v := .int .i64 pb) rfl, hOb_17.out.cell 2 (v := .bool bb) rfl, hOb_17.out.cell 3 (v := .int .i64 0) rfl, hOc_17.out.cell 0 (v := .int .i64 2) rfl, hOc_17.out.cell 1 (v := .int .i64 0) rfl, hOc_17.out.cell 2 (v := .bool false) rfl, hOc_17.out.cell 3 (v := .int .i64 m) rfl, hOd_17.out.cell 0 (v := .int .i64 3) rfl, hOd_17.out.cell 1 (v := .int .i64 0) rfl, hOd_17.out.cell 2 (v := .bool false) rfl, hOd_17.out.cell 3 (v := .int .i64 m) rfl, hOpl_17.out.cell 4 (v := .int .i64 q4) rfl⟩) ?_
        clear hK K
        repeat (first
          | (refine Ord.ord_plain (v := ?_) rfl (fun w' hS => ?_) ?_; rotate_left; (focus ((try dsimp only at hS); go_simp; first | done | with_reducible rfl)); simp only [Act.put, List.setIfInBounds_toArray, List.set_cons_zero, List.set_cons_succ])
          | (refine Ord.ord_skip (by rfl) ?_; simp only [Act.put, List.setIfInBounds_toArray, List.set_cons_zero, List.set_cons_succ])
          | (refine Ord.ord_take (v := ?_) (by rfl) (fun w' hS => ?_) ?_; rotate_left; (focus ((try dsimp only at hS); go_simp; first | done | with_reducible rfl)); simp only [Act.put, List.setIfInBounds_toArray, List.set_cons_zero, List.set_cons_succ]))
        refine Ord.ord_call (fun K hK => ?_)
        go_simp
        refine (G10.out _).mono ?_
        rintro e w18 ⟨rfl, hb18⟩
        have hB18 := btr hB17 hb18
        have hS18 := hb18.size
        have hOpl_18 := Lib.hid (hOpl_17.out.below hb18 (by omega))
        have hOa_18 := Lib.hid (hOa_17.out.below hb18 (by omega))
        have hOb_18 := Lib.hid (hOb_17.out.below hb18 (by omega))
        have hOc_18 := Lib.hid (hOc_17.out.below hb18 (by omega))
        have hOd_18 := Lib.hid (hOd_17.out.below hb18 (by omega))
        clear hOpl_17 hOa_17 hOb_17 hOc_17 hOd_17 hb18
        refine hK.out _ _ (⟨hOa_18.out.cell 0 (v := .int .i64 1) rfl, hOa_18.out.cell 1 (v := .int .i64 pa) rfl, hOa_18.out.cell 2 (v := .bool ba) rfl, hOa_18.out.cell 3 (v := .int .i64 0) rfl, hOb_18.out.cell 0 (v := .int .i64 1) rfl, hOb_18.out.cell 1 (v := .int .i64 pb) rfl, hOb_18.out.cell 2 (v := .bool bb) rfl, hOb_18.out.cell 3 (v := .int .i64 0) rfl, hOc_18.out.cell 0 (v := .int .i64 2) rfl, hOc_18.out.cell 1 (v := .int .i64 0) rfl, hOc_18.out.cell 2 (v := .bool false) rfl, hOc_18.out.cell 3 (v := .int .i64 m) rfl, hOd_18.out.cell 0 (v := .int .i64 3) rfl, hOd_18.out.cell 1 (v := .int .i64 0) rfl, hOd_18.out.cell 2 (v := .bool false) rfl, hOd_18.out.cell 3 (v := .int .i64 m) rfl, hOpl_18.out.cell 4 (v := .int .i64 q4) rfl⟩) ?_
        clear hK K
        repeat (first
          | (refine Ord.ord_plain (v := ?_) rfl (fun w' hS => ?_) ?_; rotate_left; (focus ((try dsimp only at hS); go_simp; first | done | with_reducible rfl)); simp only [Act.put, List.setIfInBounds_toArray, List.set_cons_zero, List.set_cons_succ])
          | (refine Ord.ord_skip (by rfl) ?_; simp only [Act.put, List.setIfInBounds_toArray, List.set_cons_zero, List.set_cons_succ])
          | (refine Ord.ord_take (v := ?_) (by rfl) (fun w' hS => ?_) ?_; rotate_left; (focus ((try dsimp only at hS); go_simp; first | done | with_reducible rfl)); simp only [Act.put, List.setIfInBounds_toArray, List.set_cons_zero, List.set_cons_succ]))
        refine Ord.ord_call (fun K hK => ?_)
        go_simp
        refine (G11.out _).mono ?_
        rintro e w19 ⟨rfl, hb19⟩
        have hB19 := btr hB18 hb19
        have hS19 := hb19.size
        have hOpl_19 := Lib.hid (hOpl_18.out.below hb19 (by omega))
        have hOa_19 := Lib.hid (hOa_18.out.below hb19 (by omega))
        have hOb_19 := Lib.hid (hOb_18.out.below hb19 (by omega))
        have hOc_19 := Lib.hid (hOc_18.out.below hb19 (by omega))
        have hOd_19 := Lib.hid (hOd_18.out.below hb19 (by omega))
        clear hOpl_18 hOa_18 hOb_18 hOc_18 hOd_18 hb19
        refine hK.out _ _ (⟨hOa_19.out.cell 0 (v := .int .i64 1) rfl, hOa_19.out.cell 1 (v := .int .i64 pa) rfl, hOa_19.out.cell 2 (v := .bool ba) rfl, hOa_19.out.cell 3 (v := .int .i64 0) rfl, hOb_19.out.cell 0 (v := .int .i64 1) rfl, hOb_19.out.cell 1 (v := .int .i64 pb) rfl, hOb_19.out.cell 2 (v := .bool bb) rfl, hOb_19.out.cell 3 (v := .int .i64 0) rfl, hOc_19.out.cell 0 (v := .int .i64 2) rfl, hOc_19.out.cell 1 (v := .int .i64 0) rfl, hOc_19.out.cell 2 (v := .bool false) rfl, hOc_19.out.cell 3 (v := .int .i64 m) rfl, hOd_19.out.cell 0 (v := .int .i64 3) rfl, hOd_19.out.cell 1 (v := .int .i64 0) rfl, hOd_19.out.cell 2 (v := .bool false) rfl, hOd_19.out.cell 3 (v := .int .i64 m) rfl, hOpl_19.out.cell 4 (v := .int .i64 q4) rfl⟩) ?_
        clear hK K
        repeat (first
          | (refine Ord.ord_plain (v := ?_) rfl (fun w' hS => ?_) ?_; rotate_left; (focus ((try dsimp only at hS); go_simp; first | done | with_reducible rfl)); simp only [Act.put, List.setIfInBounds_toArray, List.set_cons_zero, List.set_cons_succ])
          | (refine Ord.ord_skip (by rfl) ?_; simp only [Act.put, List.setIfInBounds_toArray, List.set_cons_zero, List.set_cons_succ])
          | (refine Ord.ord_take (v := ?_) (by rfl) (fun w' hS => ?_) ?_; rotate_left; (focus ((try dsimp only at hS); go_simp; first | done | with_reducible rfl)); simp only [Act.put, List.setIfInBounds_toArray, List.set_cons_zero, List.set_cons_succ]))
        refine Ord.ord_nil ?_
        go_wp2_with fail
        go_ret
        exact ⟨rfl, hB19⟩
      · go_simp
        have hq5 := hB5.size
        have hb6 : Below D5.heap.size D5 (D5.alloc (.cells #[.int .i64 0, .int .i64 0, .bool false, .int .i64 0] 28)) := (Below.refl _ _).alloc (Nat.le_refl _) _
        have hB6 := btr hB5 hb6
        have hS6 : D5.heap.size < (D5.alloc (.cells #[.int .i64 0, .int .i64 0, .bool false, .int .i64 0] 28)).heap.size := by simp
        have hOpl_6 := Lib.hid (hOpl_5.out.below hb6 (by omega))
        have hOa_6 := Lib.hid (hOa_5.out.below hb6 (by omega))
        have hOb_6 := Lib.hid (Var.new D5 [.int .i64 0, .int .i64 0, .bool false, .int .i64 0] 28)
        clear hOpl_5 hOa_5 hb6
        refine hK.out _ _ (⟨hOpl_6.out.cell 2 (v := .int .i64 q2) rfl, hOpl_6.out.cell 3 (v := .int .i64 q3) rfl⟩) ?_
        clear hK K
        (try simp only [Act.put, List.setIfInBounds_toArray, List.set_cons_zero, List.set_cons_succ])
        refine Ord.ot_alone rfl (fun K hK => ?_)
        go_simp
        refine (G2.out _).mono ?_
        rintro e w7 ⟨rfl, hb7⟩
        have hB7 := btr hB6 hb7
        have hS7 := hb7.size
        have hOpl_7 := Lib.hid (hOpl_6.out.below hb7 (by omega))
        have hOa_7 := Lib.hid (hOa_6.out.below hb7 (by omega))
        have hOb_7 := Lib.hid (hOb_6.out.below hb7 (by omega))
        clear hOpl_6 hOa_6 hOb_6 hb7
        refine hK.out _ _ (⟨hOpl_7.out.cell 2 (v := .int .i64 q2) rfl, hOpl_7.out.cell 3 (v := .int .i64 q3) rfl⟩) ?_
        clear hK K
        (try simp only [Act.put, List.setIfInBounds_toArray, List.set_cons_zero, List.set_cons_succ])
        refine Ord.ot_alone rfl (fun K hK => ?_)
        have y0 := hOb_7.out.cell 0 (v := .int .i64 0) rfl
        have j0 := hOb_7.out.loose 0 (v := .int .i64 0) rfl
        have y1 := hOb_7.out.cell 1 (v := .int .i64 0) rfl
        have j1 := hOb_7.out.loose 1 (v := .int .i64 0) rfl
        have y2 := hOb_7.out.cell 2 (v := .bool false) rfl
        have j2 := hOb_7.out.loose 2 (v := .bool false) rfl
        have y3 := hOb_7.out.cell 3 (v := .int .i64 0) rfl
        have j3 := hOb_7.out.loose 3 (v := .int .i64 0) rfl
        go_simp
        clear y0 y1 y2 y3 j0 j1 j2 j3
        have hB8 : Below w.heap.size w ((((w7.setCell ⟨D5.heap.size, 0, none⟩ (.int .i64 1)).setCell ⟨D5.heap.size, 1, none⟩ (.int .i64 pb)).setCell ⟨D5.heap.size, 2, none⟩ (.bool bb)).setCell ⟨D5.heap.size, 3, none⟩ (.int .i64 0)) := ((((hB7.setCell (p := ⟨D5.heap.size, 0, none⟩) (by omega) _).setCell (p := ⟨D5.heap.size, 1, none⟩) (by omega) _).setCell (p := ⟨D5.heap.size, 2, none⟩) (by omega) _).setCell (p := ⟨D5.heap.size, 3, none⟩) (by omega) _)
        have hOpl_8 := Lib.hid (show Var ((((w7.setCell ⟨D5.heap.size, 0, none⟩ (.int .i64 1)).setCell ⟨D5.heap.size, 1, none⟩ (.int .i64 pb)).setCell ⟨D5.heap.size, 2, none⟩ (.bool bb)).setCell ⟨D5.heap.size, 3, none⟩ (.int .i64 0)) gp [.int .i64 q0, .int .i64 q1, .int .i64 q2, .int .i64 q3, .int .i64 q4, .int .i64 q5, .int .i64 q6, .int .i64 q7, .int .i64 q8, .int .i64 q9, .int .i64 q10, .int .i64 q11] from ((((hOpl_7.out.far (by have := hOpl_7.out.2; omega) 0 _).far (by have := hOpl_7.out.2; omega) 1 _).far (by have := hOpl_7.out.2; omega) 2 _).far (by have := hOpl_7.out.2; omega) 3 _))
        have hOa_8 := Lib.hid (show Var ((((w7.setCell ⟨D5.heap.size, 0, none⟩ (.int .i64 1)).setCell ⟨D5.heap.size, 1, none⟩ (.int .i64 pb)).setCell ⟨D5.heap.size, 2, none⟩ (.bool bb)).setCell ⟨D5.heap.size, 3, none⟩ (.int .i64 0)) w3.heap.size [.int .i64 1, .int .i64 pa, .bool ba, .int .i64 0] from ((((hOa_7.out.far (by have := hOa_7.out.2; omega) 0 _).far (by have := hOa_7.out.2; omega) 1 _).far (by have := hOa_7.out.2; omega) 2 _).far (by have := hOa_7.out.2; omega) 3 _))
        have hOb_8 := Lib.hid (show Var ((((w7.setCell ⟨D5.heap.size, 0, none⟩ (.int .i64 1)).setCell ⟨D5.heap.size, 1, none⟩ (.int .i64 pb)).setCell ⟨D5.heap.size, 2, none⟩ (.bool bb)).setCell ⟨D5.heap.size, 3, none⟩ (.int .i64 0)) D5.heap.size [.int .i64 1, .int .i64 pb, .bool bb, .int .i64 0] from ((((hOb_7.out.set 0 (.int .i64 1)).set 1 (.int .i64 pb)).set 2 (.bool bb)).set 3 (.int .i64 0)))
        have hS8 : w7.heap.size = ((((w7.setCell ⟨D5.heap.size, 0, none⟩ (.int .i64 1)).setCell ⟨D5.heap.size, 1, none⟩ (.int .i64 pb)).setCell ⟨D5.heap.size, 2, none⟩ (.bool bb)).setCell ⟨D5.heap.size, 3, none⟩ (.int .i64 0)).heap.size := by simp
        refine hK.out _ _ (⟨hOpl_8.out.cell 2 (v := .int .i64 q2) rfl, hOpl_8.out.cell 3 (v := .int .i64 q3) rfl⟩) ?_
        clear hK K
        (try simp only [Act.put, List.setIfInBounds_toArray, List.set_cons_zero, List.set_cons_succ])
        refine Ord.ot_nil ?_
        generalize ((((w7.setCell ⟨D5.heap.size, 0, none⟩ (.int .i64 1)).setCell ⟨D5.heap.size, 1, none⟩ (.int .i64 pb)).setCell ⟨D5.heap.size, 2, none⟩ (.bool bb)).setCell ⟨D5.heap.size, 3, none⟩ (.int .i64 0)) = V8 at hB8 hS8 hOpl_8 hOa_8 hOb_8 ⊢
        clear hOpl_7 hOa_7 hOb_7
        have zp := hOpl_8.out.cell 4 (v := .int .i64 q4) rfl
        go_wp2_with fail
        refine (G3.out _).mono ?_
        rintro e w9 ⟨rfl, hb9⟩
        have hB9 := btr hB8 hb9
        have hS9 := hb9.size
        have hOpl_9 := Lib.hid (hOpl_8.out.below hb9 (by omega))
        have hOa_9 := Lib.hid (hOa_8.out.below hb9 (by omega))
        have hOb_9 := Lib.hid (hOb_8.out.below hb9 (by omega))
        clear hOpl_8 hOa_8 hOb_8 hb9
        clear zp
        have hb10 : Below w9.heap.size w9 (w9.alloc (.cells #[.int .i64 2, .int .i64 0, .bool false, .int .i64 m] 28)) := (Below.refl _ _).alloc (Nat.le_refl _) _
        have hB10 := btr hB9 hb10
        have hS10 : w9.heap.size < (w9.alloc (.cells #[.int .i64 2, .int .i64 0, .bool false, .int .i64 m] 28)).heap.size := by simp
        have hOpl_10 := Lib.hid (hOpl_9.out.below hb10 (by omega))
        have hOa_10 := Lib.hid (hOa_9.out.below hb10 (by omega))
        have hOb_10 := Lib.hid (hOb_9.out.below hb10 (by omega))
        have hOc_10 := Lib.hid (Var.new w9 [.int .i64 2, .int .i64 0, .bool false, .int .i64 m] 28)
        clear hOpl_9 hOa_9 hOb_9 hb10
        have zp := hOpl_10.out.cell 4 (v := .int .i64 q4) rfl
        go_wp2_with fail
        refine (G4.out _).mono ?_
        rintro e w11 ⟨rfl, hb11⟩
        have hB11 := btr hB10 hb11
        have hS11 := hb11.size
        have hOpl_11 := Lib.hid (hOpl_10.out.below hb11 (by omega))
        have hOa_11 := Lib.hid (hOa_10.out.below hb11 (by omega))
        have hOb_11 := Lib.hid (hOb_10.out.below hb11 (by omega))
        have hOc_11 := Lib.hid (hOc_10.out.below hb11 (by omega))
        clear hOpl_10 hOa_10 hOb_10 hOc_10 hb11
        clear zp
        have hb12 : Below w11.heap.size w11 (w11.alloc (.cells #[.int .i64 3, .int .i64 0, .bool false, .int .i64 m] 28)) := (Below.refl _ _).alloc (Nat.le_refl _) _
        have hB12 := btr hB11 hb12
        have hS12 : w11.heap.size < (w11.alloc (.cells #[.int .i64 3, .int .i64 0, .bool false, .int .i64 m] 28)).heap.size := by simp
        have hOpl_12 := Lib.hid (hOpl_11.out.below hb12 (by omega))
        have hOa_12 := Lib.hid (hOa_11.out.below hb12 (by omega))
        have hOb_12 := Lib.hid (hOb_11.out.below hb12 (by omega))
        have hOc_12 := Lib.hid (hOc_11.out.below hb12 (by omega))
        have hOd_12 := Lib.hid (Var.new w11 [.int .i64 3, .int .i64 0, .bool false, .int .i64 m] 28)
        clear hOpl_11 hOa_11 hOb_11 hOc_11 hb12
        go_wp2_with fail
        refine Ord.wp_region_ord (fun w' => w'.cell? ⟨w3.heap.size, 0, none⟩ = some (.int .i64 1) ∧ w'.cell? ⟨w3.heap.size, 1, none⟩ = some (.int .i64 pa) ∧ w'.cell? ⟨w3.heap.size, 2, none⟩ = some (.bool ba) ∧ w'.cell? ⟨w3.heap.size, 3, none⟩ = some (.int .i64 0) ∧ w'.cell? ⟨D5.heap.size, 0, none⟩ = some (.int .i64 1) ∧ w'.cell? ⟨D5.heap.size, 1, none⟩ = some (.int .i64 pb) ∧ w'.cell? ⟨D5.heap.size, 2, none⟩ = some (.bool bb) ∧ w'.cell? ⟨D5.heap.size, 3, none⟩ = some (.int .i64 0) ∧ w'.cell? ⟨w9.heap.size, 0, none⟩ = some (.int .i64 2) ∧ w'.cell? ⟨w9.heap.size, 1, none⟩ = some (.int .i64 0) ∧ w'.cell? ⟨w9.heap.size, 2, none⟩ = some (.bool false) ∧ w'.cell? ⟨w9.heap.size, 3, none⟩ = some (.int .i64 m) ∧ w'.cell? ⟨w11.heap.size, 0, none⟩ = some (.int .i64 3) ∧ w'.cell? ⟨w11.heap.size, 1, none⟩ = some (.int .i64 0) ∧ w'.cell? ⟨w11.heap.size, 2, none⟩ = some (.bool false) ∧ w'.cell? ⟨w11.heap.size, 3, none⟩ = some (.int .i64 m) ∧ w'.cell? ⟨gp, 4, none⟩ = some (.int .i64 q4)) [(0, true), (2, true), (5, true), (6, true), (7, true), (1, false), (3, false), (4, true), (8, true), (9, true), (10, true), (12, true), (11, false), (13, false), (14, true), (15, true), (16, true), (17, true), (18, false), (19, true), (20, true), (21, true), (22, false), (23, true), (24, true), (25, true), (26, false), (27, true), (28, true), (29, true), (30, true), (31, true), (32, true), (33, true), (34, true), (35, true), (36, true), (37, true)] (by kernel_rfl) (by kernel_rfl) rfl (by kernel_rfl) (⟨hOa_12.out.cell 0 (v := .int .i64 1) rfl, hOa_12.out.cell 1 (v := .int .i64 pa) rfl, hOa_12.out.cell 2 (v := .bool ba) rfl, hOa_12.out.cell 3 (v := .int .i64 0) rfl, hOb_12.out.cell 0 (v := .int .i64 1) rfl, hOb_12.out.cell 1 (v := .int .i64 pb) rfl, hOb_12.out.cell 2 (v := .bool bb) rfl, hOb_12.out.cell 3 (v := .int .i64 0) rfl, hOc_12.out.cell 0 (v := .int .i64 2) rfl, hOc_12.out.cell 1 (v := .int .i64 0) rfl, hOc_12.out.cell 2 (v := .bool false) rfl, hOc_12.out.cell 3 (v := .int .i64 m) rfl, hOd_12.out.cell 0 (v := .int .i64 3) rfl, hOd_12.out.cell 1 (v := .int .i64 0) rfl, hOd_12.out.cell 2 (v := .bool false) rfl, hOd_12.out.cell 3 (v := .int .i64 m) rfl, hOpl_12.out.cell 4 (v := .int .i64 q4) rfl⟩) ?_
        simp only [Ord.ordOps, List.getElem?_toArray, List.getElem?_cons_zero, List.getElem?_cons_succ]
        repeat (first
          | (refine Ord.ord_plain (v := ?_) rfl (fun w' hS => ?_) ?_; rotate_left; (focus ((try dsimp only at hS); go_simp; first | done | with_reducible rfl)); simp only [Act.put, List.setIfInBounds_toArray, List.set_cons_zero, List.set_cons_succ])
          | (refine Ord.ord_skip (by rfl) ?_; simp only [Act.put, List.setIfInBounds_toArray, List.set_cons_zero, List.set_cons_succ])
          | (refine Ord.ord_take (v := ?_) (by rfl) (fun w' hS => ?_) ?_; rotate_left; (focus ((try dsimp only at hS); go_simp; first | done | with_reducible rfl)); simp only [Act.put, List.setIfInBounds_toArray, List.set_cons_zero, List.set_cons_succ]))
        have hb13 : Below (w11.alloc (.cells #[.int .i64 3, .int .i64 0, .bool false, .int .i64 m] 28)).heap.size (w11.alloc (.cells #[.int .i64 3, .int .i64 0, .bool false, .int .i64 m] 28)) (w11.alloc (.cells #[.int .i64 3, .int .i64 0, .bool false, .int .i64 m] 28)).drew := (Below.refl _ _).drew
        have hB13 := btr hB12 hb13
        have hS13 := hb13.size
        have hOpl_13 := Lib.hid (hOpl_12.out.below hb13 (by omega))
        have hOa_13 := Lib.hid (hOa_12.out.below hb13 (by omega))
        have hOb_13 := Lib.hid (hOb_12.out.below hb13 (by omega))
        have hOc_13 := Lib.hid (hOc_12.out.below hb13 (by omega))
        have hOd_13 := Lib.hid (hOd_12.out.below hb13 (by omega))
        clear hOpl_12 hOa_12 hOb_12 hOc_12 hOd_12 hb13
        refine Ord.ord_plain (v := .bool (pa == pb && ba == bb)) rfl (fun w' hS => ?_) ?_
        · cases h1 : (pa == pb) <;> cases h2 : (ba == bb) <;> ((try dsimp only at hS); go_simp; first | done | with_reducible rfl)
        simp only [Act.put, List.setIfInBounds_toArray, List.set_cons_zero, List.set_cons_succ]
        refine Ord.ord_call (fun K hK => ?_)
        go_simp
        refine (G5.out _ (HF.out _ hB13)).mono ?_
        rintro e w14 ⟨rfl, hb14⟩
        have hB14 := btr hB13 hb14
        have hS14 := hb14.size
        have hOpl_14 := Lib.hid (hOpl_13.out.below hb14 (by omega))
        have hOa_14 := Lib.hid (hOa_13.out.below hb14 (by omega))
        have hOb_14 := Lib.hid (hOb_13.out.below hb14 (by omega))
        have hOc_14 := Lib.hid (hOc_13.out.below hb14 (by omega))
        have hOd_14 := Lib.hid (hOd_13.out.below hb14 (by omega))
        clear hOpl_13 hOa_13 hOb_13 hOc_13 hOd_13 hb14
        refine hK.out _ _ (⟨hOa_14.out.cell 0 (v := .int .i64 1) rfl, hOa_14.out.cell 1 (v := .int .i64 pa) rfl, hOa_14.out.cell 2 (v := .bool ba) rfl, hOa_14.out.cell 3 (v := .int .i64 0) rfl, hOb_14.out.cell 0 (v := .int .i64 1) rfl, hOb_14.out.cell 1 (v := .int .i64 pb) rfl, hOb_14.out.cell 2 (v := .bool bb) rfl, hOb_14.out.cell 3 (v := .int .i64 0) rfl, hOc_14.out.cell 0 (v := .int .i64 2) rfl, hOc_14.out.cell 1 (v := .int .i64 0) rfl, hOc_14.out.cell 2 (v := .bool false) rfl, hOc_14.out.cell 3 (v := .int .i64 m) rfl, hOd_14.out.cell 0 (v := .int .i64 3) rfl, hOd_14.out.cell 1 (v := .int .i64 0) rfl, hOd_14.out.cell 2 (v := .bool false) rfl, hOd_14.out.cell 3 (v := .int .i64 m) rfl, hOpl_14.out.cell 4 (v := .int .i64 q4) rfl⟩) ?_
        clear hK K
        repeat (first
          | (refine Ord.ord_plain (v := ?_) rfl (fun w' hS => ?_) ?_; rotate_left; (focus ((try dsimp only at hS); go_simp; first | done | with_reducible rfl)); simp only [Act.put, List.setIfInBounds_toArray, List.set_cons_zero, List.set_cons_succ])
          | (refine Ord.ord_skip (by rfl) ?_; simp only [Act.put, List.setIfInBounds_toArray, List.set_cons_zero, List.set_cons_succ])
          | (refine Ord.ord_take (v := ?_) (by rfl) (fun w' hS => ?_) ?_; rotate_left; (focus ((try dsimp only at hS); go_simp; first | done | with_reducible rfl)); simp only [Act.put, List.setIfInBounds_toArray, List.set_cons_zero, List.set_cons_succ]))
        refine Ord.ord_call (fun K hK => ?_)
        go_simp
        refine (G6.out _ (HF.out _ hB14)).mono ?_
        rintro e w15 ⟨rfl, hb15⟩
        have hB15 := btr hB14 hb15
        have hS15 := hb15.size
        have hOpl_15 := Lib.hid (hOpl_14.out.below hb15 (by omega))
        have hOa_15 := Lib.hid (hOa_14.out.below hb15 (by omega))
        have hOb_15 := Lib.hid (hOb_14.out.below hb15 (by omega))
        have hOc_15 := Lib.hid (hOc_14.out.below hb15 (by omega))
        have hOd_15 := Lib.hid (hOd_14.out.below hb15 (by omega))
        clear hOpl_14 hOa_14 hOb_14 hOc_14 hOd_14 hb15
        refine hK.out _ _ (⟨hOa_15.out.cell 0 (v := .int .i64 1) rfl, hOa_15.out.cell 1 (v := .int .i64 pa) rfl, hOa_15.out.cell 2 (v := .bool ba) rfl, hOa_15.out.cell 3 (v := .int .i64 0) rfl, hOb_15.out.cell 0 (v := .int .i64 1) rfl, hOb_15.out.cell 1 (v := .int .i64 pb) rfl, hOb_15.out.cell 2 (v := .bool bb) rfl, hOb_15.out.cell 3 (v := .int .i64 0) rfl, hOc_15.out.cell 0 (v := .int .i64 2) rfl, hOc_15.out.cell 1 (v := .int .i64 0) rfl, hOc_15.out.cell 2 (v := .bool false) rfl, hOc_15.out.cell 3 (v := .int .i64 m) rfl, hOd_15.out.cell 0 (v := .int .i64 3) rfl, hOd_15.out.cell 1 (v := .int .i64 0) rfl, hOd_15.out.cell 2 (v := .bool false) rfl, hOd_15.out.cell 3 (v := .int .i64 m) rfl, hOpl_15.out.cell 4 (v := .int .i64 q4) rfl⟩) ?_
        clear hK K
        repeat (first
          | (refine Ord.ord_plain (v := ?_) rfl (fun w' hS => ?_) ?_; rotate_left; (focus ((try dsimp only at hS); go_simp; first | done | with_reducible rfl)); simp only [Act.put, List.setIfInBounds_toArray, List.set_cons_zero, List.set_cons_succ])
          | (refine Ord.ord_skip (by rfl) ?_; simp only [Act.put, List.setIfInBounds_toArray, List.set_cons_zero, List.set_cons_succ])
          | (refine Ord.ord_take (v := ?_) (by rfl) (fun w' hS => ?_) ?_; rotate_left; (focus ((try dsimp only at hS); go_simp; first | done | with_reducible rfl)); simp only [Act.put, List.setIfInBounds_toArray, List.set_cons_zero, List.set_cons_succ]))
        refine Ord.ord_call (fun K hK => ?_)
        go_simp
        refine (G7.out _ (HF.out _ hB15)).mono ?_
        rintro e w16 ⟨rfl, hb16⟩
        have hB16 := btr hB15 hb16
        have hS16 := hb16.size
        have hOpl_16 := Lib.hid (hOpl_15.out.below hb16 (by omega))
        have hOa_16 := Lib.hid (hOa_15.out.below hb16 (by omega))
        have hOb_16 := Lib.hid (hOb_15.out.below hb16 (by omega))
        have hOc_16 := Lib.hid (hOc_15.out.below hb16 (by omega))
        have hOd_16 := Lib.hid (hOd_15.out.below hb16 (by omega))
        clear hOpl_15 hOa_15 hOb_15 hOc_15 hOd_15 hb16
        refine hK.out _ _ (⟨hOa_16.out.cell 0 (v := .int .i64 1) rfl, hOa_16.out.cell 1 (v := .int .i64 pa) rfl, hOa_16.out.cell 2 (v := .bool ba) rfl, hOa_16.out.cell 3 (v := .int .i64 0) rfl, hOb_16.out.cell 0 (v := .int .i64 1) rfl, hOb_16.out.cell 1 (v := .int .i64 pb) rfl, hOb_16.out.cell 2 (v := .bool bb) rfl, hOb_16.out.cell 3 (v := .int .i64 0) rfl, hOc_16.out.cell 0 (v := .int .i64 2) rfl, hOc_16.out.cell 1 (v := .int .i64 0) rfl, hOc_16.out.cell 2 (v := .bool false) rfl, hOc_16.out.cell 3 (v := .int .i64 m) rfl, hOd_16.out.cell 0 (v := .int .i64 3) rfl, hOd_16.out.cell 1 (v := .int .i64 0) rfl, hOd_16.out.cell 2 (v := .bool false) rfl, hOd_16.out.cell 3 (v := .int .i64 m) rfl, hOpl_16.out.cell 4 (v := .int .i64 q4) rfl⟩) ?_
        clear hK K
        repeat (first
          | (refine Ord.ord_plain (v := ?_) rfl (fun w' hS => ?_) ?_; rotate_left; (focus ((try dsimp only at hS); go_simp; first | done | with_reducible rfl)); simp only [Act.put, List.setIfInBounds_toArray, List.set_cons_zero, List.set_cons_succ])
          | (refine Ord.ord_skip (by rfl) ?_; simp only [Act.put, List.setIfInBounds_toArray, List.set_cons_zero, List.set_cons_succ])
          | (refine Ord.ord_take (v := ?_) (by rfl) (fun w' hS => ?_) ?_; rotate_left; (focus ((try dsimp only at hS); go_simp; first | done | with_reducible rfl)); simp only [Act.put, List.setIfInBounds_toArray, List.set_cons_zero, List.set_cons_succ]))
        refine Ord.ord_call (fun K hK => ?_)
        go_simp
        refine (G8.out _ (HF.out _ hB16)).mono ?_
        rintro e w17 ⟨rfl, hb17⟩
        have hB17 := btr hB16 hb17
        have hS17 := hb17.size
        have hOpl_17 := Lib.hid (hOpl_16.out.below hb17 (by omega))
        have hOa_17 := Lib.hid (hOa_16.out.below hb17 (by omega))
        have hOb_17 := Lib.hid (hOb_16.out.below hb17 (by omega))
        have hOc_17 := Lib.hid (hOc_16.out.below hb17 (by omega))
        have hOd_17 := Lib.hid (hOd_16.out.below hb17 (by omega))
        clear hOpl_16 hOa_16 hOb_16 hOc_16 hOd_16 hb17
        refine hK.out _ _ (⟨hOa_17.out.cell 0 (v := .int .i64 1) rfl, hOa_17.out.cell 1 (v := .int .i64 pa) rfl, hOa_17.out.cell 2 (v := .bool ba) rfl, hOa_17.out.cell 3 (v := .int .i64 0) rfl, hOb_17.out.cell 0 (v := .int .i64 1) rfl, hOb_17.out.cell 1 (v := .int .i64 pb) rfl, hOb_17.out.cell 2 (v := .bool bb) rfl, hOb_17.out.cell 3 (v := .int .i64 0) rfl, hOc_17.out.cell 0 (v := .int .i64 2) rfl, hOc_17.out.cell 1 (v := .int .i64 0) rfl, hOc_17.out.cell 2 (v := .bool false) rfl, hOc_17.out.cell 3 (v := .int .i64 m) rfl, hOd_17.out.cell 0 (v := .int .i64 3) rfl, hOd_17.out.cell 1 (v := .int .i64 0) rfl, hOd_17.out.cell 2 (v := .bool false) rfl, hOd_17.out.cell 3 (v := .int .i64 m) rfl, hOpl_17.out.cell 4 (v := .int .i64 q4) rfl⟩) ?_
        clear hK K
        repeat (first
          | (refine Ord.ord_plain (v := ?_) rfl (fun w' hS => ?_) ?_; rotate_left; (focus ((try dsimp only at hS); go_simp; first | done | with_reducible rfl)); simp only [Act.put, List.setIfInBounds_toArray, List.set_cons_zero, List.set_cons_succ])
          | (refine Ord.ord_skip (by rfl) ?_; simp only [Act.put, List.setIfInBounds_toArray, List.set_cons_zero, List.set_cons_succ])
          | (refine Ord.ord_take (v := ?_) (by rfl) (fun w' hS => ?_) ?_; rotate_left; (focus ((try dsimp only at hS); go_simp; first | done | with_reducible rfl)); simp only [Act.put, List.setIfInBounds_toArray, List.set_cons_zero, List.set_cons_succ]))
        refine Ord.ord_call (fun K hK => ?_)
        go_simp
        refine (G9.out _).mono ?_
        rintro e w18 ⟨rfl, hb18⟩
        have hB18 := btr hB17 hb18
        have hS18 := hb18.size
        have hOpl_18 := Lib.hid (hOpl_17.out.below hb18 (by omega))
        have hOa_18 := Lib.hid (hOa_17.out.below hb18 (by omega))
        have hOb_18 := Lib.hid (hOb_17.out.below hb18 (by omega))
        have hOc_18 := Lib.hid (hOc_17.out.below hb18 (by omega))
        have hOd_18 := Lib.hid (hOd_17.out.below hb18 (by omega))
        clear hOpl_17 hOa_17 hOb_17 hOc_17 hOd_17 hb18
        refine hK.out _ _ (⟨hOa_18.out.cell 0 (v := .int .i64 1) rfl, hOa_18.out.cell 1 (v := .int .i64 pa) rfl, hOa_18.out.cell 2 (v := .bool ba) rfl, hOa_18.out.cell 3 (v := .int .i64 0) rfl, hOb_18.out.cell 0 (v := .int .i64 1) rfl, hOb_18.out.cell 1 (v := .int .i64 pb) rfl, hOb_18.out.cell 2 (v := .bool bb) rfl, hOb_18.out.cell 3 (v := .int .i64 0) rfl, hOc_18.out.cell 0 (v := .int .i64 2) rfl, hOc_18.out.cell 1 (v := .int .i64 0) rfl, hOc_18.out.cell 2 (v := .bool false) rfl, hOc_18.out.cell 3 (v := .int .i64 m) rfl, hOd_18.out.cell 0 (v := .int .i64 3) rfl, hOd_18.out.cell 1 (v := .int .i64 0) rfl, hOd_18.out.cell 2 (v := .bool false) rfl, hOd_18.out.cell 3 (v := .int .i64 m) rfl, hOpl_18.out.cell 4 (v := .int .i64 q4) rfl⟩) ?_
        clear hK K
        repeat (first
          | (refine Ord.ord_plain (v := ?_) rfl (fun w' hS => ?_) ?_; rotate_left; (focus ((try dsimp only at hS); go_simp; first | done | with_reducible rfl)); simp only [Act.put, List.setIfInBounds_toArray, List.set_cons_zero, List.set_cons_succ])
          | (refine Ord.ord_skip (by rfl) ?_; simp only [Act.put, List.setIfInBounds_toArray, List.set_cons_zero, List.set_cons_succ])
          | (refine Ord.ord_take (v := ?_) (by rfl) (fun w' hS => ?_) ?_; rotate_left; (focus ((try dsimp only at hS); go_simp; first | done | with_reducible rfl)); simp only [Act.put, List.setIfInBounds_toArray, List.set_cons_zero, List.set_cons_succ]))
        refine Ord.ord_call (fun K hK => ?_)
        go_simp
        refine (G10.out _).mono ?_
        rintro e w19 ⟨rfl, hb19⟩
        have hB19 := btr hB18 hb19
        have hS19 := hb19.size
        have hOpl_19 := Lib.hid (hOpl_18.out.below hb19 (by omega))
        have hOa_19 := Lib.hid (hOa_18.out.below hb19 (by omega))
        have hOb_19 := Lib.hid (hOb_18.out.below hb19 (by omega))
        have hOc_19 := Lib.hid (hOc_18.out.below hb19 (by omega))
        have hOd_19 := Lib.hid (hOd_18.out.below hb19 (by omega))
        clear hOpl_18 hOa_18 hOb_18 hOc_18 hOd_18 hb19
        refine hK.out _ _ (⟨hOa_19.out.cell 0 (v := .int .i64 1) rfl, hOa_19.out.cell 1 (v := .int .i64 pa) rfl, hOa_19.out.cell 2 (v := .bool ba) rfl, hOa_19.out.cell 3 (v := .int .i64 0) rfl, hOb_19.out.cell 0 (v := .int .i64 1) rfl, hOb_19.out.cell 1 (v := .int .i64 pb) rfl, hOb_19.out.cell 2 (v := .bool bb) rfl, hOb_19.out.cell 3 (v := .int .i64 0) rfl, hOc_19.out.cell 0 (v := .int .i64 2) rfl, hOc_19.out.cell 1 (v := .int .i64 0) rfl, hOc_19.out.cell 2 (v := .bool false) rfl, hOc_19.out.cell 3 (v := .int .i64 m) rfl, hOd_19.out.cell 0 (v := .int .i64 3) rfl, hOd_19.out.cell 1 (v := .int .i64 0) rfl, hOd_19.out.cell 2 (v := .bool false) rfl, hOd_19.out.cell 3 (v := .int .i64 m) rfl, hOpl_19.out.cell 4 (v := .int .i64 q4) rfl⟩) ?_
        clear hK K
        repeat (first
          | (refine Ord.ord_plain (v := ?_) rfl (fun w' hS => ?_) ?_; rotate_left; (focus ((try dsimp only at hS); go_simp; first | done | with_reducible rfl)); simp only [Act.put, List.setIfInBounds_toArray, List.set_cons_zero, List.set_cons_succ])
          | (refine Ord.ord_skip (by rfl) ?_; simp only [Act.put, List.setIfInBounds_toArray, List.set_cons_zero, List.set_cons_succ])
          | (refine Ord.ord_take (v := ?_) (by rfl) (fun w' hS => ?_) ?_; rotate_left; (focus ((try dsimp only at hS); go_simp; first | done | with_reducible rfl)); simp only [Act.put, List.setIfInBounds_toArray, List.set_cons_zero, List.set_cons_succ]))
        refine Ord.ord_call (fun K hK => ?_)
        go_simp
        refine (G11.out _).mono ?_
        rintro e w20 ⟨rfl, hb20⟩
        have hB20 := btr hB19 hb20
        have hS20 := hb20.size
        have hOpl_20 := Lib.hid (hOpl_19.out.below hb20 (by omega))
        have hOa_20 := Lib.hid (hOa_19.out.below hb20 (by omega))
        have hOb_20 := Lib.hid (hOb_19.out.below hb20 (by omega))
        have hOc_20 := Lib.hid (hOc_19.out.below hb20 (by omega))
        have hOd_20 := Lib.hid (hOd_19.out.below hb20 (by omega))
        clear hOpl_19 hOa_19 hOb_19 hOc_19 hOd_19 hb20
        refine hK.out _ _ (⟨hOa_20.out.cell 0 (v := .int .i64 1) rfl, hOa_20.out.cell 1 (v := .int .i64 pa) rfl, hOa_20.out.cell 2 (v := .bool ba) rfl, hOa_20.out.cell 3 (v := .int .i64 0) rfl, hOb_20.out.cell 0 (v := .int .i64 1) rfl, hOb_20.out.cell 1 (v := .int .i64 pb) rfl, hOb_20.out.cell 2 (v := .bool bb) rfl, hOb_20.out.cell 3 (v := .int .i64 0) rfl, hOc_20.out.cell 0 (v := .int .i64 2) rfl, hOc_20.out.cell 1 (v := .int .i64 0) rfl, hOc_20.out.cell 2 (v := .bool false) rfl, hOc_20.out.cell 3 (v := .int .i64 m) rfl, hOd_20.out.cell 0 (v := .int .i64 3) rfl, hOd_20.out.cell 1 (v := .int .i64 0) rfl, hOd_20.out.cell 2 (v := .bool false) rfl, hOd_20.out.cell 3 (v := .int .i64 m) rfl, hOpl_20.out.cell 4 (v := .int .i64 q4) rfl⟩) ?_
        clear hK K
        repeat (first
          | (refine Ord.ord_plain (v := ?_) rfl (fun w' hS => ?_) ?_; rotate_left; (focus ((try dsimp only at hS); go_simp; first | done | with_reducible rfl)); simp only [Act.put, List.setIfInBounds_toArray, List.set_cons_zero, List.set_cons_succ])
          | (refine Ord.ord_skip (by rfl) ?_; simp only [Act.put, List.setIfInBounds_toArray, List.set_cons_zero, List.set_cons_succ])
          | (refine Ord.ord_take (v := ?_) (by rfl) (fun w' hS => ?_) ?_; rotate_left; (focus ((try dsimp only at hS); go_simp; first | done | with_reducible rfl)); simp only [Act.put, List.setIfInBounds_toArray, List.set_cons_zero, List.set_cons_succ]))
        refine Ord.ord_nil ?_
        go_wp2_with fail
        go_ret
        exact ⟨rfl, hB20⟩
    · go_simp
      have hq2 := hB2.size
      have hb3 : Below D2.heap.size D2 (D2.alloc (.cells #[.int .i64 0, .int .i64 0, .bool false, .int .i64 0] 28)) := (Below.refl _ _).alloc (Nat.le_refl _) _
      have hB3 := btr hB2 hb3
      have hS3 : D2.heap.size < (D2.alloc (.cells #[.int .i64 0, .int .i64 0, .bool false, .int .i64 0] 28)).heap.size := by simp
      have hOpl_3 := Lib.hid (hOpl_2.out.below hb3 (by omega))
      have hOa_3 := Lib.hid (Var.new D2 [.int .i64 0, .int .i64 0, .bool false, .int .i64 0] 28)
      clear hOpl_2 hb3
      refine hK.out _ _ (⟨hOpl_3.out.cell 0 (v := .int .i64 q0) rfl, hOpl_3.out.cell 1 (v := .int .i64 q1) rfl⟩) ?_
      clear hK K
      (try simp only [Act.put, List.setIfInBounds_toArray, List.set_cons_zero, List.set_cons_succ])
      refine Ord.ot_alone rfl (fun K hK => ?_)
      go_simp
      refine (G1.out _).mono ?_
      rintro e w4 ⟨rfl, hb4⟩
      have hB4 := btr hB3 hb4
      have hS4 := hb4.size
      have hOpl_4 := Lib.hid (hOpl_3.out.below hb4 (by omega))
      have hOa_4 := Lib.hid (hOa_3.out.below hb4 (by omega))
      clear hOpl_3 hOa_3 hb4
      refine hK.out _ _ (⟨hOpl_4.out.cell 0 (v := .int .i64 q0) rfl, hOpl_4.out.cell 1 (v := .int .i64 q1) rfl⟩) ?_
      clear hK K
      (try simp only [Act.put, List.setIfInBounds_toArray, List.set_cons_zero, List.set_cons_succ])
      refine Ord.ot_alone rfl (fun K hK => ?_)
      have y0 := hOa_4.out.cell 0 (v := .int .i64 0) rfl
      have j0 := hOa_4.out.loose 0 (v := .int .i64 0) rfl
      have y1 := hOa_4.out.cell 1 (v := .int .i64 0) rfl
      have j1 := hOa_4.out.loose 1 (v := .int .i64 0) rfl
      have y2 := hOa_4.out.cell 2 (v := .bool false) rfl
      have j2 := hOa_4.out.loose 2 (v := .bool false) rfl
      have y3 := hOa_4.out.cell 3 (v := .int .i64 0) rfl
      have j3 := hOa_4.out.loose 3 (v := .int .i64 0) rfl
      go_simp
      clear y0 y1 y2 y3 j0 j1 j2 j3
      have hB5 : Below w.heap.size w ((((w4.setCell ⟨D2.heap.size, 0, none⟩ (.int .i64 1)).setCell ⟨D2.heap.size, 1, none⟩ (.int .i64 pa)).setCell ⟨D2.heap.size, 2, none⟩ (.bool ba)).setCell ⟨D2.heap.size, 3, none⟩ (.int .i64 0)) := ((((hB4.setCell (p := ⟨D2.heap.size, 0, none⟩) (by omega) _).setCell (p := ⟨D2.heap.size, 1, none⟩) (by omega) _).setCell (p := ⟨D2.heap.size, 2, none⟩) (by omega) _).setCell (p := ⟨D2.heap.size, 3, none⟩) (by omega) _)
      have hOpl_5 := Lib.hid (show Var ((((w4.setCell ⟨D2.heap.size, 0, none⟩ (.int .i64 1)).setCell ⟨D2.heap.size, 1, none⟩ (.int .i64 pa)).setCell ⟨D2.heap.size, 2, none⟩ (.bool ba)).setCell ⟨D2.heap.size, 3, none⟩ (.int .i64 0)) gp [.int .i64 q0, .int .i64 q1, .int .i64 q2, .int .i64 q3, .int .i64 q4, .int .i64 q5, .int .i64 q6, .int .i64 q7, .int .i64 q8, .int .i64 q9, .int .i64 q10, .int .i64 q11] from ((((hOpl_4.out.far (by have := hOpl_4.out.2; omega) 0 _).far (by have := hOpl_4.out.2; omega) 1 _).far (by have := hOpl_4.out.2; omega) 2 _).far (by have := hOpl_4.out.2; omega) 3 _))
      have hOa_5 := Lib.hid (show Var ((((w4.setCell ⟨D2.heap.size, 0, none⟩ (.int .i64 1)).setCell ⟨D2.heap.size, 1, none⟩ (.int .i64 pa)).setCell ⟨D2.heap.size, 2, none⟩ (.bool ba)).setCell ⟨D2.heap.size, 3, none⟩ (.int .i64 0)) D2.heap.size [.int .i64 1, .int .i64 pa, .bool ba, .int .i64 0] from ((((hOa_4.out.set 0 (.int .i64 1)).set 1 (.int .i64 pa)).set 2 (.bool ba)).set 3 (.int .i64 0)))
      have hS5 : w4.heap.size = ((((w4.setCell ⟨D2.heap.size, 0, none⟩ (.int .i64 1)).setCell ⟨D2.heap.size, 1, none⟩ (.int .i64 pa)).setCell ⟨D2.heap.size, 2, none⟩ (.bool ba)).setCell ⟨D2.heap.size, 3, none⟩ (.int .i64 0)).heap.size := by simp
      refine hK.out _ _ (⟨hOpl_5.out.cell 0 (v := .int .i64 q0) rfl, hOpl_5.out.cell 1 (v := .int .i64 q1) rfl⟩) ?_
      clear hK K
      (try simp only [Act.put, List.setIfInBounds_toArray, List.set_cons_zero, List.set_cons_succ])
      refine Ord.ot_nil ?_
      generalize ((((w4.setCell ⟨D2.heap.size, 0, none⟩ (.int .i64 1)).setCell ⟨D2.heap.size, 1, none⟩ (.int .i64 pa)).setCell ⟨D2.heap.size, 2, none⟩ (.bool ba)).setCell ⟨D2.heap.size, 3, none⟩ (.int .i64 0)) = V5 at hB5 hS5 hOpl_5 hOa_5 ⊢
      clear hOpl_4 hOa_4
      go_wp2_with fail
      refine Ord.wp_region_tree (fun w' => w'.cell? ⟨gp, 2, none⟩ = some (.int .i64 q2) ∧ w'.cell? ⟨gp, 3, none⟩ = some (.int .i64 q3)) (.take 0 (.take 1 (.take 2 (.take 3 (.take 4 (.take 5 (.take 6 (.take 7 (.take 8 (.two 9 (.alone 10 (.alone 11 .nil)) 10 (.alone 9 (.alone 11 .nil)))))))))))) (by kernel_rfl) (by kernel_rfl) (by kernel_rfl) (⟨hOpl_5.out.cell 2 (v := .int .i64 q2) rfl, hOpl_5.out.cell 3 (v := .int .i64 q3) rfl⟩) ?_
      have hb6 : Below V5.heap.size V5 V5.drew := (Below.refl _ _).drew
      have hB6 := btr hB5 hb6
      have hS6 := hb6.size
      have hOpl_6 := Lib.hid (hOpl_5.out.below hb6 (by omega))
      have hOa_6 := Lib.hid (hOa_5.out.below hb6 (by omega))
      clear hOpl_5 hOa_5 hb6
      generalize V5.drew = D6 at hB6 hS6 hOpl_6 hOa_6 ⊢
      (refine Ord.ot_take (v := ?_) rfl (by rfl) (fun w' hS => ?_) ?_; rotate_left; (focus ((try dsimp only at hS); go_simp; first | done | with_reducible rfl)); simp only [Act.put, List.setIfInBounds_toArray, List.set_cons_zero, List.set_cons_succ])
      (refine Ord.ot_take (v := ?_) rfl (by rfl) (fun w' hS => ?_) ?_; rotate_left; (focus ((try dsimp only at hS); go_simp; first | done | with_reducible rfl)); simp only [Act.put, List.setIfInBounds_toArray, List.set_cons_zero, List.set_cons_succ])
      (refine Ord.ot_take (v := ?_) rfl (by rfl) (fun w' hS => ?_) ?_; rotate_left; (focus ((try dsimp only at hS); go_simp; first | done | with_reducible rfl)); simp only [Act.put, List.setIfInBounds_toArray, List.set_cons_zero, List.set_cons_succ])
      (refine Ord.ot_take (v := ?_) rfl (by rfl) (fun w' hS => ?_) ?_; rotate_left; (focus ((try dsimp only at hS); go_simp; first | done | with_reducible rfl)); simp only [Act.put, List.setIfInBounds_toArray, List.set_cons_zero, List.set_cons_succ])
      (refine Ord.ot_take (v := ?_) rfl (by rfl) (fun w' hS => ?_) ?_; rotate_left; (focus ((try dsimp only at hS); go_simp; first | done | with_reducible rfl)); simp only [Act.put, List.setIfInBounds_toArray, List.set_cons_zero, List.set_cons_succ])
      (refine Ord.ot_take (v := ?_) rfl (by rfl) (fun w' hS => ?_) ?_; rotate_left; (focus ((try dsimp only at hS); go_simp; first | done | with_reducible rfl)); simp only [Act.put, List.setIfInBounds_toArray, List.set_cons_zero, List.set_cons_succ])
      (refine Ord.ot_take (v := ?_) rfl (by rfl) (fun w' hS => ?_) ?_; rotate_left; (focus ((try dsimp only at hS); go_simp; first | done | with_reducible rfl)); simp only [Act.put, List.setIfInBounds_toArray, List.set_cons_zero, List.set_cons_succ])
      (refine Ord.ot_take (v := ?_) rfl (by rfl) (fun w' hS => ?_) ?_; rotate_left; (focus ((try dsimp only at hS); go_simp; first | done | with_reducible rfl)); simp only [Act.put, List.setIfInBounds_toArray, List.set_cons_zero, List.set_cons_succ])
      (refine Ord.ot_take (v := ?_) rfl (by rfl) (fun w' hS => ?_) ?_; rotate_left; (focus ((try dsimp only at hS); go_simp; first | done | with_reducible rfl)); simp only [Act.put, List.setIfInBounds_toArray, List.set_cons_zero, List.set_cons_succ])
      refine Ord.ot_two rfl rfl (fun K hK => ?_) (fun K hK => ?_)
      · go_simp
        refine (G2.out _).mono ?_
        rintro e w7 ⟨rfl, hb7⟩
        have hB7 := btr hB6 hb7
        have hS7 := hb7.size
        have hOpl_7 := Lib.hid (hOpl_6.out.below hb7 (by omega))
        have hOa_7 := Lib.hid (hOa_6.out.below hb7 (by omega))
        clear hOpl_6 hOa_6 hb7
        refine hK.out _ _ (⟨hOpl_7.out.cell 2 (v := .int .i64 q2) rfl, hOpl_7.out.cell 3 (v := .int .i64 q3) rfl⟩) ?_
        clear hK K
        (try simp only [Act.put, List.setIfInBounds_toArray, List.set_cons_zero, List.set_cons_succ])
        refine Ord.ot_alone rfl (fun K hK => ?_)
        go_simp
        have hpz : Var (w7.alloc (.cells #[.int .i64 0, .int .i64 0, .bool false, .int .i64 0] 28)) gp [.int .i64 q0, .int .i64 q1, .int .i64 q2, .int .i64 q3, .int .i64 q4, .int .i64 q5, .int .i64 q6, .int .i64 q7, .int .i64 q8, .int .i64 q9, .int .i64 q10, .int .i64 q11] := hOpl_7.out.below ((Below.refl w7.heap.size w7).alloc (Nat.le_refl _) _) (by omega)
        refine hK.out _ _ (⟨hpz.cell 2 (v := .int .i64 q2) rfl, hpz.cell 3 (v := .int .i64 q3) rfl⟩) ?_
        clear hK K hpz
        (try simp only [Act.put, List.setIfInBounds_toArray, List.set_cons_zero, List.set_cons_succ])
        refine Ord.ot_alone rfl (fun K hK => ?_)
        go_simp
        have hb8 : Below w7.heap.size w7 (w7.alloc (.cells #[.int .i64 1, .int .i64 pb, .bool bb, .int .i64 0] 28)) := (Below.refl _ _).alloc (Nat.le_refl _) _
        have hB8 := btr hB7 hb8
        have hS8 : w7.heap.size < (w7.alloc (.cells #[.int .i64 1, .int .i64 pb, .bool bb, .int .i64 0] 28)).heap.size := by simp
        have hOpl_8 := Lib.hid (hOpl_7.out.below hb8 (by omega))
        have hOa_8 := Lib.hid (hOa_7.out.below hb8 (by omega))
        have hOb_8 := Lib.hid (Var.new w7 [.int .i64 1, .int .i64 pb, .bool bb, .int .i64 0] 28)
        clear hOpl_7 hOa_7 hb8
        refine hK.out _ _ (⟨hOpl_8.out.cell 2 (v := .int .i64 q2) rfl, hOpl_8.out.cell 3 (v := .int .i64 q3) rfl⟩) ?_
        clear hK K
        (try simp only [Act.put, List.setIfInBounds_toArray, List.set_cons_zero, List.set_cons_succ])
        refine Ord.ot_nil ?_
        have zp := hOpl_8.out.cell 4 (v := .int .i64 q4) rfl
        go_wp2_with fail
        refine (G3.out _).mono ?_
        rintro e w9 ⟨rfl, hb9⟩
        have hB9 := btr hB8 hb9
        have hS9 := hb9.size
        have hOpl_9 := Lib.hid (hOpl_8.out.below hb9 (by omega))
        have hOa_9 := Lib.hid (hOa_8.out.below hb9 (by omega))
        have hOb_9 := Lib.hid (hOb_8.out.below hb9 (by omega))
        clear hOpl_8 hOa_8 hOb_8 hb9
        clear zp
        have hb10 : Below w9.heap.size w9 (w9.alloc (.cells #[.int .i64 2, .int .i64 0, .bool false, .int .i64 m] 28)) := (Below.refl _ _).alloc (Nat.le_refl _) _
        have hB10 := btr hB9 hb10
        have hS10 : w9.heap.size < (w9.alloc (.cells #[.int .i64 2, .int .i64 0, .bool false, .int .i64 m] 28)).heap.size := by simp
        have hOpl_10 := Lib.hid (hOpl_9.out.below hb10 (by omega))
        have hOa_10 := Lib.hid (hOa_9.out.below hb10 (by omega))
        have hOb_10 := Lib.hid (hOb_9.out.below hb10 (by omega))
        have hOc_10 := Lib.hid (Var.new w9 [.int .i64 2, .int .i64 0, .bool false, .int .i64 m] 28)
        clear hOpl_9 hOa_9 hOb_9 hb10
        have zp := hOpl_10.out.cell 4 (v := .int .i64 q4) rfl
        go_wp2_with fail
        refine (G4.out _).mono ?_
        rintro e w11 ⟨rfl, hb11⟩
        have hB11 := btr hB10 hb11
        have hS11 := hb11.size
        have hOpl_11 := Lib.hid (hOpl_10.out.below hb11 (by omega))
        have hOa_11 := Lib.hid (hOa_10.out.below hb11 (by omega))
        have hOb_11 := Lib.hid (hOb_10.out.below hb11 (by omega))
        have hOc_11 := Lib.hid (hOc_10.out.below hb11 (by omega))
        clear hOpl_10 hOa_10 hOb_10 hOc_10 hb11
        clear zp
        have hb12 : Below w11.heap.size w11 (w11.alloc (.cells #[.int .i64 3, .int .i64 0, .bool false, .int .i64 m] 28)) := (Below.refl _ _).alloc (Nat.le_refl _) _
        have hB12 := btr hB11 hb12
        have hS12 : w11.heap.size < (w11.alloc (.cells #[.int .i64 3, .int .i64 0, .bool false, .int .i64 m] 28)).heap.size := by simp
        have hOpl_12 := Lib.hid (hOpl_11.out.below hb12 (by omega))
        have hOa_12 := Lib.hid (hOa_11.out.below hb12 (by omega))
        have hOb_12 := Lib.hid (hOb_11.out.below hb12 (by omega))
        have hOc_12 := Lib.hid (hOc_11.out.below hb12 (by omega))
        have hOd_12 := Lib.hid (Var.new w11 [.int .i64 3, .int .i64 0, .bool false, .int .i64 m] 28)
        clear hOpl_11 hOa_11 hOb_11 hOc_11 hb12
        go_wp2_with fail
        refine Ord.wp_region_ord (fun w' => w'.cell? ⟨D2.heap.size, 0, none⟩ = some (.int .i64 1) ∧ w'.cell? ⟨D2.heap.size, 1, none⟩ = some (.int .i64 pa) ∧ w'.cell? ⟨D2.heap.size, 2, none⟩ = some (.bool ba) ∧ w'.cell? ⟨D2.heap.size, 3, none⟩ = some (.int .i64 0) ∧ w'.cell? ⟨w7.heap.size, 0, none⟩ = some (.int .i64 1) ∧ w'.cell? ⟨w7.heap.size, 1, none⟩ = some (.int .i64 pb) ∧ w'.cell? ⟨w7.heap.size, 2, none⟩ = some (.bool bb) ∧ w'.cell? ⟨w7.heap.size, 3, none⟩ = some (.int .i64 0) ∧ w'.cell? ⟨w9.heap.size, 0, none⟩ = some (.int .i64 2) ∧ w'.cell? ⟨w9.heap.size, 1, none⟩ = some (.int .i64 0) ∧ w'.cell? ⟨w9.heap.size, 2, none⟩ = some (.bool false) ∧ w'.cell? ⟨w9.heap.size, 3, none⟩ = some (.int .i64 m) ∧ w'.cell? ⟨w11.heap.size, 0, none⟩ = some (.int .i64 3) ∧ w'.cell? ⟨w11.heap.size, 1, none⟩ = some (.int .i64 0) ∧ w'.cell? ⟨w11.heap.size, 2, none⟩ = some (.bool false) ∧ w'.cell? ⟨w11.heap.size, 3, none⟩ = some (.int .i64 m) ∧ w'.cell? ⟨gp, 4, none⟩ = some (.int .i64 q4)) [(0, true), (2, true), (5, true), (6, true), (7, true), (1, false), (3, false), (4, true), (8, true), (9, true), (10, true), (12, true), (11, false), (13, false), (14, true), (15, true), (16, true), (17, true), (18, false), (19, true), (20, true), (21, true), (22, false), (23, true), (24, true), (25, true), (26, false), (27, true), (28, true), (29, true), (30, true), (31, true), (32, true), (33, true), (34, true), (35, true), (36, true), (37, true)] (by kernel_rfl) (by kernel_rfl) rfl (by kernel_rfl) (⟨hOa_12.out.cell 0 (v := .int .i64 1) rfl, hOa_12.out.cell 1 (v := .int .i64 pa) rfl, hOa_12.out.cell 2 (v := .bool ba) rfl, hOa_12.out.cell 3 (v := .int .i64 0) rfl, hOb_12.out.cell 0 (v := .int .i64 1) rfl, hOb_12.out.cell 1 (v := .int .i64 pb) rfl, hOb_12.out.cell 2 (v := .bool bb) rfl, hOb_12.out.cell 3 (v := .int .i64 0) rfl, hOc_12.out.cell 0 (v := .int .i64 2) rfl, hOc_12.out.cell 1 (v := .int .i64 0) rfl, hOc_12.out.cell 2 (v := .bool false) rfl, hOc_12.out.cell 3 (v := .int .i64 m) rfl, hOd_12.out.cell 0 (v := .int .i64 3) rfl, hOd_12.out.cell 1 (v := .int .i64 0) rfl, hOd_12.out.cell 2 (v := .bool false) rfl, hOd_12.out.cell 3 (v := .int .i64 m) rfl, hOpl_12.out.cell 4 (v := .int .i64 q4) rfl⟩) ?_
        simp only [Ord.ordOps, List.getElem?_toArray, List.getElem?_cons_zero, List.getElem?_cons_succ]
        repeat (first
          | (refine Ord.ord_plain (v := ?_) rfl (fun w' hS => ?_) ?_; rotate_left; (focus ((try dsimp only at hS); go_simp; first | done | with_reducible rfl)); simp only [Act.put, List.setIfInBounds_toArray, List.set_cons_zero, List.set_cons_succ])
          | (refine Ord.ord_skip (by rfl) ?_; simp only [Act.put, List.setIfInBounds_toArray, List.set_cons_zero, List.set_cons_succ])
          | (refine Ord.ord_take (v := ?_) (by rfl) (fun w' hS => ?_) ?_; rotate_left; (focus ((try dsimp only at hS); go_simp; first | done | with_reducible rfl)); simp only [Act.put, List.setIfInBounds_toArray, List.set_cons_zero, List.set_cons_succ]))
        have hb13 : Below (w11.alloc (.cells #[.int .i64 3, .int .i64 0, .bool false, .int .i64 m] 28)).heap.size (w11.alloc (.cells #[.int .i64 3, .int .i64 0, .bool false, .int .i64 m] 28)) (w11.alloc (.cells #[.int .i64 3, .int .i64 0, .bool false, .int .i64 m] 28)).drew := (Below.refl _ _).drew
        have hB13 := btr hB12 hb13
        have hS13 := hb13.size
        have hOpl_13 := Lib.hid (hOpl_12.out.below hb13 (by omega))
        have hOa_13 := Lib.hid (hOa_12.out.below hb13 (by omega))
        have hOb_13 := Lib.hid (hOb_12.out.below hb13 (by omega))
        have hOc_13 := Lib.hid (hOc_12.out.below hb13 (by omega))
        have hOd_13 := Lib.hid (hOd_12.out.below hb13 (by omega))
        clear hOpl_12 hOa_12 hOb_12 hOc_12 hOd_12 hb13
        refine Ord.ord_plain (v := .bool (pa == pb && ba == bb)) rfl (fun w' hS => ?_) ?_
        · cases h1 : (pa == pb) <;> cases h2 : (ba == bb) <;> ((try dsimp only at hS); go_simp; first | done | with_reducible rfl)
        simp only [Act.put, List.setIfInBounds_toArray, List.set_cons_zero, List.set_cons_succ]
        refine Ord.ord_call (fun K hK => ?_)
        go_simp
        refine (G5.out _ (HF.out _ hB13)).mono ?_
        rintro e w14 ⟨rfl, hb14⟩
        have hB14 := btr hB13 hb14
        have hS14 := hb14.size
        have hOpl_14 := Lib.hid (hOpl_13.out.below hb14 (by omega))
        have hOa_14 := Lib.hid (hOa_13.out.below hb14 (by omega))
        have hOb_14 := Lib.hid (hOb_13.out.below hb14 (by omega))
        have hOc_14 := Lib.hid (hOc_13.out.below hb14 (by omega))
        have hOd_14 := Lib.hid (hOd_13.out.below hb14 (by omega))
        clear hOpl_13 hOa_13 hOb_13 hOc_13 hOd_13 hb14
        refine hK.out _ _ (⟨hOa_14.out.cell 0 (v := .int .i64 1) rfl, hOa_14.out.cell 1 (v := .int .i64 pa) rfl, hOa_14.out.cell 2 (v := .bool ba) rfl, hOa_14.out.cell 3 (v := .int .i64 0) rfl, hOb_14.out.cell 0 (v := .int .i64 1) rfl, hOb_14.out.cell 1 (v := .int .i64 pb) rfl, hOb_14.out.cell 2 (v := .bool bb) rfl, hOb_14.out.cell 3 (v := .int .i64 0) rfl, hOc_14.out.cell 0 (v := .int .i64 2) rfl, hOc_14.out.cell 1 (v := .int .i64 0) rfl, hOc_14.out.cell 2 (v := .bool false) rfl, hOc_14.out.cell 3 (v := .int .i64 m) rfl, hOd_14.out.cell 0 (v := .int .i64 3) rfl, hOd_14.out.cell 1 (v := .int .i64 0) rfl, hOd_14.out.cell 2 (v := .bool false) rfl, hOd_14.out.cell 3 (v := .int .i64 m) rfl, hOpl_14.out.cell 4 (v := .int .i64 q4) rfl⟩) ?_
        clear hK K
        repeat (first
          | (refine Ord.ord_plain (v := ?_) rfl (fun w' hS => ?_) ?_; rotate_left; (focus ((try dsimp only at hS); go_simp; first | done | with_reducible rfl)); simp only [Act.put, List.setIfInBounds_toArray, List.set_cons_zero, List.set_cons_succ])
          | (refine Ord.ord_skip (by rfl) ?_; simp only [Act.put, List.setIfInBounds_toArray, List.set_cons_zero, List.set_cons_succ])
          | (refine Ord.ord_take (v := ?_) (by rfl) (fun w' hS => ?_) ?_; rotate_left; (focus ((try dsimp only at hS); go_simp; first | done | with_reducible rfl)); simp only [Act.put, List.setIfInBounds_toArray, List.set_cons_zero, List.set_cons_succ]))
        refine Ord.ord_call (fun K hK => ?_)
        go_simp
        refine (G6.out _ (HF.out _ hB14)).mono ?_
        rintro e w15 ⟨rfl, hb15⟩
        have hB15 := btr hB14 hb15
        have hS15 := hb15.size
        have hOpl_15 := Lib.hid (hOpl_14.out.below hb15 (by omega))
        have hOa_15 := Lib.hid (hOa_14.out.below hb15 (by omega))
        have hOb_15 := Lib.hid (hOb_14.out.below hb15 (by omega))
        have hOc_15 := Lib.hid (hOc_14.out.below hb15 (by omega))
        have hOd_15 := Lib.hid (hOd_14.out.below hb15 (by omega))
        clear hOpl_14 hOa_14 hOb_14 hOc_14 hOd_14 hb15
        refine hK.out _ _ (⟨hOa_15.out.cell 0 (v := .int .i64 1) rfl, hOa_15.out.cell 1 (v := .int .i64 pa) rfl, hOa_15.out.cell 2 (v := .bool ba) rfl, hOa_15.out.cell 3 (v := .int .i64 0) rfl, hOb_15.out.cell 0 (v := .int .i64 1) rfl, hOb_15.out.cell 1 (v := .int .i64 pb) rfl, hOb_15.out.cell 2 (v := .bool bb) rfl, hOb_15.out.cell 3 (v := .int .i64 0) rfl, hOc_15.out.cell 0 (v := .int .i64 2) rfl, hOc_15.out.cell 1 (v := .int .i64 0) rfl, hOc_15.out.cell 2 (v := .bool false) rfl, hOc_15.out.cell 3 (v := .int .i64 m) rfl, hOd_15.out.cell 0 (v := .int .i64 3) rfl, hOd_15.out.cell 1 (v := .int .i64 0) rfl, hOd_15.out.cell 2 (v := .bool false) rfl, hOd_15.out.cell 3 (v := .int .i64 m) rfl, hOpl_15.out.cell 4 (v := .int .i64 q4) rfl⟩) ?_
        clear hK K
        repeat (first
          | (refine Ord.ord_plain (v := ?_) rfl (fun w' hS => ?_) ?_; rotate_left; (focus ((try dsimp only at hS); go_simp; first | done | with_reducible rfl)); simp only [Act.put, List.setIfInBounds_toArray, List.set_cons_zero, List.set_cons_succ])
          | (refine Ord.ord_skip (by rfl) ?_; simp only [Act.put, List.setIfInBounds_toArray, List.set_cons_zero, List.set_cons_succ])
          | (refine Ord.ord_take (v := ?_) (by rfl) (fun w' hS => ?_) ?_; rotate_left; (focus ((try dsimp only at hS); go_simp; first | done | with_reducible rfl)); simp only [Act.put, List.setIfInBounds_toArray, List.set_cons_zero, List.set_cons_succ]))
        refine Ord.ord_call (fun K hK => ?_)
        go_simp
        refine (G7.out _ (HF.out _ hB15)).mono ?_
        rintro e w16 ⟨rfl, hb16⟩
        have hB16 := btr hB15 hb16
        have hS16 := hb16.size
        have hOpl_16 := Lib.hid (hOpl_15.out.below hb16 (by omega))
        have hOa_16 := Lib.hid (hOa_15.out.below hb16 (by omega))
        have hOb_16 := Lib.hid (hOb_15.out.below hb16 (by omega))
        have hOc_16 := Lib.hid (hOc_15.out.below hb16 (by omega))
        have hOd_16 := Lib.hid (hOd_15.out.below hb16 (by omega))
        clear hOpl_15 hOa_15 hOb_15 hOc_15 hOd_15 hb16
        refine hK.out _ _ (⟨hOa_16.out.cell 0 (v := .int .i64 1) rfl, hOa_16.out.cell 1 (v := .int .i64 pa) rfl, hOa_16.out.cell 2 (v := .bool ba) rfl, hOa_16.out.cell 3 (v := .int .i64 0) rfl, hOb_16.out.cell 0 (v := .int .i64 1) rfl, hOb_16.out.cell 1 (v := .int .i64 pb) rfl, hOb_16.out.cell 2 (v := .bool bb) rfl, hOb_16.out.cell 3 (v := .int .i64 0) rfl, hOc_16.out.cell 0 (v := .int .i64 2) rfl, hOc_16.out.cell 1 (v := .int .i64 0) rfl, hOc_16.out.cell 2 (v := .bool false) rfl, hOc_16.out.cell 3 (v := .int .i64 m) rfl, hOd_16.out.cell 0 (v := .int .i64 3) rfl, hOd_16.out.cell 1 (v := .int .i64 0) rfl, hOd_16.out.cell 2 (v := .bool false) rfl, hOd_16.out.cell 3 (v := .int .i64 m) rfl, hOpl_16.out.cell 4 (v := .int .i64 q4) rfl⟩) ?_
        clear hK K
        repeat (first
          | (refine Ord.ord_plain (v := ?_) rfl (fun w' hS => ?_) ?_; rotate_left; (focus ((try dsimp only at hS); go_simp; first | done | with_reducible rfl)); simp only [Act.put, List.setIfInBounds_toArray, List.set_cons_zero, List.set_cons_succ])
          | (refine Ord.ord_skip (by rfl) ?_; simp only [Act.put, List.setIfInBounds_toArray, List.set_cons_zero, List.set_cons_succ])
          | (refine Ord.ord_take (v := ?_) (by rfl) (fun w' hS => ?_) ?_; rotate_left; (focus ((try dsimp only at hS); go_simp; first | done | with_reducible rfl)); simp only [Act.put, List.setIfInBounds_toArray, List.set_cons_zero, List.set_cons_succ]))
        refine Ord.ord_call (fun K hK => ?_)
        go_simp
        refine (G8.out _ (HF.out _ hB16)).mono ?_
        rintro e w17 ⟨rfl, hb17⟩
        have hB17 := btr hB16 hb17
        have hS17 := hb17.size
        have hOpl_17 := Lib.hid (hOpl_16.out.below hb17 (by omega))
        have hOa_17 := Lib.hid (hOa_16.out.below hb17 (by omega))
        have hOb_17 := Lib.hid (hOb_16.out.below hb17 (by omega))
        have hOc_17 := Lib.hid (hOc_16.out.below hb17 (by omega))
        have hOd_17 := Lib.hid (hOd_16.out.below hb17 (by omega))
        clear hOpl_16 hOa_16 hOb_16 hOc_16 hOd_16 hb17
        refine hK.out _ _ (⟨hOa_17.out.cell 0 (v := .int .i64 1) rfl, hOa_17.out.cell 1 (v := .int .i64 pa) rfl, hOa_17.out.cell 2 (v := .bool ba) rfl, hOa_17.out.cell 3 (v := .int .i64 0) rfl, hOb_17.out.cell 0 (v := .int .i64 1) rfl, hOb_17.out.cell 1 (v := .int .i64 pb) rfl, hOb_17.out.cell 2 (v := .bool bb) rfl, hOb_17.out.cell 3 (v := .int .i64 0) rfl, hOc_17.out.cell 0 (v := .int .i64 2) rfl, hOc_17.out.cell 1 (v := .int .i64 0) rfl, hOc_17.out.cell 2 (v := .bool false) rfl, hOc_17.out.cell 3 (v := .int .i64 m) rfl, hOd_17.out.cell 0 (v := .int .i64 3) rfl, hOd_17.out.cell 1 (v := .int .i64 0) rfl, hOd_17.out.cell 2 (v := .bool false) rfl, hOd_17.out.cell 3 (v := .int .i64 m) rfl, hOpl_17.out.cell 4 (v := .int .i64 q4) rfl⟩) ?_
        clear hK K
        repeat (first
          | (refine Ord.ord_plain (v := ?_) rfl (fun w' hS => ?_) ?_; rotate_left; (focus ((try dsimp only at hS); go_simp; first | done | with_reducible rfl)); simp only [Act.put, List.setIfInBounds_toArray, List.set_cons_zero, List.set_cons_succ])
          | (refine Ord.ord_skip (by rfl) ?_; simp only [Act.put, List.setIfInBounds_toArray, List.set_cons_zero, List.set_cons_succ])
          | (refine Ord.ord_take (v := ?_) (by rfl) (fun w' hS => ?_) ?_; rotate_left; (focus ((try dsimp only at hS); go_simp; first | done | with_reducible rfl)); simp only [Act.put, List.setIfInBounds_toArray, List.set_cons_zero, List.set_cons_succ]))
        refine Ord.ord_call (fun K hK => ?_)
        go_simp
        refine (G9.out _).mono ?_
        rintro e w18 ⟨rfl, hb18⟩
        have hB18 := btr hB17 hb18
        have hS18 := hb18.size
        have hOpl_18 := Lib.hid (hOpl_17.out.below hb18 (by omega))
        have hOa_18 := Lib.hid (hOa_17.out.below hb18 (by omega))
        have hOb_18 := Lib.hid (hOb_17.out.below hb18 (by omega))
        have hOc_18 := Lib.hid (hOc_17.out.below hb18 (by omega))
        have hOd_18 := Lib.hid (hOd_17.out.below hb18 (by omega))
        clear hOpl_17 hOa_17 hOb_17 hOc_17 hOd_17 hb18
        refine hK.out _ _ (⟨hOa_18.out.cell 0 (v := .int .i64 1) rfl, hOa_18.out.cell 1 (v := .int .i64 pa) rfl, hOa_18.out.cell 2 (v := .bool ba) rfl, hOa_18.out.cell 3 (v := .int .i64 0) rfl, hOb_18.out.cell 0 (v := .int .i64 1) rfl, hOb_18.out.cell 1 (v := .int .i64 pb) rfl, hOb_18.out.cell 2 (v := .bool bb) rfl, hOb_18.out.cell 3 (v := .int .i64 0) rfl, hOc_18.out.cell 0 (v := .int .i64 2) rfl, hOc_18.out.cell 1 (v := .int .i64 0) rfl, hOc_18.out.cell 2 (v := .bool false) rfl, hOc_18.out.cell 3 (v := .int .i64 m) rfl, hOd_18.out.cell 0 (v := .int .i64 3) rfl, hOd_18.out.cell 1 (v := .int .i64 0) rfl, hOd_18.out.cell 2 (v := .bool false) rfl, hOd_18.out.cell 3 (v := .int .i64 m) rfl, hOpl_18.out.cell 4 (v := .int .i64 q4) rfl⟩) ?_
        clear hK K
        repeat (first
          | (refine Ord.ord_plain (v := ?_) rfl (fun w' hS => ?_) ?_; rotate_left; (focus ((try dsimp only at hS); go_simp; first | done | with_reducible rfl)); simp only [Act.put, List.setIfInBounds_toArray, List.set_cons_zero, List.set_cons_succ])
          | (refine Ord.ord_skip (by rfl) ?_; simp only [Act.put, List.setIfInBounds_toArray, List.set_cons_zero, List.set_cons_succ])
          | (refine Ord.ord_take (v := ?_) (by rfl) (fun w' hS => ?_) ?_; rotate_left; (focus ((try dsimp only at hS); go_simp; first | done | with_reducible rfl)); simp only [Act.put, List.setIfInBounds_toArray, List.set_cons_zero, List.set_cons_succ]))
        refine Ord.ord_call (fun K hK => ?_)
        go_simp
        refine (G10.out _).mono ?_
        rintro e w19 ⟨rfl, hb19⟩
        have hB19 := btr hB18 hb19
        have hS19 := hb19.size
        have hOpl_19 := Lib.hid (hOpl_18.out.below hb19 (by omega))
        have hOa_19 := Lib.hid (hOa_18.out.below hb19 (by omega))
        have hOb_19 := Lib.hid (hOb_18.out.below hb19 (by omega))
        have hOc_19 := Lib.hid (hOc_18.out.below hb19 (by omega))
        have hOd_19 := Lib.hid (hOd_18.out.below hb19 (by omega))
        clear hOpl_18 hOa_18 hOb_18 hOc_18 hOd_18 hb19
        refine hK.out _ _ (⟨hOa_19.out.cell 0 (v := .int .i64 1) rfl, hOa_19.out.cell 1 (v := .int .i64 pa) rfl, hOa_19.out.cell 2 (v := .bool ba) rfl, hOa_19.out.cell 3 (v := .int .i64 0) rfl, hOb_19.out.cell 0 (v := .int .i64 1) rfl, hOb_19.out.cell 1 (v := .int .i64 pb) rfl, hOb_19.out.cell 2 (v := .bool bb) rfl, hOb_19.out.cell 3 (v := .int .i64 0) rfl, hOc_19.out.cell 0 (v := .int .i64 2) rfl, hOc_19.out.cell 1 (v := .int .i64 0) rfl, hOc_19.out.cell 2 (v := .bool false) rfl, hOc_19.out.cell 3 (v := .int .i64 m) rfl, hOd_19.out.cell 0 (v := .int .i64 3) rfl, hOd_19.out.cell 1 (v := .int .i64 0) rfl, hOd_19.out.cell 2 (v := .bool false) rfl, hOd_19.out.cell 3 (v := .int .i64 m) rfl, hOpl_19.out.cell 4 (v := .int .i64 q4) rfl⟩) ?_
        clear hK K
        repeat (first
          | (refine Ord.ord_plain (v := ?_) rfl (fun w' hS => ?_) ?_; rotate_left; (focus ((try dsimp only at hS); go_simp; first | done | with_reducible rfl)); simp only [Act.put, List.setIfInBounds_toArray, List.set_cons_zero, List.set_cons_succ])
          | (refine Ord.ord_skip (by rfl) ?_; simp only [Act.put, List.setIfInBounds_toArray, List.set_cons_zero, List.set_cons_succ])
          | (refine Ord.ord_take (v := ?_) (by rfl) (fun w' hS => ?_) ?_; rotate_left; (focus ((try dsimp only at hS); go_simp; first | done | with_reducible rfl)); simp only [Act.put, List.setIfInBounds_toArray, List.set_cons_zero, List.set_cons_succ]))
        refine Ord.ord_call (fun K hK => ?_)
        go_simp
        refine (G11.out _).mono ?_
        rintro e w20 ⟨rfl, hb20⟩
        have hB20 := btr hB19 hb20
        have hS20 := hb20.size
        have hOpl_20 := Lib.hid (hOpl_19.out.below hb20 (by omega))
        have hOa_20 := Lib.hid (hOa_19.out.below hb20 (by omega))
        have hOb_20 := Lib.hid (hOb_19.out.below hb20 (by omega))
        have hOc_20 := Lib.hid (hOc_19.out.below hb20 (by omega))
        have hOd_20 := Lib.hid (hOd_19.out.below hb20 (by omega))
        clear hOpl_19 hOa_19 hOb_19 hOc_19 hOd_19 hb20
        refine hK.out _ _ (⟨hOa_20.out.cell 0 (v := .int .i64 1) rfl, hOa_20.out.cell 1 (v := .int .i64 pa) rfl, hOa_20.out.cell 2 (v := .bool ba) rfl, hOa_20.out.cell 3 (v := .int .i64 0) rfl, hOb_20.out.cell 0 (v := .int .i64 1) rfl, hOb_20.out.cell 1 (v := .int .i64 pb) rfl, hOb_20.out.cell 2 (v := .bool bb) rfl, hOb_20.out.cell 3 (v := .int .i64 0) rfl, hOc_20.out.cell 0 (v := .int .i64 2) rfl, hOc_20.out.cell 1 (v := .int .i64 0) rfl, hOc_20.out.cell 2 (v := .bool false) rfl, hOc_20.out.cell 3 (v := .int .i64 m) rfl, hOd_20.out.cell 0 (v := .int .i64 3) rfl, hOd_20.out.cell 1 (v := .int .i64 0) rfl, hOd_20.out.cell 2 (v := .bool false) rfl, hOd_20.out.cell 3 (v := .int .i64 m) rfl, hOpl_20.out.cell 4 (v := .int .i64 q4) rfl⟩) ?_
        clear hK K
        repeat (first
          | (refine Ord.ord_plain (v := ?_) rfl (fun w' hS => ?_) ?_; rotate_left; (focus ((try dsimp only at hS); go_simp; first | done | with_reducible rfl)); simp only [Act.put, List.setIfInBounds_toArray, List.set_cons_zero, List.set_cons_succ])
          | (refine Ord.ord_skip (by rfl) ?_; simp only [Act.put, List.setIfInBounds_toArray, List.set_cons_zero, List.set_cons_succ])
          | (refine Ord.ord_take (v := ?_) (by rfl) (fun w' hS => ?_) ?_; rotate_left; (focus ((try dsimp only at hS); go_simp; first | done | with_reducible rfl)); simp only [Act.put, List.setIfInBounds_toArray, List.set_cons_zero, List.set_cons_succ]))
        refine Ord.ord_nil ?_
        go_wp2_with fail
        go_ret
        exact ⟨rfl, hB20⟩
      · go_simp
        have hq6 := hB6.size
        have hb7 : Below D6.heap.size D6 (D6.alloc (.cells #[.int .i64 0, .int .i64 0, .bool false, .int .i64 0] 28)) := (Below.refl _ _).alloc (Nat.le_refl _) _
        have hB7 := btr hB6 hb7
        have hS7 : D6.heap.size < (D6.alloc (.cells #[.int .i64 0, .int .i64 0, .bool false, .int .i64 0] 28)).heap.size := by simp
        have hOpl_7 := Lib.hid (hOpl_6.out.below hb7 (by omega))
        have hOa_7 := Lib.hid (hOa_6.out.below hb7 (by omega))
        have hOb_7 := Lib.hid (Var.new D6 [.int .i64 0, .int .i64 0, .bool false, .int .i64 0] 28)
        clear hOpl_6 hOa_6 hb7
        refine hK.out _ _ (⟨hOpl_7.out.cell 2 (v := .int .i64 q2) rfl, hOpl_7.out.cell 3 (v := .int .i64 q3) rfl⟩) ?_
        clear hK K
        (try simp only [Act.put, List.setIfInBounds_toArray, List.set_cons_zero, List.set_cons_succ])
        refine Ord.ot_alone rfl (fun K hK => ?_)
        go_simp
        refine (G2.out _).mono ?_
        rintro e w8 ⟨rfl, hb8⟩
        have hB8 := btr hB7 hb8
        have hS8 := hb8.size
        have hOpl_8 := Lib.hid (hOpl_7.out.below hb8 (by omega))
        have hOa_8 := Lib.hid (hOa_7.out.below hb8 (by omega))
        have hOb_8 := Lib.hid (hOb_7.out.below hb8 (by omega))
        clear hOpl_7 hOa_7 hOb_7 hb8
        refine hK.out _ _ (⟨hOpl_8.out.cell 2 (v := .int .i64 q2) rfl, hOpl_8.out.cell 3 (v := .int .i64 q3) rfl⟩) ?_
        clear hK K
        (try simp only [Act.put, List.setIfInBounds_toArray, List.set_cons_zero, List.set_cons_succ])
        refine Ord.ot_alone rfl (fun K hK => ?_)
        have y0 := hOb_8.out.cell 0 (v := .int .i64 0) rfl
        have j0 := hOb_8.out.loose 0 (v := .int .i64 0) rfl
        have y1 := hOb_8.out.cell 1 (v := .int .i64 0) rfl
        have j1 := hOb_8.out.loose 1 (v := .int .i64 0) rfl
        have y2 := hOb_8.out.cell 2 (v := .bool false) rfl
        have j2 := hOb_8.out.loose 2 (v := .bool false) rfl
        have y3 := hOb_8.out.cell 3 (v := .int .i64 0) rfl
        have j3 := hOb_8.out.loose 3 (v := .int .i64 0) rfl
        go_simp
        clear y0 y1 y2 y3 j0 j1 j2 j3
        have hB9 : Below w.heap.size w ((((w8.setCell ⟨D6.heap.size, 0, none⟩ (.int .i64 1)).setCell ⟨D6.heap.size, 1, none⟩ (.int .i64 pb)).setCell ⟨D6.heap.size, 2, none⟩ (.bool bb)).setCell ⟨D6.heap.size, 3, none⟩ (.int .i64 0)) := ((((hB8.setCell (p := ⟨D6.heap.size, 0, none⟩) (by omega) _).setCell (p := ⟨D6.heap.size, 1, none⟩) (by omega) _).setCell (p := ⟨D6.heap.size, 2, none⟩) (by omega) _).setCell (p := ⟨D6.heap.size, 3, none⟩) (by omega) _)
        have hOpl_9 := Lib.hid (show Var ((((w8.setCell ⟨D6.heap.size, 0, none⟩ (.int .i64 1)).setCell ⟨D6.heap.size, 1, none⟩ (.int .i64 pb)).setCell ⟨D6.heap.size, 2, none⟩ (.bool bb)).setCell ⟨D6.heap.size, 3, none⟩ (.int .i64 0)) gp [.int .i64 q0, .int .i64 q1, .int .i64 q2, .int .i64 q3, .int .i64 q4, .int .i64 q5, .int .i64 q6, .int .i64 q7, .int .i64 q8, .int .i64 q9, .int .i64 q10, .int .i64 q11] from ((((hOpl_8.out.far (by have := hOpl_8.out.2; omega) 0 _).far (by have := hOpl_8.out.2; omega) 1 _).far (by have := hOpl_8.out.2; omega) 2 _).far (by have := hOpl_8.out.2; omega) 3 _))
        have hOa_9 := Lib.hid (show Var ((((w8.setCell ⟨D6.heap.size, 0, none⟩ (.int .i64 1)).setCell ⟨D6.heap.size, 1, none⟩ (.int .i64 pb)).setCell ⟨D6.heap.size, 2, none⟩ (.bool bb)).setCell ⟨D6.heap.size, 3, none⟩ (.int .i64 0)) D2.heap.size [.int .i64 1, .int .i64 pa, .bool ba, .int .i64 0] from ((((hOa_8.out.far (by have := hOa_8.out.2; omega) 0 _).far (by have := hOa_8.out.2; omega) 1 _).far (by have := hOa_8.out.2; omega) 2 _).far (by have := hOa_8.out.2; omega) 3 _))
        have hOb_9 := Lib.hid (show Var ((((w8.setCell ⟨D6.heap.size, 0, none⟩ (.int .i64 1)).setCell ⟨D6.heap.size, 1, none⟩ (.int .i64 pb)).setCell ⟨D6.heap.size, 2, none⟩ (.bool bb)).setCell ⟨D6.heap.size, 3, none⟩ (.int .i64 0)) D6.heap.size [.int .i64 1, .int .i64 pb, .bool bb, .int .i64 0] from ((((hOb_8.out.set 0 (.int .i64 1)).set 1 (.int .i64 pb)).set 2 (.bool bb)).set 3 (.int .i64 0)))
        have hS9 : w8.heap.size = ((((w8.setCell ⟨D6.heap.size, 0, none⟩ (.int .i64 1)).setCell ⟨D6.heap.size, 1, none⟩ (.int .i64 pb)).setCell ⟨D6.heap.size, 2, none⟩ (.bool bb)).setCell ⟨D6.heap.size, 3, none⟩ (.int .i64 0)).heap.size := by simp
        refine hK.out _ _ (⟨hOpl_9.out.cell 2 (v := .int .i64 q2) rfl, hOpl_9.out.cell 3 (v := .int .i64 q3) rfl⟩) ?_
        clear hK K
        (try simp only [Act.put, List.setIfInBounds_toArray, List.set_cons_zero, List.set_cons_succ])
        refine Ord.ot_nil ?_
        generalize ((((w8.setCell ⟨D6.heap.size, 0, none⟩ (.int .i64 1)).setCell ⟨D6.heap.size, 1, none⟩ (.int .i64 pb)).setCell ⟨D6.heap.size, 2, none⟩ (.bool bb)).setCell ⟨D6.heap.size, 3, none⟩ (.int .i64 0)) = V9 at hB9 hS9 hOpl_9 hOa_9 hOb_9 ⊢
        clear hOpl_8 hOa_8 hOb_8
        have zp := hOpl_9.out.cell 4 (v := .int .i64 q4) rfl
        go_wp2_with fail
        refine (G3.out _).mono ?_
        rintro e w10 ⟨rfl, hb10⟩
        have hB10 := btr hB9 hb10
        have hS10 := hb10.size
        have hOpl_10 := Lib.hid (hOpl_9.out.below hb10 (by omega))
        have hOa_10 := Lib.hid (hOa_9.out.below hb10 (by omega))
        have hOb_10 := Lib.hid (hOb_9.out.below hb10 (by omega))
        clear hOpl_9 hOa_9 hOb_9 hb10
        clear zp
        have hb11 : Below w10.heap.size w10 (w10.alloc (.cells #[.int .i64 2, .int .i64 0, .bool false, .int .i64 m] 28)) := (Below.refl _ _).alloc (Nat.le_refl _) _
        have hB11 := btr hB10 hb11
        have hS11 : w10.heap.size < (w10.alloc (.cells #[.int .i64 2, .int .i64 0, .bool false, .int .i64 m] 28)).heap.size := by simp
        have hOpl_11 := Lib.hid (hOpl_10.out.below hb11 (by omega))
        have hOa_11 := Lib.hid (hOa_10.out.below hb11 (by omega))
        have hOb_11 := Lib.hid (hOb_10.out.below hb11 (by omega))
        have hOc_11 := Lib.hid (Var.new w10 [.int .i64 2, .int .i64 0, .bool false, .int .i64 m] 28)
        clear hOpl_10 hOa_10 hOb_10 hb11
        have zp := hOpl_11.out.cell 4 (v := .int .i64 q4) rfl
        go_wp2_with fail
        refine (G4.out _).mono ?_
        rintro e w12 ⟨rfl, hb12⟩
        have hB12 := btr hB11 hb12
        have hS12 := hb12.size
        have hOpl_12 := Lib.hid (hOpl_11.out.below hb12 (by omega))
        have hOa_12 := Lib.hid (hOa_11.out.below hb12 (by omega))
        have hOb_12 := Lib.hid (hOb_11.out.below hb12 (by omega))
        have hOc_12 := Lib.hid (hOc_11.out.below hb12 (by omega))
        clear hOpl_11 hOa_11 hOb_11 hOc_11 hb12
        clear zp
        have hb13 : Below w12.heap.size w12 (w12.alloc (.cells #[.int .i64 3, .int .i64 0, .bool false, .int .i64 m] 28)) := (Below.refl _ _).alloc (Nat.le_refl _) _
        have hB13 := btr hB12 hb13
        have hS13 : w12.heap.size < (w12.alloc (.cells #[.int .i64 3, .int .i64 0, .bool false, .int .i64 m] 28)).heap.size := by simp
        have hOpl_13 := Lib.hid (hOpl_12.out.below hb13 (by omega))
        have hOa_13 := Lib.hid (hOa_12.out.below hb13 (by omega))
        have hOb_13 := Lib.hid (hOb_12.out.below hb13 (by omega))
        have hOc_13 := Lib.hid (hOc_12.out.below hb13 (by omega))
        have hOd_13 := Lib.hid (Var.new w12 [.int .i64 3, .int .i64 0, .bool false, .int .i64 m] 28)
        clear hOpl_12 hOa_12 hOb_12 hOc_12 hb13
        go_wp2_with fail
        refine Ord.wp_region_ord (fun w' => w'.cell? ⟨D2.heap.size, 0, none⟩ = some (.int .i64 1) ∧ w'.cell? ⟨D2.heap.size, 1, none⟩ = some (.int .i64 pa) ∧ w'.cell? ⟨D2.heap.size, 2, none⟩ = some (.bool ba) ∧ w'.cell? ⟨D2.heap.size, 3, none⟩ = some (.int .i64 0) ∧ w'.cell? ⟨D6.heap.size, 0, none⟩ = some (.int .i64 1) ∧ w'.cell? ⟨D6.heap.size, 1, none⟩ = some (.int .i64 pb) ∧ w'.cell? ⟨D6.heap.size, 2, none⟩ = some (.bool bb) ∧ w'.cell? ⟨D6.heap.size, 3, none⟩ = some (.int .i64 0) ∧ w'.cell? ⟨w10.heap.size, 0, none⟩ = some (.int .i64 2) ∧ w'.cell? ⟨w10.heap.size, 1, none⟩ = some (.int .i64 0) ∧ w'.cell? ⟨w10.heap.size, 2, none⟩ = some (.bool false) ∧ w'.cell? ⟨w10.heap.size, 3, none⟩ = some (.int .i64 m) ∧ w'.cell? ⟨w12.heap.size, 0, none⟩ = some (.int .i64 3) ∧ w'.cell? ⟨w12.heap.size, 1, none⟩ = some (.int .i64 0) ∧ w'.cell? ⟨w12.heap.size, 2, none⟩ = some (.bool false) ∧ w'.cell? ⟨w12.heap.size, 3, none⟩ = some (.int .i64 m) ∧ w'.cell? ⟨gp, 4, none⟩ = some (.int .i64 q4)) [(0, true), (2, true), (5, true), (6, true), (7, true), (1, false), (3, false), (4, true), (8, true), (9, true), (10, true), (12, true), (11, false), (13, false), (14, true), (15, true), (16, true), (17, true), (18, false), (19, true), (20, true), (21, true), (22, false), (23, true), (24, true), (25, true), (26, false), (27, true), (28, true), (29, true), (30, true), (31, true), (32, true), (33, true), (34, true), (35, true), (36, true), (37, true)] (by kernel_rfl) (by kernel_rfl) rfl (by kernel_rfl) (⟨hOa_13.out.cell 0 (v := .int .i64 1) rfl, hOa_13.out.cell 1 (v := .int .i64 pa) rfl, hOa_13.out.cell 2 (v := .bool ba) rfl, hOa_13.out.cell 3 (v := .int .i64 0) rfl, hOb_13.out.cell 0 (v := .int .i64 1) rfl, hOb_13.out.cell 1 (v := .int .i64 pb) rfl, hOb_13.out.cell 2 (v := .bool bb) rfl, hOb_13.out.cell 3 (v := .int .i64 0) rfl, hOc_13.out.cell 0 (v := .int .i64 2) rfl, hOc_13.out.cell 1 (v := .int .i64 0) rfl, hOc_13.out.cell 2 (v := .bool false) rfl, hOc_13.out.cell 3 (v := .int .i64 m) rfl, hOd_13.out.cell 0 (v := .int .i64 3) rfl, hOd_13.out.cell 1 (v := .int .i64 0) rfl, hOd_13.out.cell 2 (v := .bool false) rfl, hOd_13.out.cell 3 (v := .int .i64 m) rfl, hOpl_13.out.cell 4 (v := .int .i64 q4) rfl⟩) ?_
        simp only [Ord.ordOps, List.getElem?_toArray, List.getElem?_cons_zero, List.getElem?_cons_succ]
        repeat (first
          | (refine Ord.ord_plain (v := ?_) rfl (fun w' hS => ?_) ?_; rotate_left; (focus ((try dsimp only at hS); go_simp; first | done | with_reducible rfl)); simp only [Act.put, List.setIfInBounds_toArray, List.set_cons_zero, List.set_cons_succ])
          | (refine Ord.ord_skip (by rfl) ?_; simp only [Act.put, List.setIfInBounds_toArray, List.set_cons_zero, List.set_cons_succ])
          | (refine Ord.ord_take (v := ?_) (by rfl) (fun w' hS => ?_) ?_; rotate_left; (focus ((try dsimp only at hS); go_simp; first | done | with_reducible rfl)); simp only [Act.put, List.setIfInBounds_toArray, List.set_cons_zero, List.set_cons_succ]))
        have hb14 : Below (w12.alloc (.cells #[.int .i64 3, .int .i64 0, .bool false, .int .i64 m] 28)).heap.size (w12.alloc (.cells #[.int .i64 3, .int .i64 0, .bool false, .int .i64 m] 28)) (w12.alloc (.cells #[.int .i64 3, .int .i64 0, .bool false, .int .i64 m] 28)).drew := (Below.refl _ _).drew
        have hB14 := btr hB13 hb14
        have hS14 := hb14.size
        have hOpl_14 := Lib.hid (hOpl_13.out.below hb14 (by omega))
        have hOa_14 := Lib.hid (hOa_13.out.below hb14 (by omega))
        have hOb_14 := Lib.hid (hOb_13.out.below hb14 (by omega))
        have hOc_14 := Lib.hid (hOc_13.out.below hb14 (by omega))
        have hOd_14 := Lib.hid (hOd_13.out.below hb14 (by omega))
        clear hOpl_13 hOa_13 hOb_13 hOc_13 hOd_13 hb14
        refine Ord.ord_plain (v := .bool (pa == pb && ba == bb)) rfl (fun w' hS => ?_) ?_
        · cases h1 : (pa == pb) <;> cases h2 : (ba == bb) <;> ((try dsimp only at hS); go_simp; first | done | with_reducible rfl)
        simp only [Act.put, List.setIfInBounds_toArray, List.set_cons_zero, List.set_cons_succ]
        refine Ord.ord_call (fun K hK => ?_)
        go_simp
        refine (G5.out _ (HF.out _ hB14)).mono ?_
        rintro e w15 ⟨rfl, hb15⟩
        have hB15 := btr hB14 hb15
        have hS15 := hb15.size
        have hOpl_15 := Lib.hid (hOpl_14.out.below hb15 (by omega))
        have hOa_15 := Lib.hid (hOa_14.out.below hb15 (by omega))
        have hOb_15 := Lib.hid (hOb_14.out.below hb15 (by omega))
        have hOc_15 := Lib.hid (hOc_14.out.below hb15 (by omega))
        have hOd_15 := Lib.hid (hOd_14.out.below hb15 (by omega))
        clear hOpl_14 hOa_14 hOb_14 hOc_14 hOd_14 hb15
        refine hK.out _ _ (⟨hOa_15.out.cell 0 (v := .int .i64 1) rfl, hOa_15.out.cell 1 (v := .int .i64 pa) rfl, hOa_15.out.cell 2 (v := .bool ba) rfl, hOa_15.out.cell 3 (v := .int .i64 0) rfl, hOb_15.out.cell 0 (v := .int .i64 1) rfl, hOb_15.out.cell 1 (v := .int .i64 pb) rfl, hOb_15.out.cell 2 (v := .bool bb) rfl, hOb_15.out.cell 3 (v := .int .i64 0) rfl, hOc_15.out.cell 0 (v := .int .i64 2) rfl, hOc_15.out.cell 1 (v := .int .i64 0) rfl, hOc_15.out.cell 2 (v := .bool false) rfl, hOc_15.out.cell 3 (v := .int .i64 m) rfl, hOd_15.out.cell 0 (v := .int .i64 3) rfl, hOd_15.out.cell 1 (v := .int .i64 0) rfl, hOd_15.out.cell 2 (v := .bool false) rfl, hOd_15.out.cell 3 (v := .int .i64 m) rfl, hOpl_15.out.cell 4 (v := .int .i64 q4) rfl⟩) ?_
        clear hK K
        repeat (first
          | (refine Ord.ord_plain (v := ?_) rfl (fun w' hS => ?_) ?_; rotate_left; (focus ((try dsimp only at hS); go_simp; first | done | with_reducible rfl)); simp only [Act.put, List.setIfInBounds_toArray, List.set_cons_zero, List.set_cons_succ])
          | (refine Ord.ord_skip (by rfl) ?_; simp only [Act.put, List.setIfInBounds_toArray, List.set_cons_zero, List.set_cons_succ])
          | (refine Ord.ord_take (v := ?_) (by rfl) (fun w' hS => ?_) ?_; rotate_left; (focus ((try dsimp only at hS); go_simp; first | done | with_reducible rfl)); simp only [Act.put, List.setIfInBounds_toArray, List.set_cons_zero, List.set_cons_succ]))
        refine Ord.ord_call (fun K hK => ?_)
        go_simp
        refine (G6.out _ (HF.out _ hB15)).mono ?_
        rintro e w16 ⟨rfl, hb16⟩
        have hB16 := btr hB15 hb16
        have hS16 := hb16.size
        have hOpl_16 := Lib.hid (hOpl_15.out.below hb16 (by omega))
        have hOa_16 := Lib.hid (hOa_15.out.below hb16 (by omega))
        have hOb_16 := Lib.hid (hOb_15.out.below hb16 (by omega))
        have hOc_16 := Lib.hid (hOc_15.out.below hb16 (by omega))
        have hOd_16 := Lib.hid (hOd_15.out.below hb16 (by omega))
        clear hOpl_15 hOa_15 hOb_15 hOc_15 hOd_15 hb16
        refine hK.out _ _ (⟨hOa_16.out.cell 0 (v := .int .i64 1) rfl, hOa_16.out.cell 1 (v := .int .i64 pa) rfl, hOa_16.out.cell 2 (v := .bool ba) rfl, hOa_16.out.cell 3 (v := .int .i64 0) rfl, hOb_16.out.cell 0 (v := .int .i64 1) rfl, hOb_16.out.cell 1 (v := .int .i64 pb) rfl, hOb_16.out.cell 2 (v := .bool bb) rfl, hOb_16.out.cell 3 (v := .int .i64 0) rfl, hOc_16.out.cell 0 (v := .int .i64 2) rfl, hOc_16.out.cell 1 (v := .int .i64 0) rfl, hOc_16.out.cell 2 (v := .bool false) rfl, hOc_16.out.cell 3 (v := .int .i64 m) rfl, hOd_16.out.cell 0 (v := .int .i64 3) rfl, hOd_16.out.cell 1 (v := .int .i64 0) rfl, hOd_16.out.cell 2 (v := .bool false) rfl, hOd_16.out.cell 3 (v := .int .i64 m) rfl, hOpl_16.out.cell 4 (v := .int .i64 q4) rfl⟩) ?_
        clear hK K
        repeat (first
          | (refine Ord.ord_plain (v := ?_) rfl (fun w' hS => ?_) ?_; rotate_left; (focus ((try dsimp only at hS); go_simp; first | done | with_reducible rfl)); simp only [Act.put, List.setIfInBounds_toArray, List.set_cons_zero, List.set_cons_succ])
          | (refine Ord.ord_skip (by rfl) ?_; simp only [Act.put, List.setIfInBounds_toArray, List.set_cons_zero, List.set_cons_succ])
          | (refine Ord.ord_take (v := ?_) (by rfl) (fun w' hS => ?_) ?_; rotate_left; (focus ((try dsimp only at hS); go_simp; first | done | with_reducible rfl)); simp only [Act.put, List.setIfInBounds_toArray, List.set_cons_zero, List.set_cons_succ]))
        refine Ord.ord_call (fun K hK => ?_)
        go_simp
        refine (G7.out _ (HF.out _ hB16)).mono ?_
        rintro e w17 ⟨rfl, hb17⟩
        have hB17 := btr hB16 hb17
        have hS17 := hb17.size
        have hOpl_17 := Lib.hid (hOpl_16.out.below hb17 (by omega))
        have hOa_17 := Lib.hid (hOa_16.out.below hb17 (by omega))
        have hOb_17 := Lib.hid (hOb_16.out.below hb17 (by omega))
        have hOc_17 := Lib.hid (hOc_16.out.below hb17 (by omega))
        have hOd_17 := Lib.hid (hOd_16.out.below hb17 (by omega))
        clear hOpl_16 hOa_16 hOb_16 hOc_16 hOd_16 hb17
        refine hK.out _ _ (⟨hOa_17.out.cell 0 (v := .int .i64 1) rfl, hOa_17.out.cell 1 (v := .int .i64 pa) rfl, hOa_17.out.cell 2 (v := .bool ba) rfl, hOa_17.out.cell 3 (v := .int .i64 0) rfl, hOb_17.out.cell 0 (v := .int .i64 1) rfl, hOb_17.out.cell 1 (v := .int .i64 pb) rfl, hOb_17.out.cell 2 (v := .bool bb) rfl, hOb_17.out.cell 3 (v := .int .i64 0) rfl, hOc_17.out.cell 0 (v := .int .i64 2) rfl, hOc_17.out.cell 1 (v := .int .i64 0) rfl, hOc_17.out.cell 2 (v := .bool false) rfl, hOc_17.out.cell 3 (v := .int .i64 m) rfl, hOd_17.out.cell 0 (v := .int .i64 3) rfl, hOd_17.out.cell 1 (v := .int .i64 0) rfl, hOd_17.out.cell 2 (v := .bool false) rfl, hOd_17.out.cell 3 (v := .int .i64 m) rfl, hOpl_17.out.cell 4 (v := .int .i64 q4) rfl⟩) ?_
        clear hK K
        repeat (first
          | (refine Ord.ord_plain (v := ?_) rfl (fun w' hS => ?_) ?_; rotate_left; (focus ((try dsimp only at hS); go_simp; first | done | with_reducible rfl)); simp only [Act.put, List.setIfInBounds_toArray, List.set_cons_zero, List.set_cons_succ])
          | (refine Ord.ord_skip (by rfl) ?_; simp only [Act.put, List.setIfInBounds_toArray, List.set_cons_zero, List.set_cons_succ])
          | (refine Ord.ord_take (v := ?_) (by rfl) (fun w' hS => ?_) ?_; rotate_left; (focus ((try dsimp only at hS); go_simp; first | done | with_reducible rfl)); simp only [Act.put, List.setIfInBounds_toArray, List.set_cons_zero, List.set_cons_succ]))
        refine Ord.ord_call (fun K hK => ?_)
        go_simp
        refine (G8.out _ (HF.out _ hB17)).mono ?_
        rintro e w18 ⟨rfl, hb18⟩
        have hB18 := btr hB17 hb18
        have hS18 := hb18.size
        have hOpl_18 := Lib.hid (hOpl_17.out.below hb18 (by omega))
        have hOa_18 := Lib.hid (hOa_17.out.below hb18 (by omega))
        have hOb_18 := Lib.hid (hOb_17.out.below hb18 (by omega))
        have hOc_18 := Lib.hid (hOc_17.out.below hb18 (by omega))
        have hOd_18 := Lib.hid (hOd_17.out.below hb18 (by omega))
        clear hOpl_17 hOa_17 hOb_17 hOc_17 hOd_17 hb18
        refine hK.out _ _ (⟨hOa_18.out.cell 0 (v := .int .i64 1) rfl, hOa_18.out.cell 1 (v := .int .i64 pa) rfl, hOa_18.out.cell 2 (v := .bool ba) rfl, hOa_18.out.cell 3 (v := .int .i64 0) rfl, hOb_18.out.cell 0 (v := .int .i64 1) rfl, hOb_18.out.cell 1 (v := .int .i64 pb) rfl, hOb_18.out.cell 2 (v := .bool bb) rfl, hOb_18.out.cell 3 (v := .int .i64 0) rfl, hOc_18.out.cell 0 (v := .int .i64 2) rfl, hOc_18.out.cell 1 (v := .int .i64 0) rfl, hOc_18.out.cell 2 (v := .bool false) rfl, hOc_18.out.cell 3 (v := .int .i64 m) rfl, hOd_18.out.cell 0 (v := .int .i64 3) rfl, hOd_18.out.cell 1 (v := .int .i64 0) rfl, hOd_18.out.cell 2 (v := .bool false) rfl, hOd_18.out.cell 3 (v := .int .i64 m) rfl, hOpl_18.out.cell 4 (v := .int .i64 q4) rfl⟩) ?_
        clear hK K
        repeat (first
          | (refine Ord.ord_plain (v := ?_) rfl (fun w' hS => ?_) ?_; rotate_left; (focus ((try dsimp only at hS); go_simp; first | done | with_reducible rfl)); simp only [Act.put, List.setIfInBounds_toArray, List.set_cons_zero, List.set_cons_succ])
          | (refine Ord.ord_skip (by rfl) ?_; simp only [Act.put, List.setIfInBounds_toArray, List.set_cons_zero, List.set_cons_succ])
          | (refine Ord.ord_take (v := ?_) (by rfl) (fun w' hS => ?_) ?_; rotate_left; (focus ((try dsimp only at hS); go_simp; first | done | with_reducible rfl)); simp only [Act.put, List.setIfInBounds_toArray, List.set_cons_zero, List.set_cons_succ]))
        refine Ord.ord_call (fun K hK => ?_)
        go_simp
        refine (G9.out _).mono ?_
        rintro e w19 ⟨rfl, hb19⟩
        have hB19 := btr hB18 hb19
        have hS19 := hb19.size
        have hOpl_19 := Lib.hid (hOpl_18.out.below hb19 (by omega))
        have hOa_19 := Lib.hid (hOa_18.out.below hb19 (by omega))
        have hOb_19 := Lib.hid (hOb_18.out.below hb19 (by omega))
        have hOc_19 := Lib.hid (hOc_18.out.below hb19 (by omega))
        have hOd_19 := Lib.hid (hOd_18.out.below hb19 (by omega))
        clear hOpl_18 hOa_18 hOb_18 hOc_18 hOd_18 hb19
        refine hK.out _ _ (⟨hOa_19.out.cell 0 (v := .int .i64 1) rfl, hOa_19.out.cell 1 (v := .int .i64 pa) rfl, hOa_19.out.cell 2 (v := .bool ba) rfl, hOa_19.out.cell 3 (v := .int .i64 0) rfl, hOb_19.out.cell 0 (v := .int .i64 1) rfl, hOb_19.out.cell 1 (v := .int .i64 pb) rfl, hOb_19.out.cell 2 (v := .bool bb) rfl, hOb_19.out.cell 3 (v := .int .i64 0) rfl, hOc_19.out.cell 0 (v := .int .i64 2) rfl, hOc_19.out.cell 1 (v := .int .i64 0) rfl, hOc_19.out.cell 2 (v := .bool false) rfl, hOc_19.out.cell 3 (v := .int .i64 m) rfl, hOd_19.out.cell 0 (v := .int .i64 3) rfl, hOd_19.out.cell 1 (v := .int .i64 0) rfl, hOd_19.out.cell 2 (v := .bool false) rfl, hOd_19.out.cell 3 (v := .int .i64 m) rfl, hOpl_19.out.cell 4 (v := .int .i64 q4) rfl⟩) ?_
        clear hK K
        repeat (first
          | (refine Ord.ord_plain (v := ?_) rfl (fun w' hS => ?_) ?_; rotate_left; (focus ((try dsimp only at hS); go_simp; first | done | with_reducible rfl)); simp only [Act.put, List.setIfInBounds_toArray, List.set_cons_zero, List.set_cons_succ])
          | (refine Ord.ord_skip (by rfl) ?_; simp only [Act.put, List.setIfInBounds_toArray, List.set_cons_zero, List.set_cons_succ])
          | (refine Ord.ord_take (v := ?_) (by rfl) (fun w' hS => ?_) ?_; rotate_left; (focus ((try dsimp only at hS); go_simp; first | done | with_reducible rfl)); simp only [Act.put, List.setIfInBounds_toArray, List.set_cons_zero, List.set_cons_succ]))
        refine Ord.ord_call (fun K hK => ?_)
        go_simp
        refine (G10.out _).mono ?_
        rintro e w20 ⟨rfl, hb20⟩
        have hB20 := btr hB19 hb20
        have hS20 := hb20.size
        have hOpl_20 := Lib.hid (hOpl_19.out.below hb20 (by omega))
        have hOa_20 := Lib.hid (hOa_19.out.below hb20 (by omega))
        have hOb_20 := Lib.hid (hOb_19.out.below hb20 (by omega))
        have hOc_20 := Lib.hid (hOc_19.out.below hb20 (by omega))
        have hOd_20 := Lib.hid (hOd_19.out.below hb20 (by omega))
        clear hOpl_19 hOa_19 hOb_19 hOc_19 hOd_19 hb20
        refine hK.out _ _ (⟨hOa_20.out.cell 0 (v := .int .i64 1) rfl, hOa_20.out.cell 1 (v := .int .i64 pa) rfl, hOa_20.out.cell 2 (v := .bool ba) rfl, hOa_20.out.cell 3 (v := .int .i64 0) rfl, hOb_20.out.cell 0 (v := .int .i64 1) rfl, hOb_20.out.cell 1 (v := .int .i64 pb) rfl, hOb_20.out.cell 2 (v := .bool bb) rfl, hOb_20.out.cell 3 (v := .int .i64 0) rfl, hOc_20.out.cell 0 (v := .int .i64 2) rfl, hOc_20.out.cell 1 (v := .int .i64 0) rfl, hOc_20.out.cell 2 (v := .bool false) rfl, hOc_20.out.cell 3 (v := .int .i64 m) rfl, hOd_20.out.cell 0 (v := .int .i64 3) rfl, hOd_20.out.cell 1 (v := .int .i64 0) rfl, hOd_20.out.cell 2 (v := .bool false) rfl, hOd_20.out.cell 3 (v := .int .i64 m) rfl, hOpl_20.out.cell 4 (v := .int .i64 q4) rfl⟩) ?_
        clear hK K
        repeat (first
          | (refine Ord.ord_plain (v := ?_) rfl (fun w' hS => ?_) ?_; rotate_left; (focus ((try dsimp only at hS); go_simp; first | done | with_reducible rfl)); simp only [Act.put, List.setIfInBounds_toArray, List.set_cons_zero, List.set_cons_succ])
          | (refine Ord.ord_skip (by rfl) ?_; simp only [Act.put, List.setIfInBounds_toArray, List.set_cons_zero, List.set_cons_succ])
          | (refine Ord.ord_take (v := ?_) (by rfl) (fun w' hS => ?_) ?_; rotate_left; (focus ((try dsimp only at hS); go_simp; first | done | with_reducible rfl)); simp only [Act.put, List.setIfInBounds_toArray, List.set_cons_zero, List.set_cons_succ]))
        refine Ord.ord_call (fun K hK => ?_)
        go_simp
        refine (G11.out _).mono ?_
        rintro e w21 ⟨rfl, hb21⟩
        have hB21 := btr hB20 hb21
        have hS21 := hb21.size
        have hOpl_21 := Lib.hid (hOpl_20.out.below hb21 (by omega))
        have hOa_21 := Lib.hid (hOa_20.out.below hb21 (by omega))
        have hOb_21 := Lib.hid (hOb_20.out.below hb21 (by omega))
        have hOc_21 := Lib.hid (hOc_20.out.below hb21 (by omega))
        have hOd_21 := Lib.hid (hOd_20.out.below hb21 (by omega))
        clear hOpl_20 hOa_20 hOb_20 hOc_20 hOd_20 hb21
        refine hK.out _ _ (⟨hOa_21.out.cell 0 (v := .int .i64 1) rfl, hOa_21.out.cell 1 (v := .int .i64 pa) rfl, hOa_21.out.cell 2 (v := .bool ba) rfl, hOa_21.out.cell 3 (v := .int .i64 0) rfl, hOb_21.out.cell 0 (v := .int .i64 1) rfl, hOb_21.out.cell 1 (v := .int .i64 pb) rfl, hOb_21.out.cell 2 (v := .bool bb) rfl, hOb_21.out.cell 3 (v := .int .i64 0) rfl, hOc_21.out.cell 0 (v := .int .i64 2) rfl, hOc_21.out.cell 1 (v := .int .i64 0) rfl, hOc_21.out.cell 2 (v := .bool false) rfl, hOc_21.out.cell 3 (v := .int .i64 m) rfl, hOd_21.out.cell 0 (v := .int .i64 3) rfl, hOd_21.out.cell 1 (v := .int .i64 0) rfl, hOd_21.out.cell 2 (v := .bool false) rfl, hOd_21.out.cell 3 (v := .int .i64 m) rfl, hOpl_21.out.cell 4 (v := .int .i64 q4) rfl⟩) ?_
        clear hK K
        repeat (first
          | (refine Ord.ord_plain (v := ?_) rfl (fun w' hS => ?_) ?_; rotate_left; (focus ((try dsimp only at hS); go_simp; first | done | with_reducible rfl)); simp only [Act.put, List.setIfInBounds_toArray, List.set_cons_zero, List.set_cons_succ])
          | (refine Ord.ord_skip (by rfl) ?_; simp only [Act.put, List.setIfInBounds_toArray, List.set_cons_zero, List.set_cons_succ])
          | (refine Ord.ord_take (v := ?_) (by rfl) (fun w' hS => ?_) ?_; rotate_left; (focus ((try dsimp only at hS); go_simp; first | done | with_reducible rfl)); simp only [Act.put, List.setIfInBounds_toArray, List.set_cons_zero, List.set_cons_succ]))
        refine Ord.ord_nil ?_
        go_wp2_with fail
        go_ret
        exact ⟨rfl, hB21⟩
/-! ### The row's step, and the card -/
theorem contract (H : Type) (enc : TypeId × Value → H) (W : World) (base : Nat) (args : Array Value) (ds gs : List (DataW H)) (before : List MemPlace)
    (hval : ∀ (j : Nat) t v, Tryd.f4.params[j]? = some t → args[j]? = some v → Value.okWide Tryd.prog W .any base t v)
    (hW : DataW.Whole enc Tryd.prog Tryd.f4.params.toList Rows.fnExitWordsSpec.vars false W args.toList ds gs before) (hL : laidMetH Tryd.prog Rows.fnExitWordsRow.laid W) :
    Calls Tryd.prog 4 args W fun e W' => ∃ v, e = .returned v ∧ Rows.fnExitWordsSpec.post enc Tryd.prog Tryd.f4 false true false false W args v W' := by
  have hF := facts hL
  have hW' := hW
  obtain ⟨p, q, hA0, hV0, rfl, hfz, hnd⟩ := hW
  have hA : DataW.TrodAll enc Tryd.prog W 0 (fun _ => true) true Tryd.f4.params.toList args.toList ds p := hA0
  have hA1 := hA
  obtain ⟨rfl, rfl⟩ := DataW.TrodVars.unique hV0 (ex_readF enc hF _)
  rw [Tryd.params4] at hA hval
  obtain ⟨v0, vs0, d0, ds0, p0, q0, hargs, rfl, rfl, h0, r0⟩ := trodAll_cons hA
  obtain ⟨rfl, rfl, rfl⟩ := trodAll_nil r0
  obtain rfl : args = #[v0] := by cases args; simp_all
  obtain ⟨A0, n0, c0, rfl, hn0, hcode0, _⟩ := Draw.open_code (hval 0 22 v0 rfl rfl) h0
  clear hA0 hV0
  refine (walk A0 n0 c0 hn0 hcode0 hF).mono fun e W' ⟨he, hg⟩ => ?_
  subst he
  exact ⟨_, rfl, StrTab.post_named Slots.laid (by kernel_rfl) rfl rfl hW' hA1 hg (fun sp => ex_readF enc (hF.below hg) sp) (fun _ _ _ => (trodAll_cons_mk (shut_bool Tryd.underlying4 _) trodAll_mk0)) (ok_one (by kernel_rfl) rfl (okWide_bool_mk Tryd.underlying4 _))⟩

theorem laid_met (os : Os) : laidMet Tryd.prog Rows.fnExitWordsRow.laid ((World.laidAll Tryd.prog os Rows.fnExitWordsRow.laid).forCall (fun _ _ => 0) ⟨#[], #[.slice none 0 0], []⟩).memory :=
  laidMet_laidAll _ (by kernel_rfl) (by kernel_rfl)

set_option maxRecDepth 100000 in
theorem lifted (os : Os) (started : os.Started) (H : Type) (enc : TypeId × Value → H) (F : Stop.Interp) :
    ReturnsInHanded {} Tryd.checked os 4 .any ((OpenSpec.ofChange Rows.fnExitWordsSpec).preRow enc Tryd.prog Tryd.f4 Rows.fnExitWordsRow.domain false Rows.fnExitWordsRow.laid) (((OpenSpec.ofChange Rows.fnExitWordsSpec).at F).post enc Tryd.prog Tryd.f4 false true false false) := by
  refine returnsInHanded_of_row (C := Tryd.checked) (s := OpenSpec.ofChange Rows.fnExitWordsSpec) Base.own started (by kernel_rfl) Tryd.func4
    (witness_row_atRef (enc := enc) (C := Tryd.checked) false (World.laidAll Tryd.prog os Rows.fnExitWordsRow.laid) #[.slice none 0 0] (World.laidAll_os _ _ _) (by kernel_rfl) (by kernel_rfl) (by kernel_rfl)
      (OpenSpec.preRow_of_B rfl 8 (by kernel_rfl) (by kernel_rfl) (laid_met os))) ?_
  intro W base args ds gs before hval hW _ _ _ hL _ _
  exact contract H enc W base args ds gs before hval hW hL

theorem said : Rows.FnExitWordsSaid :=
  OpenClaim.holds_of_cond 4 Tryd.f4 rfl rfl rfl rfl rfl rfl rfl ⟨rfl, rfl, rfl, rfl, rfl⟩ rfl rfl rfl rfl rfl (by kernel_rfl) Tryd.func4 (by kernel_rfl)
    (of_decide_eq_true (by kernel_rfl)) (by unfold Func.isWrapper; first | (rw [if_pos (by decide +kernel)]; kernel_rfl) | (rw [if_neg (by decide +kernel)]; exact ⟨rfl, rfl⟩))
    (fun os started H enc _ F => by rw [OpenClaim.pre_eq_preRow]; exact lifted os started H enc F)

theorem plain (f : FuncId) (fn : Func) (hf : Tryd.pinned.checked.prog.funcNamed "loop.example/g00975/laws.FnExitWords" = some f) (hfn : Tryd.pinned.checked.prog.funcs[f]? = some fn) :
    Rows.fnExitWordsCard.stood.looks = Tryd.pinned.checked.prog.looks [] ∧ ∀ (j : Nat) t, fn.params[j]? = some t → Tryd.pinned.checked.prog.wantsStandIn t = false := by
  obtain rfl : f = 4 := Option.some.inj ((show Tryd.prog.funcNamed "loop.example/g00975/laws.FnExitWords" = some 4 by kernel_rfl).symm.trans hf) |>.symm
  obtain rfl : fn = Tryd.f4 := (Option.some.inj (Tryd.func4.symm.trans hfn)).symm
  refine ⟨by kernel_rfl, fun j t ht => ?_⟩
  have hall : Tryd.f4.params.toList.all (fun t => !Tryd.prog.wantsStandIn t) = true := by kernel_rfl
  have hm := List.all_eq_true.1 hall t (by simpa using Array.mem_of_getElem? ht)
  exact (show Tryd.prog.wantsStandIn t = false by simpa using hm)

/-- The given statement: the card. -/
theorem proved : Rows.FnExitWordsCardSaid :=
  Claim7.holds_tied_plain_at .later [] _ _ _ _ said (fun _ h => by cases h) (by kernel_rfl) (fun _ h => by cases h) fnExitWords_row_tie rfl ⟨rfl, rfl⟩ (by kernel_rfl) rfl plain (by kernel_rfl)
#print axioms proved
end Go.Proofs.YtikamndjelamgaaDoor.fnExitWords
