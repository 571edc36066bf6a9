/-
  Composition of page tables: Below and TableBelow of the project and of the given model. No condition beyond a table's length and its numbers being of an int's range.
-/
import Derived.Test.YtecnkcmhgnbdmaaTwoImpl
namespace Go.Proofs.Ytecnkcmhgnbdmaa.Slots
open Go.ChangeShapes Go.WideShapes Go.ChangeAt Go.RowKit
open Go.Proofs.Ytecnkcmhgnbdmaa.Base Go.Proofs.Ytecnkcmhgnbdmaa.Mem Go.Proofs.Ytecnkcmhgnbdmaa.Ints
set_option linter.unusedVariables false

/-- The ways of a comparison of slots. -/
theorem belowS_cases (p r p' r' : Int) : (p = -1 ∧ r = 0 ∧ belowS (p, r) (p', r') = true) ∨ (p = -1 ∧ r ≠ 0 ∧ p' ≠ -1 ∧ belowS (p, r) (p', r') = false) ∨ (p ≠ -1 ∧ p ≠ p' ∧ belowS (p, r) (p', r') = false) ∨
    (p = -1 ∧ r ≠ 0 ∧ p' = -1 ∧ belowS (p, r) (p', r') = Rights.enough r' r) ∨ (p ≠ -1 ∧ p = p' ∧ belowS (p, r) (p', r') = Rights.enough r' r) := by
  by_cases h0 : p = -1
  · subst h0
    by_cases h1 : r = 0
    · subst h1; exact .inl ⟨rfl, rfl, rfl⟩
    · by_cases h2 : p' = -1
      · subst h2; exact .inr (.inr (.inr (.inl ⟨rfl, h1, rfl, by simp [belowS, h1]⟩)))
      · exact .inr (.inl ⟨rfl, h1, h2, by simp [belowS, h1, Ne.symm h2]⟩)
  · by_cases h2 : p = p'
    · subst h2; exact .inr (.inr (.inr (.inr ⟨h0, rfl, by simp [belowS, h0]⟩)))
    · exact .inr (.inr (.inl ⟨h0, h2, by simp [belowS, h0, h2]⟩))

set_option maxHeartbeats 4000000 in
theorem impl_below (p r p' r' : Int) (w : World) (hr : (Lit.int .i64 r).wf = true) (hr' : (Lit.int .i64 r').wf = true) : Calls Try.prog 18 #[.agg #[.int .i64 p, .int .i64 r], .agg #[.int .i64 p', .int .i64 r']] w (OkPost w (belowS (p, r) (p', r'))) := by
  obtain ⟨t1, t2, hb2⟩ := two_two w (.int .i64 p) (.int .i64 r) (.int .i64 p') (.int .i64 r') 30 30
  have hE := fun V : World => Rights.impl_enough r' r V hr' hr
  have hc := belowS_cases p r p' r'
  generalize belowS (p, r) (p', r') = z at hc ⊢
  generalize Rights.enough r' r = b at hE hc
  have HE := Lib.hid hE
  clear hE hr hr'
  rcases hc with ⟨rfl, rfl, rfl⟩ | ⟨rfl, hr, hp, rfl⟩ | ⟨h0, hp, rfl⟩ | ⟨rfl, hr, rfl, rfl⟩ | ⟨h0, rfl, rfl⟩
  · skip
    go_enter Try.func18, Try.ntmps18
    go_wp2_with fail
    generalize (w.alloc (.cells #[.int .i64 (-1), .int .i64 0] 30)).alloc (.cells #[.int .i64 p', .int .i64 r'] 30) = W at t1 t2 hb2 ⊢
    have hs : (W.cell? ⟨w.heap.size, 0, none⟩ = some (.int .i64 (-1)) ∧ W.cell? ⟨w.heap.size, 1, none⟩ = some (.int .i64 0)) ∧ W.cell? ⟨w.heap.size + 1, 0, none⟩ = some (.int .i64 p') ∧ W.cell? ⟨w.heap.size + 1, 1, none⟩ = some (.int .i64 r') := ⟨⟨t1.1, t1.2.1⟩, t2.1, t2.2.1⟩
    have hl1 := t1.2.2.2.2
    have hl2 := t2.2.2.2.2
    clear t1 t2
    refine Ord.wp_region_ord (fun w' => (w'.cell? ⟨w.heap.size, 0, none⟩ = some (.int .i64 (-1)) ∧ w'.cell? ⟨w.heap.size, 1, none⟩ = some (.int .i64 0)) ∧ w'.cell? ⟨w.heap.size + 1, 0, none⟩ = some (.int .i64 p') ∧ w'.cell? ⟨w.heap.size + 1, 1, none⟩ = some (.int .i64 r')) [(0, true), (1, false), (2, true), (3, true), (4, true), (5, true), (6, true), (7, true), (8, true), (9, true), (10, true), (11, true), (12, true), (13, true), (14, false), (15, true), (16, true), (17, true)] (by kernel_rfl) (by kernel_rfl) rfl (by kernel_rfl) (hs) ?_
    simp only [Ord.ordOps, List.getElem?_toArray, List.getElem?_cons_zero, List.getElem?_cons_succ]
    repeat (first
      | (refine Ord.ord_plain (v := ?_) rfl (fun w' hS => ?_) ?_; rotate_left; (focus ((try dsimp only at hS); go_simp; first | done | with_reducible rfl)); simp only [Act.put, List.setIfInBounds_toArray, List.set_cons_zero, List.set_cons_succ])
      | (refine Ord.ord_skip (by rfl) ?_; simp only [Act.put, List.setIfInBounds_toArray, List.set_cons_zero, List.set_cons_succ])
      | (refine Ord.ord_take (v := ?_) (by rfl) (fun w' hS => ?_) ?_; rotate_left; (focus ((try dsimp only at hS); go_simp; first | done | with_reducible rfl)); simp only [Act.put, List.setIfInBounds_toArray, List.set_cons_zero, List.set_cons_succ]))
    refine Ord.ord_call (fun K hK => ?_)
    go_simp
    go_wp2_with (go_at_call 47; refine (impl_no _).mono ?_; rintro e w1 ⟨rfl, hb1⟩)
    have hs1 : (w1.cell? ⟨w.heap.size, 0, none⟩ = some (.int .i64 (-1)) ∧ w1.cell? ⟨w.heap.size, 1, none⟩ = some (.int .i64 0)) ∧ w1.cell? ⟨w.heap.size + 1, 0, none⟩ = some (.int .i64 p') ∧ w1.cell? ⟨w.heap.size + 1, 1, none⟩ = some (.int .i64 r') := ⟨⟨(hb1.cell (p := ⟨w.heap.size, 0, none⟩) hl1).trans hs.1.1, (hb1.cell (p := ⟨w.heap.size, 1, none⟩) hl1).trans hs.1.2⟩, (hb1.cell (p := ⟨w.heap.size + 1, 0, none⟩) hl2).trans hs.2.1, (hb1.cell (p := ⟨w.heap.size + 1, 1, none⟩) hl2).trans hs.2.2⟩
    have HB := Lib.hid (btr hb2.drew hb1)
    clear hb1
    refine hK.out _ _ (hs1) ?_
    clear hK K
    repeat (first
      | (refine Ord.ord_plain (v := ?_) rfl (fun w' hS => ?_) ?_; rotate_left; (focus ((try dsimp only at hS); go_simp; first | done | with_reducible rfl)); simp only [Act.put, List.setIfInBounds_toArray, List.set_cons_zero, List.set_cons_succ])
      | (refine Ord.ord_skip (by rfl) ?_; simp only [Act.put, List.setIfInBounds_toArray, List.set_cons_zero, List.set_cons_succ])
      | (refine Ord.ord_take (v := ?_) (by rfl) (fun w' hS => ?_) ?_; rotate_left; (focus ((try dsimp only at hS); go_simp; first | done | with_reducible rfl)); simp only [Act.put, List.setIfInBounds_toArray, List.set_cons_zero, List.set_cons_succ]))
    refine Ord.ord_call (fun K hK => ?_)
    go_simp
    refine hK.out _ _ (hs1) ?_
    clear hK K
    repeat (first
      | (refine Ord.ord_plain (v := ?_) rfl (fun w' hS => ?_) ?_; rotate_left; (focus ((try dsimp only at hS); go_simp; first | done | with_reducible rfl)); simp only [Act.put, List.setIfInBounds_toArray, List.set_cons_zero, List.set_cons_succ])
      | (refine Ord.ord_skip (by rfl) ?_; simp only [Act.put, List.setIfInBounds_toArray, List.set_cons_zero, List.set_cons_succ])
      | (refine Ord.ord_take (v := ?_) (by rfl) (fun w' hS => ?_) ?_; rotate_left; (focus ((try dsimp only at hS); go_simp; first | done | with_reducible rfl)); simp only [Act.put, List.setIfInBounds_toArray, List.set_cons_zero, List.set_cons_succ]))
    refine Ord.ord_nil ?_
    go_wp2_with fail
    go_ret
    exact ⟨rfl, HB.out⟩
  · have hr' : (r == 0) = false := by simpa using hr
    have hp' : ((-1 : Int) == p') = false := by simpa using (Ne.symm hp)
    clear hr hp
    go_enter Try.func18, Try.ntmps18
    go_wp2_with fail
    generalize (w.alloc (.cells #[.int .i64 (-1), .int .i64 r] 30)).alloc (.cells #[.int .i64 p', .int .i64 r'] 30) = W at t1 t2 hb2 ⊢
    have hs : (W.cell? ⟨w.heap.size, 0, none⟩ = some (.int .i64 (-1)) ∧ W.cell? ⟨w.heap.size, 1, none⟩ = some (.int .i64 r)) ∧ W.cell? ⟨w.heap.size + 1, 0, none⟩ = some (.int .i64 p') ∧ W.cell? ⟨w.heap.size + 1, 1, none⟩ = some (.int .i64 r') := ⟨⟨t1.1, t1.2.1⟩, t2.1, t2.2.1⟩
    have hl1 := t1.2.2.2.2
    have hl2 := t2.2.2.2.2
    clear t1 t2
    refine Ord.wp_region_ord (fun w' => (w'.cell? ⟨w.heap.size, 0, none⟩ = some (.int .i64 (-1)) ∧ w'.cell? ⟨w.heap.size, 1, none⟩ = some (.int .i64 r)) ∧ w'.cell? ⟨w.heap.size + 1, 0, none⟩ = some (.int .i64 p') ∧ w'.cell? ⟨w.heap.size + 1, 1, none⟩ = some (.int .i64 r')) [(0, true), (1, false), (2, true), (3, true), (4, true), (5, true), (6, true), (7, true), (8, true), (9, true), (10, true), (11, true), (12, true), (13, true), (14, false), (15, true), (16, true), (17, true)] (by kernel_rfl) (by kernel_rfl) rfl (by kernel_rfl) (hs) ?_
    simp only [Ord.ordOps, List.getElem?_toArray, List.getElem?_cons_zero, List.getElem?_cons_succ]
    repeat (first
      | (refine Ord.ord_plain (v := ?_) rfl (fun w' hS => ?_) ?_; rotate_left; (focus ((try dsimp only at hS); go_simp; first | done | with_reducible rfl)); simp only [Act.put, List.setIfInBounds_toArray, List.set_cons_zero, List.set_cons_succ])
      | (refine Ord.ord_skip (by rfl) ?_; simp only [Act.put, List.setIfInBounds_toArray, List.set_cons_zero, List.set_cons_succ])
      | (refine Ord.ord_take (v := ?_) (by rfl) (fun w' hS => ?_) ?_; rotate_left; (focus ((try dsimp only at hS); go_simp; first | done | with_reducible rfl)); simp only [Act.put, List.setIfInBounds_toArray, List.set_cons_zero, List.set_cons_succ]))
    refine Ord.ord_call (fun K hK => ?_)
    go_simp
    go_wp2_with (go_at_call 47; refine (impl_no _).mono ?_; rintro e w1 ⟨rfl, hb1⟩)
    have hs1 : (w1.cell? ⟨w.heap.size, 0, none⟩ = some (.int .i64 (-1)) ∧ w1.cell? ⟨w.heap.size, 1, none⟩ = some (.int .i64 r)) ∧ w1.cell? ⟨w.heap.size + 1, 0, none⟩ = some (.int .i64 p') ∧ w1.cell? ⟨w.heap.size + 1, 1, none⟩ = some (.int .i64 r') := ⟨⟨(hb1.cell (p := ⟨w.heap.size, 0, none⟩) hl1).trans hs.1.1, (hb1.cell (p := ⟨w.heap.size, 1, none⟩) hl1).trans hs.1.2⟩, (hb1.cell (p := ⟨w.heap.size + 1, 0, none⟩) hl2).trans hs.2.1, (hb1.cell (p := ⟨w.heap.size + 1, 1, none⟩) hl2).trans hs.2.2⟩
    have HB := Lib.hid (btr hb2.drew hb1)
    clear hb1
    refine hK.out _ _ (hs1) ?_
    clear hK K
    repeat (first
      | (refine Ord.ord_plain (v := ?_) rfl (fun w' hS => ?_) ?_; rotate_left; (focus ((try dsimp only at hS); go_simp; first | done | with_reducible rfl)); simp only [Act.put, List.setIfInBounds_toArray, List.set_cons_zero, List.set_cons_succ])
      | (refine Ord.ord_skip (by rfl) ?_; simp only [Act.put, List.setIfInBounds_toArray, List.set_cons_zero, List.set_cons_succ])
      | (refine Ord.ord_take (v := ?_) (by rfl) (fun w' hS => ?_) ?_; rotate_left; (focus ((try dsimp only at hS); go_simp; first | done | with_reducible rfl)); simp only [Act.put, List.setIfInBounds_toArray, List.set_cons_zero, List.set_cons_succ]))
    refine Ord.ord_call (fun K hK => ?_)
    go_simp
    refine hK.out _ _ (hs1) ?_
    clear hK K
    repeat (first
      | (refine Ord.ord_plain (v := ?_) rfl (fun w' hS => ?_) ?_; rotate_left; (focus ((try dsimp only at hS); go_simp; first | done | with_reducible rfl)); simp only [Act.put, List.setIfInBounds_toArray, List.set_cons_zero, List.set_cons_succ])
      | (refine Ord.ord_skip (by rfl) ?_; simp only [Act.put, List.setIfInBounds_toArray, List.set_cons_zero, List.set_cons_succ])
      | (refine Ord.ord_take (v := ?_) (by rfl) (fun w' hS => ?_) ?_; rotate_left; (focus ((try dsimp only at hS); go_simp; first | done | with_reducible rfl)); simp only [Act.put, List.setIfInBounds_toArray, List.set_cons_zero, List.set_cons_succ]))
    refine Ord.ord_nil ?_
    go_wp2_with fail
    go_ret
    exact ⟨rfl, HB.out⟩
  · have h0' : (p == -1) = false := by simpa using h0
    have hp' : (p == p') = false := by simpa using hp
    clear h0 hp
    go_enter Try.func18, Try.ntmps18
    go_wp2_with fail
    generalize (w.alloc (.cells #[.int .i64 p, .int .i64 r] 30)).alloc (.cells #[.int .i64 p', .int .i64 r'] 30) = W at t1 t2 hb2 ⊢
    have hs : (W.cell? ⟨w.heap.size, 0, none⟩ = some (.int .i64 p) ∧ W.cell? ⟨w.heap.size, 1, none⟩ = some (.int .i64 r)) ∧ W.cell? ⟨w.heap.size + 1, 0, none⟩ = some (.int .i64 p') ∧ W.cell? ⟨w.heap.size + 1, 1, none⟩ = some (.int .i64 r') := ⟨⟨t1.1, t1.2.1⟩, t2.1, t2.2.1⟩
    have hl1 := t1.2.2.2.2
    have hl2 := t2.2.2.2.2
    clear t1 t2
    refine Ord.wp_region_ord (fun w' => (w'.cell? ⟨w.heap.size, 0, none⟩ = some (.int .i64 p) ∧ w'.cell? ⟨w.heap.size, 1, none⟩ = some (.int .i64 r)) ∧ w'.cell? ⟨w.heap.size + 1, 0, none⟩ = some (.int .i64 p') ∧ w'.cell? ⟨w.heap.size + 1, 1, none⟩ = some (.int .i64 r')) [(0, true), (1, false), (2, true), (3, true), (4, true), (5, true), (6, true), (7, true), (8, true), (9, true), (10, true), (11, true), (12, true), (13, true), (14, false), (15, true), (16, true), (17, true)] (by kernel_rfl) (by kernel_rfl) rfl (by kernel_rfl) (hs) ?_
    simp only [Ord.ordOps, List.getElem?_toArray, List.getElem?_cons_zero, List.getElem?_cons_succ]
    repeat (first
      | (refine Ord.ord_plain (v := ?_) rfl (fun w' hS => ?_) ?_; rotate_left; (focus ((try dsimp only at hS); go_simp; first | done | with_reducible rfl)); simp only [Act.put, List.setIfInBounds_toArray, List.set_cons_zero, List.set_cons_succ])
      | (refine Ord.ord_skip (by rfl) ?_; simp only [Act.put, List.setIfInBounds_toArray, List.set_cons_zero, List.set_cons_succ])
      | (refine Ord.ord_take (v := ?_) (by rfl) (fun w' hS => ?_) ?_; rotate_left; (focus ((try dsimp only at hS); go_simp; first | done | with_reducible rfl)); simp only [Act.put, List.setIfInBounds_toArray, List.set_cons_zero, List.set_cons_succ]))
    refine Ord.ord_call (fun K hK => ?_)
    go_simp
    go_wp2_with (go_at_call 47; refine (impl_no _).mono ?_; rintro e w1 ⟨rfl, hb1⟩)
    have hs1 : (w1.cell? ⟨w.heap.size, 0, none⟩ = some (.int .i64 p) ∧ w1.cell? ⟨w.heap.size, 1, none⟩ = some (.int .i64 r)) ∧ w1.cell? ⟨w.heap.size + 1, 0, none⟩ = some (.int .i64 p') ∧ w1.cell? ⟨w.heap.size + 1, 1, none⟩ = some (.int .i64 r') := ⟨⟨(hb1.cell (p := ⟨w.heap.size, 0, none⟩) hl1).trans hs.1.1, (hb1.cell (p := ⟨w.heap.size, 1, none⟩) hl1).trans hs.1.2⟩, (hb1.cell (p := ⟨w.heap.size + 1, 0, none⟩) hl2).trans hs.2.1, (hb1.cell (p := ⟨w.heap.size + 1, 1, none⟩) hl2).trans hs.2.2⟩
    have HB := Lib.hid (btr hb2.drew hb1)
    clear hb1
    refine hK.out _ _ (hs1) ?_
    clear hK K
    repeat (first
      | (refine Ord.ord_plain (v := ?_) rfl (fun w' hS => ?_) ?_; rotate_left; (focus ((try dsimp only at hS); go_simp; first | done | with_reducible rfl)); simp only [Act.put, List.setIfInBounds_toArray, List.set_cons_zero, List.set_cons_succ])
      | (refine Ord.ord_skip (by rfl) ?_; simp only [Act.put, List.setIfInBounds_toArray, List.set_cons_zero, List.set_cons_succ])
      | (refine Ord.ord_take (v := ?_) (by rfl) (fun w' hS => ?_) ?_; rotate_left; (focus ((try dsimp only at hS); go_simp; first | done | with_reducible rfl)); simp only [Act.put, List.setIfInBounds_toArray, List.set_cons_zero, List.set_cons_succ]))
    refine Ord.ord_call (fun K hK => ?_)
    go_simp
    refine hK.out _ _ (hs1) ?_
    clear hK K
    repeat (first
      | (refine Ord.ord_plain (v := ?_) rfl (fun w' hS => ?_) ?_; rotate_left; (focus ((try dsimp only at hS); go_simp; first | done | with_reducible rfl)); simp only [Act.put, List.setIfInBounds_toArray, List.set_cons_zero, List.set_cons_succ])
      | (refine Ord.ord_skip (by rfl) ?_; simp only [Act.put, List.setIfInBounds_toArray, List.set_cons_zero, List.set_cons_succ])
      | (refine Ord.ord_take (v := ?_) (by rfl) (fun w' hS => ?_) ?_; rotate_left; (focus ((try dsimp only at hS); go_simp; first | done | with_reducible rfl)); simp only [Act.put, List.setIfInBounds_toArray, List.set_cons_zero, List.set_cons_succ]))
    refine Ord.ord_nil ?_
    go_wp2_with fail
    go_ret
    exact ⟨rfl, HB.out⟩
  · have hr' : (r == 0) = false := by simpa using hr
    clear hr
    go_enter Try.func18, Try.ntmps18
    go_wp2_with fail
    generalize (w.alloc (.cells #[.int .i64 (-1), .int .i64 r] 30)).alloc (.cells #[.int .i64 (-1), .int .i64 r'] 30) = W at t1 t2 hb2 ⊢
    have hs : (W.cell? ⟨w.heap.size, 0, none⟩ = some (.int .i64 (-1)) ∧ W.cell? ⟨w.heap.size, 1, none⟩ = some (.int .i64 r)) ∧ W.cell? ⟨w.heap.size + 1, 0, none⟩ = some (.int .i64 (-1)) ∧ W.cell? ⟨w.heap.size + 1, 1, none⟩ = some (.int .i64 r') := ⟨⟨t1.1, t1.2.1⟩, t2.1, t2.2.1⟩
    have hl1 := t1.2.2.2.2
    have hl2 := t2.2.2.2.2
    clear t1 t2
    refine Ord.wp_region_ord (fun w' => (w'.cell? ⟨w.heap.size, 0, none⟩ = some (.int .i64 (-1)) ∧ w'.cell? ⟨w.heap.size, 1, none⟩ = some (.int .i64 r)) ∧ w'.cell? ⟨w.heap.size + 1, 0, none⟩ = some (.int .i64 (-1)) ∧ w'.cell? ⟨w.heap.size + 1, 1, none⟩ = some (.int .i64 r')) [(0, true), (1, false), (2, true), (3, true), (4, true), (5, true), (6, true), (7, true), (8, true), (9, true), (10, true), (11, true), (12, true), (13, true), (14, false), (15, true), (16, true), (17, true)] (by kernel_rfl) (by kernel_rfl) rfl (by kernel_rfl) (hs) ?_
    simp only [Ord.ordOps, List.getElem?_toArray, List.getElem?_cons_zero, List.getElem?_cons_succ]
    repeat (first
      | (refine Ord.ord_plain (v := ?_) rfl (fun w' hS => ?_) ?_; rotate_left; (focus ((try dsimp only at hS); go_simp; first | done | with_reducible rfl)); simp only [Act.put, List.setIfInBounds_toArray, List.set_cons_zero, List.set_cons_succ])
      | (refine Ord.ord_skip (by rfl) ?_; simp only [Act.put, List.setIfInBounds_toArray, List.set_cons_zero, List.set_cons_succ])
      | (refine Ord.ord_take (v := ?_) (by rfl) (fun w' hS => ?_) ?_; rotate_left; (focus ((try dsimp only at hS); go_simp; first | done | with_reducible rfl)); simp only [Act.put, List.setIfInBounds_toArray, List.set_cons_zero, List.set_cons_succ]))
    refine Ord.ord_call (fun K hK => ?_)
    go_simp
    go_wp2_with (go_at_call 47; refine (impl_no _).mono ?_; rintro e w1 ⟨rfl, hb1⟩)
    have hs1 : (w1.cell? ⟨w.heap.size, 0, none⟩ = some (.int .i64 (-1)) ∧ w1.cell? ⟨w.heap.size, 1, none⟩ = some (.int .i64 r)) ∧ w1.cell? ⟨w.heap.size + 1, 0, none⟩ = some (.int .i64 (-1)) ∧ w1.cell? ⟨w.heap.size + 1, 1, none⟩ = some (.int .i64 r') := ⟨⟨(hb1.cell (p := ⟨w.heap.size, 0, none⟩) hl1).trans hs.1.1, (hb1.cell (p := ⟨w.heap.size, 1, none⟩) hl1).trans hs.1.2⟩, (hb1.cell (p := ⟨w.heap.size + 1, 0, none⟩) hl2).trans hs.2.1, (hb1.cell (p := ⟨w.heap.size + 1, 1, none⟩) hl2).trans hs.2.2⟩
    have HB := Lib.hid (btr hb2.drew hb1)
    clear hb1
    refine hK.out _ _ (hs1) ?_
    clear hK K
    repeat (first
      | (refine Ord.ord_plain (v := ?_) rfl (fun w' hS => ?_) ?_; rotate_left; (focus ((try dsimp only at hS); go_simp; first | done | with_reducible rfl)); simp only [Act.put, List.setIfInBounds_toArray, List.set_cons_zero, List.set_cons_succ])
      | (refine Ord.ord_skip (by rfl) ?_; simp only [Act.put, List.setIfInBounds_toArray, List.set_cons_zero, List.set_cons_succ])
      | (refine Ord.ord_take (v := ?_) (by rfl) (fun w' hS => ?_) ?_; rotate_left; (focus ((try dsimp only at hS); go_simp; first | done | with_reducible rfl)); simp only [Act.put, List.setIfInBounds_toArray, List.set_cons_zero, List.set_cons_succ]))
    refine Ord.ord_call (fun K hK => ?_)
    go_simp
    go_wp2_with (go_at_call 48; refine (HE.out _).mono ?_; rintro e w' ⟨rfl, rfl⟩)
    refine hK.out _ _ (hs1) ?_
    clear hK K
    repeat (first
      | (refine Ord.ord_plain (v := ?_) rfl (fun w' hS => ?_) ?_; rotate_left; (focus ((try dsimp only at hS); go_simp; first | done | with_reducible rfl)); simp only [Act.put, List.setIfInBounds_toArray, List.set_cons_zero, List.set_cons_succ])
      | (refine Ord.ord_skip (by rfl) ?_; simp only [Act.put, List.setIfInBounds_toArray, List.set_cons_zero, List.set_cons_succ])
      | (refine Ord.ord_take (v := ?_) (by rfl) (fun w' hS => ?_) ?_; rotate_left; (focus ((try dsimp only at hS); go_simp; first | done | with_reducible rfl)); simp only [Act.put, List.setIfInBounds_toArray, List.set_cons_zero, List.set_cons_succ]))
    refine Ord.ord_nil ?_
    go_wp2_with fail
    go_ret
    exact ⟨rfl, HB.out⟩
  · have h0' : (p == -1) = false := by simpa using h0
    clear h0
    go_enter Try.func18, Try.ntmps18
    go_wp2_with fail
    generalize (w.alloc (.cells #[.int .i64 p, .int .i64 r] 30)).alloc (.cells #[.int .i64 p, .int .i64 r'] 30) = W at t1 t2 hb2 ⊢
    have hs : (W.cell? ⟨w.heap.size, 0, none⟩ = some (.int .i64 p) ∧ W.cell? ⟨w.heap.size, 1, none⟩ = some (.int .i64 r)) ∧ W.cell? ⟨w.heap.size + 1, 0, none⟩ = some (.int .i64 p) ∧ W.cell? ⟨w.heap.size + 1, 1, none⟩ = some (.int .i64 r') := ⟨⟨t1.1, t1.2.1⟩, t2.1, t2.2.1⟩
    have hl1 := t1.2.2.2.2
    have hl2 := t2.2.2.2.2
    clear t1 t2
    refine Ord.wp_region_ord (fun w' => (w'.cell? ⟨w.heap.size, 0, none⟩ = some (.int .i64 p) ∧ w'.cell? ⟨w.heap.size, 1, none⟩ = some (.int .i64 r)) ∧ w'.cell? ⟨w.heap.size + 1, 0, none⟩ = some (.int .i64 p) ∧ w'.cell? ⟨w.heap.size + 1, 1, none⟩ = some (.int .i64 r')) [(0, true), (1, false), (2, true), (3, true), (4, true), (5, true), (6, true), (7, true), (8, true), (9, true), (10, true), (11, true), (12, true), (13, true), (14, false), (15, true), (16, true), (17, true)] (by kernel_rfl) (by kernel_rfl) rfl (by kernel_rfl) (hs) ?_
    simp only [Ord.ordOps, List.getElem?_toArray, List.getElem?_cons_zero, List.getElem?_cons_succ]
    repeat (first
      | (refine Ord.ord_plain (v := ?_) rfl (fun w' hS => ?_) ?_; rotate_left; (focus ((try dsimp only at hS); go_simp; first | done | with_reducible rfl)); simp only [Act.put, List.setIfInBounds_toArray, List.set_cons_zero, List.set_cons_succ])
      | (refine Ord.ord_skip (by rfl) ?_; simp only [Act.put, List.setIfInBounds_toArray, List.set_cons_zero, List.set_cons_succ])
      | (refine Ord.ord_take (v := ?_) (by rfl) (fun w' hS => ?_) ?_; rotate_left; (focus ((try dsimp only at hS); go_simp; first | done | with_reducible rfl)); simp only [Act.put, List.setIfInBounds_toArray, List.set_cons_zero, List.set_cons_succ]))
    refine Ord.ord_call (fun K hK => ?_)
    go_simp
    go_wp2_with (go_at_call 47; refine (impl_no _).mono ?_; rintro e w1 ⟨rfl, hb1⟩)
    have hs1 : (w1.cell? ⟨w.heap.size, 0, none⟩ = some (.int .i64 p) ∧ w1.cell? ⟨w.heap.size, 1, none⟩ = some (.int .i64 r)) ∧ w1.cell? ⟨w.heap.size + 1, 0, none⟩ = some (.int .i64 p) ∧ w1.cell? ⟨w.heap.size + 1, 1, none⟩ = some (.int .i64 r') := ⟨⟨(hb1.cell (p := ⟨w.heap.size, 0, none⟩) hl1).trans hs.1.1, (hb1.cell (p := ⟨w.heap.size, 1, none⟩) hl1).trans hs.1.2⟩, (hb1.cell (p := ⟨w.heap.size + 1, 0, none⟩) hl2).trans hs.2.1, (hb1.cell (p := ⟨w.heap.size + 1, 1, none⟩) hl2).trans hs.2.2⟩
    have HB := Lib.hid (btr hb2.drew hb1)
    clear hb1
    refine hK.out _ _ (hs1) ?_
    clear hK K
    repeat (first
      | (refine Ord.ord_plain (v := ?_) rfl (fun w' hS => ?_) ?_; rotate_left; (focus ((try dsimp only at hS); go_simp; first | done | with_reducible rfl)); simp only [Act.put, List.setIfInBounds_toArray, List.set_cons_zero, List.set_cons_succ])
      | (refine Ord.ord_skip (by rfl) ?_; simp only [Act.put, List.setIfInBounds_toArray, List.set_cons_zero, List.set_cons_succ])
      | (refine Ord.ord_take (v := ?_) (by rfl) (fun w' hS => ?_) ?_; rotate_left; (focus ((try dsimp only at hS); go_simp; first | done | with_reducible rfl)); simp only [Act.put, List.setIfInBounds_toArray, List.set_cons_zero, List.set_cons_succ]))
    refine Ord.ord_call (fun K hK => ?_)
    go_simp
    go_wp2_with (go_at_call 48; refine (HE.out _).mono ?_; rintro e w' ⟨rfl, rfl⟩)
    refine hK.out _ _ (hs1) ?_
    clear hK K
    repeat (first
      | (refine Ord.ord_plain (v := ?_) rfl (fun w' hS => ?_) ?_; rotate_left; (focus ((try dsimp only at hS); go_simp; first | done | with_reducible rfl)); simp only [Act.put, List.setIfInBounds_toArray, List.set_cons_zero, List.set_cons_succ])
      | (refine Ord.ord_skip (by rfl) ?_; simp only [Act.put, List.setIfInBounds_toArray, List.set_cons_zero, List.set_cons_succ])
      | (refine Ord.ord_take (v := ?_) (by rfl) (fun w' hS => ?_) ?_; rotate_left; (focus ((try dsimp only at hS); go_simp; first | done | with_reducible rfl)); simp only [Act.put, List.setIfInBounds_toArray, List.set_cons_zero, List.set_cons_succ]))
    refine Ord.ord_nil ?_
    go_wp2_with fail
    go_ret
    exact ⟨rfl, HB.out⟩

set_option maxHeartbeats 4000000 in
theorem spec_below (p r p' r' : Int) (w : World) : Calls Try.prog 26 #[.agg #[.int .i64 p, .int .i64 r], .agg #[.int .i64 p', .int .i64 r']] w (OkPost w (belowS (p, r) (p', r'))) := by
  obtain ⟨t1, t2, hb2⟩ := two_two w (.int .i64 p) (.int .i64 r) (.int .i64 p') (.int .i64 r') 30 30
  have hE := fun V : World => Rights.spec_enough r' r V
  have hc := belowS_cases p r p' r'
  generalize belowS (p, r) (p', r') = z at hc ⊢
  generalize Rights.enough r' r = b at hE hc
  have HE := Lib.hid hE
  clear hE
  rcases hc with ⟨rfl, rfl, rfl⟩ | ⟨rfl, hr, hp, rfl⟩ | ⟨h0, hp, rfl⟩ | ⟨rfl, hr, rfl, rfl⟩ | ⟨h0, rfl, rfl⟩
  · skip
    go_enter Try.func26, Try.ntmps26
    go_wp2_with fail
    generalize (w.alloc (.cells #[.int .i64 (-1), .int .i64 0] 30)).alloc (.cells #[.int .i64 p', .int .i64 r'] 30) = W at t1 t2 hb2 ⊢
    have hs : (W.cell? ⟨w.heap.size, 0, none⟩ = some (.int .i64 (-1)) ∧ W.cell? ⟨w.heap.size, 1, none⟩ = some (.int .i64 0)) ∧ W.cell? ⟨w.heap.size + 1, 0, none⟩ = some (.int .i64 p') ∧ W.cell? ⟨w.heap.size + 1, 1, none⟩ = some (.int .i64 r') := ⟨⟨t1.1, t1.2.1⟩, t2.1, t2.2.1⟩
    have hl1 := t1.2.2.2.2
    have hl2 := t2.2.2.2.2
    clear t1 t2
    refine Ord.wp_region_ord (fun w' => (w'.cell? ⟨w.heap.size, 0, none⟩ = some (.int .i64 (-1)) ∧ w'.cell? ⟨w.heap.size, 1, none⟩ = some (.int .i64 0)) ∧ w'.cell? ⟨w.heap.size + 1, 0, none⟩ = some (.int .i64 p') ∧ w'.cell? ⟨w.heap.size + 1, 1, none⟩ = some (.int .i64 r')) [(0, true), (1, false), (2, true), (3, true), (4, true), (5, true), (6, true), (7, true), (8, true), (9, true), (10, true), (11, true), (12, true), (13, true), (14, false), (15, true), (16, true), (17, true)] (by kernel_rfl) (by kernel_rfl) rfl (by kernel_rfl) (hs) ?_
    simp only [Ord.ordOps, List.getElem?_toArray, List.getElem?_cons_zero, List.getElem?_cons_succ]
    repeat (first
      | (refine Ord.ord_plain (v := ?_) rfl (fun w' hS => ?_) ?_; rotate_left; (focus ((try dsimp only at hS); go_simp; first | done | with_reducible rfl)); simp only [Act.put, List.setIfInBounds_toArray, List.set_cons_zero, List.set_cons_succ])
      | (refine Ord.ord_skip (by rfl) ?_; simp only [Act.put, List.setIfInBounds_toArray, List.set_cons_zero, List.set_cons_succ])
      | (refine Ord.ord_take (v := ?_) (by rfl) (fun w' hS => ?_) ?_; rotate_left; (focus ((try dsimp only at hS); go_simp; first | done | with_reducible rfl)); simp only [Act.put, List.setIfInBounds_toArray, List.set_cons_zero, List.set_cons_succ]))
    refine Ord.ord_call (fun K hK => ?_)
    go_simp
    go_wp2_with (go_at_call 16; refine (spec_no _).mono ?_; rintro e w1 ⟨rfl, hb1⟩)
    have hs1 : (w1.cell? ⟨w.heap.size, 0, none⟩ = some (.int .i64 (-1)) ∧ w1.cell? ⟨w.heap.size, 1, none⟩ = some (.int .i64 0)) ∧ w1.cell? ⟨w.heap.size + 1, 0, none⟩ = some (.int .i64 p') ∧ w1.cell? ⟨w.heap.size + 1, 1, none⟩ = some (.int .i64 r') := ⟨⟨(hb1.cell (p := ⟨w.heap.size, 0, none⟩) hl1).trans hs.1.1, (hb1.cell (p := ⟨w.heap.size, 1, none⟩) hl1).trans hs.1.2⟩, (hb1.cell (p := ⟨w.heap.size + 1, 0, none⟩) hl2).trans hs.2.1, (hb1.cell (p := ⟨w.heap.size + 1, 1, none⟩) hl2).trans hs.2.2⟩
    have HB := Lib.hid (btr hb2.drew hb1)
    clear hb1
    refine hK.out _ _ (hs1) ?_
    clear hK K
    repeat (first
      | (refine Ord.ord_plain (v := ?_) rfl (fun w' hS => ?_) ?_; rotate_left; (focus ((try dsimp only at hS); go_simp; first | done | with_reducible rfl)); simp only [Act.put, List.setIfInBounds_toArray, List.set_cons_zero, List.set_cons_succ])
      | (refine Ord.ord_skip (by rfl) ?_; simp only [Act.put, List.setIfInBounds_toArray, List.set_cons_zero, List.set_cons_succ])
      | (refine Ord.ord_take (v := ?_) (by rfl) (fun w' hS => ?_) ?_; rotate_left; (focus ((try dsimp only at hS); go_simp; first | done | with_reducible rfl)); simp only [Act.put, List.setIfInBounds_toArray, List.set_cons_zero, List.set_cons_succ]))
    refine Ord.ord_call (fun K hK => ?_)
    go_simp
    refine hK.out _ _ (hs1) ?_
    clear hK K
    repeat (first
      | (refine Ord.ord_plain (v := ?_) rfl (fun w' hS => ?_) ?_; rotate_left; (focus ((try dsimp only at hS); go_simp; first | done | with_reducible rfl)); simp only [Act.put, List.setIfInBounds_toArray, List.set_cons_zero, List.set_cons_succ])
      | (refine Ord.ord_skip (by rfl) ?_; simp only [Act.put, List.setIfInBounds_toArray, List.set_cons_zero, List.set_cons_succ])
      | (refine Ord.ord_take (v := ?_) (by rfl) (fun w' hS => ?_) ?_; rotate_left; (focus ((try dsimp only at hS); go_simp; first | done | with_reducible rfl)); simp only [Act.put, List.setIfInBounds_toArray, List.set_cons_zero, List.set_cons_succ]))
    refine Ord.ord_nil ?_
    go_wp2_with fail
    go_ret
    exact ⟨rfl, HB.out⟩
  · have hr' : (r == 0) = false := by simpa using hr
    have hp' : ((-1 : Int) == p') = false := by simpa using (Ne.symm hp)
    clear hr hp
    go_enter Try.func26, Try.ntmps26
    go_wp2_with fail
    generalize (w.alloc (.cells #[.int .i64 (-1), .int .i64 r] 30)).alloc (.cells #[.int .i64 p', .int .i64 r'] 30) = W at t1 t2 hb2 ⊢
    have hs : (W.cell? ⟨w.heap.size, 0, none⟩ = some (.int .i64 (-1)) ∧ W.cell? ⟨w.heap.size, 1, none⟩ = some (.int .i64 r)) ∧ W.cell? ⟨w.heap.size + 1, 0, none⟩ = some (.int .i64 p') ∧ W.cell? ⟨w.heap.size + 1, 1, none⟩ = some (.int .i64 r') := ⟨⟨t1.1, t1.2.1⟩, t2.1, t2.2.1⟩
    have hl1 := t1.2.2.2.2
    have hl2 := t2.2.2.2.2
    clear t1 t2
    refine Ord.wp_region_ord (fun w' => (w'.cell? ⟨w.heap.size, 0, none⟩ = some (.int .i64 (-1)) ∧ w'.cell? ⟨w.heap.size, 1, none⟩ = some (.int .i64 r)) ∧ w'.cell? ⟨w.heap.size + 1, 0, none⟩ = some (.int .i64 p') ∧ w'.cell? ⟨w.heap.size + 1, 1, none⟩ = some (.int .i64 r')) [(0, true), (1, false), (2, true), (3, true), (4, true), (5, true), (6, true), (7, true), (8, true), (9, true), (10, true), (11, true), (12, true), (13, true), (14, false), (15, true), (16, true), (17, true)] (by kernel_rfl) (by kernel_rfl) rfl (by kernel_rfl) (hs) ?_
    simp only [Ord.ordOps, List.getElem?_toArray, List.getElem?_cons_zero, List.getElem?_cons_succ]
    repeat (first
      | (refine Ord.ord_plain (v := ?_) rfl (fun w' hS => ?_) ?_; rotate_left; (focus ((try dsimp only at hS); go_simp; first | done | with_reducible rfl)); simp only [Act.put, List.setIfInBounds_toArray, List.set_cons_zero, List.set_cons_succ])
      | (refine Ord.ord_skip (by rfl) ?_; simp only [Act.put, List.setIfInBounds_toArray, List.set_cons_zero, List.set_cons_succ])
      | (refine Ord.ord_take (v := ?_) (by rfl) (fun w' hS => ?_) ?_; rotate_left; (focus ((try dsimp only at hS); go_simp; first | done | with_reducible rfl)); simp only [Act.put, List.setIfInBounds_toArray, List.set_cons_zero, List.set_cons_succ]))
    refine Ord.ord_call (fun K hK => ?_)
    go_simp
    go_wp2_with (go_at_call 16; refine (spec_no _).mono ?_; rintro e w1 ⟨rfl, hb1⟩)
    have hs1 : (w1.cell? ⟨w.heap.size, 0, none⟩ = some (.int .i64 (-1)) ∧ w1.cell? ⟨w.heap.size, 1, none⟩ = some (.int .i64 r)) ∧ w1.cell? ⟨w.heap.size + 1, 0, none⟩ = some (.int .i64 p') ∧ w1.cell? ⟨w.heap.size + 1, 1, none⟩ = some (.int .i64 r') := ⟨⟨(hb1.cell (p := ⟨w.heap.size, 0, none⟩) hl1).trans hs.1.1, (hb1.cell (p := ⟨w.heap.size, 1, none⟩) hl1).trans hs.1.2⟩, (hb1.cell (p := ⟨w.heap.size + 1, 0, none⟩) hl2).trans hs.2.1, (hb1.cell (p := ⟨w.heap.size + 1, 1, none⟩) hl2).trans hs.2.2⟩
    have HB := Lib.hid (btr hb2.drew hb1)
    clear hb1
    refine hK.out _ _ (hs1) ?_
    clear hK K
    repeat (first
      | (refine Ord.ord_plain (v := ?_) rfl (fun w' hS => ?_) ?_; rotate_left; (focus ((try dsimp only at hS); go_simp; first | done | with_reducible rfl)); simp only [Act.put, List.setIfInBounds_toArray, List.set_cons_zero, List.set_cons_succ])
      | (refine Ord.ord_skip (by rfl) ?_; simp only [Act.put, List.setIfInBounds_toArray, List.set_cons_zero, List.set_cons_succ])
      | (refine Ord.ord_take (v := ?_) (by rfl) (fun w' hS => ?_) ?_; rotate_left; (focus ((try dsimp only at hS); go_simp; first | done | with_reducible rfl)); simp only [Act.put, List.setIfInBounds_toArray, List.set_cons_zero, List.set_cons_succ]))
    refine Ord.ord_call (fun K hK => ?_)
    go_simp
    refine hK.out _ _ (hs1) ?_
    clear hK K
    repeat (first
      | (refine Ord.ord_plain (v := ?_) rfl (fun w' hS => ?_) ?_; rotate_left; (focus ((try dsimp only at hS); go_simp; first | done | with_reducible rfl)); simp only [Act.put, List.setIfInBounds_toArray, List.set_cons_zero, List.set_cons_succ])
      | (refine Ord.ord_skip (by rfl) ?_; simp only [Act.put, List.setIfInBounds_toArray, List.set_cons_zero, List.set_cons_succ])
      | (refine Ord.ord_take (v := ?_) (by rfl) (fun w' hS => ?_) ?_; rotate_left; (focus ((try dsimp only at hS); go_simp; first | done | with_reducible rfl)); simp only [Act.put, List.setIfInBounds_toArray, List.set_cons_zero, List.set_cons_succ]))
    refine Ord.ord_nil ?_
    go_wp2_with fail
    go_ret
    exact ⟨rfl, HB.out⟩
  · have h0' : (p == -1) = false := by simpa using h0
    have hp' : (p == p') = false := by simpa using hp
    clear h0 hp
    go_enter Try.func26, Try.ntmps26
    go_wp2_with fail
    generalize (w.alloc (.cells #[.int .i64 p, .int .i64 r] 30)).alloc (.cells #[.int .i64 p', .int .i64 r'] 30) = W at t1 t2 hb2 ⊢
    have hs : (W.cell? ⟨w.heap.size, 0, none⟩ = some (.int .i64 p) ∧ W.cell? ⟨w.heap.size, 1, none⟩ = some (.int .i64 r)) ∧ W.cell? ⟨w.heap.size + 1, 0, none⟩ = some (.int .i64 p') ∧ W.cell? ⟨w.heap.size + 1, 1, none⟩ = some (.int .i64 r') := ⟨⟨t1.1, t1.2.1⟩, t2.1, t2.2.1⟩
    have hl1 := t1.2.2.2.2
    have hl2 := t2.2.2.2.2
    clear t1 t2
    refine Ord.wp_region_ord (fun w' => (w'.cell? ⟨w.heap.size, 0, none⟩ = some (.int .i64 p) ∧ w'.cell? ⟨w.heap.size, 1, none⟩ = some (.int .i64 r)) ∧ w'.cell? ⟨w.heap.size + 1, 0, none⟩ = some (.int .i64 p') ∧ w'.cell? ⟨w.heap.size + 1, 1, none⟩ = some (.int .i64 r')) [(0, true), (1, false), (2, true), (3, true), (4, true), (5, true), (6, true), (7, true), (8, true), (9, true), (10, true), (11, true), (12, true), (13, true), (14, false), (15, true), (16, true), (17, true)] (by kernel_rfl) (by kernel_rfl) rfl (by kernel_rfl) (hs) ?_
    simp only [Ord.ordOps, List.getElem?_toArray, List.getElem?_cons_zero, List.getElem?_cons_succ]
    repeat (first
      | (refine Ord.ord_plain (v := ?_) rfl (fun w' hS => ?_) ?_; rotate_left; (focus ((try dsimp only at hS); go_simp; first | done | with_reducible rfl)); simp only [Act.put, List.setIfInBounds_toArray, List.set_cons_zero, List.set_cons_succ])
      | (refine Ord.ord_skip (by rfl) ?_; simp only [Act.put, List.setIfInBounds_toArray, List.set_cons_zero, List.set_cons_succ])
      | (refine Ord.ord_take (v := ?_) (by rfl) (fun w' hS => ?_) ?_; rotate_left; (focus ((try dsimp only at hS); go_simp; first | done | with_reducible rfl)); simp only [Act.put, List.setIfInBounds_toArray, List.set_cons_zero, List.set_cons_succ]))
    refine Ord.ord_call (fun K hK => ?_)
    go_simp
    go_wp2_with (go_at_call 16; refine (spec_no _).mono ?_; rintro e w1 ⟨rfl, hb1⟩)
    have hs1 : (w1.cell? ⟨w.heap.size, 0, none⟩ = some (.int .i64 p) ∧ w1.cell? ⟨w.heap.size, 1, none⟩ = some (.int .i64 r)) ∧ w1.cell? ⟨w.heap.size + 1, 0, none⟩ = some (.int .i64 p') ∧ w1.cell? ⟨w.heap.size + 1, 1, none⟩ = some (.int .i64 r') := ⟨⟨(hb1.cell (p := ⟨w.heap.size, 0, none⟩) hl1).trans hs.1.1, (hb1.cell (p := ⟨w.heap.size, 1, none⟩) hl1).trans hs.1.2⟩, (hb1.cell (p := ⟨w.heap.size + 1, 0, none⟩) hl2).trans hs.2.1, (hb1.cell (p := ⟨w.heap.size + 1, 1, none⟩) hl2).trans hs.2.2⟩
    have HB := Lib.hid (btr hb2.drew hb1)
    clear hb1
    refine hK.out _ _ (hs1) ?_
    clear hK K
    repeat (first
      | (refine Ord.ord_plain (v := ?_) rfl (fun w' hS => ?_) ?_; rotate_left; (focus ((try dsimp only at hS); go_simp; first | done | with_reducible rfl)); simp only [Act.put, List.setIfInBounds_toArray, List.set_cons_zero, List.set_cons_succ])
      | (refine Ord.ord_skip (by rfl) ?_; simp only [Act.put, List.setIfInBounds_toArray, List.set_cons_zero, List.set_cons_succ])
      | (refine Ord.ord_take (v := ?_) (by rfl) (fun w' hS => ?_) ?_; rotate_left; (focus ((try dsimp only at hS); go_simp; first | done | with_reducible rfl)); simp only [Act.put, List.setIfInBounds_toArray, List.set_cons_zero, List.set_cons_succ]))
    refine Ord.ord_call (fun K hK => ?_)
    go_simp
    refine hK.out _ _ (hs1) ?_
    clear hK K
    repeat (first
      | (refine Ord.ord_plain (v := ?_) rfl (fun w' hS => ?_) ?_; rotate_left; (focus ((try dsimp only at hS); go_simp; first | done | with_reducible rfl)); simp only [Act.put, List.setIfInBounds_toArray, List.set_cons_zero, List.set_cons_succ])
      | (refine Ord.ord_skip (by rfl) ?_; simp only [Act.put, List.setIfInBounds_toArray, List.set_cons_zero, List.set_cons_succ])
      | (refine Ord.ord_take (v := ?_) (by rfl) (fun w' hS => ?_) ?_; rotate_left; (focus ((try dsimp only at hS); go_simp; first | done | with_reducible rfl)); simp only [Act.put, List.setIfInBounds_toArray, List.set_cons_zero, List.set_cons_succ]))
    refine Ord.ord_nil ?_
    go_wp2_with fail
    go_ret
    exact ⟨rfl, HB.out⟩
  · have hr' : (r == 0) = false := by simpa using hr
    clear hr
    go_enter Try.func26, Try.ntmps26
    go_wp2_with fail
    generalize (w.alloc (.cells #[.int .i64 (-1), .int .i64 r] 30)).alloc (.cells #[.int .i64 (-1), .int .i64 r'] 30) = W at t1 t2 hb2 ⊢
    have hs : (W.cell? ⟨w.heap.size, 0, none⟩ = some (.int .i64 (-1)) ∧ W.cell? ⟨w.heap.size, 1, none⟩ = some (.int .i64 r)) ∧ W.cell? ⟨w.heap.size + 1, 0, none⟩ = some (.int .i64 (-1)) ∧ W.cell? ⟨w.heap.size + 1, 1, none⟩ = some (.int .i64 r') := ⟨⟨t1.1, t1.2.1⟩, t2.1, t2.2.1⟩
    have hl1 := t1.2.2.2.2
    have hl2 := t2.2.2.2.2
    clear t1 t2
    refine Ord.wp_region_ord (fun w' => (w'.cell? ⟨w.heap.size, 0, none⟩ = some (.int .i64 (-1)) ∧ w'.cell? ⟨w.heap.size, 1, none⟩ = some (.int .i64 r)) ∧ w'.cell? ⟨w.heap.size + 1, 0, none⟩ = some (.int .i64 (-1)) ∧ w'.cell? ⟨w.heap.size + 1, 1, none⟩ = some (.int .i64 r')) [(0, true), (1, false), (2, true), (3, true), (4, true), (5, true), (6, true), (7, true), (8, true), (9, true), (10, true), (11, true), (12, true), (13, true), (14, false), (15, true), (16, true), (17, true)] (by kernel_rfl) (by kernel_rfl) rfl (by kernel_rfl) (hs) ?_
    simp only [Ord.ordOps, List.getElem?_toArray, List.getElem?_cons_zero, List.getElem?_cons_succ]
    repeat (first
      | (refine Ord.ord_plain (v := ?_) rfl (fun w' hS => ?_) ?_; rotate_left; (focus ((try dsimp only at hS); go_simp; first | done | with_reducible rfl)); simp only [Act.put, List.setIfInBounds_toArray, List.set_cons_zero, List.set_cons_succ])
      | (refine Ord.ord_skip (by rfl) ?_; simp only [Act.put, List.setIfInBounds_toArray, List.set_cons_zero, List.set_cons_succ])
      | (refine Ord.ord_take (v := ?_) (by rfl) (fun w' hS => ?_) ?_; rotate_left; (focus ((try dsimp only at hS); go_simp; first | done | with_reducible rfl)); simp only [Act.put, List.setIfInBounds_toArray, List.set_cons_zero, List.set_cons_succ]))
    refine Ord.ord_call (fun K hK => ?_)
    go_simp
    go_wp2_with (go_at_call 16; refine (spec_no _).mono ?_; rintro e w1 ⟨rfl, hb1⟩)
    have hs1 : (w1.cell? ⟨w.heap.size, 0, none⟩ = some (.int .i64 (-1)) ∧ w1.cell? ⟨w.heap.size, 1, none⟩ = some (.int .i64 r)) ∧ w1.cell? ⟨w.heap.size + 1, 0, none⟩ = some (.int .i64 (-1)) ∧ w1.cell? ⟨w.heap.size + 1, 1, none⟩ = some (.int .i64 r') := ⟨⟨(hb1.cell (p := ⟨w.heap.size, 0, none⟩) hl1).trans hs.1.1, (hb1.cell (p := ⟨w.heap.size, 1, none⟩) hl1).trans hs.1.2⟩, (hb1.cell (p := ⟨w.heap.size + 1, 0, none⟩) hl2).trans hs.2.1, (hb1.cell (p := ⟨w.heap.size + 1, 1, none⟩) hl2).trans hs.2.2⟩
    have HB := Lib.hid (btr hb2.drew hb1)
    clear hb1
    refine hK.out _ _ (hs1) ?_
    clear hK K
    repeat (first
      | (refine Ord.ord_plain (v := ?_) rfl (fun w' hS => ?_) ?_; rotate_left; (focus ((try dsimp only at hS); go_simp; first | done | with_reducible rfl)); simp only [Act.put, List.setIfInBounds_toArray, List.set_cons_zero, List.set_cons_succ])
      | (refine Ord.ord_skip (by rfl) ?_; simp only [Act.put, List.setIfInBounds_toArray, List.set_cons_zero, List.set_cons_succ])
      | (refine Ord.ord_take (v := ?_) (by rfl) (fun w' hS => ?_) ?_; rotate_left; (focus ((try dsimp only at hS); go_simp; first | done | with_reducible rfl)); simp only [Act.put, List.setIfInBounds_toArray, List.set_cons_zero, List.set_cons_succ]))
    refine Ord.ord_call (fun K hK => ?_)
    go_simp
    go_wp2_with (go_at_call 19; refine (HE.out _).mono ?_; rintro e w' ⟨rfl, rfl⟩)
    refine hK.out _ _ (hs1) ?_
    clear hK K
    repeat (first
      | (refine Ord.ord_plain (v := ?_) rfl (fun w' hS => ?_) ?_; rotate_left; (focus ((try dsimp only at hS); go_simp; first | done | with_reducible rfl)); simp only [Act.put, List.setIfInBounds_toArray, List.set_cons_zero, List.set_cons_succ])
      | (refine Ord.ord_skip (by rfl) ?_; simp only [Act.put, List.setIfInBounds_toArray, List.set_cons_zero, List.set_cons_succ])
      | (refine Ord.ord_take (v := ?_) (by rfl) (fun w' hS => ?_) ?_; rotate_left; (focus ((try dsimp only at hS); go_simp; first | done | with_reducible rfl)); simp only [Act.put, List.setIfInBounds_toArray, List.set_cons_zero, List.set_cons_succ]))
    refine Ord.ord_nil ?_
    go_wp2_with fail
    go_ret
    exact ⟨rfl, HB.out⟩
  · have h0' : (p == -1) = false := by simpa using h0
    clear h0
    go_enter Try.func26, Try.ntmps26
    go_wp2_with fail
    generalize (w.alloc (.cells #[.int .i64 p, .int .i64 r] 30)).alloc (.cells #[.int .i64 p, .int .i64 r'] 30) = W at t1 t2 hb2 ⊢
    have hs : (W.cell? ⟨w.heap.size, 0, none⟩ = some (.int .i64 p) ∧ W.cell? ⟨w.heap.size, 1, none⟩ = some (.int .i64 r)) ∧ W.cell? ⟨w.heap.size + 1, 0, none⟩ = some (.int .i64 p) ∧ W.cell? ⟨w.heap.size + 1, 1, none⟩ = some (.int .i64 r') := ⟨⟨t1.1, t1.2.1⟩, t2.1, t2.2.1⟩
    have hl1 := t1.2.2.2.2
    have hl2 := t2.2.2.2.2
    clear t1 t2
    refine Ord.wp_region_ord (fun w' => (w'.cell? ⟨w.heap.size, 0, none⟩ = some (.int .i64 p) ∧ w'.cell? ⟨w.heap.size, 1, none⟩ = some (.int .i64 r)) ∧ w'.cell? ⟨w.heap.size + 1, 0, none⟩ = some (.int .i64 p) ∧ w'.cell? ⟨w.heap.size + 1, 1, none⟩ = some (.int .i64 r')) [(0, true), (1, false), (2, true), (3, true), (4, true), (5, true), (6, true), (7, true), (8, true), (9, true), (10, true), (11, true), (12, true), (13, true), (14, false), (15, true), (16, true), (17, true)] (by kernel_rfl) (by kernel_rfl) rfl (by kernel_rfl) (hs) ?_
    simp only [Ord.ordOps, List.getElem?_toArray, List.getElem?_cons_zero, List.getElem?_cons_succ]
    repeat (first
      | (refine Ord.ord_plain (v := ?_) rfl (fun w' hS => ?_) ?_; rotate_left; (focus ((try dsimp only at hS); go_simp; first | done | with_reducible rfl)); simp only [Act.put, List.setIfInBounds_toArray, List.set_cons_zero, List.set_cons_succ])
      | (refine Ord.ord_skip (by rfl) ?_; simp only [Act.put, List.setIfInBounds_toArray, List.set_cons_zero, List.set_cons_succ])
      | (refine Ord.ord_take (v := ?_) (by rfl) (fun w' hS => ?_) ?_; rotate_left; (focus ((try dsimp only at hS); go_simp; first | done | with_reducible rfl)); simp only [Act.put, List.setIfInBounds_toArray, List.set_cons_zero, List.set_cons_succ]))
    refine Ord.ord_call (fun K hK => ?_)
    go_simp
    go_wp2_with (go_at_call 16; refine (spec_no _).mono ?_; rintro e w1 ⟨rfl, hb1⟩)
    have hs1 : (w1.cell? ⟨w.heap.size, 0, none⟩ = some (.int .i64 p) ∧ w1.cell? ⟨w.heap.size, 1, none⟩ = some (.int .i64 r)) ∧ w1.cell? ⟨w.heap.size + 1, 0, none⟩ = some (.int .i64 p) ∧ w1.cell? ⟨w.heap.size + 1, 1, none⟩ = some (.int .i64 r') := ⟨⟨(hb1.cell (p := ⟨w.heap.size, 0, none⟩) hl1).trans hs.1.1, (hb1.cell (p := ⟨w.heap.size, 1, none⟩) hl1).trans hs.1.2⟩, (hb1.cell (p := ⟨w.heap.size + 1, 0, none⟩) hl2).trans hs.2.1, (hb1.cell (p := ⟨w.heap.size + 1, 1, none⟩) hl2).trans hs.2.2⟩
    have HB := Lib.hid (btr hb2.drew hb1)
    clear hb1
    refine hK.out _ _ (hs1) ?_
    clear hK K
    repeat (first
      | (refine Ord.ord_plain (v := ?_) rfl (fun w' hS => ?_) ?_; rotate_left; (focus ((try dsimp only at hS); go_simp; first | done | with_reducible rfl)); simp only [Act.put, List.setIfInBounds_toArray, List.set_cons_zero, List.set_cons_succ])
      | (refine Ord.ord_skip (by rfl) ?_; simp only [Act.put, List.setIfInBounds_toArray, List.set_cons_zero, List.set_cons_succ])
      | (refine Ord.ord_take (v := ?_) (by rfl) (fun w' hS => ?_) ?_; rotate_left; (focus ((try dsimp only at hS); go_simp; first | done | with_reducible rfl)); simp only [Act.put, List.setIfInBounds_toArray, List.set_cons_zero, List.set_cons_succ]))
    refine Ord.ord_call (fun K hK => ?_)
    go_simp
    go_wp2_with (go_at_call 19; refine (HE.out _).mono ?_; rintro e w' ⟨rfl, rfl⟩)
    refine hK.out _ _ (hs1) ?_
    clear hK K
    repeat (first
      | (refine Ord.ord_plain (v := ?_) rfl (fun w' hS => ?_) ?_; rotate_left; (focus ((try dsimp only at hS); go_simp; first | done | with_reducible rfl)); simp only [Act.put, List.setIfInBounds_toArray, List.set_cons_zero, List.set_cons_succ])
      | (refine Ord.ord_skip (by rfl) ?_; simp only [Act.put, List.setIfInBounds_toArray, List.set_cons_zero, List.set_cons_succ])
      | (refine Ord.ord_take (v := ?_) (by rfl) (fun w' hS => ?_) ?_; rotate_left; (focus ((try dsimp only at hS); go_simp; first | done | with_reducible rfl)); simp only [Act.put, List.setIfInBounds_toArray, List.set_cons_zero, List.set_cons_succ]))
    refine Ord.ord_nil ?_
    go_wp2_with fail
    go_ret
    exact ⟨rfl, HB.out⟩

theorem below_first {l m : List Sl} {k : Nat} {b : Bool} (hl : k < l.length) (hm : k < m.length) (h : belowL (l.take k) (m.take k) = true) (hb : belowS l[k] m[k] = b) :
    (b = true → belowL (l.take (k + 1)) (m.take (k + 1)) = true) ∧ (b = false → belowL l m = false) :=
  ⟨fun e => by rw [belowL_take hl hm h, hb, e], fun e => belowL_stop hl hm (hb.trans e)⟩

set_option maxHeartbeats 4000000 in
theorem lib_equalF (A B : Option Addr) (n n' c d lo lo' hi hi' : Nat) (l m : List Sl) (w : World) (hn : n ≤ 1048576) (hn' : n' ≤ 1048576) (hl : l.length = n) (hm : m.length = n') (hh : hi ≤ w.heap.size) (hh' : hi' ≤ w.heap.size) (wl : wfL l) (wm : wfL m)
    (h1 : Lies w lo hi A (scells l)) (h2 : Lies w lo' hi' B (scells m)) :
    Calls Try.prog 55 #[.slice A n c, .slice B n' d, .func (.func 18) #[] #[]] w (OkPost w (belowL l m)) := by
  have H1 := Lib.hid h1
  have H2 := Lib.hid h2
  have HL := Lib.hid hl
  have HM := Lib.hid hm
  have HW := Lib.hid (And.intro wl wm)
  clear h1 h2 hl hm wl wm
  by_cases hnn : n = n'
  · subst hnn
    go_enter Try.func55, Try.ntmps55
    go_wp2
    go_loopw [7, 8, 9, 17] (fun _ _ _ i wr => ∃ (k : Nat), k ≤ n ∧ i = .int .i64 k ∧ belowL (l.take k) (m.take k) = true ∧ Below w.heap.size w wr) (fun _ _ _ i _ => n - (intOf i).toNat)
    case atStart => exact ⟨0, Nat.zero_le _, rfl, rfl, Below.refl _ _⟩
    case round =>
      obtain ⟨k, hk, rfl, ht, hb⟩ := hrel
      have HT := Lib.hid ht
      clear ht
      by_cases hlt : k < n
      · have hkl : k < l.length := by have := HL.out; omega
        have hkm : k < m.length := by have := HM.out; omega
        obtain ⟨b, off, rfl, _, hbw, c1, c2⟩ := slot_at H1.out k hkl
        obtain ⟨b', off', rfl, _, hbw', c1', c2'⟩ := slot_at H2.out k hkm
        have d1 : wr.cell? ⟨b, off + k * 2, none⟩ = some (.int .i64 l[k].1) := (hb.cell (by show b < _; omega)).trans c1
        have d2 : wr.cell? ⟨b, off + k * 2 + 1, none⟩ = some (.int .i64 l[k].2) := (hb.cell (by show b < _; omega)).trans c2
        have e1 : wr.cell? ⟨b', off' + k * 2, none⟩ = some (.int .i64 m[k].1) := (hb.cell (by show b' < _; omega)).trans c1'
        have e2 : wr.cell? ⟨b', off' + k * 2 + 1, none⟩ = some (.int .i64 m[k].2) := (hb.cell (by show b' < _; omega)).trans c2'
        have hj0 : (0 : Int) ≤ (k : Int) := Int.natCast_nonneg _
        have hj1 : (k : Int) < (n : Int) := by omega
        have hbs := hb.size
        have hne : b ≠ wr.heap.size := by omega
        have hne' : b' ≠ wr.heap.size := by omega
        have hlt1 : b < wr.heap.size := by omega
        have hlt1' : b' < wr.heap.size := by omega
        have hstep := fun z (hz : belowS l[k] m[k] = z) => below_first hkl hkm HT.out hz
        have hstep := hstep _ rfl
        have hK := fun V : World => impl_below l[k].1 l[k].2 m[k].1 m[k].2 V (HW.out.1 _ (List.getElem_mem hkl)).2 (HW.out.2 _ (List.getElem_mem hkm)).2
        clear c1 c2 c1' c2'
        rw [show l[k] = (l[k].1, l[k].2) from rfl, show m[k] = (m[k].1, m[k].2) from rfl] at hstep
        generalize l[k].1 = x at d1 hstep hK
        generalize l[k].2 = y at d2 hstep hK
        generalize m[k].1 = x' at e1 hstep hK
        generalize m[k].2 = y' at e2 hstep hK
        generalize belowS (x, y) (x', y') = z at hstep hK
        have HP := Lib.hid hstep
        have HK := Lib.hid hK
        clear hstep hK
        cases z
        · have hb3 := ((hb.alloc hb.size (.cells #[.int .i64 x, .int .i64 y] 30)).alloc (by simp; omega) (.cells #[.int .i64 x', .int .i64 y'] 30))
          have e3 := (World.cell?_alloc_lt wr (.cells #[.int .i64 x, .int .i64 y] 30) _ hlt1').trans e1
          have e4 := (World.cell?_alloc_lt wr (.cells #[.int .i64 x, .int .i64 y] 30) _ hlt1').trans e2
          go_wp2_with fail
          refine (HK.out _).mono ?_
          rintro e w1 ⟨rfl, hb1⟩
          have HF := Lib.hid (hb3.trans (hb1.mono hb3.size))
          clear hb1 hb3
          go_wp2_with fail
          go_wp2
          go_ret
          exact ⟨by rw [HP.out.2 (by simp)] <;> rfl, HF.out⟩
        · have hb3 := ((hb.alloc hb.size (.cells #[.int .i64 x, .int .i64 y] 30)).alloc (by simp; omega) (.cells #[.int .i64 x', .int .i64 y'] 30))
          have e3 := (World.cell?_alloc_lt wr (.cells #[.int .i64 x, .int .i64 y] 30) _ hlt1').trans e1
          have e4 := (World.cell?_alloc_lt wr (.cells #[.int .i64 x, .int .i64 y] 30) _ hlt1').trans e2
          go_wp2_with fail
          refine (HK.out _).mono ?_
          rintro e w1 ⟨rfl, hb1⟩
          have HF := Lib.hid (hb3.trans (hb1.mono hb3.size))
          clear hb1 hb3
          go_wp2_with fail
          go_roundw
          case rel => exact ⟨k + 1, by omega, by go_num, HP.out.1 (by simp), HF.out⟩
          case measure => simp [intOf]; omega
      · have hkn : k = n := by omega
        subst hkn
        have ht := HT.out
        rw [List.take_of_length_le (by have := HL.out; omega), List.take_of_length_le (by have := HM.out; omega)] at ht
        have HT := Lib.hid ht
        clear ht
        go_wp2
        go_ret
        exact ⟨by rw [HT.out] <;> rfl, hb⟩
  · have hd : (n == n') = false := by simpa using hnn
    have hd' : ((n : Int) == (n' : Int)) = false := by simp; omega
    have hz : belowL l m = false := belowL_ne (by rw [HL.out, HM.out]; exact hnn)
    rw [hz]
    clear hz
    go_enter Try.func55, Try.ntmps55
    go_wp2
    go_ret
    exact ⟨rfl, Below.refl _ _⟩

set_option maxHeartbeats 4000000 in
theorem spec_tableBelow (A B : Option Addr) (n n' c d lo lo' hi hi' : Nat) (l m : List Sl) (w : World) (hn : n ≤ 1048576) (hn' : n' ≤ 1048576) (hl : l.length = n) (hm : m.length = n') (hh : hi ≤ w.heap.size) (hh' : hi' ≤ w.heap.size)
    (h1 : Lies w lo hi A (scells l)) (h2 : Lies w lo' hi' B (scells m)) :
    Calls Try.prog 28 #[.slice A n c, .slice B n' d] w (OkPost w (belowL l m)) := by
  have H1 := Lib.hid h1
  have H2 := Lib.hid h2
  have HL := Lib.hid hl
  have HM := Lib.hid hm
  clear h1 h2 hl hm
  by_cases hnn : n = n'
  · subst hnn
    go_enter Try.func28, Try.ntmps28
    go_wp2
    go_loopw [5] (fun i wr => ∃ (k : Nat), k ≤ n ∧ i = .int .i64 k ∧ belowL (l.take k) (m.take k) = true ∧ Below w.heap.size w wr) (fun i _ => n - (intOf i).toNat)
    case atStart => exact ⟨0, Nat.zero_le _, rfl, rfl, Below.refl _ _⟩
    case round =>
      obtain ⟨k, hk, rfl, ht, hb⟩ := hrel
      have HT := Lib.hid ht
      clear ht
      by_cases hlt : k < n
      · have hkl : k < l.length := by have := HL.out; omega
        have hkm : k < m.length := by have := HM.out; omega
        obtain ⟨b, off, rfl, _, hbw, c1, c2⟩ := slot_at H1.out k hkl
        obtain ⟨b', off', rfl, _, hbw', c1', c2'⟩ := slot_at H2.out k hkm
        have d1 : wr.cell? ⟨b, off + k * 2, none⟩ = some (.int .i64 l[k].1) := (hb.cell (by show b < _; omega)).trans c1
        have d2 : wr.cell? ⟨b, off + k * 2 + 1, none⟩ = some (.int .i64 l[k].2) := (hb.cell (by show b < _; omega)).trans c2
        have e1 : wr.cell? ⟨b', off' + k * 2, none⟩ = some (.int .i64 m[k].1) := (hb.cell (by show b' < _; omega)).trans c1'
        have e2 : wr.cell? ⟨b', off' + k * 2 + 1, none⟩ = some (.int .i64 m[k].2) := (hb.cell (by show b' < _; omega)).trans c2'
        have hj0 : (0 : Int) ≤ (k : Int) := Int.natCast_nonneg _
        have hj1 : (k : Int) < (n : Int) := by omega
        have hbs := hb.size
        have hne : b ≠ wr.heap.size := by omega
        have hne' : b' ≠ wr.heap.size := by omega
        have hlt1 : b < wr.heap.size := by omega
        have hlt1' : b' < wr.heap.size := by omega
        have hstep := fun z (hz : belowS l[k] m[k] = z) => below_first hkl hkm HT.out hz
        have hstep := hstep _ rfl
        have hK := fun V : World => spec_below l[k].1 l[k].2 m[k].1 m[k].2 V
        clear c1 c2 c1' c2'
        rw [show l[k] = (l[k].1, l[k].2) from rfl, show m[k] = (m[k].1, m[k].2) from rfl] at hstep
        generalize l[k].1 = x at d1 hstep hK
        generalize l[k].2 = y at d2 hstep hK
        generalize m[k].1 = x' at e1 hstep hK
        generalize m[k].2 = y' at e2 hstep hK
        generalize belowS (x, y) (x', y') = z at hstep hK
        have HP := Lib.hid hstep
        have HK := Lib.hid hK
        clear hstep hK
        cases z
        · go_wp2_with fail
          refine Ord.wp_region_ord (fun w' => (w'.cell? ⟨b, off + k * 2, none⟩ = some (.int .i64 x) ∧ w'.cell? ⟨b, off + k * 2 + 1, none⟩ = some (.int .i64 y)) ∧ w'.cell? ⟨b', off' + k * 2, none⟩ = some (.int .i64 x') ∧ w'.cell? ⟨b', off' + k * 2 + 1, none⟩ = some (.int .i64 y')) [(0, true), (1, true), (2, true), (3, true), (4, true), (5, true), (6, true), (7, true), (8, false), (9, true)] (by kernel_rfl) (by kernel_rfl) rfl (by kernel_rfl) (⟨⟨d1, d2⟩, e1, e2⟩) ?_
          simp only [Ord.ordOps, List.getElem?_toArray, List.getElem?_cons_zero, List.getElem?_cons_succ]
          repeat (first
            | (refine Ord.ord_plain (v := ?_) rfl (fun w' hS => ?_) ?_; rotate_left; (focus ((try dsimp only at hS); go_simp; first | done | with_reducible rfl)); simp only [Act.put, List.setIfInBounds_toArray, List.set_cons_zero, List.set_cons_succ])
            | (refine Ord.ord_skip (by rfl) ?_; simp only [Act.put, List.setIfInBounds_toArray, List.set_cons_zero, List.set_cons_succ])
            | (refine Ord.ord_take (v := ?_) (by rfl) (fun w' hS => ?_) ?_; rotate_left; (focus ((try dsimp only at hS); go_simp; first | done | with_reducible rfl)); simp only [Act.put, List.setIfInBounds_toArray, List.set_cons_zero, List.set_cons_succ]))
          refine Ord.ord_call (fun K hK => ?_)
          go_simp
          go_wp2_with fail
          refine (HK.out _).mono ?_
          rintro e w1 ⟨rfl, hb1⟩
          have hq := (show (fun w' => (w'.cell? ⟨b, off + k * 2, none⟩ = some (.int .i64 x) ∧ w'.cell? ⟨b, off + k * 2 + 1, none⟩ = some (.int .i64 y)) ∧ w'.cell? ⟨b', off' + k * 2, none⟩ = some (.int .i64 x') ∧ w'.cell? ⟨b', off' + k * 2 + 1, none⟩ = some (.int .i64 y')) w1 from ⟨⟨(hb1.cell (p := ⟨b, off + k * 2, none⟩) hlt1).trans d1, (hb1.cell (p := ⟨b, off + k * 2 + 1, none⟩) hlt1).trans d2⟩, (hb1.cell (p := ⟨b', off' + k * 2, none⟩) hlt1').trans e1, (hb1.cell (p := ⟨b', off' + k * 2 + 1, none⟩) hlt1').trans e2⟩)
          have HF := Lib.hid (hb.drew.trans (hb1.mono hb.drew.size))
          clear hb1
          refine hK.out _ _ (hq) ?_
          clear hK K
          repeat (first
            | (refine Ord.ord_plain (v := ?_) rfl (fun w' hS => ?_) ?_; rotate_left; (focus ((try dsimp only at hS); go_simp; first | done | with_reducible rfl)); simp only [Act.put, List.setIfInBounds_toArray, List.set_cons_zero, List.set_cons_succ])
            | (refine Ord.ord_skip (by rfl) ?_; simp only [Act.put, List.setIfInBounds_toArray, List.set_cons_zero, List.set_cons_succ])
            | (refine Ord.ord_take (v := ?_) (by rfl) (fun w' hS => ?_) ?_; rotate_left; (focus ((try dsimp only at hS); go_simp; first | done | with_reducible rfl)); simp only [Act.put, List.setIfInBounds_toArray, List.set_cons_zero, List.set_cons_succ]))
          refine Ord.ord_nil ?_
          clear hq
          go_wp2
          go_ret
          exact ⟨by rw [HP.out.2 (by simp)] <;> rfl, HF.out⟩
        · go_wp2_with fail
          refine Ord.wp_region_ord (fun w' => (w'.cell? ⟨b, off + k * 2, none⟩ = some (.int .i64 x) ∧ w'.cell? ⟨b, off + k * 2 + 1, none⟩ = some (.int .i64 y)) ∧ w'.cell? ⟨b', off' + k * 2, none⟩ = some (.int .i64 x') ∧ w'.cell? ⟨b', off' + k * 2 + 1, none⟩ = some (.int .i64 y')) [(0, true), (1, true), (2, true), (3, true), (4, true), (5, true), (6, true), (7, true), (8, false), (9, true)] (by kernel_rfl) (by kernel_rfl) rfl (by kernel_rfl) (⟨⟨d1, d2⟩, e1, e2⟩) ?_
          simp only [Ord.ordOps, List.getElem?_toArray, List.getElem?_cons_zero, List.getElem?_cons_succ]
          repeat (first
            | (refine Ord.ord_plain (v := ?_) rfl (fun w' hS => ?_) ?_; rotate_left; (focus ((try dsimp only at hS); go_simp; first | done | with_reducible rfl)); simp only [Act.put, List.setIfInBounds_toArray, List.set_cons_zero, List.set_cons_succ])
            | (refine Ord.ord_skip (by rfl) ?_; simp only [Act.put, List.setIfInBounds_toArray, List.set_cons_zero, List.set_cons_succ])
            | (refine Ord.ord_take (v := ?_) (by rfl) (fun w' hS => ?_) ?_; rotate_left; (focus ((try dsimp only at hS); go_simp; first | done | with_reducible rfl)); simp only [Act.put, List.setIfInBounds_toArray, List.set_cons_zero, List.set_cons_succ]))
          refine Ord.ord_call (fun K hK => ?_)
          go_simp
          go_wp2_with fail
          refine (HK.out _).mono ?_
          rintro e w1 ⟨rfl, hb1⟩
          have hq := (show (fun w' => (w'.cell? ⟨b, off + k * 2, none⟩ = some (.int .i64 x) ∧ w'.cell? ⟨b, off + k * 2 + 1, none⟩ = some (.int .i64 y)) ∧ w'.cell? ⟨b', off' + k * 2, none⟩ = some (.int .i64 x') ∧ w'.cell? ⟨b', off' + k * 2 + 1, none⟩ = some (.int .i64 y')) w1 from ⟨⟨(hb1.cell (p := ⟨b, off + k * 2, none⟩) hlt1).trans d1, (hb1.cell (p := ⟨b, off + k * 2 + 1, none⟩) hlt1).trans d2⟩, (hb1.cell (p := ⟨b', off' + k * 2, none⟩) hlt1').trans e1, (hb1.cell (p := ⟨b', off' + k * 2 + 1, none⟩) hlt1').trans e2⟩)
          have HF := Lib.hid (hb.drew.trans (hb1.mono hb.drew.size))
          clear hb1
          refine hK.out _ _ (hq) ?_
          clear hK K
          repeat (first
            | (refine Ord.ord_plain (v := ?_) rfl (fun w' hS => ?_) ?_; rotate_left; (focus ((try dsimp only at hS); go_simp; first | done | with_reducible rfl)); simp only [Act.put, List.setIfInBounds_toArray, List.set_cons_zero, List.set_cons_succ])
            | (refine Ord.ord_skip (by rfl) ?_; simp only [Act.put, List.setIfInBounds_toArray, List.set_cons_zero, List.set_cons_succ])
            | (refine Ord.ord_take (v := ?_) (by rfl) (fun w' hS => ?_) ?_; rotate_left; (focus ((try dsimp only at hS); go_simp; first | done | with_reducible rfl)); simp only [Act.put, List.setIfInBounds_toArray, List.set_cons_zero, List.set_cons_succ]))
          refine Ord.ord_nil ?_
          clear hq
          go_wp2_with fail
          go_roundw
          case rel => exact ⟨k + 1, by omega, by go_num, HP.out.1 (by simp), HF.out⟩
          case measure => simp [intOf]; omega
      · have hkn : k = n := by omega
        subst hkn
        have ht := HT.out
        rw [List.take_of_length_le (by have := HL.out; omega), List.take_of_length_le (by have := HM.out; omega)] at ht
        have HT := Lib.hid ht
        clear ht
        go_wp2
        go_ret
        exact ⟨by rw [HT.out] <;> rfl, hb⟩
  · have hd : (n == n') = false := by simpa using hnn
    have hd' : ((n : Int) == (n' : Int)) = false := by simp; omega
    have hz : belowL l m = false := belowL_ne (by rw [HL.out, HM.out]; exact hnn)
    rw [hz]
    clear hz
    go_enter Try.func28, Try.ntmps28
    go_wp2
    go_ret
    exact ⟨rfl, Below.refl _ _⟩

theorem impl_tableBelow (A B : Option Addr) (n n' c d lo lo' hi hi' : Nat) (l m : List Sl) (w : World) (hn : n ≤ 1048576) (hn' : n' ≤ 1048576) (hl : l.length = n) (hm : m.length = n') (hh : hi ≤ w.heap.size) (hh' : hi' ≤ w.heap.size) (wl : wfL l) (wm : wfL m)
    (h1 : Lies w lo hi A (scells l)) (h2 : Lies w lo' hi' B (scells m)) :
    Calls Try.prog 27 #[.slice A n c, .slice B n' d] w (OkPost w (belowL l m)) := by
  have HK := Lib.hid (fun V (hV : V = w) => lib_equalF A B n n' c d lo lo' hi hi' l m V hn hn' hl hm (hV ▸ hh) (hV ▸ hh') wl wm (hV ▸ h1) (hV ▸ h2))
  clear h1 h2 hl hm wl wm
  go_enter Try.func27, Try.ntmps27
  go_wp2_with fail
  refine (HK.out _ rfl).mono ?_
  rintro e w1 ⟨rfl, hb⟩
  go_wp2_with fail
  go_ret
  exact ⟨rfl, hb⟩
end Go.Proofs.Ytecnkcmhgnbdmaa.Slots
