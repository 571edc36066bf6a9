/-
  Composition of page tables: ComposeSlot of the project; ComposeSlot, Compose and Restrict of the given model. No condition beyond a table's length and its numbers being of an int's range.
-/
import Derived.Test.YtfgckkgakghenaaTwoImpl
namespace Go.Proofs.Ytfgckkgakghenaa.Slots
set_option maxRecDepth 100000
open Go.ChangeShapes Go.WideShapes Go.ChangeAt Go.RowKit
open Go.Proofs.Ytfgckkgakghenaa.Base Go.Proofs.Ytfgckkgakghenaa.Mem Go.Proofs.Ytfgckkgakghenaa.Ints
set_option linter.unusedVariables false

set_option maxHeartbeats 2000000 in
theorem impl_compSlot (B : Option Addr) (n' d : Nat) (p r : Int) (o : List Sl) (w : World) (hn' : n' ≤ 1048576) (ho : o.length = n') (hr : (Lit.int .i64 r).wf = true) (wo : wfL o)
    (h2 : Lies w 0 w.heap.size B (scells o)) :
    Calls Try.prog 95 #[.agg #[.int .i64 p, .int .i64 r], .slice B n' d] w (AtPost w (compS (p, r) o)) := by
  obtain ⟨t1, t2, hb2⟩ := two_two w (.int .i64 p) (.int .i64 r) (.int .i64 0) (.int .i64 0) 36 36
  have hv : ∀ (q : Nat) (V : World), MapAt V q o → Calls Try.prog 102 #[.agg #[.int .i64 p, .int .i64 r], mapF q] V (AtPost V (compS (p, r) o)) := fun q V h => impl_trans p r q o V hr wo h
  generalize compS (p, r) o = s at hv ⊢
  obtain ⟨x', y'⟩ := s
  have HV := Lib.hid hv
  have HO := Lib.hid ho
  have H2 := Lib.hid h2
  clear hv ho hr wo h2
  go_enter Try.func95, Try.ntmps95
  go_wp2_with fail
  generalize (w.alloc (.cells #[.int .i64 p, .int .i64 r] 36)).alloc (.cells #[.int .i64 0, .int .i64 0] 36) = W2 at t1 t2 hb2 ⊢
  obtain ⟨p0, p1, _, _, hpl⟩ := t1
  refine Ord.wp_region_ord (fun w' => w'.cell? ⟨w.heap.size, 0, none⟩ = some (.int .i64 p) ∧ w'.cell? ⟨w.heap.size, 1, none⟩ = some (.int .i64 r)) [(0, true), (1, true), (2, false), (3, false), (4, false)] (by kernel_rfl) (by kernel_rfl) rfl (by kernel_rfl) (⟨p0, p1⟩) ?_
  simp only [Ord.ordOps, List.getElem?_toArray, List.getElem?_cons_zero, List.getElem?_cons_succ]
  repeat (first
    | (refine Ord.ord_plain (v := ?_) rfl (fun w' hS => ?_) ?_; rotate_left; (focus ((try dsimp only at hS); go_simp; first | done | with_reducible rfl)); simp only [Act.put, List.setIfInBounds_toArray, List.set_cons_zero, List.set_cons_succ])
    | (refine Ord.ord_skip (by rfl) ?_; simp only [Act.put, List.setIfInBounds_toArray, List.set_cons_zero, List.set_cons_succ])
    | (refine Ord.ord_take (v := ?_) (by rfl) (fun w' hS => ?_) ?_; rotate_left; (focus ((try dsimp only at hS); go_simp; first | done | with_reducible rfl)); simp only [Act.put, List.setIfInBounds_toArray, List.set_cons_zero, List.set_cons_succ]))
  refine Ord.ord_call (fun K hK => ?_)
  go_simp
  go_wp2_with fail
  refine (impl_mapping B n' d o _ hn' HO.out ((H2.out.below hb2.drew (Nat.le_refl _)).wide (Nat.le_refl _) hb2.drew.size)).mono ?_
  rintro e w1 ⟨q1, rfl, hm1, hb1⟩
  have c0 := (hb1.cell (p := ⟨w.heap.size, 0, none⟩) hpl).trans p0
  have c1 := (hb1.cell (p := ⟨w.heap.size, 1, none⟩) hpl).trans p1
  have t3 := t2.drew.below hb1
  have hB1 := btr hb2.drew hb1
  clear hb1 hb2
  refine hK.out _ _ (⟨c0, c1⟩) ?_
  clear hK K
  repeat (first
    | (refine Ord.ord_plain (v := ?_) rfl (fun w' hS => ?_) ?_; rotate_left; (focus ((try dsimp only at hS); go_simp; first | done | with_reducible rfl)); simp only [Act.put, List.setIfInBounds_toArray, List.set_cons_zero, List.set_cons_succ])
    | (refine Ord.ord_skip (by rfl) ?_; simp only [Act.put, List.setIfInBounds_toArray, List.set_cons_zero, List.set_cons_succ])
    | (refine Ord.ord_take (v := ?_) (by rfl) (fun w' hS => ?_) ?_; rotate_left; (focus ((try dsimp only at hS); go_simp; first | done | with_reducible rfl)); simp only [Act.put, List.setIfInBounds_toArray, List.set_cons_zero, List.set_cons_succ]))
  refine Ord.ord_call (fun K hK => ?_)
  go_simp
  go_wp2_with fail
  refine (HV.out q1 _ hm1).mono ?_
  rintro e w5 ⟨rfl, hb5⟩
  obtain ⟨j0, j1, f0, f1, hjl⟩ := t3.below hb5
  have q0 := (hb5.cell (p := ⟨w.heap.size, 0, none⟩) (World.block_lt_of_cell? w1 _ c0)).trans c0
  have q1 := (hb5.cell (p := ⟨w.heap.size, 1, none⟩) (World.block_lt_of_cell? w1 _ c1)).trans c1
  have HB := Lib.hid (btr hB1 hb5)
  clear hb5 hB1 t3 hm1 c0 c1
  refine hK.out _ _ (⟨q0, q1⟩) ?_
  clear hK K
  repeat (first
    | (refine Ord.ord_plain (v := ?_) rfl (fun w' hS => ?_) ?_; rotate_left; (focus ((try dsimp only at hS); go_simp; first | done | with_reducible rfl)); simp only [Act.put, List.setIfInBounds_toArray, List.set_cons_zero, List.set_cons_succ])
    | (refine Ord.ord_skip (by rfl) ?_; simp only [Act.put, List.setIfInBounds_toArray, List.set_cons_zero, List.set_cons_succ])
    | (refine Ord.ord_take (v := ?_) (by rfl) (fun w' hS => ?_) ?_; rotate_left; (focus ((try dsimp only at hS); go_simp; first | done | with_reducible rfl)); simp only [Act.put, List.setIfInBounds_toArray, List.set_cons_zero, List.set_cons_succ]))
  refine Ord.ord_call (fun K hK => ?_)
  go_simp
  refine hK.out _ _ (⟨keep_set q0 (by omega), keep_set q1 (by omega)⟩) ?_
  clear hK K
  refine Ord.ord_nil ?_
  go_wp2
  exact bodyPost_ret (v := .agg #[.int .i64 x', .int .i64 y']) (by simp [results, Try.results95, go_sem, j0, j1]) rfl ⟨rfl, set_two HB.out (by omega) _ _⟩

/-- The three ways of a composed slot. -/
theorem compS_cases (p r : Int) (o : List Sl) : (p = -1 ∧ compS (p, r) o = (-1, 0)) ∨ (p ≠ -1 ∧ (atS o p).1 = -1 ∧ compS (p, r) o = (-1, 0)) ∨
    (p ≠ -1 ∧ (atS o p).1 ≠ -1 ∧ Rights.both r (atS o p).2 = 0 ∧ compS (p, r) o = (-1, 0)) ∨ (p ≠ -1 ∧ (atS o p).1 ≠ -1 ∧ Rights.both r (atS o p).2 ≠ 0 ∧ compS (p, r) o = ((atS o p).1, Rights.both r (atS o p).2)) := by
  by_cases h0 : p = -1
  · subst h0
    exact .inl ⟨rfl, by unfold compS; rw [show atS o (-1) = (-1, 0) from atS_out (by omega)]; rfl⟩
  · by_cases h1 : (atS o p).1 = -1
    · exact .inr (.inl ⟨h0, h1, by unfold compS; rw [if_pos h1]⟩)
    · by_cases h2 : Rights.both r (atS o p).2 = 0
      · exact .inr (.inr (.inl ⟨h0, h1, h2, by unfold compS; rw [if_neg h1, h2]; rfl⟩))
      · exact .inr (.inr (.inr ⟨h0, h1, h2, by unfold compS; rw [if_neg h1]; exact grantS_no h2⟩))

set_option maxHeartbeats 2000000 in
theorem spec_compSlot (B : Option Addr) (n' d : Nat) (p r : Int) (o : List Sl) (w : World) (hn' : n' ≤ 1048576) (ho : o.length = n')
    (h2 : Lies w 0 w.heap.size B (scells o)) :
    Calls Try.prog 38 #[.agg #[.int .i64 p, .int .i64 r], .slice B n' d] w (AtPost w (compS (p, r) o)) := by
  obtain ⟨t1, t2, hb2⟩ := two_two w (.int .i64 p) (.int .i64 r) (.int .i64 0) (.int .i64 0) 36 36
  have hK := spec_at B n' d 0 p o ((w.alloc (.cells #[.int .i64 p, .int .i64 r] 36)).alloc (.cells #[.int .i64 0, .int .i64 0] 36)) hn' ho ((h2.below hb2 (Nat.le_refl _)).wide (Nat.le_refl _) hb2.size)
  clear h2 ho
  have hcs := compS_cases p r o
  generalize compS (p, r) o = z at hcs ⊢
  generalize atS o p = s at hK hcs
  obtain ⟨x, y⟩ := s
  dsimp only at hcs
  have hB := fun V : World => Rights.spec_both r y V
  generalize Rights.both r y = v at hB hcs
  have HB := Lib.hid hB
  have HK := Lib.hid hK
  clear hB hK
  rcases hcs with ⟨rfl, rfl⟩ | ⟨h0, rfl, rfl⟩ | ⟨h0, h1, rfl, rfl⟩ | ⟨h0, h1, h2, rfl⟩
  · skip
    go_enter Try.func38, Try.ntmps38
    go_wp2_with fail
    generalize (w.alloc (.cells #[.int .i64 (-1), .int .i64 r] 36)).alloc (.cells #[.int .i64 0, .int .i64 0] 36) = W2 at t1 t2 hb2 HK ⊢
    refine (HK.out).mono ?_
    rintro e w1 ⟨rfl, hb1⟩
    have hB1 := Lib.hid ((btr hb2 hb1).alloc (btr hb2 hb1).size (.cells #[.int .i64 x, .int .i64 y] 36))
    have hs1 := (btr hb2 hb1).size
    obtain ⟨p0, p1, _, _, hpl⟩ := (t1.below hb1).alloc (.cells #[.int .i64 x, .int .i64 y] 36)
    have t2' := Lib.hid ((t2.below hb1).alloc (.cells #[.int .i64 x, .int .i64 y] 36))
    obtain ⟨x0, x1, _, _, hxl⟩ := Two.new w1 (.int .i64 x) (.int .i64 y) 36
    have hsz2 : W2.heap.size ≤ w1.heap.size := hb1.size
    have hlt2 := t2.2.2.2.2
    clear t1 t2 hb1 hb2
    go_wp2_with fail
    refine (HB.out _).mono ?_
    rintro e w' ⟨rfl, rfl⟩
    go_wp2_with fail
    refine (spec_no _).mono ?_
    rintro e w4 ⟨rfl, hb4⟩
    obtain ⟨j0, j1, f0, f1, hjl⟩ := t2'.out.below hb4
    have HB4 := Lib.hid (btr hB1.out hb4)
    clear hb4
    go_wp2
    exact bodyPost_ret (v := .agg #[.int .i64 (-1), .int .i64 0]) (by simp [results, Try.results38, go_sem, j0, j1]) rfl ⟨rfl, set_two HB4.out (by omega) _ _⟩
  · have h0' : (p == -1) = false := by simpa using h0
    clear h0
    go_enter Try.func38, Try.ntmps38
    go_wp2_with fail
    generalize (w.alloc (.cells #[.int .i64 p, .int .i64 r] 36)).alloc (.cells #[.int .i64 0, .int .i64 0] 36) = W2 at t1 t2 hb2 HK ⊢
    refine (HK.out).mono ?_
    rintro e w1 ⟨rfl, hb1⟩
    have hB1 := Lib.hid ((btr hb2 hb1).alloc (btr hb2 hb1).size (.cells #[.int .i64 (-1), .int .i64 y] 36))
    have hs1 := (btr hb2 hb1).size
    obtain ⟨p0, p1, _, _, hpl⟩ := (t1.below hb1).alloc (.cells #[.int .i64 (-1), .int .i64 y] 36)
    have t2' := Lib.hid ((t2.below hb1).alloc (.cells #[.int .i64 (-1), .int .i64 y] 36))
    obtain ⟨x0, x1, _, _, hxl⟩ := Two.new w1 (.int .i64 (-1)) (.int .i64 y) 36
    have hsz2 : W2.heap.size ≤ w1.heap.size := hb1.size
    have hlt2 := t2.2.2.2.2
    clear t1 t2 hb1 hb2
    go_wp2_with fail
    refine (HB.out _).mono ?_
    rintro e w' ⟨rfl, rfl⟩
    go_wp2_with fail
    refine (spec_no _).mono ?_
    rintro e w4 ⟨rfl, hb4⟩
    obtain ⟨j0, j1, f0, f1, hjl⟩ := t2'.out.below hb4
    have HB4 := Lib.hid (btr hB1.out hb4)
    clear hb4
    go_wp2
    exact bodyPost_ret (v := .agg #[.int .i64 (-1), .int .i64 0]) (by simp [results, Try.results38, go_sem, j0, j1]) rfl ⟨rfl, set_two HB4.out (by omega) _ _⟩
  · have h0' : (p == -1) = false := by simpa using h0
    have h1' : (x == -1) = false := by simpa using h1
    clear h0 h1
    go_enter Try.func38, Try.ntmps38
    go_wp2_with fail
    generalize (w.alloc (.cells #[.int .i64 p, .int .i64 r] 36)).alloc (.cells #[.int .i64 0, .int .i64 0] 36) = W2 at t1 t2 hb2 HK ⊢
    refine (HK.out).mono ?_
    rintro e w1 ⟨rfl, hb1⟩
    have hB1 := Lib.hid ((btr hb2 hb1).alloc (btr hb2 hb1).size (.cells #[.int .i64 x, .int .i64 y] 36))
    have hs1 := (btr hb2 hb1).size
    obtain ⟨p0, p1, _, _, hpl⟩ := (t1.below hb1).alloc (.cells #[.int .i64 x, .int .i64 y] 36)
    have t2' := Lib.hid ((t2.below hb1).alloc (.cells #[.int .i64 x, .int .i64 y] 36))
    obtain ⟨x0, x1, _, _, hxl⟩ := Two.new w1 (.int .i64 x) (.int .i64 y) 36
    have hsz2 : W2.heap.size ≤ w1.heap.size := hb1.size
    have hlt2 := t2.2.2.2.2
    clear t1 t2 hb1 hb2
    go_wp2_with fail
    refine (HB.out _).mono ?_
    rintro e w' ⟨rfl, rfl⟩
    go_wp2_with fail
    refine (spec_no _).mono ?_
    rintro e w4 ⟨rfl, hb4⟩
    obtain ⟨j0, j1, f0, f1, hjl⟩ := t2'.out.below hb4
    have HB4 := Lib.hid (btr hB1.out hb4)
    clear hb4
    go_wp2
    exact bodyPost_ret (v := .agg #[.int .i64 (-1), .int .i64 0]) (by simp [results, Try.results38, go_sem, j0, j1]) rfl ⟨rfl, set_two HB4.out (by omega) _ _⟩
  · have h0' : (p == -1) = false := by simpa using h0
    have h1' : (x == -1) = false := by simpa using h1
    have h2' : (v == 0) = false := by simpa using h2
    clear h0 h1 h2
    go_enter Try.func38, Try.ntmps38
    go_wp2_with fail
    generalize (w.alloc (.cells #[.int .i64 p, .int .i64 r] 36)).alloc (.cells #[.int .i64 0, .int .i64 0] 36) = W2 at t1 t2 hb2 HK ⊢
    refine (HK.out).mono ?_
    rintro e w1 ⟨rfl, hb1⟩
    have hB1 := Lib.hid ((btr hb2 hb1).alloc (btr hb2 hb1).size (.cells #[.int .i64 x, .int .i64 y] 36))
    have hs1 := (btr hb2 hb1).size
    obtain ⟨p0, p1, _, _, hpl⟩ := (t1.below hb1).alloc (.cells #[.int .i64 x, .int .i64 y] 36)
    have t2' := Lib.hid ((t2.below hb1).alloc (.cells #[.int .i64 x, .int .i64 y] 36))
    obtain ⟨x0, x1, _, _, hxl⟩ := Two.new w1 (.int .i64 x) (.int .i64 y) 36
    have hsz2 : W2.heap.size ≤ w1.heap.size := hb1.size
    have hlt2 := t2.2.2.2.2
    clear t1 t2 hb1 hb2
    go_wp2_with fail
    refine (HB.out _).mono ?_
    rintro e w' ⟨rfl, rfl⟩
    obtain ⟨j0, j1, f0, f1, hjl⟩ := t2'.out
    go_wp2
    exact bodyPost_ret (v := .agg #[.int .i64 x, .int .i64 v]) (by simp [results, Try.results38, go_sem, j0, j1]) rfl ⟨rfl, set_two hB1.out (by omega) _ _⟩

theorem row_cap {w : World} {base size g n cap : Nat} {e : TypeId} {cs : List Value} (h : w.ownsRow base e size (.slice (some ⟨g, 0, none⟩) n cap) n cs) : n ≤ cap := by
  rcases h.2 with ⟨h', _⟩ | ⟨g', cap', cur, h', _, _, hnc, _⟩
  · cases h'
  · injection h' with _ _ h3
    omega

end Go.Proofs.Ytfgckkgakghenaa.Slots
