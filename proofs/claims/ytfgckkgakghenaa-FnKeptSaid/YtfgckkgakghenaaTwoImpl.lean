/-
  Composition of page tables: the project's functions of chapter 5. No condition beyond a table's length and its numbers being of an int's range.
-/
import Derived.Test.YtfgckkgakghenaaTabA
import Derived.Test.YtfgckkgakghenaaTwoMath
import Derived.Test.YtfgckkgakghenaaRights
import Derived.Test.YtfgckkgakghenaaOrd
namespace Go.Proofs.Ytfgckkgakghenaa.Slots
set_option maxRecDepth 100000
open Go.ChangeShapes Go.WideShapes Go.ChangeAt Go.RowKit
open Go.Proofs.Ytfgckkgakghenaa.Base Go.Proofs.Ytfgckkgakghenaa.Mem Go.Proofs.Ytfgckkgakghenaa.Ints
set_option linter.unusedVariables false

/-- A variable at q holds a table. -/
def MapAt (W : World) (q : Nat) (l : List Sl) : Prop := ∃ A n c, W.cell? ⟨q, 0, none⟩ = some (.slice A n c) ∧ l.length = n ∧ n ≤ 1048576 ∧ Lies W 0 W.heap.size A (scells l)
def mapF (q : Nat) : Value := .func (.func 103) #[] #[.pointer (some ⟨q, 0, none⟩)]
/-- A variable at p holds the mapping of a table. -/
def FunAt (W : World) (p : Nat) (l : List Sl) : Prop := ∃ q, W.cell? ⟨p, 0, none⟩ = some (mapF q) ∧ MapAt W q l
theorem MapAt.below {W W' : World} {q : Nat} {l : List Sl} (h : MapAt W q l) (hb : Below W.heap.size W W') : MapAt W' q l := by
  obtain ⟨A, n, c, h1, h2, h3, h4⟩ := h
  exact ⟨A, n, c, (hb.cell (p := ⟨q, 0, none⟩) (World.block_lt_of_cell? W _ h1)).trans h1, h2, h3, (h4.below hb (Nat.le_refl _)).wide (Nat.le_refl _) hb.size⟩
theorem FunAt.ne {W : World} {p : Nat} {l : List Sl} (h : FunAt W p l) : p ≠ W.heap.size := by
  obtain ⟨q, h1, _⟩ := h
  have := World.block_lt_of_cell? W _ h1
  simp at this
  omega
theorem FunAt.below {W W' : World} {p : Nat} {l : List Sl} (h : FunAt W p l) (hb : Below W.heap.size W W') : FunAt W' p l := by
  obtain ⟨q, h1, h2⟩ := h
  exact ⟨q, (hb.cell (p := ⟨p, 0, none⟩) (World.block_lt_of_cell? W _ h1)).trans h1, h2.below hb⟩

set_option maxHeartbeats 1000000 in
theorem impl_granted (p r : Int) (w : World) : Calls Try.prog 107 #[.int .i64 p, .int .i64 r] w (AtPost w (grantS p r)) := by
  by_cases h : r = 0
  · subst h
    rw [grantS_0]
    go_enter Try.func107, Try.ntmps107
    go_wp2_with (go_at_call 68; refine (impl_no _).mono ?_; rintro e w1 ⟨rfl, hb1⟩; obtain ⟨j0, j1, f0, f1, hbw⟩ := two_kept hb1; have HB := Lib.hid hbw; clear hb1 hbw)
    exact bodyPost_ret (v := .agg #[.int .i64 (-1), .int .i64 0]) (by simp [results, Try.results107, go_sem, j0, j1]) rfl ⟨rfl, (HB.out.setCell (p := ⟨w.heap.size, 0, none⟩) (Nat.le_refl _) _).setCell (p := ⟨w.heap.size, 1, none⟩) (Nat.le_refl _) _⟩
  · have h' : (r == 0) = false := by simpa using h
    rw [grantS_no h]
    clear h
    go_enter Try.func107, Try.ntmps107
    go_wp2
    exact bodyPost_ret (v := .agg #[.int .i64 p, .int .i64 r]) (by simp [results, Try.results107, go_sem]) rfl ⟨rfl, (Below.refl _ _).alloc (Nat.le_refl _) _⟩

set_option maxHeartbeats 1000000 in
theorem impl_map1 (q : Nat) (page : Int) (l : List Sl) (w : World) (h : MapAt w q l) :
    Calls Try.prog 103 #[.int .i64 page, .pointer (some ⟨q, 0, none⟩)] w (AtPost w (atS l page)) := by
  obtain ⟨A, n, c, hq, hl, hn, h1⟩ := h
  have hqn : q ≠ w.heap.size := by have := World.block_lt_of_cell? w _ hq; simp at this; omega
  have hK := impl_at A n c 0 page l (w.alloc (.cells #[.int .i64 0, .int .i64 0] 36)) hn hl ((h1.below ((Below.refl _ _).alloc (Nat.le_refl _) _) (Nat.le_refl _)).wide (Nat.le_refl _) (by simp))
  have hq1 : (w.alloc (.cells #[.int .i64 0, .int .i64 0] 36)).cell? ⟨q, 0, none⟩ = some (.slice A n c) := (World.cell?_alloc_lt _ _ _ (World.block_lt_of_cell? w _ hq)).trans hq
  generalize atS l page = s at hK ⊢
  obtain ⟨x, y⟩ := s
  have HK := Lib.hid hK
  clear hK h1 hl hq
  go_enter Try.func103, Try.ntmps103
  go_wp2_with (go_at_call 104; refine (HK.out).mono ?_; rintro e w1 ⟨rfl, hb1⟩; obtain ⟨j0, j1, f0, f1, hbw⟩ := two_kept hb1; have HB := Lib.hid hbw; clear hb1 hbw)
  exact bodyPost_ret (v := .agg #[.int .i64 x, .int .i64 y]) (by simp [results, Try.results103, go_sem, j0, j1]) rfl ⟨rfl, (HB.out.setCell (p := ⟨w.heap.size, 0, none⟩) (Nat.le_refl _) _).setCell (p := ⟨w.heap.size, 1, none⟩) (Nat.le_refl _) _⟩

set_option maxHeartbeats 1000000 in
theorem impl_mapping (A : Option Addr) (n c : Nat) (l : List Sl) (w : World) (hn : n ≤ 1048576) (hl : l.length = n) (h1 : Lies w 0 w.heap.size A (scells l)) :
    Calls Try.prog 80 #[.slice A n c] w fun e w' => ∃ q, e = .returned (mapF q) ∧ MapAt w' q l ∧ Below w.heap.size w w' := by
  have HE := Lib.hid (show ∃ q, Ending.returned (mapF w.heap.size) = .returned (mapF q) ∧ MapAt (w.alloc (.cells #[.slice A n c] 25)) q l ∧ Below w.heap.size w (w.alloc (.cells #[.slice A n c] 25)) from
    ⟨_, rfl, ⟨A, n, c, cell_of_row _ _ 0 _ _ _ (heap_alloc_new w _), hl, hn, (h1.below ((Below.refl _ _).alloc (Nat.le_refl _) _) (Nat.le_refl _)).wide (Nat.le_refl _) (by simp)⟩, (Below.refl _ _).alloc (Nat.le_refl _) _⟩)
  clear h1 hl
  go_enter Try.func80, Try.ntmps80
  go_wp2
  go_ret
  exact HE.out

/-- Two cells at b that may be written. -/
def Two (W : World) (b : Nat) (u v : Value) : Prop :=
  W.cell? ⟨b, 0, none⟩ = some u ∧ W.cell? ⟨b, 1, none⟩ = some v ∧ W.frozen? ⟨b, 0, none⟩ = false ∧ W.frozen? ⟨b, 1, none⟩ = false ∧ b < W.heap.size
theorem Two.new (w : World) (u v : Value) (T : TypeId) : Two (w.alloc (.cells #[u, v] T)) w.heap.size u v :=
  ⟨cell_of_row _ _ 0 _ _ _ (heap_alloc_new w _), cell_of_row _ _ 1 _ _ _ (heap_alloc_new w _), frozen_of_row _ _ _ _ _ (heap_alloc_new w _), frozen_of_row _ _ _ _ _ (heap_alloc_new w _), by simp⟩
theorem Two.below {W W' : World} {b : Nat} {u v : Value} (h : Two W b u v) (hb : Below W.heap.size W W') : Two W' b u v :=
  ⟨(hb.cell (p := ⟨b, 0, none⟩) h.2.2.2.2).trans h.1, (hb.cell (p := ⟨b, 1, none⟩) h.2.2.2.2).trans h.2.1, (hb.frozen (p := ⟨b, 0, none⟩) h.2.2.2.2).trans h.2.2.1, (hb.frozen (p := ⟨b, 1, none⟩) h.2.2.2.2).trans h.2.2.2.1, Nat.lt_of_lt_of_le h.2.2.2.2 hb.size⟩
theorem Two.drew {W : World} {b : Nat} {u v : Value} (h : Two W b u v) : Two W.drew b u v := h
theorem Two.alloc {W : World} {b : Nat} {u v : Value} (h : Two W b u v) (o : Obj) : Two (W.alloc o) b u v := h.below ((Below.refl _ _).alloc (Nat.le_refl _) _)
theorem two_two (w : World) (u v u' v' : Value) (T T' : TypeId) : Two ((w.alloc (.cells #[u, v] T)).alloc (.cells #[u', v'] T')) w.heap.size u v ∧ Two ((w.alloc (.cells #[u, v] T)).alloc (.cells #[u', v'] T')) (w.heap.size + 1) u' v' ∧
    Below w.heap.size w ((w.alloc (.cells #[u, v] T)).alloc (.cells #[u', v'] T')) := by
  refine ⟨(Two.new w u v T).alloc _, ?_, ((Below.refl _ _).alloc (Nat.le_refl _) _).alloc (by simp) _⟩
  have := Two.new (w.alloc (.cells #[u, v] T)) u' v' T'
  simpa using this
theorem set_two {B : Nat} {a w : World} {b : Nat} (h : Below B a w) (hb : B ≤ b) (u v : Value) : Below B a ((w.setCell ⟨b, 0, none⟩ u).setCell ⟨b, 1, none⟩ v) :=
  (h.setCell (p := ⟨b, 0, none⟩) hb u).setCell (p := ⟨b, 1, none⟩) hb v

theorem keep_set {w : World} {b c i : Nat} {u v x : Value} (h : w.cell? ⟨c, i, none⟩ = some x) (hne : c ≠ b) : ((w.setCell ⟨b, 0, none⟩ u).setCell ⟨b, 1, none⟩ v).cell? ⟨c, i, none⟩ = some x := by
  rw [World.cell?_setCell_other _ _ _ v (by intro e; injection e; omega), World.cell?_setCell_other _ _ _ u (by intro e; injection e; omega)]
  exact h

set_option maxHeartbeats 2000000 in
theorem impl_trans (p r : Int) (q : Nat) (o : List Sl) (w : World) (hr : (Lit.int .i64 r).wf = true) (hw : wfL o) (h : MapAt w q o) :
    Calls Try.prog 102 #[.agg #[.int .i64 p, .int .i64 r], mapF q] w (AtPost w (compS (p, r) o)) := by
  have hv : compS (p, r) o = if (atS o p).1 = -1 then (-1, 0) else grantS (atS o p).1 (Rights.both r (atS o p).2) := rfl
  have hwx := (wf_atS hw p).2
  have hK := fun (W : World) (hb : Below w.heap.size w W) => impl_map1 q p o W (h.below hb)
  rw [hv]
  clear hv
  generalize atS o p = s at hK hwx ⊢
  obtain ⟨x, y⟩ := s
  have HK := Lib.hid hK
  have HX := Lib.hid hwx
  have HR := Lib.hid hr
  clear hK hwx h hw hr
  obtain ⟨t1, t2, hb2⟩ := two_two w (.int .i64 p) (.int .i64 r) (.int .i64 0) (.int .i64 0) 36 36
  unfold mapF
  by_cases hx : x = -1
  · subst hx
    rw [if_pos rfl]
    go_enter Try.func102, Try.ntmps102
    go_wp2_with fail
    generalize (w.alloc (.cells #[.int .i64 p, .int .i64 r] 36)).alloc (.cells #[.int .i64 0, .int .i64 0] 36) = W2 at t1 t2 hb2 ⊢
    refine (HK.out _ hb2).mono ?_
    rintro e w1 ⟨rfl, hb1⟩
    have hB1 := Lib.hid ((btr hb2 hb1).alloc (btr hb2 hb1).size (.cells #[.int .i64 (-1), .int .i64 y] 36))
    have hs1 := (btr hb2 hb1).size
    obtain ⟨p0, p1, _, _, hpl⟩ := (t1.below hb1).alloc (.cells #[.int .i64 (-1), .int .i64 y] 36)
    have t2' := Lib.hid ((t2.below hb1).alloc (.cells #[.int .i64 (-1), .int .i64 y] 36))
    obtain ⟨x0, x1, _, _, hxl⟩ := Two.new w1 (.int .i64 (-1)) (.int .i64 y) 36
    have hsz2 : W2.heap.size ≤ w1.heap.size := hb1.size
    have hlt2 := t2.2.2.2.2
    clear t1 t2 hb1 hb2
    go_wp2_with fail
    refine (impl_no _).mono ?_
    rintro e w4 ⟨rfl, hb4⟩
    obtain ⟨j0, j1, f0, f1, hjl⟩ := t2'.out.below hb4
    have HB := Lib.hid (btr hB1.out hb4)
    clear hb4
    go_wp2
    exact bodyPost_ret (v := .agg #[.int .i64 (-1), .int .i64 0]) (by simp [results, Try.results102, go_sem, j0, j1]) rfl ⟨rfl, set_two HB.out (by omega) _ _⟩
  · have hx' : (x == -1) = false := by simpa using hx
    rw [if_neg hx]
    dsimp only
    have hG := fun V : World => impl_granted x (Rights.both r y) V
    generalize grantS x (Rights.both r y) = s at hG ⊢
    obtain ⟨x', y'⟩ := s
    have HG := Lib.hid hG
    clear hG hx
    go_enter Try.func102, Try.ntmps102
    go_wp2_with fail
    generalize (w.alloc (.cells #[.int .i64 p, .int .i64 r] 36)).alloc (.cells #[.int .i64 0, .int .i64 0] 36) = W2 at t1 t2 hb2 ⊢
    refine (HK.out _ hb2).mono ?_
    rintro e w1 ⟨rfl, hb1⟩
    have hB1 := Lib.hid ((btr hb2 hb1).alloc (btr hb2 hb1).size (.cells #[.int .i64 x, .int .i64 y] 36))
    have hs1 := (btr hb2 hb1).size
    obtain ⟨p0, p1, _, _, hpl⟩ := (t1.below hb1).alloc (.cells #[.int .i64 x, .int .i64 y] 36)
    have t2' := Lib.hid ((t2.below hb1).alloc (.cells #[.int .i64 x, .int .i64 y] 36))
    obtain ⟨x0, x1, _, _, hxl⟩ := Two.new w1 (.int .i64 x) (.int .i64 y) 36
    have hsz2 : W2.heap.size ≤ w1.heap.size := hb1.size
    have hlt2 := t2.2.2.2.2
    clear t1 t2 hb1 hb2
    go_wp2_with fail
    generalize w1.alloc (.cells #[.int .i64 x, .int .i64 y] 36) = W3 at hB1 p0 p1 hpl t2' x0 x1 hxl ⊢
    refine Ord.wp_region_ord (fun w' => w'.cell? ⟨w1.heap.size, 0, none⟩ = some (.int .i64 x) ∧ w'.cell? ⟨w1.heap.size, 1, none⟩ = some (.int .i64 y) ∧ w'.cell? ⟨w.heap.size, 1, none⟩ = some (.int .i64 r)) [(0, true), (1, true), (2, true), (3, true), (4, true), (5, true), (6, false), (7, false), (8, false)] (by kernel_rfl) (by kernel_rfl) rfl (by kernel_rfl) (⟨x0, x1, p1⟩) ?_
    simp only [Ord.ordOps, List.getElem?_toArray, List.getElem?_cons_zero, List.getElem?_cons_succ]
    repeat (first
      | (refine Ord.ord_plain (v := ?_) rfl (fun w' hS => ?_) ?_; rotate_left; (focus ((try dsimp only at hS); go_simp; first | done | with_reducible rfl)); simp only [Act.put, List.setIfInBounds_toArray, List.set_cons_zero, List.set_cons_succ])
      | (refine Ord.ord_skip (by rfl) ?_; simp only [Act.put, List.setIfInBounds_toArray, List.set_cons_zero, List.set_cons_succ])
      | (refine Ord.ord_take (v := ?_) (by rfl) (fun w' hS => ?_) ?_; rotate_left; (focus ((try dsimp only at hS); go_simp; first | done | with_reducible rfl)); simp only [Act.put, List.setIfInBounds_toArray, List.set_cons_zero, List.set_cons_succ]))
    refine Ord.ord_call (fun K hK => ?_)
    go_simp
    go_wp2_with (go_at_call 108; refine (Rights.impl_both _ _ _ HR.out HX.out).mono ?_; rintro e w' ⟨rfl, rfl⟩)
    refine hK.out _ _ (⟨x0, x1, p1⟩) ?_
    clear hK K
    repeat (first
      | (refine Ord.ord_plain (v := ?_) rfl (fun w' hS => ?_) ?_; rotate_left; (focus ((try dsimp only at hS); go_simp; first | done | with_reducible rfl)); simp only [Act.put, List.setIfInBounds_toArray, List.set_cons_zero, List.set_cons_succ])
      | (refine Ord.ord_skip (by rfl) ?_; simp only [Act.put, List.setIfInBounds_toArray, List.set_cons_zero, List.set_cons_succ])
      | (refine Ord.ord_take (v := ?_) (by rfl) (fun w' hS => ?_) ?_; rotate_left; (focus ((try dsimp only at hS); go_simp; first | done | with_reducible rfl)); simp only [Act.put, List.setIfInBounds_toArray, List.set_cons_zero, List.set_cons_succ]))
    refine Ord.ord_call (fun K hK => ?_)
    go_simp
    go_wp2_with (go_at_call 107; refine (HG.out _).mono ?_; rintro e w5 ⟨rfl, hb5⟩)
    obtain ⟨j0, j1, f0, f1, hjl⟩ := t2'.out.drew.below hb5
    have HB := Lib.hid (btr hB1.out.drew hb5)
    have q0 := (hb5.cell (p := ⟨w1.heap.size, 0, none⟩) hxl).trans x0
    have q1 := (hb5.cell (p := ⟨w1.heap.size, 1, none⟩) hxl).trans x1
    have q2 := (hb5.cell (p := ⟨w.heap.size, 1, none⟩) hpl).trans p1
    clear hb5
    refine hK.out _ _ (⟨q0, q1, q2⟩) ?_
    clear hK K
    repeat (first
      | (refine Ord.ord_plain (v := ?_) rfl (fun w' hS => ?_) ?_; rotate_left; (focus ((try dsimp only at hS); go_simp; first | done | with_reducible rfl)); simp only [Act.put, List.setIfInBounds_toArray, List.set_cons_zero, List.set_cons_succ])
      | (refine Ord.ord_skip (by rfl) ?_; simp only [Act.put, List.setIfInBounds_toArray, List.set_cons_zero, List.set_cons_succ])
      | (refine Ord.ord_take (v := ?_) (by rfl) (fun w' hS => ?_) ?_; rotate_left; (focus ((try dsimp only at hS); go_simp; first | done | with_reducible rfl)); simp only [Act.put, List.setIfInBounds_toArray, List.set_cons_zero, List.set_cons_succ]))
    refine Ord.ord_call (fun K hK => ?_)
    go_simp
    refine hK.out _ _ (⟨keep_set q0 (by omega), keep_set q1 (by omega), keep_set q2 (by omega)⟩) ?_
    clear hK K
    refine Ord.ord_nil ?_
    go_wp2
    exact bodyPost_ret (v := .agg #[.int .i64 x', .int .i64 y']) (by simp [results, Try.results102, go_sem, j0, j1]) rfl ⟨rfl, set_two HB.out (by omega) _ _⟩

def BothAt (W : World) (a b : Nat) (l o : List Sl) : Prop := FunAt W a l ∧ FunAt W b o
theorem BothAt.below {W W' : World} {a b : Nat} {l o : List Sl} (h : BothAt W a b l o) (hb : Below W.heap.size W W') : BothAt W' a b l o := ⟨h.1.below hb, h.2.below hb⟩
def RestAt (W : World) (a b : Nat) (l : List Sl) (r : Int) : Prop := FunAt W a l ∧ W.cell? ⟨b, 0, none⟩ = some (.int .i64 r)
theorem RestAt.below {W W' : World} {a b : Nat} {l : List Sl} {r : Int} (h : RestAt W a b l r) (hb : Below W.heap.size W W') : RestAt W' a b l r :=
  ⟨h.1.below hb, (hb.cell (p := ⟨b, 0, none⟩) (World.block_lt_of_cell? W _ h.2)).trans h.2⟩

set_option maxHeartbeats 2000000 in
theorem impl_both1 (a b : Nat) (page : Int) (l o : List Sl) (w : World) (hl : wfL l) (ho : wfL o) (h : BothAt w a b l o) :
    Calls Try.prog 101 #[.int .i64 page, .pointer (some ⟨a, 0, none⟩), .pointer (some ⟨b, 0, none⟩)] w (AtPost w (compS (atS l page) o)) := by
  have hb0 : Below w.heap.size w (w.alloc (.cells #[.int .i64 0, .int .i64 0] 36)) := (Below.refl _ _).alloc (Nat.le_refl _) _
  have HNE := Lib.hid (show a ≠ w.heap.size ∧ b ≠ w.heap.size from ⟨h.1.ne, h.2.ne⟩)
  obtain ⟨⟨qa, ca, ma⟩, ⟨qb, cb, mb⟩⟩ := h.below hb0
  have t0 := Two.new w (.int .i64 0) (.int .i64 0) 36
  have hwx := (wf_atS hl page).2
  generalize hW : (w.alloc (.cells #[.int .i64 0, .int .i64 0] 36)) = W at hb0 ca cb ma mb t0
  have HW := Lib.hid hW
  clear hW
  have hK := fun V (hb : Below W.heap.size W V) => impl_map1 qa page l V (ma.below hb)
  have hG := fun (p r : Int) (hr : (Lit.int .i64 r).wf = true) V (hb : Below W.heap.size W V) => impl_trans p r qb o V hr ho (mb.below hb)
  generalize atS l page = s at hK hwx ⊢
  obtain ⟨x, y⟩ := s
  have hG := hG x y hwx
  generalize compS (x, y) o = s at hG ⊢
  obtain ⟨x', y'⟩ := s
  unfold mapF at ca cb hG
  have HK := Lib.hid hK
  have HG := Lib.hid hG
  clear hK hG hwx ma mb h hl ho
  go_enter Try.func101, Try.ntmps101
  go_wp2_with fail
  rw [HW.out]
  refine Ord.wp_region_ord (fun w' => w'.cell? ⟨a, 0, none⟩ = some (.func (.func 103) #[] #[.pointer (some ⟨qa, 0, none⟩)]) ∧ w'.cell? ⟨b, 0, none⟩ = some (.func (.func 103) #[] #[.pointer (some ⟨qb, 0, none⟩)])) [(0, true), (1, true), (3, true), (2, false), (4, false), (5, false)] (by kernel_rfl) (by kernel_rfl) rfl (by kernel_rfl) (⟨ca, cb⟩) ?_
  simp only [Ord.ordOps, List.getElem?_toArray, List.getElem?_cons_zero, List.getElem?_cons_succ]
  repeat (first
    | (refine Ord.ord_plain (v := ?_) rfl (fun w' hS => ?_) ?_; rotate_left; (focus ((try dsimp only at hS); go_simp; first | done | with_reducible rfl)); simp only [Act.put, List.setIfInBounds_toArray, List.set_cons_zero, List.set_cons_succ])
    | (refine Ord.ord_skip (by rfl) ?_; simp only [Act.put, List.setIfInBounds_toArray, List.set_cons_zero, List.set_cons_succ])
    | (refine Ord.ord_take (v := ?_) (by rfl) (fun w' hS => ?_) ?_; rotate_left; (focus ((try dsimp only at hS); go_simp; first | done | with_reducible rfl)); simp only [Act.put, List.setIfInBounds_toArray, List.set_cons_zero, List.set_cons_succ]))
  refine Ord.ord_call (fun K hK => ?_)
  go_simp
  go_wp2_with fail
  refine (HK.out _ ((Below.refl _ _).drew)).mono ?_
  rintro e w1 ⟨rfl, hb1⟩
  have c1 := (hb1.cell (p := ⟨a, 0, none⟩) (World.block_lt_of_cell? W _ ca)).trans ca
  have c2 := (hb1.cell (p := ⟨b, 0, none⟩) (World.block_lt_of_cell? W _ cb)).trans cb
  have t1 := Lib.hid (t0.drew.below hb1)
  have HB := Lib.hid (btr hb0.drew hb1)
  have HW1 := Lib.hid (btr ((Below.refl W.heap.size W).drew) hb1)
  clear hb1 t0
  refine hK.out _ _ (⟨c1, c2⟩) ?_
  clear hK K
  repeat (first
    | (refine Ord.ord_plain (v := ?_) rfl (fun w' hS => ?_) ?_; rotate_left; (focus ((try dsimp only at hS); go_simp; first | done | with_reducible rfl)); simp only [Act.put, List.setIfInBounds_toArray, List.set_cons_zero, List.set_cons_succ])
    | (refine Ord.ord_skip (by rfl) ?_; simp only [Act.put, List.setIfInBounds_toArray, List.set_cons_zero, List.set_cons_succ])
    | (refine Ord.ord_take (v := ?_) (by rfl) (fun w' hS => ?_) ?_; rotate_left; (focus ((try dsimp only at hS); go_simp; first | done | with_reducible rfl)); simp only [Act.put, List.setIfInBounds_toArray, List.set_cons_zero, List.set_cons_succ]))
  refine Ord.ord_call (fun K hK => ?_)
  go_simp
  go_wp2_with fail
  refine (HG.out _ HW1.out).mono ?_
  rintro e w2 ⟨rfl, hb2⟩
  have c3 := (hb2.cell (p := ⟨a, 0, none⟩) (World.block_lt_of_cell? w1 _ c1)).trans c1
  have c4 := (hb2.cell (p := ⟨b, 0, none⟩) (World.block_lt_of_cell? w1 _ c2)).trans c2
  obtain ⟨j0, j1, f0, f1, hjl⟩ := t1.out.below hb2
  have HB2 := Lib.hid (btr HB.out hb2)
  have ha : a ≠ w.heap.size := HNE.out.1
  have hb : b ≠ w.heap.size := HNE.out.2
  clear hb2
  refine hK.out _ _ (⟨c3, c4⟩) ?_
  clear hK K
  repeat (first
    | (refine Ord.ord_plain (v := ?_) rfl (fun w' hS => ?_) ?_; rotate_left; (focus ((try dsimp only at hS); go_simp; first | done | with_reducible rfl)); simp only [Act.put, List.setIfInBounds_toArray, List.set_cons_zero, List.set_cons_succ])
    | (refine Ord.ord_skip (by rfl) ?_; simp only [Act.put, List.setIfInBounds_toArray, List.set_cons_zero, List.set_cons_succ])
    | (refine Ord.ord_take (v := ?_) (by rfl) (fun w' hS => ?_) ?_; rotate_left; (focus ((try dsimp only at hS); go_simp; first | done | with_reducible rfl)); simp only [Act.put, List.setIfInBounds_toArray, List.set_cons_zero, List.set_cons_succ]))
  refine Ord.ord_call (fun K hK => ?_)
  go_simp
  refine hK.out _ _ (⟨keep_set c3 (by omega), keep_set c4 (by omega)⟩) ?_
  clear hK K
  refine Ord.ord_nil ?_
  go_wp2
  exact bodyPost_ret (v := .agg #[.int .i64 x', .int .i64 y']) (by simp [results, Try.results101, go_sem, j0, j1]) rfl ⟨rfl, set_two HB2.out (by omega) _ _⟩

def bothF (a b : Nat) : Value := .func (.func 101) #[] #[(.pointer (some ⟨a, 0, none⟩)), (.pointer (some ⟨b, 0, none⟩))]

theorem new_one (w : World) (v : Value) (T : TypeId) : (w.alloc (.cells #[v] T)).cell? ⟨w.heap.size, 0, none⟩ = some v := cell_of_row _ _ 0 _ _ _ (heap_alloc_new w _)
theorem new_ones (w : World) (u v : Value) (T T' : TypeId) : ((w.alloc (.cells #[u] T)).alloc (.cells #[v] T')).cell? ⟨w.heap.size, 0, none⟩ = some u ∧ ((w.alloc (.cells #[u] T)).alloc (.cells #[v] T')).cell? ⟨w.heap.size + 1, 0, none⟩ = some v ∧
    Below w.heap.size w ((w.alloc (.cells #[u] T)).alloc (.cells #[v] T')) := by
  refine ⟨(World.cell?_alloc_lt _ _ _ (by simp)).trans (new_one w u T), ?_, ((Below.refl _ _).alloc (Nat.le_refl _) _).alloc (by simp) _⟩
  have := new_one (w.alloc (.cells #[u] T)) v T'
  rwa [show (w.alloc (.cells #[u] T)).heap.size = w.heap.size + 1 by simp] at this

set_option maxHeartbeats 1000000 in
theorem impl_composed (q q' : Nat) (l o : List Sl) (w : World) (h1 : MapAt w q l) (h2 : MapAt w q' o) :
    Calls Try.prog 79 #[mapF q, mapF q'] w fun e w' => ∃ a b, e = .returned (bothF a b) ∧ BothAt w' a b l o ∧ Below w.heap.size w w' := by
  obtain ⟨k0, k1, hb⟩ := new_ones w (mapF q) (mapF q') 95 95
  have HE := Lib.hid (show ∃ a b, Ending.returned (bothF w.heap.size (w.heap.size + 1)) = .returned (bothF a b) ∧ BothAt ((w.alloc (.cells #[mapF q] 95)).alloc (.cells #[mapF q'] 95)) a b l o ∧ Below w.heap.size w ((w.alloc (.cells #[mapF q] 95)).alloc (.cells #[mapF q'] 95)) from
    ⟨_, _, rfl, ⟨⟨q, k0, h1.below hb⟩, ⟨q', k1, h2.below hb⟩⟩, hb⟩)
  clear h1 h2 k0 k1 hb
  unfold mapF at HE ⊢
  go_enter Try.func79, Try.ntmps79
  go_wp2
  go_ret
  exact HE.out

theorem Try.infoSlotT : (Try.prog.info? 36).map (fun i => (i.zero, i.size, i.bytes)) = some (some (.agg #[.int .i64 0, .int .i64 0]), 2, 16) := by kernel_rfl

set_option maxHeartbeats 1000000 in
theorem impl_tableOf_both (a b n : Nat) (m : Int → Sl) (u : List Sl) (w : World) (hn : n ≤ 1048576) (hu : mapL m n = u)
    (hK : ∀ W, Below w.heap.size w W → ∀ page : Int, Calls Try.prog 101 #[.int .i64 page, (.pointer (some ⟨a, 0, none⟩)), (.pointer (some ⟨b, 0, none⟩))] W (AtPost W (m page))) :
    Calls Try.prog 78 #[bothF a b, .int .i64 n] w (RowPost w n u) := by
  obtain ⟨i0, hi0, hz0, hz1, hz2⟩ := info_parts Try.infoSlotT
  have hul : u.length = n := by rw [← hu, mapL_len]
  have hu2 : ∀ (k : Nat) (h : k < u.length), u[k] = m (k : Int) := by subst hu; exact mapL_at m n
  have HL := Lib.hid hul
  have HK := Lib.hid hK
  have HU := Lib.hid hu2
  clear hul hK hu2 hu
  obtain ⟨wm, hmk, hown, hgm⟩ := run_make_full w w.heap.size 25 36 i0 _ 2 Try.underlying25 hi0 hz0 hz1 .i64 .i64 n (by rw [hz2]; omega) (by simp only [maxLen]; omega) (Nat.le_refl _)
  have HO := Lib.hid (And.intro hown hgm)
  clear hown hgm
  unfold bothF
  go_enter Try.func78, Try.ntmps78
  go_wp2
  go_loopw [6, 11] (fun _ i wr => ∃ (k : Nat) (xs : List Value), k ≤ n ∧ i = .int .i64 k ∧ xs.take (k * 2) = scells (u.take k) ∧ wr.ownsRow w.heap.size 36 2 (.slice (some ⟨w.heap.size, 0, none⟩) n n) n xs ∧ Below w.heap.size w wr) (fun _ i _ => n - (intOf i).toNat)
  case atStart => exact ⟨0, _, Nat.zero_le _, rfl, by simp [scells], HO.out.1, (Below.refl _ _).grown HO.out.2 (Nat.le_refl _) (fun _ h => by cases h)⟩
  case round =>
    obtain ⟨k, xs, hk, rfl, hxs, hown, hb⟩ := hrel
    have HX := Lib.hid hxs
    clear hxs
    by_cases hlt : k < n
    · have hkl : k < u.length := by have := HL.out; omega
      have hi0 : (0 : Int) ≤ (k : Int) := Int.natCast_nonneg _
      have hi1 : (k : Int) < (n : Int) := by omega
      have hc := HK.out wr hb (k : Int)
      have hT : u.take (k + 1) = u.take k ++ [m (k : Int)] := by rw [List.take_succ_eq_append_getElem hkl, HU.out k hkl]
      generalize m (k : Int) = s at hc hT
      obtain ⟨x, y⟩ := s
      have HT := Lib.hid hT
      have HC := Lib.hid hc
      clear hT hc
      go_wp2_with (go_at_call 101; refine (HC.out).mono ?_; rintro e w1 ⟨rfl, hb1⟩; have hown1 := hown.kept (grown_of_below hb1 none) (.inr (by simp [Value.ownBlock])); obtain ⟨⟨u1, e1⟩, ⟨u2, e2⟩, f1, f2⟩ := row_two hown1 hlt)
      have hrow := row_set2 hown1 k (.int .i64 x) (.int .i64 y)
      have hbw2 : Below w.heap.size w ((w1.setCell ⟨w.heap.size, k * 2, none⟩ (.int .i64 x)).setCell ⟨w.heap.size, k * 2 + 1, none⟩ (.int .i64 y)) :=
        ((hb.trans (hb1.mono hb.size)).setCell (p := ⟨w.heap.size, k * 2, none⟩) (Nat.le_refl _) _).setCell (p := ⟨w.heap.size, k * 2 + 1, none⟩) (Nat.le_refl _) _
      have hts := take_set2 (x := x) (y := y) HX.out (by have := hown1.1; omega) HT.out
      go_roundw
      case rel => exact ⟨k + 1, _, by omega, by go_num, hts, hrow, hbw2⟩
      case measure => simp [intOf]; omega
    · have hkn : k = n := by omega
      subst hkn
      have hx : xs = scells u := by
        have h1 := HX.out
        have h2 := hown.1
        rw [List.take_of_length_le (by omega), List.take_of_length_le (by have := HL.out; omega)] at h1
        exact h1
      subst hx
      go_wp2
      go_ret
      exact ⟨_, _, rfl, Nat.le_refl _, Owned.of_row hown, hb⟩

set_option maxHeartbeats 1000000 in
theorem impl_compose (A B : Option Addr) (n n' c d : Nat) (l o : List Sl) (w : World) (hn : n ≤ 1048576) (hn' : n' ≤ 1048576) (hl : l.length = n) (ho : o.length = n') (wl : wfL l) (wo : wfL o)
    (h1 : Lies w 0 w.heap.size A (scells l)) (h2 : Lies w 0 w.heap.size B (scells o)) :
    Calls Try.prog 46 #[.slice A n c, .slice B n' d] w (RowPost w n (compL l o)) := by
  have HL := Lib.hid (And.intro hl (And.intro wl wo))
  have H1 := Lib.hid h1
  have H2 := Lib.hid h2
  have HO := Lib.hid ho
  have HC := Lib.hid (show mapL (fun i => compS (atS l i) o) n = compL l o by rw [← hl]; exact mapL_map (fun i => rfl))
  clear hl wl wo h1 h2 ho
  go_enter Try.func46, Try.ntmps46
  go_wp2_with fail
  refine (impl_mapping A n c l _ hn HL.out.1 H1.out).mono ?_
  rintro e w1 ⟨q1, rfl, hm1, hb1⟩
  go_wp2_with fail
  refine (impl_mapping B n' d o _ hn' HO.out ((H2.out.below hb1 (Nat.le_refl _)).wide (Nat.le_refl _) hb1.size)).mono ?_
  rintro e w2 ⟨q2, rfl, hm2, hb2⟩
  go_wp2_with fail
  refine (impl_composed q1 q2 l o _ (hm1.below hb2) hm2).mono ?_
  rintro e w3 ⟨a, b, rfl, hB, hb3⟩
  have HB := Lib.hid (btr (btr hb1 hb2) hb3)
  have HT := Lib.hid (fun (W : World) (hb : Below w3.heap.size w3 W) (page : Int) => impl_both1 a b page l o W HL.out.2.1 HL.out.2.2 (hB.below hb))
  clear hm1 hm2 hB hb1 hb2 hb3
  go_wp2_with fail
  refine (impl_tableOf_both a b n _ _ _ hn HC.out HT.out).mono ?_
  rintro e w4 ⟨ad, c', rfl, hc', ho4, hb4⟩
  have HF := Lib.hid (show RowPost w n (compL l o) (.returned (.slice (some ad) n c')) w4 from ⟨ad, c', rfl, hc', ho4.wide HB.out.size (Nat.le_refl _), btr HB.out hb4⟩)
  clear hc' ho4 hb4
  go_wp2_with fail
  go_ret
  exact HF.out

end Go.Proofs.Ytfgckkgakghenaa.Slots
