/-
  The given model's draws of slots (l03Slot, l03Any) and of numbers for them (l03Page, l02Rights): numbers of an int's range; no statement about the project's code stands here. No condition.
-/
import Derived.Test.YtfgckkgakghenaaPick
import Derived.Test.YtfgckkgakghenaaTabA
namespace Go.Proofs.Ytfgckkgakghenaa.SDraw
set_option maxRecDepth 100000
open Go.ChangeShapes Go.WideShapes Go.ChangeAt Go.RowKit
open Go.Proofs.Ytfgckkgakghenaa.Base Go.Proofs.Ytfgckkgakghenaa.Mem Go.Proofs.Ytfgckkgakghenaa.Slots Go.Proofs.Ytfgckkgakghenaa.Draw
set_option linter.unusedVariables false

def SlotPost (w0 : World) (A : Option Addr) (n c : Nat) (w : World) (g : Nat) (e : Ending) (w' : World) : Prop :=
  ∃ x y : Int, e = .returned (.agg #[.int .i64 x, .int .i64 y]) ∧ wfS (x, y) ∧ Cur w0 A n c w' g ∧ w.grownBy w' (some g)
def NumPost (w0 : World) (A : Option Addr) (n c : Nat) (w : World) (g : Nat) (e : Ending) (w' : World) : Prop :=
  ∃ x : Int, e = .returned (.int .i64 x) ∧ (Lit.int .i64 x).wf = true ∧ Cur w0 A n c w' g ∧ w.grownBy w' (some g)

section
variable {w w1 w2 : World} {g : Nat} {u v : Value} {T : TypeId}
/-- A variable of two cells, made ahead of draws. -/
theorem var_cells (hG : (w.alloc (.cells #[u, v] T)).grownBy w1 (some g)) (hg : g < w.heap.size) :
    w1.cell? ⟨w.heap.size, 0, none⟩ = some u ∧ w1.cell? ⟨w.heap.size, 1, none⟩ = some v ∧ w1.frozen? ⟨w.heap.size, 0, none⟩ = false ∧ w1.frozen? ⟨w.heap.size, 1, none⟩ = false := by
  have hb : w1.heap[w.heap.size]? = some (.cells #[u, v] T (0, 0)) := (hG.block w.heap.size (by simp) (by simp; omega)).trans (heap_alloc_new w _)
  exact ⟨cell_of_row _ _ 0 _ _ _ hb, cell_of_row _ _ 1 _ _ _ hb, frozen_of_row _ _ _ _ _ hb, frozen_of_row _ _ _ _ _ hb⟩
theorem var_grown (o : Obj) (hG : (w.alloc o).grownBy w1 (some g)) (u v : Value) : w.grownBy ((w1.setCell ⟨w.heap.size, 0, none⟩ u).setCell ⟨w.heap.size, 1, none⟩ v) (some g) :=
  ⟨hG.os, hG.tape, hG.output, by have := hG.size; simp at this; simp; omega, fun k hk hne => by
    rw [Below.heap_setCell _ _ _ k (by show k ≠ w.heap.size; omega), Below.heap_setCell _ _ _ k (by show k ≠ w.heap.size; omega)]
    exact (hG.block k (by simp; omega) hne).trans (Below.heap_alloc w o k hk)⟩
theorem var_cur {w0 : World} {A : Option Addr} {n c : Nat} {b : Nat} (h : Cur w0 A n c w1 g) (hg : g < b) (h0 : w0.heap.size ≤ b) (i : Nat) (u : Value) : Cur w0 A n c (w1.setCell ⟨b, i, none⟩ u) g :=
  h.grown (grown_set w1 b i u) (by simp; omega) (fun k hk => by cases hk; exact h0)
theorem grown_new (w : World) (o : Obj) (row : Option Nat) : w.grownBy (w.alloc o) row := World.grownBy_alloc w o row
theorem gtr {a b c : World} {row : Option Nat} (h : a.grownBy b row) (k : b.grownBy c row) : a.grownBy c row := grown_trans h k
theorem of_below (h : Below w.heap.size w w1) (row : Option Nat) : w.grownBy w1 row := Slots.grown_of_below h row
end

def slotList : List Int := [3, 3, 3, 1, 2]
theorem slotList_wf : ∀ x ∈ slotList, (Lit.int .i64 x).wf = true := by decide

theorem wf_small {x m : Int} (h0 : 0 ≤ x) (h1 : x < m) (hm : m ≤ 1048576) : (Lit.int .i64 x).wf = true := by
  simp [Lit.wf]
  have e1 : IntKind.i64.min = -9223372036854775808 := by decide
  have e2 : IntKind.i64.max = 9223372036854775807 := by decide
  omega

set_option maxHeartbeats 2000000 in
theorem slot_any (w0 : World) (A : Option Addr) (n c g : Nat) (w : World) (pages : Int) (hp0 : 0 < pages) (hp1 : pages ≤ 256) (hn : n ≤ 1048576) (hcode : CodeAt w0 A n) (hcur : Cur w0 A n c w g) :
    Calls Try.prog 105 #[.pointer (some ⟨g, 0, none⟩), .int .i64 pages] w (SlotPost w0 A n c w g) := by
  have HC := Lib.hid hcode
  have hlt := hcur.lt
  have hs0 := hcur.1.size
  have HU := Lib.hid (hcur.alloc (.cells #[.int .i64 0, .int .i64 0] 36))
  clear hcode hcur
  go_enter Try.func105, Try.ntmps105
  go_wp2_with fail
  refine (once_any w0 A n c g _ 5 (by omega) (by omega) hn HC.out HU.out).mono ?_
  rintro e w1 ⟨b, rfl, hc1, hg1⟩
  have HU1 := Lib.hid hc1
  have HG1 := Lib.hid hg1
  have hsz1 : w.heap.size < w1.heap.size := by have := hg1.size; simp at this; omega
  clear hc1 hg1 HU
  cases b
  · go_wp2_with fail
    refine (below_any w0 A n c g _ pages hp0 (by omega) hn HC.out HU1.out).mono ?_
    rintro e w2 ⟨x, rfl, hx0, hx1, hc2, hg2⟩
    have HX := Lib.hid (wf_small hx0 hx1 (by omega))
    have HU2 := Lib.hid hc2
    have HG2 := Lib.hid (gtr HG1.out hg2)
    have hsz2 := hg2.size
    clear hx0 hx1 hc2 hg2 HU1 HG1
    go_wp2_with fail
    refine (pick_any w0 A n c g _ w2.heap.size 5 slotList (by decide) (by decide) hn HC.out (HU2.out.alloc _) (by omega) rfl (heap_alloc_new w2 _)).mono ?_
    rintro e w3 ⟨y, rfl, hy, hc3, hg3⟩
    have HY := Lib.hid (slotList_wf y hy)
    have HU3 := Lib.hid hc3
    have HG3 := Lib.hid (gtr (gtr HG2.out (grown_new w2 _ _)) hg3)
    clear hy hc3 hg3 HU2 HG2
    obtain ⟨j0, j1, f0, f1⟩ := var_cells HG3.out hlt
    go_wp2_with fail
    exact bodyPost_ret (v := .agg #[.int .i64 x, .int .i64 y]) (by simp [results, Try.results105, go_sem, j0, j1]) rfl ⟨x, y, rfl, ⟨HX.out, HY.out⟩, var_cur (var_cur HU3.out hlt hs0 _ _) hlt hs0 _ _, var_grown _ HG3.out _ _⟩
  · go_wp2_with fail
    refine (spec_no _).mono ?_
    rintro e w2 ⟨rfl, hb2⟩
    have HU2 := Lib.hid (HU1.out.grown (of_below hb2 none) (by simp) (fun k hk => by cases hk))
    have HG2 := Lib.hid (gtr HG1.out (of_below hb2 (some g)))
    clear hb2 HU1 HG1
    obtain ⟨j0, j1, f0, f1⟩ := var_cells HG2.out hlt
    go_wp2_with fail
    exact bodyPost_ret (v := .agg #[.int .i64 (-1), .int .i64 0]) (by simp [results, Try.results105, go_sem, j0, j1]) rfl ⟨-1, 0, rfl, ⟨by decide, by decide⟩, var_cur (var_cur HU2.out hlt hs0 _ _) hlt hs0 _ _, var_grown _ HG2.out _ _⟩

def pageList : List Int := [0, 1, 2, 3, 3, 4, 7, 8, -1, 9223372036854775807, -9223372036854775808]
theorem pageList_wf : ∀ x ∈ pageList, (Lit.int .i64 x).wf = true := by decide
def rightsL : List Int := [3, 3, 1, 2, 0, 3, 1, -1, 4, 9223372036854775807]
theorem rightsL_wf : ∀ x ∈ rightsL, (Lit.int .i64 x).wf = true := by decide

set_option maxHeartbeats 1000000 in
theorem rights_any (w0 : World) (A : Option Addr) (n c g : Nat) (w : World) (hn : n ≤ 1048576) (hcode : CodeAt w0 A n) (hcur : Cur w0 A n c w g) :
    Calls Try.prog 106 #[.pointer (some ⟨g, 0, none⟩)] w (NumPost w0 A n c w g) := by
  have HC := Lib.hid hcode
  have HU := Lib.hid hcur
  have hlt := hcur.lt
  clear hcode hcur
  go_enter Try.func106, Try.ntmps106
  go_wp2_with fail
  refine (pick_any w0 A n c g _ w.heap.size 10 rightsL (by decide) (by decide) hn HC.out (HU.out.alloc _) (by omega) rfl (heap_alloc_new w _)).mono ?_
  rintro e w1 ⟨x, rfl, hx, hc1, hg1⟩
  have HF := Lib.hid (And.intro (rightsL_wf x hx) (And.intro hc1 (gtr (grown_new w _ _) hg1)))
  clear hx hc1 hg1
  go_wp2_with fail
  go_ret
  exact ⟨x, rfl, HF.out.1, HF.out.2.1, HF.out.2.2⟩
set_option maxHeartbeats 1000000 in
theorem page_any (w0 : World) (A : Option Addr) (n c g : Nat) (w : World) (hn : n ≤ 1048576) (hcode : CodeAt w0 A n) (hcur : Cur w0 A n c w g) :
    Calls Try.prog 59 #[.pointer (some ⟨g, 0, none⟩)] w (NumPost w0 A n c w g) := by
  have HC := Lib.hid hcode
  have HU := Lib.hid hcur
  have hlt := hcur.lt
  clear hcode hcur
  go_enter Try.func59, Try.ntmps59
  go_wp2_with fail
  refine (pick_any w0 A n c g _ w.heap.size 11 pageList (by decide) (by decide) hn HC.out (HU.out.alloc _) (by omega) rfl (heap_alloc_new w _)).mono ?_
  rintro e w1 ⟨x, rfl, hx, hc1, hg1⟩
  have HF := Lib.hid (And.intro (pageList_wf x hx) (And.intro hc1 (gtr (grown_new w _ _) hg1)))
  clear hx hc1 hg1
  go_wp2_with fail
  go_ret
  exact ⟨x, rfl, HF.out.1, HF.out.2.1, HF.out.2.2⟩

/-- A block is as it was behind draws. -/
theorem blk_kept {w w1 : World} {g b : Nat} {o : Obj} (hG : w.grownBy w1 (some g)) (hb : w.heap[b]? = some o) (hne : b ≠ g) : w1.heap[b]? = some o :=
  (hG.block b (by
    rcases Nat.lt_or_ge b w.heap.size with h | h
    · exact h
    · rw [Array.getElem?_eq_none h] at hb; cases hb) (by simpa using hne)).trans hb
theorem two_of_blk {w : World} {b : Nat} {u v : Value} {T : TypeId} (hb : w.heap[b]? = some (.cells #[u, v] T (0, 0))) :
    w.cell? ⟨b, 0, none⟩ = some u ∧ w.cell? ⟨b, 1, none⟩ = some v ∧ w.frozen? ⟨b, 0, none⟩ = false ∧ w.frozen? ⟨b, 1, none⟩ = false :=
  ⟨cell_of_row _ _ 0 _ _ _ hb, cell_of_row _ _ 1 _ _ _ hb, frozen_of_row _ _ _ _ _ hb, frozen_of_row _ _ _ _ _ hb⟩

theorem grown_far {w W : World} {g b : Nat} (hG : w.grownBy W (some g)) (hb : w.heap.size ≤ b) (i : Nat) (u : Value) : w.grownBy (W.setCell ⟨b, i, none⟩ u) (some g) :=
  ⟨hG.os, hG.tape, hG.output, by simpa using hG.size, fun k hk hne => (Below.heap_setCell _ _ _ k (by show k ≠ b; omega)).trans (hG.block k hk hne)⟩
theorem anyList_wf {pages p : Int} (hp : (Lit.int .i64 pages).wf = true) (h : p ∈ [-1, -2, pages, 9223372036854775807, -9223372036854775808]) : (Lit.int .i64 p).wf = true := by
  simp only [List.mem_cons, List.not_mem_nil, or_false] at h
  rcases h with rfl | rfl | rfl | rfl | rfl
  · decide
  · decide
  · exact hp
  · decide
  · decide

set_option maxHeartbeats 4000000 in
theorem any_any (w0 : World) (A : Option Addr) (n c g : Nat) (w : World) (pages : Int) (hp0 : 0 < pages) (hp1 : pages ≤ 256) (hn : n ≤ 1048576) (hcode : CodeAt w0 A n) (hcur : Cur w0 A n c w g) :
    Calls Try.prog 89 #[.pointer (some ⟨g, 0, none⟩), .int .i64 pages] w (SlotPost w0 A n c w g) := by
  have HC := Lib.hid hcode
  have hlt := hcur.lt
  have hs0 := hcur.1.size
  have HU := Lib.hid (hcur.alloc (.cells #[.int .i64 0, .int .i64 0] 36))
  clear hcode hcur
  go_enter Try.func89, Try.ntmps89
  go_wp2_with fail
  refine (slot_any w0 A n c g _ pages hp0 hp1 hn HC.out HU.out).mono ?_
  rintro e w1 ⟨x, y, rfl, hxy, hc1, hg1⟩
  have HXY := Lib.hid hxy
  have HU1 := Lib.hid (hc1.alloc (.cells #[.int .i64 x, .int .i64 y] 36))
  have HG1 := Lib.hid (gtr hg1 (grown_new w1 (.cells #[.int .i64 x, .int .i64 y] 36) _))
  have hsz1 : w.heap.size < w1.heap.size := by have := hg1.size; simp at this; omega
  have HN1 := Lib.hid (heap_alloc_new w1 (.cells #[.int .i64 x, .int .i64 y] 36))
  clear hc1 hg1 HU hxy
  go_wp2_with fail
  refine (below_any w0 A n c g _ 12 (by omega) (by omega) hn HC.out HU1.out).mono ?_
  rintro e w2 ⟨z, rfl, hz0, hz1, hc2, hg2⟩
  have HU2 := Lib.hid hc2
  have HG2 := Lib.hid (gtr HG1.out hg2)
  have HN2 := Lib.hid (blk_kept hg2 HN1.out (by omega))
  have hsz2 : w1.heap.size < w2.heap.size := by have := hg2.size; simp at this; omega
  clear hc2 hg2 HU1 HG1 HN1
  have hne : w1.heap.size ≠ w.heap.size := by omega
  have hne' : w.heap.size ≠ w1.heap.size := by omega
  have hw1 : (w.alloc (.cells #[.int .i64 0, .int .i64 0] 36)).heap.size ≤ w1.heap.size := by simp; omega
  have hs1 : w0.heap.size ≤ w1.heap.size := by omega
  have hg1 : g < w1.heap.size := by omega
  have hgn : w1.heap.size ≠ g := by omega
  by_cases hz : z = 0
  · subst hz
    go_wp2_with fail
    refine (pick_any w0 A n c g _ w2.heap.size 5 [-1, -2, pages, 9223372036854775807, -9223372036854775808] (by decide) (by decide) hn HC.out (HU2.out.alloc _) (by omega) rfl (heap_alloc_new w2 _)).mono ?_
    rintro e w3 ⟨p, rfl, hp, hc3, hg3⟩
    have HP := Lib.hid (anyList_wf (wf_small (Int.le_of_lt hp0) (Int.lt_add_one_of_le (Int.le_refl pages)) (by omega)) hp)
    have HU3 := Lib.hid hc3
    have HG3 := Lib.hid (gtr (gtr HG2.out (grown_new w2 _ _)) hg3)
    have hn3 := blk_kept (gtr (grown_new w2 _ _) hg3) HN2.out hgn
    obtain ⟨j0, j1, f0, f1⟩ := two_of_blk hn3
    obtain ⟨q0, q1, e0, e1⟩ := var_cells HG3.out hlt
    clear hp hc3 hg3 hn3 HU2 HG2
    go_wp2_with fail
    exact bodyPost_ret (v := .agg #[.int .i64 p, .int .i64 y]) (by simp [results, Try.results89, go_sem, q0, q1]) rfl ⟨p, y, rfl, ⟨HP.out, HXY.out.2⟩, var_cur (var_cur (var_cur HU3.out hg1 hs1 _ _) hlt hs0 _ _) hlt hs0 _ _, var_grown _ (grown_far HG3.out hw1 _ _) _ _⟩
  · have hz' : (z == 0) = false := by simpa using hz
    by_cases hy1 : z = 1
    · subst hy1
      go_wp2_with fail
      refine (rights_any w0 A n c g _ hn HC.out HU2.out).mono ?_
      rintro e w3 ⟨p, rfl, hp, hc3, hg3⟩
      have HP := Lib.hid hp
      have HU3 := Lib.hid hc3
      have HG3 := Lib.hid (gtr HG2.out hg3)
      have hn3 := blk_kept hg3 HN2.out hgn
      obtain ⟨j0, j1, f0, f1⟩ := two_of_blk hn3
      obtain ⟨q0, q1, e0, e1⟩ := var_cells HG3.out hlt
      clear hp hc3 hg3 hn3 HU2 HG2
      go_wp2_with fail
      exact bodyPost_ret (v := .agg #[.int .i64 x, .int .i64 p]) (by simp [results, Try.results89, go_sem, q0, q1]) rfl ⟨x, p, rfl, ⟨HXY.out.1, HP.out⟩, var_cur (var_cur (var_cur HU3.out hg1 hs1 _ _) hlt hs0 _ _) hlt hs0 _ _, var_grown _ (grown_far HG3.out hw1 _ _) _ _⟩
    · have hy' : (z == 1) = false := by simpa using hy1
      obtain ⟨j0, j1, f0, f1⟩ := two_of_blk HN2.out
      obtain ⟨q0, q1, e0, e1⟩ := var_cells HG2.out hlt
      go_wp2_with fail
      exact bodyPost_ret (v := .agg #[.int .i64 x, .int .i64 y]) (by simp [results, Try.results89, go_sem, q0, q1]) rfl ⟨x, y, rfl, HXY.out, var_cur (var_cur HU2.out hlt hs0 _ _) hlt hs0 _ _, var_grown _ HG2.out _ _⟩
end Go.Proofs.Ytfgckkgakghenaa.SDraw
