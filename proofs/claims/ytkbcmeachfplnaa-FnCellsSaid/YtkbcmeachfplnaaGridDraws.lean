/-
  The given model's draws of arguments for chapter 4's functions (l04Cells, DrawPageOk .. DrawSameMem), in new memory; no statement about the project's code stands here. No condition.
-/
import Derived.Test.YtkbcmeachfplnaaGridDraw
namespace Go.Proofs.Ytkbcmeachfplnaa.GDraw
open Go.ChangeShapes Go.WideShapes Go.ChangeAt Go.RowKit
open Go.Proofs.Ytkbcmeachfplnaa.Base Go.Proofs.Ytkbcmeachfplnaa.Mem Go.Proofs.Ytkbcmeachfplnaa.Ints Go.Proofs.Ytkbcmeachfplnaa.Grid Go.Proofs.Ytkbcmeachfplnaa.Draw
set_option linter.unusedVariables false
set_option linter.unusedSimpArgs false

/-- A page that is drawn for an argument: at most five cells. -/
def CellsPost (w0 : World) (A : Option Addr) (n c : Nat) (w : World) (g : Nat) (e : Ending) (w' : World) : Prop :=
  ∃ X m d l, e = .returned (.slice X m d) ∧ l.length = m ∧ m ≤ 5 ∧ Lies w' w.heap.size w'.heap.size X (ncells l) ∧ Cur w0 A n c w' g ∧ w.grownBy w' (some g)

set_option maxHeartbeats 4000000 in
theorem cells_any (w0 : World) (A : Option Addr) (n c g : Nat) (w : World) (hn : n ≤ 1048576) (hcode : CodeAt w0 A n) (hcur : Cur w0 A n c w g) :
    Calls Try.prog 61 #[.pointer (some ⟨g, 0, none⟩)] w (CellsPost w0 A n c w g) := by
  obtain ⟨i0, hi0, hy0, hy1, hy2⟩ := info_parts Grid.Try.infoInt
  have HC := Lib.hid hcode
  have hlt := hcur.lt
  have hs0 := hcur.1.size
  have HU := Lib.hid hcur
  clear hcode hcur
  go_enter Try.func61, Try.ntmps61
  go_wp2_with fail
  refine (page_any w0 A n c g _ hn HC.out HU.out).mono ?_
  rintro e w1 ⟨b, cap, l, rfl, hl, hown, hc1, hg1⟩
  have HL := Lib.hid hl
  have HU1 := Lib.hid hc1
  have HG1 := Lib.hid hg1
  have hb1 := hown.lt b rfl
  have hbc := row_cap hown
  have hs1 := hg1.size
  have hbg : b ≠ g := by omega
  clear hl hc1 hg1 HU
  go_wp2_with fail
  refine (below_any w0 A n c g _ 6 (by omega) (by omega) hn HC.out HU1.out).mono ?_
  rintro e w2 ⟨z, rfl, hz0, hz1, hc2, hg2⟩
  have hown2 := hown.kept hg2 (.inr (by simp [Value.ownBlock]; exact hbg))
  have HU2 := Lib.hid hc2
  have HG2 := Lib.hid (gtr HG1.out hg2)
  have hs2 := hg2.size
  clear hc2 hg2 HU1 HG1 hown
  by_cases hzz : z = 0
  · subst hzz
    go_wp2_with fail
    refine (below_any w0 A n c g _ 4 (by omega) (by omega) hn HC.out HU2.out).mono ?_
    rintro e w3 ⟨q, rfl, hq0, hq1, hc3, hg3⟩
    obtain ⟨k, rfl⟩ := Int.eq_ofNat_of_zero_le hq0
    have hk : k < 4 := by omega
    have hkc : (k : Int) ≤ (cap : Int) := by omega
    have hown3 := hown2.kept hg3 (.inr (by simp [Value.ownBlock]; exact hbg))
    have HU3 := Lib.hid hc3
    have HG3 := Lib.hid (gtr HG2.out hg3)
    clear hc3 hg3 HU2 HG2 hown2
    go_wp2_with fail
    go_ret
    exact ⟨some ⟨b, 0, none⟩, k, cap, l.take k, by simp, by rw [List.length_take, HL.out]; omega, by omega, lies_take k (Owned.of_row hown3).1, HU3.out, HG3.out⟩
  · have hzz' : (z == 0) = false := by simpa using hzz
    by_cases hz1' : z = 1
    · subst hz1'
      go_wp2_with fail
      refine (below_any w0 A n c g _ 4 (by omega) (by omega) hn HC.out HU2.out).mono ?_
      rintro e w3 ⟨q, rfl, hq0, hq1, hc3, hg3⟩
      obtain ⟨k, rfl⟩ := Int.eq_ofNat_of_zero_le hq0
      have hk : k < 4 := by omega
      have hown3 := hown2.kept hg3 (.inr (by simp [Value.ownBlock]; exact hbg))
      have HU3 := Lib.hid hc3
      have HG3 := Lib.hid (gtr HG2.out hg3)
      have hs3 := hg3.size
      clear hc3 hg3 HU2 HG2 hown2
      go_wp2_with fail
      refine (pick_any w0 A n c g _ w3.heap.size 3 [-1, 99, 100] (by decide) (by decide) hn HC.out (HU3.out.alloc _) (by omega) rfl (heap_alloc_new w3 _)).mono ?_
      rintro e w4 ⟨x, rfl, hx, hc4, hg4⟩
      have hown4 := (hown3.alloc _).kept hg4 (.inr (by simp [Value.ownBlock]; exact hbg))
      have HU4 := Lib.hid hc4
      have HG4 := Lib.hid (gtr HG3.out (gtr (grown_new w3 _ _) hg4))
      clear hx hc4 hg4 HU3 HG3 hown3
      obtain ⟨⟨u1, e1⟩, f1⟩ : (∃ u, w4.cell? ⟨b, k, none⟩ = some u) ∧ w4.frozen? ⟨b, k, none⟩ = false := by
        refine ⟨⟨(ncells l)[k]'(by rw [ncells_len, HL.out]; exact hk), ?_⟩, hown4.frozenAt _⟩
        rw [hown4.cellAt _ (by omega)]
        exact List.getElem?_eq_getElem _
      have HR := Lib.hid (hown4.stored k (.int .i64 x)).1
      go_wp2_with fail
      go_ret
      have hR := HR.out
      rw [ncells_set] at hR
      exact ⟨_, 4, _, l.set k x, rfl, by rw [List.length_set]; exact HL.out, by omega, (Owned.of_row hR).1, var_cur HU4.out (by omega) (by omega) _ _, grown_far HG4.out hb1.1 _ _⟩
    · have hz1'' : (z == 1) = false := by simpa using hz1'
      by_cases hz2 : z = 2
      · subst hz2
        go_wp2_with (at_builtin; refine wpList_append_lies _ rfl _ _ 32 rfl w.heap.size 3 i0 _ 1 8 Try.underlying32 hi0 hy0 hy1 hy2 rfl (by omega) (.slice (some ⟨b, 0, none⟩) 4 cap) 4 _ rfl (hown2.alloc _) ⟨w2.heap.size, 0, none⟩ 1 1 [.int .i64 1] rfl rfl (World.news_of_block (heap_alloc_new w2 _)) (by simp [Value.oneCell']) (by omega) (by simp only [maxLen]; omega) (by omega) (by simp; omega) (w2.heap.size + 1) (by simp) ?_; intro g' cap' w3 hown3 hgrow hat hg3)
        have hcur3 : Cur w0 A n c w3 g := (HU2.out.alloc _).grown hgrow (by simp [Value.ownBlock]; exact hbg) (fun j hj => by simp [Value.ownBlock] at hj; omega)
        have hgr3 : w.grownBy w3 (some g) := grown_own (gtr HG2.out (grown_new w2 _ _)) hgrow (fun j hj => by simp [Value.ownBlock] at hj; omega)
        have HF := Lib.hid (And.intro hcur3 (And.intro hgr3 hown3))
        clear hcur3 hgr3 hown3 hgrow hat hg3
        go_ret
        exact ⟨_, 5, _, l ++ [1], rfl, by rw [List.length_append, HL.out]; rfl, by omega, by have h := (Owned.of_row HF.out.2.2).1; rw [ncells_append]; exact h, HF.out.1, HF.out.2.1⟩
      · have hz2' : (z == 2) = false := by simpa using hz2
        go_wp2_with fail
        go_ret
        exact ⟨_, 4, _, l, rfl, HL.out, by omega, (Owned.of_row hown2).1, HU2.out, HG2.out⟩

/-- A drawn memory in a world. -/
def Gr (w' : World) (lo : Nat) (X : Option Addr) (m : Nat) (M : List (List Int)) (hs : List Hd) : Prop := M.length = m ∧ m ≤ 3 ∧ small M ∧ RG w' lo w'.heap.size X M hs
def Li (w' : World) (lo : Nat) (X : Option Addr) (m : Nat) (l : List Int) : Prop := l.length = m ∧ m ≤ 5 ∧ Lies w' lo w'.heap.size X (ncells l)
section
variable {w w' : World} {lo lo' g m : Nat} {X : Option Addr} {M : List (List Int)} {hs : List Hd} {l : List Int}
theorem Gr.grown (h : Gr w lo X m M hs) (hg : w.grownBy w' (some g)) (hlo : g < lo) : Gr w' lo X m M hs := ⟨h.1, h.2.1, h.2.2.1, (h.2.2.2.kept (fun k h1 h2 => hg.block k h2 (by simp; omega))).wide (Nat.le_refl _) hg.size⟩
theorem Li.grown (h : Li w lo X m l) (hg : w.grownBy w' (some g)) (hlo : g < lo) : Li w' lo X m l := ⟨h.1, h.2.1, (h.2.2.kept (fun k h1 h2 => hg.block k h2 (by simp; omega))).wide (Nat.le_refl _) hg.size⟩
theorem Gr.below (h : Gr w lo X m M hs) (hb : Below w.heap.size w w') : Gr w' lo X m M hs := ⟨h.1, h.2.1, h.2.2.1, (h.2.2.2.below hb (Nat.le_refl _)).wide (Nat.le_refl _) hb.size⟩
theorem Li.below (h : Li w lo X m l) (hb : Below w.heap.size w w') : Li w' lo X m l := ⟨h.1, h.2.1, (h.2.2.below hb (Nat.le_refl _)).wide (Nat.le_refl _) hb.size⟩
theorem Gr.low (h : Gr w lo X m M hs) (h1 : lo' ≤ lo) : Gr w lo' X m M hs := ⟨h.1, h.2.1, h.2.2.1, h.2.2.2.wide h1 (Nat.le_refl _)⟩
theorem Li.low (h : Li w lo X m l) (h1 : lo' ≤ lo) : Li w lo' X m l := ⟨h.1, h.2.1, h.2.2.wide h1 (Nat.le_refl _)⟩
theorem Gr.cap (h : Gr w lo X m M hs) : capG M := small_cap (by rw [h.1]; exact h.2.1) h.2.2.1
end

def newList : List Int := [0, 1, 3, 4, 24, 25, -1, 9223372036854775807]
def OneLi (w : World) (e : Ending) (w' : World) : Prop := ∃ X m d l, e = .returned (.slice X m d) ∧ Li w' w.heap.size X m l ∧ Below w.heap.size w w'
set_option maxHeartbeats 4000000 in
theorem drawPageOk_any (A : Option Addr) (n c : Nat) (w : World) (hn : n ≤ 1048576) (hcode : CodeAt w A n) :
    Calls Try.prog 26 #[.slice A n c] w (OneLi w) := by
  have HC := Lib.hid hcode
  clear hcode
  go_enter Try.func26, Try.ntmps26
  go_wp2_with fail
  refine (new_any A n c _ hn HC.out).mono ?_
  rintro e w0 ⟨rfl, hcur, hsz0⟩
  clear hsz0
  have HU := Lib.hid hcur
  have hs0 := hcur.lt
  clear hcur
  go_wp2_with fail
  refine (cells_any w A n c _ _ hn HC.out HU.out).mono ?_
  rintro e w1 ⟨X1, m1, d1, l1, rfl, p1, q1, s1, hc1, hg1⟩
  have HT1 := Lib.hid (show Li w1 w0.heap.size X1 m1 l1 from ⟨p1, q1, s1⟩)
  clear p1 q1 s1
  have HU1 := Lib.hid hc1
  have hs1 := hg1.size
  clear hc1 hg1 
  go_wp2_with fail
  go_ret
  exact ⟨_, _, _, _, rfl, HT1.out.low (by omega), HU1.out.1⟩

def GrI (w : World) (e : Ending) (w' : World) : Prop := ∃ X m d M hs x, e = .returned (.tuple #[.slice X m d, .int .i64 x]) ∧ Gr w' w.heap.size X m M hs ∧ Below w.heap.size w w'
set_option maxHeartbeats 4000000 in
theorem drawMemOk_any (A : Option Addr) (n c : Nat) (w : World) (hn : n ≤ 1048576) (hcode : CodeAt w A n) :
    Calls Try.prog 25 #[.slice A n c] w (GrI w) := by
  have HC := Lib.hid hcode
  clear hcode
  go_enter Try.func25, Try.ntmps25
  go_wp2_with fail
  refine (new_any A n c _ hn HC.out).mono ?_
  rintro e w0 ⟨rfl, hcur, hsz0⟩
  clear hsz0
  have HU := Lib.hid hcur
  have hs0 := hcur.lt
  clear hcur
  go_wp2_with fail
  refine (any_any w A n c _ _ hn HC.out HU.out).mono ?_
  rintro e w1 ⟨X1, m1, d1, M1, gs1, rfl, p1, q1, r1, s1, hc1, hg1⟩
  have HT1 := Lib.hid (show Gr w1 w0.heap.size X1 m1 M1 gs1 from ⟨p1, q1, r1, s1⟩)
  clear p1 q1 r1 s1
  have HU1 := Lib.hid hc1
  have hs1 := hg1.size
  clear hc1 hg1 
  go_wp2_with fail
  refine (pick_any w A n c _ _ w1.heap.size 5 [3, 3, 3, 2, -1] (by decide) (by decide) hn HC.out (HU1.out.alloc _) (by omega) rfl (heap_alloc_new w1 _)).mono ?_
  rintro e w2 ⟨x2, rfl, hx2, hc2, hg2⟩
  have HT1_2 := Lib.hid (HT1.out.grown (gtr (grown_new w1 _ _) hg2) (by omega))
  have HU2 := Lib.hid hc2
  have hs2 : w1.heap.size ≤ w2.heap.size := by have := hg2.size; simp at this; omega
  clear hc2 hg2 hx2 HT1
  go_wp2_with fail
  go_ret2
  exact ⟨_, _, _, _, _, _, rfl, HT1_2.out.low (by omega), HU2.out.1⟩

def GrII (w : World) (e : Ending) (w' : World) : Prop := ∃ X m d M hs x y, e = .returned (.tuple #[.slice X m d, .int .i64 x, .int .i64 y]) ∧ Gr w' w.heap.size X m M hs ∧ Below w.heap.size w w'
set_option maxHeartbeats 4000000 in
theorem drawCellAt_any (A : Option Addr) (n c : Nat) (w : World) (hn : n ≤ 1048576) (hcode : CodeAt w A n) :
    Calls Try.prog 17 #[.slice A n c] w (GrII w) := by
  have HC := Lib.hid hcode
  clear hcode
  go_enter Try.func17, Try.ntmps17
  go_wp2_with fail
  refine (new_any A n c _ hn HC.out).mono ?_
  rintro e w0 ⟨rfl, hcur, hsz0⟩
  clear hsz0
  have HU := Lib.hid hcur
  have hs0 := hcur.lt
  clear hcur
  go_wp2_with fail
  refine (any_any w A n c _ _ hn HC.out HU.out).mono ?_
  rintro e w1 ⟨X1, m1, d1, M1, gs1, rfl, p1, q1, r1, s1, hc1, hg1⟩
  have HT1 := Lib.hid (show Gr w1 w0.heap.size X1 m1 M1 gs1 from ⟨p1, q1, r1, s1⟩)
  clear p1 q1 r1 s1
  have HU1 := Lib.hid hc1
  have hs1 := hg1.size
  clear hc1 hg1 
  go_wp2_with fail
  refine (pick_any w A n c _ _ w1.heap.size 5 [0, 1, 2, 3, -1] (by decide) (by decide) hn HC.out (HU1.out.alloc _) (by omega) rfl (heap_alloc_new w1 _)).mono ?_
  rintro e w2 ⟨x2, rfl, hx2, hc2, hg2⟩
  have HT1_2 := Lib.hid (HT1.out.grown (gtr (grown_new w1 _ _) hg2) (by omega))
  have HU2 := Lib.hid hc2
  have hs2 : w1.heap.size ≤ w2.heap.size := by have := hg2.size; simp at this; omega
  clear hc2 hg2 hx2 HT1
  go_wp2_with fail
  refine (pick_any w A n c _ _ w2.heap.size 6 [0, 1, 3, 4, -1, 9223372036854775807] (by decide) (by decide) hn HC.out (HU2.out.alloc _) (by omega) rfl (heap_alloc_new w2 _)).mono ?_
  rintro e w3 ⟨x3, rfl, hx3, hc3, hg3⟩
  have HT1_3 := Lib.hid (HT1_2.out.grown (gtr (grown_new w2 _ _) hg3) (by omega))
  have HU3 := Lib.hid hc3
  have hs3 : w2.heap.size ≤ w3.heap.size := by have := hg3.size; simp at this; omega
  clear hc3 hg3 hx3 HT1_2
  go_wp2_with fail
  go_ret3
  exact ⟨_, _, _, _, _, _, _, rfl, HT1_3.out.low (by omega), HU3.out.1⟩

def GrILi (w : World) (e : Ending) (w' : World) : Prop := ∃ X m d M hs x Y k f l, e = .returned (.tuple #[.slice X m d, .int .i64 x, .slice Y k f]) ∧ Gr w' w.heap.size X m M hs ∧ Li w' w.heap.size Y k l ∧ Below w.heap.size w w'
set_option maxHeartbeats 4000000 in
theorem drawWithPage_any (A : Option Addr) (n c : Nat) (w : World) (hn : n ≤ 1048576) (hcode : CodeAt w A n) :
    Calls Try.prog 22 #[.slice A n c] w (GrILi w) := by
  have HC := Lib.hid hcode
  clear hcode
  go_enter Try.func22, Try.ntmps22
  go_wp2_with fail
  refine (new_any A n c _ hn HC.out).mono ?_
  rintro e w0 ⟨rfl, hcur, hsz0⟩
  clear hsz0
  have HU := Lib.hid hcur
  have hs0 := hcur.lt
  clear hcur
  go_wp2_with fail
  refine (any_any w A n c _ _ hn HC.out HU.out).mono ?_
  rintro e w1 ⟨X1, m1, d1, M1, gs1, rfl, p1, q1, r1, s1, hc1, hg1⟩
  have HT1 := Lib.hid (show Gr w1 w0.heap.size X1 m1 M1 gs1 from ⟨p1, q1, r1, s1⟩)
  clear p1 q1 r1 s1
  have HU1 := Lib.hid hc1
  have hs1 := hg1.size
  clear hc1 hg1 
  go_wp2_with fail
  refine (pick_any w A n c _ _ w1.heap.size 5 [0, 1, 2, 3, -1] (by decide) (by decide) hn HC.out (HU1.out.alloc _) (by omega) rfl (heap_alloc_new w1 _)).mono ?_
  rintro e w2 ⟨x2, rfl, hx2, hc2, hg2⟩
  have HT1_2 := Lib.hid (HT1.out.grown (gtr (grown_new w1 _ _) hg2) (by omega))
  have HU2 := Lib.hid hc2
  have hs2 : w1.heap.size ≤ w2.heap.size := by have := hg2.size; simp at this; omega
  clear hc2 hg2 hx2 HT1
  go_wp2_with fail
  refine (cells_any w A n c _ _ hn HC.out HU2.out).mono ?_
  rintro e w3 ⟨X3, m3, d3, l3, rfl, p3, q3, s3, hc3, hg3⟩
  have HT1_3 := Lib.hid (HT1_2.out.grown hg3 (by omega))
  have HT3 := Lib.hid (show Li w3 w2.heap.size X3 m3 l3 from ⟨p3, q3, s3⟩)
  clear p3 q3 s3
  have HU3 := Lib.hid hc3
  have hs3 := hg3.size
  clear hc3 hg3 HT1_2
  go_wp2_with fail
  go_ret3
  exact ⟨_, _, _, _, _, _, _, _, _, _, rfl, HT1_3.out.low (by omega), HT3.out.low (by omega), HU3.out.1⟩


set_option maxHeartbeats 4000000 in
theorem drawPageAt_any (A : Option Addr) (n c : Nat) (w : World) (hn : n ≤ 1048576) (hcode : CodeAt w A n) :
    Calls Try.prog 24 #[.slice A n c] w (GrI w) := by
  have HC := Lib.hid hcode
  clear hcode
  go_enter Try.func24, Try.ntmps24
  go_wp2_with fail
  refine (drawCellAt_any A n c _ hn HC.out).mono ?_
  rintro e w1 ⟨X, m, d, M, gs, x, y, rfl, hG, hb⟩
  have HF := Lib.hid (And.intro hG hb)
  clear hG hb
  go_wp2_with fail
  go_ret2
  exact ⟨_, _, _, _, _, _, rfl, HF.out.1, HF.out.2⟩

def GrIII (w : World) (e : Ending) (w' : World) : Prop := ∃ X m d M hs x y z, e = .returned (.tuple #[.slice X m d, .int .i64 x, .int .i64 y, .int .i64 z]) ∧ Gr w' w.heap.size X m M hs ∧ Below w.heap.size w w'
set_option maxHeartbeats 4000000 in
theorem drawWithCell_any (A : Option Addr) (n c : Nat) (w : World) (hn : n ≤ 1048576) (hcode : CodeAt w A n) :
    Calls Try.prog 15 #[.slice A n c] w (GrIII w) := by
  have HC := Lib.hid hcode
  clear hcode
  go_enter Try.func15, Try.ntmps15
  go_wp2_with fail
  refine (drawCellAt_any A n c _ hn HC.out).mono ?_
  rintro e w1 ⟨X, m, d, M, gs, x, y, rfl, hG, hb⟩
  have HG := Lib.hid hG
  have HB := Lib.hid hb
  have HC1 := Lib.hid (HC.out.below hb)
  clear hG hb
  go_wp2_with fail
  refine (new_any A n c _ hn HC1.out).mono ?_
  rintro e w2 ⟨rfl, hcur, hsz0⟩
  have HU := Lib.hid hcur
  have hlt := hcur.lt
  have HG2 := Lib.hid (HG.out.below hcur.1)
  have HB2 := Lib.hid (btr HB.out hcur.1)
  clear hcur hsz0
  go_wp2_with fail
  refine (pick_any w1 A n c _ _ w2.heap.size 5 [0, 7, 99, 100, -1] (by decide) (by decide) hn HC1.out (HU.out.alloc _) (by omega) rfl (heap_alloc_new w2 _)).mono ?_
  rintro e w3 ⟨v, rfl, hv, hc3, hg3⟩
  have HF := Lib.hid (And.intro (HG.out.below hc3.1) (btr HB.out hc3.1))
  clear hv hc3 hg3
  go_wp2_with fail
  exact bodyPost_ret (v := .tuple #[.slice X m d, .int .i64 x, .int .i64 y, .int .i64 v]) (by simp [results, Try.results15, go_sem]) rfl ⟨_, _, _, _, _, _, _, _, rfl, HF.out.1, HF.out.2⟩

def IntP (w : World) (e : Ending) (w' : World) : Prop := (∃ x : Int, e = .returned (.int .i64 x)) ∧ Below w.heap.size w w'
set_option maxHeartbeats 4000000 in
theorem drawTableNew_any (A : Option Addr) (n c : Nat) (w : World) (hn : n ≤ 1048576) (hcode : CodeAt w A n) :
    Calls Try.prog 65 #[.slice A n c] w (IntP w) := by
  have HC := Lib.hid hcode
  clear hcode
  go_enter Try.func65, Try.ntmps65
  go_wp2_with fail
  refine (new_any A n c _ hn HC.out).mono ?_
  rintro e w0 ⟨rfl, hcur, hsz0⟩
  have HU := Lib.hid hcur
  have hs := hcur.lt
  clear hcur hsz0
  go_wp2_with fail
  refine (pick_any w A n c _ _ w0.heap.size 8 [0, 1, 4, 8, 24, 25, -1, 9223372036854775807] (by decide) (by decide) hn HC.out (HU.out.alloc _) (by omega) rfl (heap_alloc_new w0 _)).mono ?_
  rintro e w1 ⟨x, rfl, hx, hc1, hg1⟩
  have HF := Lib.hid hc1.1
  clear hx hc1 hg1
  go_wp2_with fail
  go_ret
  exact ⟨⟨x, rfl⟩, HF.out⟩
set_option maxHeartbeats 4000000 in
theorem drawMemNew_any (A : Option Addr) (n c : Nat) (w : World) (hn : n ≤ 1048576) (hcode : CodeAt w A n) :
    Calls Try.prog 28 #[.slice A n c] w (IntP w) := by
  have HC := Lib.hid hcode
  clear hcode
  go_enter Try.func28, Try.ntmps28
  go_wp2_with fail
  refine (drawTableNew_any A n c _ hn HC.out).mono ?_
  rintro e w1 ⟨⟨x, rfl⟩, hb⟩
  have HB := Lib.hid hb
  clear hb
  go_wp2_with fail
  go_ret
  exact ⟨⟨x, rfl⟩, HB.out⟩

def GrGr (w : World) (e : Ending) (w' : World) : Prop := ∃ X m d M hs Y k f N gs, e = .returned (.tuple #[.slice X m d, .slice Y k f]) ∧ Gr w' w.heap.size X m M hs ∧ Gr w' w.heap.size Y k N gs ∧ Below w.heap.size w w'
set_option maxHeartbeats 4000000 in
theorem drawSameMem_any (A : Option Addr) (n c : Nat) (w : World) (hn : n ≤ 1048576) (hcode : CodeAt w A n) :
    Calls Try.prog 27 #[.slice A n c] w (GrGr w) := by
  have HC := Lib.hid hcode
  clear hcode
  go_enter Try.func27, Try.ntmps27
  go_wp2_with fail
  refine (new_any A n c _ hn HC.out).mono ?_
  rintro e w0 ⟨rfl, hcur, hsz0⟩
  have HU := Lib.hid hcur
  have hs0 := hcur.lt
  clear hcur hsz0
  go_wp2_with fail
  refine (any_any w A n c _ _ hn HC.out HU.out).mono ?_
  rintro e w1 ⟨X1, m1, d1, M1, gs1, rfl, p1, q1, r1, s1, hc1, hg1⟩
  have HT1 := Lib.hid (show Gr w1 w0.heap.size X1 m1 M1 gs1 from ⟨p1, q1, r1, s1⟩)
  have HU1 := Lib.hid hc1
  have hs1 := hg1.size
  clear p1 q1 r1 s1 hc1 hg1
  go_wp2_with fail
  refine (once_any w A n c _ _ 2 (by omega) (by omega) hn HC.out HU1.out).mono ?_
  rintro e w2 ⟨b, rfl, hc2, hg2⟩
  have HT2 := Lib.hid (HT1.out.grown hg2 (by omega))
  have HU2 := Lib.hid hc2
  have hs2 := hg2.size
  clear hc2 hg2 HT1
  cases b
  · go_wp2_with fail
    refine (any_any w A n c _ _ hn HC.out HU2.out).mono ?_
    rintro e w3 ⟨X3, m3, d3, M3, gs3, rfl, p3, q3, r3, s3, hc3, hg3⟩
    have HF := Lib.hid (And.intro ((HT2.out.grown hg3 (by omega)).low (lo' := w.heap.size) (by omega)) (And.intro ((show Gr w3 w2.heap.size X3 m3 M3 gs3 from ⟨p3, q3, r3, s3⟩).low (lo' := w.heap.size) (by omega)) hc3.1))
    clear p3 q3 r3 s3 hc3 hg3
    go_wp2_with fail
    go_ret2
    exact ⟨_, _, _, _, _, _, _, _, _, _, rfl, HF.out.1, HF.out.2.1, HF.out.2.2⟩
  · go_wp2_with fail
    refine (spec_copyMem X1 m1 d1 _ M1 gs1 _ HT2.out.cap HT2.out.1 HT2.out.2.2.2).mono ?_
    rintro e w3 ⟨X3, m3, d3, gs3, rfl, hx3, ho3, hb3⟩
    obtain rfl : m1 = m3 := by have := HT2.out.1; omega
    have HF := Lib.hid (And.intro ((HT2.out.below hb3).low (lo' := w.heap.size) (by omega)) (And.intro ((show Gr w3 w2.heap.size X3 m1 M1 gs3 from ⟨hx3, HT2.out.2.1, HT2.out.2.2.1, ho3.rg⟩).low (lo' := w.heap.size) (by omega)) (HU2.out.1.trans (hb3.mono (by omega)))))
    clear hx3 ho3 hb3
    go_wp2_with fail
    go_ret2
    exact ⟨_, _, _, _, _, _, _, _, _, _, rfl, HF.out.1, HF.out.2.1, HF.out.2.2⟩
end Go.Proofs.Ytkbcmeachfplnaa.GDraw
