/-
  The given model's draws of arguments for chapter 3's functions: tables and slots whose numbers are of an int's range, in new memory; no statement about the project's code stands here. No condition.
-/
import Derived.Test.YtocclalchakibaaSlotTab
namespace Go.Proofs.Ytocclalchakibaa.SDraw
open Go.ChangeShapes Go.WideShapes Go.ChangeAt Go.RowKit
open Go.Proofs.Ytocclalchakibaa.Base Go.Proofs.Ytocclalchakibaa.Mem Go.Proofs.Ytocclalchakibaa.Slots Go.Proofs.Ytocclalchakibaa.Draw
set_option linter.unusedVariables false

theorem wf_pred {x : Int} (h0 : 0 ≤ x) (h1 : x < 5) : (Lit.int .i64 (x - 1)).wf = true := by
  have : x = 0 ∨ x = 1 ∨ x = 2 ∨ x = 3 ∨ x = 4 := by omega
  rcases this with rfl | rfl | rfl | rfl | rfl <;> decide
/-- A table in a world. -/
def Tab (w' : World) (lo sz : Nat) (ad : Addr) (m : Nat) (l : List Sl) : Prop := m ≤ sz ∧ l.length = m ∧ wfL l ∧ Lies w' lo w'.heap.size (some ad) (scells l)
theorem Tab.grown {w w' : World} {lo sz g m : Nat} {ad : Addr} {l : List Sl} (h : Tab w lo sz ad m l) (hg : w.grownBy w' (some g)) (hlo : g < lo) : Tab w' lo sz ad m l :=
  ⟨h.1, h.2.1, h.2.2.1, (h.2.2.2.kept (fun k h1 h2 => hg.block k h2 (by simp; omega))).wide (Nat.le_refl _) hg.size⟩
theorem Tab.below {w w' : World} {lo sz m : Nat} {ad : Addr} {l : List Sl} (h : Tab w lo sz ad m l) (hb : Below w.heap.size w w') : Tab w' lo sz ad m l :=
  ⟨h.1, h.2.1, h.2.2.1, (h.2.2.2.below hb (Nat.le_refl _)).wide (Nat.le_refl _) hb.size⟩
theorem Tab.low {w : World} {lo lo' sz m : Nat} {ad : Addr} {l : List Sl} (h : Tab w lo sz ad m l) (h1 : lo' ≤ lo) : Tab w lo' sz ad m l := ⟨h.1, h.2.1, h.2.2.1, h.2.2.2.wide h1 (Nat.le_refl _)⟩

def OneTab (w : World) (sz : Nat) (e : Ending) (w' : World) : Prop :=
  ∃ ad m cap l, e = .returned (.slice (some ad) m cap) ∧ Tab w' w.heap.size sz ad m l ∧ Below w.heap.size w w'
def TabInt (w : World) (sz : Nat) (e : Ending) (w' : World) : Prop :=
  ∃ ad m cap l x, e = .returned (.tuple #[.slice (some ad) m cap, .int .i64 x]) ∧ (Lit.int .i64 x).wf = true ∧ Tab w' w.heap.size sz ad m l ∧ Below w.heap.size w w'

set_option maxHeartbeats 2000000 in
theorem drawMapped_any (A : Option Addr) (n c : Nat) (w : World) (hn : n ≤ 1048576) (hcode : CodeAt w A n) :
    Calls Try.prog 37 #[.slice A n c] w (OneTab w 6) := by
  have HC := Lib.hid hcode
  clear hcode
  go_enter Try.func37, Try.ntmps37
  go_wp2_with fail
  refine (new_any A n c _ hn HC.out).mono ?_
  rintro e w0 ⟨rfl, hcur, hsz0⟩
  clear hsz0
  have HU := Lib.hid hcur
  have hs := hcur.1.size
  clear hcur
  go_wp2_with fail
  refine (anyTable_any w A n c _ 6 _ 3 (by omega) (by omega) (by omega) (by omega) hn HC.out HU.out).mono ?_
  rintro e w1 ⟨ad, m, cap, l, rfl, hm, hl, hwf, hli, hc1, hg1⟩
  have HF := Lib.hid (And.intro (show Tab w1 w.heap.size 6 ad m l from ⟨hm, hl, hwf, hli.wide hs (Nat.le_refl _)⟩) hc1.1)
  clear hm hl hwf hli hc1 hg1
  go_wp2_with fail
  go_ret
  exact ⟨ad, m, cap, l, rfl, HF.out.1, HF.out.2⟩

set_option maxHeartbeats 2000000 in
theorem drawUses_any (A : Option Addr) (n c : Nat) (w : World) (hn : n ≤ 1048576) (hcode : CodeAt w A n) :
    Calls Try.prog 33 #[.slice A n c] w (TabInt w 6) := by
  have HC := Lib.hid hcode
  clear hcode
  go_enter Try.func33, Try.ntmps33
  go_wp2_with fail
  refine (new_any A n c _ hn HC.out).mono ?_
  rintro e w0 ⟨rfl, hcur, hsz0⟩
  clear hsz0
  have HU := Lib.hid hcur
  have hs := hcur.lt
  clear hcur
  go_wp2_with fail
  refine (anyTable_any w A n c _ 6 _ 3 (by omega) (by omega) (by omega) (by omega) hn HC.out HU.out).mono ?_
  rintro e w1 ⟨ad, m, cap, l, rfl, hm, hl, hwf, hli, hc1, hg1⟩
  have HT := Lib.hid (show Tab w1 w0.heap.size 6 ad m l from ⟨hm, hl, hwf, hli⟩)
  have HU1 := Lib.hid hc1
  clear hm hl hwf hli hc1 hg1 HU
  go_wp2_with fail
  refine (below_any w A n c _ _ 5 (by omega) (by omega) hn HC.out HU1.out).mono ?_
  rintro e w2 ⟨x, rfl, hx0, hx1, hc2, hg2⟩
  have HF := Lib.hid (And.intro ((HT.out.grown hg2 hs).low (Nat.le_of_lt hs)) (And.intro hc2.1 (wf_pred hx0 hx1)))
  clear hc2 hg2 HU1 HT
  go_wp2_with fail
  go_ret2
  exact ⟨ad, m, cap, l, x - 1, rfl, HF.out.2.2, HF.out.1, HF.out.2.1⟩

set_option maxHeartbeats 2000000 in
theorem drawAt_any (A : Option Addr) (n c : Nat) (w : World) (hn : n ≤ 1048576) (hcode : CodeAt w A n) :
    Calls Try.prog 18 #[.slice A n c] w (TabInt w 4) := by
  have HC := Lib.hid hcode
  clear hcode
  go_enter Try.func18, Try.ntmps18
  go_wp2_with fail
  refine (new_any A n c _ hn HC.out).mono ?_
  rintro e w0 ⟨rfl, hcur, hsz0⟩
  clear hsz0
  have HU := Lib.hid hcur
  have hs := hcur.lt
  clear hcur
  go_wp2_with fail
  refine (anyTable_any w A n c _ 4 _ 8 (by omega) (by omega) (by omega) (by omega) hn HC.out HU.out).mono ?_
  rintro e w1 ⟨ad, m, cap, l, rfl, hm, hl, hwf, hli, hc1, hg1⟩
  have HT := Lib.hid (show Tab w1 w0.heap.size 4 ad m l from ⟨hm, hl, hwf, hli⟩)
  have HU1 := Lib.hid hc1
  clear hm hl hwf hli hc1 hg1 HU
  go_wp2_with fail
  refine (page_any w A n c _ _ hn HC.out HU1.out).mono ?_
  rintro e w2 ⟨x, rfl, hx, hc2, hg2⟩
  have HF := Lib.hid (And.intro ((HT.out.grown hg2 hs).low (Nat.le_of_lt hs)) (And.intro hc2.1 hx))
  clear hx hc2 hg2 HU1 HT
  go_wp2_with fail
  go_ret2
  exact ⟨ad, m, cap, l, x, rfl, HF.out.2.2, HF.out.1, HF.out.2.1⟩

def IntPost (w : World) (e : Ending) (w' : World) : Prop := ∃ x : Int, e = .returned (.int .i64 x) ∧ (Lit.int .i64 x).wf = true ∧ Below w.heap.size w w'
def TabIntInt (w : World) (sz : Nat) (e : Ending) (w' : World) : Prop :=
  ∃ ad m cap l x y, e = .returned (.tuple #[.slice (some ad) m cap, .int .i64 x, .int .i64 y]) ∧ (Lit.int .i64 x).wf = true ∧ (Lit.int .i64 y).wf = true ∧ Tab w' w.heap.size sz ad m l ∧ Below w.heap.size w w'
def SlotInt (w : World) (e : Ending) (w' : World) : Prop :=
  ∃ x y p, e = .returned (.tuple #[.agg #[.int .i64 x, .int .i64 y], .int .i64 p]) ∧ wfS (x, y) ∧ (Lit.int .i64 p).wf = true ∧ Below w.heap.size w w'
def TabIntSlot (w : World) (sz : Nat) (e : Ending) (w' : World) : Prop :=
  ∃ ad m cap l p x y, e = .returned (.tuple #[.slice (some ad) m cap, .int .i64 p, .agg #[.int .i64 x, .int .i64 y]]) ∧ (Lit.int .i64 p).wf = true ∧ wfS (x, y) ∧ Tab w' w.heap.size sz ad m l ∧ Below w.heap.size w w'

def newList : List Int := [0, 1, 4, 8, 24, 25, -1, 9223372036854775807]
theorem newList_wf : ∀ x ∈ newList, (Lit.int .i64 x).wf = true := by decide
def sizeList : List Int := [4, 4, 4, 3, -1]
theorem sizeList_wf : ∀ x ∈ sizeList, (Lit.int .i64 x).wf = true := by decide
def manyList : List Int := [8, 8, 8, 4, 0]
theorem manyList_wf : ∀ x ∈ manyList, (Lit.int .i64 x).wf = true := by decide
def okList : List Int := [8, 8, 4, 0, -1, 9223372036854775807, -9223372036854775808]
theorem okList_wf : ∀ x ∈ okList, (Lit.int .i64 x).wf = true := by decide

set_option maxHeartbeats 2000000 in
theorem drawNew_any (A : Option Addr) (n c : Nat) (w : World) (hn : n ≤ 1048576) (hcode : CodeAt w A n) :
    Calls Try.prog 29 #[.slice A n c] w (IntPost w) := by
  have HC := Lib.hid hcode
  clear hcode
  go_enter Try.func29, Try.ntmps29
  go_wp2_with fail
  refine (new_any A n c _ hn HC.out).mono ?_
  rintro e w0 ⟨rfl, hcur, hsz0⟩
  clear hsz0
  have HU := Lib.hid hcur
  have hs := hcur.lt
  clear hcur
  go_wp2_with fail
  refine (pick_any w A n c _ _ w0.heap.size 8 newList (by decide) (by decide) hn HC.out (HU.out.alloc _) (by omega) rfl (heap_alloc_new w0 _)).mono ?_
  rintro e w1 ⟨x, rfl, hx, hc1, hg1⟩
  have HF := Lib.hid (And.intro (newList_wf x hx) hc1.1)
  clear hx hc1 hg1
  go_wp2_with fail
  go_ret
  exact ⟨x, rfl, HF.out.1, HF.out.2⟩

set_option maxHeartbeats 2000000 in
theorem drawTabOk_any (A : Option Addr) (n c : Nat) (w : World) (hn : n ≤ 1048576) (hcode : CodeAt w A n) :
    Calls Try.prog 20 #[.slice A n c] w (TabIntInt w 4) := by
  have HC := Lib.hid hcode
  clear hcode
  go_enter Try.func20, Try.ntmps20
  go_wp2_with fail
  refine (new_any A n c _ hn HC.out).mono ?_
  rintro e w0 ⟨rfl, hcur, hsz0⟩
  clear hsz0
  have HU := Lib.hid hcur
  have hs := hcur.lt
  clear hcur
  go_wp2_with fail
  refine (anyTable_any w A n c _ 4 _ 8 (by omega) (by omega) (by omega) (by omega) hn HC.out HU.out).mono ?_
  rintro e w1 ⟨ad, m, cap, l, rfl, hm, hl, hwf, hli, hc1, hg1⟩
  have HT := Lib.hid (show Tab w1 w0.heap.size 4 ad m l from ⟨hm, hl, hwf, hli⟩)
  have HU1 := Lib.hid hc1
  have hs1 := hg1.size
  clear hm hl hwf hli hc1 hg1 HU
  go_wp2_with fail
  refine (pick_any w A n c _ _ w1.heap.size 5 sizeList (by decide) (by decide) hn HC.out (HU1.out.alloc _) (by omega) rfl (heap_alloc_new w1 _)).mono ?_
  rintro e w2 ⟨x, rfl, hx, hc2, hg2⟩
  have HX := Lib.hid (sizeList_wf x hx)
  have HT2 := Lib.hid (HT.out.grown (gtr (grown_new w1 _ _) hg2) hs)
  have HU2 := Lib.hid hc2
  have hs2 := (gtr (grown_new w1 _ _) hg2).size
  clear hx hc2 hg2 HU1 HT
  go_wp2_with fail
  refine (pick_any w A n c _ _ w2.heap.size 5 manyList (by decide) (by decide) hn HC.out (HU2.out.alloc _) (by omega) rfl (heap_alloc_new w2 _)).mono ?_
  rintro e w3 ⟨y, rfl, hy, hc3, hg3⟩
  have HF := Lib.hid (And.intro ((HT2.out.grown (gtr (grown_new w2 _ _) hg3) hs).low (Nat.le_of_lt hs)) (And.intro hc3.1 (manyList_wf y hy)))
  clear hy hc3 hg3 HU2 HT2
  go_wp2_with fail
  go_ret3
  exact ⟨ad, m, cap, l, x, y, rfl, HX.out, HF.out.2.2, HF.out.1, HF.out.2.1⟩

theorem new_boxed {A : Option Addr} {n c : Nat} {w w0 : World} {o : Obj} (h : Cur (w.alloc o) A n c w0 (w.alloc o).heap.size) : Cur (w.alloc o) A n c w0 (w.heap.size + 1) := by simpa using h

set_option maxHeartbeats 2000000 in
theorem drawOk_any (A : Option Addr) (n c : Nat) (w : World) (hn : n ≤ 1048576) (hcode : CodeAt w A n) :
    Calls Try.prog 19 #[.slice A n c] w (SlotInt w) := by
  have HC := Lib.hid (hcode.below ((Below.refl w.heap.size w).alloc (Nat.le_refl _) (.cells #[.int .i64 0, .int .i64 0] 26)))
  clear hcode
  go_enter Try.func19, Try.ntmps19
  go_wp2_with fail
  refine (new_any A n c _ hn HC.out).mono ?_
  rintro e w0 ⟨rfl, hcur, hsz0⟩
  clear hsz0
  have hcur2 := new_boxed hcur
  have HU := Lib.hid hcur2
  have hs := hcur2.lt
  clear hcur hcur2
  go_wp2_with fail
  refine (any_any (w.alloc (.cells #[.int .i64 0, .int .i64 0] 26)) A n c (w.heap.size + 1) _ 8 (by omega) (by omega) hn HC.out HU.out).mono ?_
  rintro e w1 ⟨x, y, rfl, hxy, hc1, hg1⟩
  have HX := Lib.hid hxy
  have HU1 := Lib.hid hc1
  have hs1 := hc1.lt
  clear hxy hc1 hg1 HU
  go_wp2_with fail
  refine (pick_any (w.alloc (.cells #[.int .i64 0, .int .i64 0] 26)) A n c (w.heap.size + 1) _ w1.heap.size 7 okList (by decide) (by decide) hn HC.out (HU1.out.alloc _) (by omega) rfl (heap_alloc_new w1 _)).mono ?_
  rintro e w2 ⟨p, rfl, hp, hc2, hg2⟩
  have HP := Lib.hid (okList_wf p hp)
  obtain ⟨j0, j1, f0, f1, hbw⟩ := two_kept hc2.1
  have HB := Lib.hid hbw
  clear hp hc2 hg2 HU1 hbw
  go_wp2_with fail
  exact bodyPost_ret (v := .tuple #[.agg #[.int .i64 x, .int .i64 y], .int .i64 p]) (by simp [results, Try.results19, go_sem, j0, j1]) rfl ⟨x, y, p, rfl, HX.out, HP.out, (HB.out.setCell (p := ⟨w.heap.size, 0, none⟩) (Nat.le_refl _) _).setCell (p := ⟨w.heap.size, 1, none⟩) (Nat.le_refl _) _⟩

theorem Tab.set {w : World} {lo sz m b i : Nat} {ad : Addr} {l : List Sl} (h : Tab w lo sz ad m l) (hb : b < lo) (u : Value) : Tab (w.setCell ⟨b, i, none⟩ u) lo sz ad m l :=
  ⟨h.1, h.2.1, h.2.2.1, by
    have := h.2.2.2.kept (w' := w.setCell ⟨b, i, none⟩ u) (fun k h1 _ => Below.heap_setCell w ⟨b, i, none⟩ u k (by show k ≠ b; omega))
    simpa using this⟩

set_option maxHeartbeats 2000000 in
theorem drawWith_any (A : Option Addr) (n c : Nat) (w : World) (hn : n ≤ 1048576) (hcode : CodeAt w A n) :
    Calls Try.prog 16 #[.slice A n c] w (TabIntSlot w 4) := by
  have HC := Lib.hid (hcode.below ((Below.refl w.heap.size w).alloc (Nat.le_refl _) (.cells #[.int .i64 0, .int .i64 0] 26)))
  clear hcode
  go_enter Try.func16, Try.ntmps16
  go_wp2_with fail
  refine (new_any A n c _ hn HC.out).mono ?_
  rintro e w0 ⟨rfl, hcur, hsz0⟩
  clear hsz0
  have hcur2 := new_boxed hcur
  have HU := Lib.hid hcur2
  have hs := hcur2.lt
  clear hcur hcur2
  go_wp2_with fail
  refine (anyTable_any (w.alloc (.cells #[.int .i64 0, .int .i64 0] 26)) A n c (w.heap.size + 1) 4 _ 8 (by omega) (by omega) (by omega) (by omega) hn HC.out HU.out).mono ?_
  rintro e w1 ⟨ad, m, cap, l, rfl, hm, hl, hwf, hli, hc1, hg1⟩
  have HT := Lib.hid (show Tab w1 w0.heap.size 4 ad m l from ⟨hm, hl, hwf, hli⟩)
  have HU1 := Lib.hid hc1
  clear hm hl hwf hli hc1 hg1 HU
  go_wp2_with fail
  refine (page_any (w.alloc (.cells #[.int .i64 0, .int .i64 0] 26)) A n c (w.heap.size + 1) _ hn HC.out HU1.out).mono ?_
  rintro e w2 ⟨p, rfl, hp, hc2, hg2⟩
  have HP := Lib.hid hp
  have HT2 := Lib.hid (HT.out.grown hg2 hs)
  have HU2 := Lib.hid hc2
  clear hp hc2 hg2 HU1 HT
  go_wp2_with fail
  refine (any_any (w.alloc (.cells #[.int .i64 0, .int .i64 0] 26)) A n c (w.heap.size + 1) _ 8 (by omega) (by omega) hn HC.out HU2.out).mono ?_
  rintro e w3 ⟨x, y, rfl, hxy, hc3, hg3⟩
  have HX := Lib.hid hxy
  obtain ⟨j0, j1, f0, f1, hbw⟩ := two_kept hc3.1
  have HB := Lib.hid hbw
  have HT3 := Lib.hid (HT2.out.grown hg3 hs)
  clear hxy hc3 hg3 HU2 hbw HT2
  go_wp2_with fail
  exact bodyPost_ret (v := .tuple #[.slice (some ad) m cap, .int .i64 p, .agg #[.int .i64 x, .int .i64 y]]) (by simp [results, Try.results16, go_sem, j0, j1]) rfl
    ⟨ad, m, cap, l, p, x, y, rfl, HP.out, HX.out, ((HT3.out.set (b := w.heap.size) (by omega) _).set (b := w.heap.size) (by omega) _).low (by omega), (HB.out.setCell (p := ⟨w.heap.size, 0, none⟩) (Nat.le_refl _) _).setCell (p := ⟨w.heap.size, 1, none⟩) (Nat.le_refl _) _⟩

/-- Two tables. -/
def TwoTabs (w : World) (e : Ending) (w' : World) : Prop :=
  ∃ ad m cap l ad' m' cap' l', e = .returned (.tuple #[.slice (some ad) m cap, .slice (some ad') m' cap']) ∧ Tab w' w.heap.size 4 ad m l ∧ Tab w' w.heap.size 4 ad' m' l' ∧ Below w.heap.size w w'

theorem made1 (w : World) (e : TypeId) : (w.alloc (.cells #[] e)).ownsRow w.heap.size e 2 (.slice (some ⟨w.heap.size, 0, none⟩) 0 0) 0 [] :=
  World.ownsRow_made w #[] 0 (Nat.le_refl _) (Nat.zero_le _) rfl
theorem src1 {w : World} {lo : Nat} {ad : Addr} {cs : List Value} (h : Lies w lo w.heap.size (some ad) cs) (o : Obj) : ∀ j u, cs[j]? = some u → (w.alloc o).cell? (ad.add j) = some u := by
  intro j u hu
  obtain ⟨b, off, e, _, hb, hc⟩ := h j u hu
  cases e
  rw [Addr.add_lit, World.cell?_alloc_lt _ _ _ (by simpa using hb)]
  exact hc
theorem copied1 {w w1 : World} {e : TypeId} {n : Nat} {v : Value} {cs : List Value} (hown : w1.ownsRow w.heap.size e 2 v (0 + n) ([] ++ cs))
    (hgrow : (w.alloc (.cells #[] e)).grownBy w1 (Value.slice (some ⟨w.heap.size, 0, none⟩) 0 0).ownBlock) (hnil : v = .slice none 0 0 ↔ Value.slice (some ⟨w.heap.size, 0, none⟩) 0 0 = .slice none 0 0 ∧ n = 0) :
    ∃ g cap, v = .slice (some ⟨g, 0, none⟩) n cap ∧ w1.ownsRow w.heap.size e 2 (.slice (some ⟨g, 0, none⟩) n cap) n cs ∧ Below w.heap.size w w1 := by
  rw [Nat.zero_add, List.nil_append] at hown
  rcases hown.2 with ⟨h, _⟩ | ⟨g, cap, cur, rfl, _, _, hnc, _⟩
  · have := (hnil.1 h).1
    simp at this
  · refine ⟨g, cap, rfl, hown, ?_⟩
    exact ((Below.refl _ _).alloc (Nat.le_refl _) _).grown hgrow (by simp) (fun k hk => by simp [Value.ownBlock] at hk; omega)

set_option maxHeartbeats 2000000 in
theorem drawSame_any (A : Option Addr) (n c : Nat) (w : World) (hn : n ≤ 1048576) (hcode : CodeAt w A n) :
    Calls Try.prog 38 #[.slice A n c] w (TwoTabs w) := by
  obtain ⟨i0, hi0, hz0, hz1, hz2⟩ := info_parts Try.infoSlot3
  have HC := Lib.hid hcode
  clear hcode
  go_enter Try.func38, Try.ntmps38
  go_wp2_with fail
  refine (new_any A n c _ hn HC.out).mono ?_
  rintro e w0 ⟨rfl, hcur, hsz0⟩
  clear hsz0
  have HU := Lib.hid hcur
  have hs := hcur.lt
  clear hcur
  go_wp2_with fail
  refine (anyTable_any w A n c _ 4 _ 3 (by omega) (by omega) (by omega) (by omega) hn HC.out HU.out).mono ?_
  rintro e w1 ⟨ad, m, cap, l, rfl, hm, hl, hwf, hli, hc1, hg1⟩
  have HT := Lib.hid (show Tab w1 w0.heap.size 4 ad m l from ⟨hm, hl, hwf, hli⟩)
  have HU1 := Lib.hid hc1
  clear hm hl hwf hli hc1 hg1 HU
  go_wp2_with fail
  refine (once_any w A n c _ _ 2 (by omega) (by omega) hn HC.out HU1.out).mono ?_
  rintro e w2 ⟨b, rfl, hc2, hg2⟩
  have HT2 := Lib.hid (HT.out.grown hg2 hs)
  have HU2 := Lib.hid hc2
  have hs2 := hc2.1.size
  clear hc2 hg2 HU1 HT
  cases b
  · go_wp2_with fail
    refine (anyTable_any w A n c _ 4 _ 3 (by omega) (by omega) (by omega) (by omega) hn HC.out HU2.out).mono ?_
    rintro e w3 ⟨ad', m', cap', l', rfl, hm, hl, hwf, hli, hc3, hg3⟩
    have HF := Lib.hid (And.intro (show Tab w3 w.heap.size 4 ad' m' l' from ⟨hm, hl, hwf, hli.wide hs2 (Nat.le_refl _)⟩) (And.intro ((HT2.out.grown hg3 hs).low (Nat.le_of_lt hs)) hc3.1))
    clear hm hl hwf hli hc3 hg3 HU2 HT2
    go_wp2_with fail
    go_ret2
    exact ⟨ad, m, cap, l, ad', m', cap', l', rfl, HF.out.2.1, HF.out.1, HF.out.2.2⟩
  · have hmade := Lib.hid (made1 w2 26)
    have HS := Lib.hid (And.intro (show (scells l).length = m * 2 by rw [scells_len, HT2.out.2.1]; omega) (src1 HT2.out.2.2.2 (.cells #[] 26)))
    have hm4 := HT2.out.1
    go_wp2_with (at_builtin; refine wpList_append_own _ rfl _ _ 24 rfl w2.heap.size 26 i0 _ 2 16 Try.underlying24 hi0 hz0 hz1 hz2 rfl (by omega) (.slice (some ⟨w2.heap.size, 0, none⟩) 0 0) 0 [] rfl hmade.out ad m cap (scells l) rfl HS.out.1 HS.out.2 (scells_one l) (by simp only [maxLen]; omega) (by omega) (by simp) ?_; intro v' w3 hown hgrow hnil; obtain ⟨g, cap', rfl, hown1, hbw⟩ := copied1 hown hgrow hnil; have HF := Lib.hid (And.intro hown1 hbw); clear hown hgrow hnil hown1 hbw)
    go_ret2
    have hT3 : Tab w3 w.heap.size 4 ⟨g, 0, none⟩ m l := ⟨HT2.out.1, HT2.out.2.1, HT2.out.2.2.1, (Owned.of_row HF.out.1).1.wide hs2 (Nat.le_refl _)⟩
    exact ⟨ad, m, cap, l, ⟨g, 0, none⟩, m, cap', l, rfl, (HT2.out.below HF.out.2).low (Nat.le_of_lt hs), hT3, btr HU2.out.1 HF.out.2⟩
end Go.Proofs.Ytocclalchakibaa.SDraw
