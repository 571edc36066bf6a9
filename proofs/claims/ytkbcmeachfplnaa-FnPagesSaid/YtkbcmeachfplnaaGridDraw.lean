/-
  The given model's draws of pages and of memories (l04Page, l04Mem, l04Any, l04Cells): at most three pages of at most five cells, in new memory; no statement about the project's code stands here. No condition.
-/
import Derived.Test.YtkbcmeachfplnaaPick
import Derived.Test.YtkbcmeachfplnaaMemPutS
import Derived.Test.YtkbcmeachfplnaaOrdT
namespace Go.Proofs.Ytkbcmeachfplnaa.GDraw
open Go.ChangeShapes Go.WideShapes Go.ChangeAt Go.RowKit
open Go.Proofs.Ytkbcmeachfplnaa.Base Go.Proofs.Ytkbcmeachfplnaa.Mem Go.Proofs.Ytkbcmeachfplnaa.Ints Go.Proofs.Ytkbcmeachfplnaa.Grid Go.Proofs.Ytkbcmeachfplnaa.Draw
set_option linter.unusedVariables false
set_option linter.unusedSimpArgs false

theorem gtr {a b c : World} {row : Option Nat} (h : a.grownBy b row) (k : b.grownBy c row) : a.grownBy c row := grown_trans h k
theorem grown_own {w a b : World} {g : Nat} {row : Option Nat} (h : w.grownBy a (some g)) (k : a.grownBy b row) (hr : ∀ j, row = some j → w.heap.size ≤ j) : w.grownBy b (some g) :=
  ⟨k.os.trans h.os, k.tape.trans h.tape, k.output.trans h.output, Nat.le_trans h.size k.size, fun i hi hne => (k.block i (Nat.lt_of_lt_of_le hi h.size) (fun e => by have := hr i e.symm; omega)).trans (h.block i hi hne)⟩
theorem grown_new (w : World) (o : Obj) (row : Option Nat) : w.grownBy (w.alloc o) row := World.grownBy_alloc w o row
theorem grown_far {w W : World} {g b : Nat} (hG : w.grownBy W (some g)) (hb : w.heap.size ≤ b) (i : Nat) (u : Value) : w.grownBy (W.setCell ⟨b, i, none⟩ u) (some g) :=
  ⟨hG.os, hG.tape, hG.output, by simpa using hG.size, fun k hk hne => (Below.heap_setCell _ _ _ k (by show k ≠ b; omega)).trans (hG.block k hk hne)⟩
theorem var_cur {w0 w1 : World} {A : Option Addr} {n c : Nat} {g b : Nat} (h : Cur w0 A n c w1 g) (hg : g < b) (h0 : w0.heap.size ≤ b) (i : Nat) (u : Value) : Cur w0 A n c (w1.setCell ⟨b, i, none⟩ u) g :=
  h.grown (grown_set w1 b i u) (by simp; omega) (fun k hk => by cases hk; exact h0)

/-- A page that is drawn. -/
def PagePost (w0 : World) (A : Option Addr) (n c : Nat) (w : World) (g : Nat) (e : Ending) (w' : World) : Prop :=
  ∃ b cap l, e = .returned (.slice (some ⟨b, 0, none⟩) 4 cap) ∧ l.length = 4 ∧ w'.ownsRow w.heap.size 3 1 (.slice (some ⟨b, 0, none⟩) 4 cap) 4 (ncells l) ∧ Cur w0 A n c w' g ∧ w.grownBy w' (some g)

set_option maxHeartbeats 4000000 in
theorem page_any (w0 : World) (A : Option Addr) (n c g : Nat) (w : World) (hn : n ≤ 1048576) (hcode : CodeAt w0 A n) (hcur : Cur w0 A n c w g) :
    Calls Try.prog 73 #[.pointer (some ⟨g, 0, none⟩)] w (PagePost w0 A n c w g) := by
  obtain ⟨i0, hi0, hz0, hz1, hz2⟩ := info_parts Grid.Try.infoInt
  have HC := Lib.hid hcode
  have hlt := hcur.lt
  have hs0 := hcur.1.size
  have HU := Lib.hid hcur
  clear hcode hcur
  go_enter Try.func73, Try.ntmps73
  go_wp2_with fail
  go_loopw [3, 4] (fun v i wr => ∃ (k b cap : Nat) (l : List Int), k ≤ 4 ∧ i = .int .i64 k ∧ v = .slice (some ⟨b, 0, none⟩) k cap ∧ l.length = k ∧ wr.ownsRow w.heap.size 3 1 (.slice (some ⟨b, 0, none⟩) k cap) k (ncells l) ∧ Cur w0 A n c wr g ∧ w.grownBy wr (some g)) (fun _ i _ => 4 - (intOf i).toNat)
  case atStart =>
    exact ⟨0, w.heap.size, 0, [], Nat.zero_le _, rfl, rfl, rfl, World.ownsRow_made w #[] 0 (Nat.le_refl _) (Nat.zero_le _) rfl, HU.out.alloc _, grown_new w _ _⟩
  case round =>
    obtain ⟨k, b, cap, l, hk, rfl, rfl, hl, hown, hcur, hgr⟩ := hrel
    have HL := Lib.hid hl
    have HU := Lib.hid hcur
    have HG := Lib.hid hgr
    have hbs := hgr.size
    clear hl hcur hgr
    by_cases hk2 : k < 4
    · have hk3 : (k : Int) < 4 := by omega
      go_wp2_with fail
      refine (below_any w0 A n c g _ 100 (by omega) (by omega) hn HC.out HU.out).mono ?_
      rintro e w1 ⟨x, rfl, hx0, hx1, hc1, hg1⟩
      have hbg : b ≠ g := by have := (hown.lt b rfl).1; omega
      have hown1 := hown.kept hg1 (.inr (by simp [Value.ownBlock]; exact hbg))
      have HU1 := Lib.hid hc1
      have HG1 := Lib.hid (gtr HG.out hg1)
      have hbs1 := HG1.out.size
      have hb1 := (hown1.lt b rfl).1
      clear hc1 hg1 HU HG hown
      go_wp2_with (at_builtin; refine wpList_append_lies _ rfl _ _ 32 rfl w.heap.size 3 i0 _ 1 8 Try.underlying32 hi0 hz0 hz1 hz2 rfl (by omega) (.slice (some ⟨b, 0, none⟩) k cap) k _ rfl (hown1.alloc _) ⟨w1.heap.size, 0, none⟩ 1 1 [.int .i64 x] rfl rfl (World.news_of_block (heap_alloc_new w1 _)) (by simp [Value.oneCell']) (by omega) (by simp only [maxLen]; omega) (by omega) (by simp; omega) (w1.heap.size + 1) (by simp) ?_; intro g' cap' w2 hown2 hgrow hat hg2)
      have hcur2 : Cur w0 A n c w2 g := (HU1.out.alloc _).grown hgrow (by simp [Value.ownBlock]; exact hbg) (fun j hj => by simp [Value.ownBlock] at hj; omega)
      have hgr2 : w.grownBy w2 (some g) := grown_own (gtr HG1.out (grown_new w1 _ _)) hgrow (fun j hj => by simp [Value.ownBlock] at hj; omega)
      have hown3 : w2.ownsRow w.heap.size 3 1 (.slice (some ⟨g', 0, none⟩) (k + 1) cap') (k + 1) (ncells (l ++ [x])) := by rw [ncells_append]; exact hown2
      have hlen : (l ++ [x]).length = k + 1 := by simp [HL.out]
      have HF := Lib.hid (And.intro hcur2 (And.intro hgr2 (And.intro hown3 hlen)))
      clear hown2 hgrow hat hg2 hcur2 hgr2 hown3 hlen
      go_roundw
      case rel => exact ⟨k + 1, g', cap', l ++ [x], by omega, by go_num, rfl, HF.out.2.2.2, HF.out.2.2.1, HF.out.1, HF.out.2.1⟩
      case measure => simp [intOf]; omega
    · obtain rfl : k = 4 := by omega
      go_wp2_with fail
      go_ret
      exact ⟨b, cap, l, rfl, HL.out, hown, HU.out, HG.out⟩

/-- A memory that grows page by page, whatever else the world does below its blocks. -/
structure BuiltG (T : TypeId) (B : Nat) (w : World) (g cap k : Nat) (M : List (List Int)) (hs : List Hd) : Prop where
  row : w.ownsRow B T 1 (.slice (some ⟨g, 0, none⟩) k cap) k (hcells M hs)
  pages : Pages w B w.heap.size M hs
  avoid : Avoids (some g) M hs
theorem BuiltG.og {T : TypeId} {B : Nat} {w : World} {g cap k : Nat} {M : List (List Int)} {hs : List Hd} (h : BuiltG T B w g cap k M hs) : OG w B w.heap.size (some ⟨g, 0, none⟩) M hs := ⟨Owned.of_row h.row, h.pages, h.avoid⟩
theorem BuiltG.step {T : TypeId} {B : Nat} {w w1 w2 : World} {g cap k g' cap' c : Nat} {P : Option Addr} {r : List Int} {o : Obj} {M : List (List Int)} {hs : List Hd} (h : BuiltG T B w g cap k M hs) (hB : B ≤ w.heap.size)
    (hk : ∀ q, B ≤ q → q < w.heap.size → w1.heap[q]? = w.heap[q]?) (hsz : w.heap.size ≤ w1.heap.size) (ho : Owned w1 w.heap.size w1.heap.size P (ncells r))
    (hrow : w2.ownsRow B T 1 (.slice (some ⟨g', 0, none⟩) (k + 1) cap') (k + 1) (hcells M hs ++ [.slice P r.length c])) (hgrow : (w1.alloc o).grownBy w2 (some g)) (hg : some g = some g' ∨ g' = (w1.alloc o).heap.size) :
    BuiltG T B w2 g' cap' (k + 1) (M ++ [r]) (hs ++ [(P, c)]) := by
  have hl := h.pages.1
  have h12 : w1.heap.size < w2.heap.size := by
    have := hgrow.size
    simp at this
    omega
  have hblock : ∀ q, q < w1.heap.size → q ≠ g → w2.heap[q]? = w1.heap[q]? := fun q hq hqg => by
    rw [hgrow.block q (by simp; omega) (by simp; exact hqg)]
    exact ((Below.refl w1.heap.size w1).alloc (Nat.le_refl _) o).block q hq
  have p1 : Pages w1 B w.heap.size M hs := h.pages.kept hk
  have p2 := p1.snoc (k := (P, c)) ho (Nat.le_refl _) hB hsz
  have a2 : Avoids (some g) (M ++ [r]) (hs ++ [(P, c)]) := h.avoid.snoc hl fun hr e => by
    obtain ⟨y1, oy, ey, hy, _, _⟩ := ho.1.at_ (by rw [ncells_len]; exact List.length_pos_iff.2 hr)
    have := (h.row.lt g rfl).2
    simp only [ey] at e
    simp [blk] at e
    omega
  refine ⟨?_, (p2.keptBut a2 (fun q _ q2 q3 => hblock q q2 q3)).wide (Nat.le_refl _) (Nat.le_of_lt h12), ?_⟩
  · rw [hcells_snoc r (P, c) hl]
    exact hrow
  · rcases hg with e | e
    · cases e
      exact a2
    · subst e
      exact Avoids.of_lo p2 (.inr (by simp))

def four (M : List (List Int)) : Prop := ∀ r ∈ M, r.length = 4
theorem four.snoc {M : List (List Int)} {r : List Int} (h : four M) (hr : r.length = 4) : four (M ++ [r]) := fun q hq => by
  rcases List.mem_append.1 hq with h1 | h1
  · exact h q h1
  · have : q = r := by simpa using h1
    rw [this]; exact hr
def caps (hs : List Hd) : Prop := ∀ h ∈ hs, 4 ≤ h.2 ∧ h.2 ≤ 9223372036854775807
theorem caps.snoc {hs : List Hd} {P : Option Addr} {c : Nat} (h : caps hs) (h1 : 4 ≤ c) (h2 : c ≤ 9223372036854775807) : caps (hs ++ [(P, c)]) := fun q hq => by
  rcases List.mem_append.1 hq with h3 | h3
  · exact h q h3
  · have : q = (P, c) := by simpa using h3
    rw [this]; exact ⟨h1, h2⟩
theorem row_cap {w : World} {base n size g cap : Nat} {e : TypeId} {xs : List Value} (h : w.ownsRow base e size (.slice (some ⟨g, 0, none⟩) n cap) n xs) : n ≤ cap ∧ cap ≤ 9223372036854775807 := by
  rcases h.2 with ⟨h', _⟩ | ⟨g1, cap1, cur, h', _, _, hnc, hm, _⟩
  · simp at h'
  · injection h' with h1 h2 h3; simp only [maxLen] at hm; omega
/-- A memory of three pages of four cells that is drawn. -/
def MemPost (w0 : World) (A : Option Addr) (n c : Nat) (w : World) (g : Nat) (e : Ending) (w' : World) : Prop :=
  ∃ b cap M hs, e = .returned (.slice (some ⟨b, 0, none⟩) 3 cap) ∧ M.length = 3 ∧ four M ∧ caps hs ∧ BuiltG 32 w.heap.size w' b cap 3 M hs ∧ Cur w0 A n c w' g ∧ w.grownBy w' (some g)

set_option maxHeartbeats 4000000 in
theorem mem_any (w0 : World) (A : Option Addr) (n c g : Nat) (w : World) (hn : n ≤ 1048576) (hcode : CodeAt w0 A n) (hcur : Cur w0 A n c w g) :
    Calls Try.prog 72 #[.pointer (some ⟨g, 0, none⟩), .int .i64 3] w (MemPost w0 A n c w g) := by
  obtain ⟨i0, hi0, hz0, hz1, hz2⟩ := info_parts Grid.Try.infoPage
  have HC := Lib.hid hcode
  have hlt := hcur.lt
  have hs0 := hcur.1.size
  have HU := Lib.hid hcur
  clear hcode hcur
  go_enter Try.func72, Try.ntmps72
  go_wp2_with fail
  go_loopw [5, 6] (fun v i wr => ∃ (k b cap : Nat) (M : List (List Int)) (hs : List Hd), k ≤ 3 ∧ i = .int .i64 k ∧ v = .slice (some ⟨b, 0, none⟩) k cap ∧ M.length = k ∧ four M ∧ caps hs ∧ BuiltG 32 w.heap.size wr b cap k M hs ∧ Cur w0 A n c wr g ∧ w.grownBy wr (some g)) (fun _ i _ => 3 - (intOf i).toNat)
  case atStart =>
    exact ⟨0, w.heap.size, 0, [], [], Nat.zero_le _, rfl, rfl, rfl, (fun r hr => by cases hr), (fun r hr => by cases hr), ⟨World.ownsRow_made w #[] 0 (Nat.le_refl _) (Nat.zero_le _) rfl, Pages.nil, Avoids.nil⟩, HU.out.alloc _, grown_new w _ _⟩
  case round =>
    obtain ⟨k, b, cap, M, hs, hk, rfl, rfl, hl, h4, hcp, hbu, hcur, hgr⟩ := hrel
    have HP := Lib.hid hcp
    have HL := Lib.hid hl
    have H4 := Lib.hid h4
    have HX := Lib.hid hbu
    have HU := Lib.hid hcur
    have HG := Lib.hid hgr
    have hbs := hgr.size
    have hb0 := hbu.row.lt b rfl
    clear hl h4 hcp hbu hcur hgr
    by_cases hk2 : k < 3
    · have hk3 : (k : Int) < 3 := by omega
      go_wp2_with fail
      refine (page_any w0 A n c g _ hn HC.out HU.out).mono ?_
      rintro e w1 ⟨b1, cap1, r, rfl, hr, hown, hc1, hg1⟩
      have hbg : b ≠ g := by omega
      have hrow1 := HX.out.row.kept hg1 (.inr (by simp [Value.ownBlock]; exact hbg))
      have HR := Lib.hid hr
      have hrc := row_cap hown
      have HO := Lib.hid (Owned.of_row hown)
      have HU1 := Lib.hid hc1
      have HK := Lib.hid (show ∀ q, w.heap.size ≤ q → q < wr.heap.size → w1.heap[q]? = wr.heap[q]? from fun q q1 q2 => hg1.block q q2 (by simp; omega))
      have HG1 := Lib.hid (gtr HG.out hg1)
      have hbs1 := hg1.size
      clear hr hown hc1 hg1 HU HG
      go_wp2_with (at_builtin; refine wpList_append_lies _ rfl _ _ 24 rfl w.heap.size 32 i0 _ 1 24 Try.underlying24 hi0 hz0 hz1 hz2 rfl (by omega) (.slice (some ⟨b, 0, none⟩) k cap) k _ rfl (hrow1.alloc _) ⟨w1.heap.size, 0, none⟩ 1 1 [.slice (some ⟨b1, 0, none⟩) 4 cap1] rfl rfl (World.news_of_block (heap_alloc_new w1 _)) (by simp [Value.oneCell']) (by omega) (by simp only [maxLen]; omega) (by omega) (by simp; omega) (w1.heap.size + 1) (by simp) ?_; intro g' cap' w2 hown2 hgrow hat hg2)
      have hcur2 : Cur w0 A n c w2 g := (HU1.out.alloc _).grown hgrow (by simp [Value.ownBlock]; exact hbg) (fun j hj => by simp [Value.ownBlock] at hj; omega)
      have hgr2 : w.grownBy w2 (some g) := grown_own (gtr HG1.out (grown_new w1 _ _)) hgrow (fun j hj => by simp [Value.ownBlock] at hj; omega)
      have hst := HX.out.step (o := .cells #[.slice (some ⟨b1, 0, none⟩) 4 cap1] 32) (r := r) (c := cap1) hbs HK.out hbs1 HO.out (by rw [HR.out]; exact hown2) (by simpa [Value.ownBlock] using hgrow) (by simpa [Value.ownBlock] using hat)
      have hlen : (M ++ [r]).length = k + 1 := by simp [HL.out]
      have HF := Lib.hid (And.intro hcur2 (And.intro hgr2 (And.intro hst (And.intro hlen (And.intro (H4.out.snoc HR.out) (HP.out.snoc (P := some ⟨b1, 0, none⟩) hrc.1 hrc.2))))))
      clear hown2 hgrow hat hg2 hcur2 hgr2 hst hlen hrc
      go_roundw
      case rel => exact ⟨k + 1, g', cap', _, _, by omega, by go_num, rfl, HF.out.2.2.2.1, HF.out.2.2.2.2.1, HF.out.2.2.2.2.2, HF.out.2.2.1, HF.out.1, HF.out.2.1⟩
      case measure => simp [intOf]; omega
    · obtain rfl : k = 3 := by omega
      go_wp2_with fail
      go_ret
      exact ⟨b, cap, M, hs, rfl, HL.out, H4.out, HP.out, HX.out, HU.out, HG.out⟩

theorem grown_drew (w : World) (row : Option Nat) : w.grownBy w.drew row := ⟨rfl, rfl, rfl, Nat.le_refl _, fun _ _ _ => rfl⟩
theorem below_cur {w0 w : World} {A : Option Addr} {n c g : Nat} (h : Cur w0 A n c w g) : Cur w0 A n c w.drew g := h.grown (grown_drew w none) (by simp) (fun _ h => by cases h)
theorem lies_take {w : World} {lo hi : Nat} {A : Option Addr} {l : List Int} (k : Nat) (h : Lies w lo hi A (ncells l)) : Lies w lo hi A (ncells (l.take k)) := fun j u hu => by
  refine h j u ?_
  have e : l = l.take k ++ l.drop k := (List.take_append_drop k l).symm
  rw [e, ncells_append, List.getElem?_append_left (List.getElem?_eq_some_iff.1 hu).1]
  exact hu
theorem hcells_takeN : ∀ (M : List (List Int)) (hs : List Hd) (k : Nat), hcells (M.take k) (hs.take k) = (hcells M hs).take k := fun M hs k => by
  simp [hcells, List.take_zipWith]
/-- The first pages of a memory. -/
theorem _root_.Go.Proofs.Ytkbcmeachfplnaa.Grid.RG.take {w : World} {lo hi : Nat} {A : Option Addr} {M : List (List Int)} {hs : List Hd} (k : Nat) (h : RG w lo hi A M hs) : RG w lo hi A (M.take k) (hs.take k) := by
  refine ⟨fun j u hu => h.1 j u ?_, by rw [List.length_take, List.length_take, h.2.1], fun i r q h1 h2 => h.2.2 i r q ?_ ?_⟩
  · rw [hcells_takeN, List.getElem?_take] at hu
    split at hu
    · exact hu
    · cases hu
  · rw [List.getElem?_take] at h1
    split at h1
    · exact h1
    · cases h1
  · rw [List.getElem?_take] at h2
    split at h2
    · exact h2
    · cases h2
/-- A cell of a memory of one's own, in every world that agrees on its blocks. -/
theorem _root_.Go.Proofs.Ytkbcmeachfplnaa.Grid.OG.cellK {w : World} {lo hi : Nat} {A : Option Addr} {M : List (List Int)} {hs : List Hd} (h : OG w lo hi A M hs) (hh : hi ≤ w.heap.size) (k j : Nat) (hk : k < M.length) (hj : j < M[k].length) :
    ∃ b off b' off' c, A = some ⟨b, off, none⟩ ∧ lo ≤ b' ∧ b' < hi ∧ ∀ V : World, (∀ q, lo ≤ q → q < hi → V.heap[q]? = w.heap[q]?) → hi ≤ V.heap.size →
      V.cell? ⟨b, off + k, none⟩ = some (.slice (some ⟨b', off', none⟩) M[k].length c) ∧ (∃ u, V.cell? ⟨b', off' + j, none⟩ = some u) ∧ V.frozen? ⟨b', off' + j, none⟩ = false ∧
      ∀ v : Int, OG (V.setCell ⟨b', off' + j, none⟩ (.int .i64 v)) lo hi A (M.set k (M[k].set j v)) hs := by
  obtain ⟨⟨B, c⟩, hB⟩ := hd_at h.2.1.1 hk
  obtain ⟨b, off, e, x, y, z⟩ := h.1.1 k _ (hcells_at (List.getElem?_eq_getElem hk) hB)
  obtain ⟨b', off', e', x', y'⟩ := h.2.1.block (List.getElem?_eq_getElem hk) hB (fun e0 => by rw [e0] at hj; simp at hj)
  have e' : B = some ⟨b', off', none⟩ := e'
  subst e'
  refine ⟨b, off, b', off', c, e, x', y', fun V hV hs' => ?_⟩
  have hc : V.cell? ⟨b, off + k, none⟩ = some (.slice (some ⟨b', off', none⟩) M[k].length c) := (World.cell?_of_block (w := w) (a := ⟨b, off + k, none⟩) (hV b x y)).trans z
  obtain ⟨b2, off2, b3, off3, c3, e2, _, hc2, hu, hf, hst⟩ := (h.kept hV).cell hs' k j hk hj
  rw [e] at e2
  cases e2
  rw [hc] at hc2
  simp only [Option.some.injEq, Value.slice.injEq, Addr.mk.injEq, and_true, true_and] at hc2
  obtain ⟨⟨rfl, rfl⟩, rfl⟩ := hc2
  exact ⟨hc, hu, hf, fun v => (hst v).1⟩
/-- A page's place gets the first cells of another page: both share. -/
theorem _root_.Go.Proofs.Ytkbcmeachfplnaa.Grid.OG.alias {w : World} {lo hi b : Nat} {M : List (List Int)} {hs : List Hd} (h : OG w lo hi (some ⟨b, 0, none⟩) M hs) {i k j c : Nat} {B : Option Addr} (hi' : i < M.length) (hk : k < M.length) (hB : hs[i]? = some (B, c)) (hj : j ≤ M[i].length) :
    RG (w.setCell ⟨b, k, none⟩ (.slice B j c)) lo hi (some ⟨b, 0, none⟩) (M.set k (M[i].take j)) (hs.set k (B, c)) := by
  have hl := h.2.1.1
  have hkeep : ∀ q, q ≠ b → (w.setCell ⟨b, k, none⟩ (.slice B j c)).heap[q]? = w.heap[q]? := fun q hq => Below.heap_setCell w ⟨b, k, none⟩ _ q hq
  have hp : Pages (w.setCell ⟨b, k, none⟩ (.slice B j c)) lo hi M hs := h.2.1.keptBut h.2.2 (fun q _ _ hq => hkeep q hq)
  have hset := (h.1.set k (.slice B j c)).1
  rw [Nat.zero_add] at hset
  have hlen : (M[i].take j).length = j := by rw [List.length_take]; omega
  refine ⟨?_, by simp [hl], fun m r q h1 h2 => ?_⟩
  · rw [hcells_put hl hk, hlen]
    exact hset
  · by_cases e : m = k
    · subst e
      rw [List.getElem?_set_self hk] at h1
      rw [List.getElem?_set_self (by omega)] at h2
      cases h1
      cases h2
      exact lies_take j (hp.reads.2 i _ _ (List.getElem?_eq_getElem hi') hB)
    · rw [List.getElem?_set_ne (fun e' => e e'.symm)] at h1 h2
      exact hp.reads.2 m r q h1 h2

def small (M : List (List Int)) : Prop := ∀ r ∈ M, r.length ≤ 5
theorem small_tot {M : List (List Int)} (h3 : M.length ≤ 3) (h : small M) : M.length + tot M ≤ 1048576 := by
  have : tot M ≤ M.length * 5 := by
    clear h3
    induction M with
    | nil => exact Nat.zero_le _
    | cons r M ih =>
      have := ih (fun q hq => h q (by simp [hq]))
      have := h r (by simp)
      simp [tot]
      omega
  omega
theorem small_cap {M : List (List Int)} (h3 : M.length ≤ 3) (h : small M) : capG M := by
  refine capG.of ?_
  have : tot M ≤ M.length * 5 := by
    clear h3
    induction M with
    | nil => exact Nat.zero_le _
    | cons r M ih =>
      have := ih (fun q hq => h q (by simp [hq]))
      have := h r (by simp)
      simp [tot]
      omega
  omega
/-- A memory that is drawn: at most three pages of at most five cells. -/
def AnyPost (w0 : World) (A : Option Addr) (n c : Nat) (w : World) (g : Nat) (e : Ending) (w' : World) : Prop :=
  ∃ X m d M hs, e = .returned (.slice X m d) ∧ M.length = m ∧ m ≤ 3 ∧ small M ∧ RG w' w.heap.size w'.heap.size X M hs ∧ Cur w0 A n c w' g ∧ w.grownBy w' (some g)
theorem four_set {M : List (List Int)} (h : four M) (k : Nat) {r : List Int} (hr : r.length ≤ 5) : small (M.set k r) := fun q hq => by
  rcases List.mem_or_eq_of_mem_set hq with h1 | h1
  · have := h q h1; omega
  · rw [h1]; exact hr
theorem four_small {M : List (List Int)} (h : four M) : small M := fun q hq => by have := h q hq; omega

set_option maxRecDepth 100000 in
set_option maxHeartbeats 8000000 in
theorem any_any (w0 : World) (A : Option Addr) (n c g : Nat) (w : World) (hn : n ≤ 1048576) (hcode : CodeAt w0 A n) (hcur : Cur w0 A n c w g) :
    Calls Try.prog 56 #[.pointer (some ⟨g, 0, none⟩)] w (AnyPost w0 A n c w g) := by
  have HC := Lib.hid hcode
  have hlt := hcur.lt
  have hs0 := hcur.1.size
  have HU := Lib.hid hcur
  clear hcode hcur
  go_enter Try.func56, Try.ntmps56
  go_wp2_with fail
  refine (mem_any w0 A n c g _ hn HC.out HU.out).mono ?_
  rintro e w1 ⟨b, cap, M, hs, rfl, hl, h4, hcp, hbu, hc1, hg1⟩
  have HL := Lib.hid hl
  have H4 := Lib.hid h4
  have HP := Lib.hid hcp
  have HX := Lib.hid hbu
  have HU1 := Lib.hid hc1
  have HG1 := Lib.hid hg1
  have hb1 := hbu.row.lt b rfl
  have hbc := row_cap hbu.row
  have hs1 := hg1.size
  have hbg : b ≠ g := by omega
  clear hl h4 hcp hbu hc1 hg1 HU
  go_wp2_with fail
  refine (below_any w0 A n c g _ 8 (by omega) (by omega) hn HC.out HU1.out).mono ?_
  rintro e w2 ⟨z, rfl, hz0, hz1, hc2, hg2⟩
  have HO2 := Lib.hid (HX.out.og.kept (w' := w2) (fun q q1 q2 => hg2.block q q2 (by simp; omega)))
  have HU2 := Lib.hid hc2
  have HG2 := Lib.hid (gtr HG1.out hg2)
  have hs2 := hg2.size
  clear hc2 hg2 HU1 HG1 HX
  by_cases hzz : z = 0
  · subst hzz
    have h0 : 0 < M.length := by rw [HL.out]; omega
    obtain ⟨⟨B, c0⟩, hB⟩ := hd_at HO2.out.2.1.1 h0
    have hcc := HP.out (B, c0) (List.mem_of_getElem? hB)
    have hcc1 : 4 ≤ c0 := hcc.1
    have hcc2 : c0 ≤ 9223372036854775807 := hcc.2
    have h40 : M[0].length = 4 := H4.out M[0] (List.getElem_mem h0)
    have HS := Lib.hid (show ∀ V : World, (∀ q, w.heap.size ≤ q → q < w1.heap.size → V.heap[q]? = w2.heap[q]?) → V.cell? ⟨b, 0, none⟩ = some (.slice B 4 c0) from fun V hV => by
      have hx := (HO2.out.kept (w' := V) hV).1.1 0 _ (hcells_at (List.getElem?_eq_getElem h0) hB)
      obtain ⟨b', off', e', _, _, hc⟩ := hx
      cases e'
      rw [h40] at hc
      exact hc)
    have HB := Lib.hid hB
    have H40 := Lib.hid h40
    clear hB hcc h40
    go_wp2_with fail
    refine Ord.wp_region_tree (fun _ => True) (.take 0 (.take 1 (.take 3 (.take 4 (.take 6 (.two 2 (.two 5 (.alone 7 (.take 8 (.take 9 (.alone 10 .nil)))) 7 (.alone 5 (.take 8 (.take 9 (.alone 10 .nil))))) 5 (.alone 2 (.alone 7 (.take 8 (.take 9 (.alone 10 .nil))))))))))) (by kernel_rfl) (by kernel_rfl) (by kernel_rfl) (trivial) ?_
    (refine Ord.ot_take (v := ?_) rfl (by rfl) (fun w' hS => ?_) ?_; rotate_left; (focus ((try dsimp only at hS); go_simp; first | done | with_reducible rfl)); simp only [Act.put, List.setIfInBounds_toArray, List.set_cons_zero, List.set_cons_succ])
    (refine Ord.ot_take (v := ?_) rfl (by rfl) (fun w' hS => ?_) ?_; rotate_left; (focus ((try dsimp only at hS); go_simp; first | done | with_reducible rfl)); simp only [Act.put, List.setIfInBounds_toArray, List.set_cons_zero, List.set_cons_succ])
    (refine Ord.ot_take (v := ?_) rfl (by rfl) (fun w' hS => ?_) ?_; rotate_left; (focus ((try dsimp only at hS); go_simp; first | done | with_reducible rfl)); simp only [Act.put, List.setIfInBounds_toArray, List.set_cons_zero, List.set_cons_succ])
    (refine Ord.ot_take (v := ?_) rfl (by rfl) (fun w' hS => ?_) ?_; rotate_left; (focus ((try dsimp only at hS); go_simp; first | done | with_reducible rfl)); simp only [Act.put, List.setIfInBounds_toArray, List.set_cons_zero, List.set_cons_succ])
    (refine Ord.ot_take (v := ?_) rfl (by rfl) (fun w' hS => ?_) ?_; rotate_left; (focus ((try dsimp only at hS); go_simp; first | done | with_reducible rfl)); simp only [Act.put, List.setIfInBounds_toArray, List.set_cons_zero, List.set_cons_succ])
    refine Ord.ot_two rfl rfl (fun K hK => ?_) (fun K hK => ?_)
    · go_simp
      go_wp2_with fail
      refine (below_any w0 A n c g _ 3 (by omega) (by omega) hn HC.out (below_cur HU2.out)).mono ?_
      rintro e w3 ⟨q3, rfl, hq0, hq1, hc3, hg3⟩
      have HK3 := Lib.hid (show ∀ q, w.heap.size ≤ q → q < w1.heap.size → w3.heap[q]? = w2.heap[q]? from fun q q1 q2 => hg3.block q (by simp; omega) (by simp; omega))
      have HU3 := Lib.hid hc3
      have HG3 := Lib.hid (gtr HG2.out (gtr (grown_drew w2 _) hg3))
      have hs3 : w2.heap.size ≤ w3.heap.size := hg3.size
      clear hc3 hg3
      refine hK.out _ _ (trivial) ?_
      clear hK K
      (try simp only [Act.put, List.setIfInBounds_toArray, List.set_cons_zero, List.set_cons_succ])
      refine Ord.ot_two rfl rfl (fun K hK => ?_) (fun K hK => ?_)
      · have d9 := HS.out w3 (HK3.out)
        go_simp
        refine hK.out _ _ (trivial) ?_
        clear hK K
        (try simp only [Act.put, List.setIfInBounds_toArray, List.set_cons_zero, List.set_cons_succ])
        refine Ord.ot_alone rfl (fun K hK => ?_)
        go_simp
        go_wp2_with fail
        refine (below_any w0 A n c g _ 4 (by omega) (by omega) hn HC.out HU3.out).mono ?_
        rintro e w4 ⟨q4, rfl, hp0, hp1, hc4, hg4⟩
        have HK4 := Lib.hid (show ∀ q, w.heap.size ≤ q → q < w1.heap.size → w4.heap[q]? = w2.heap[q]? from fun q q1 q2 => (hg4.block q (by omega) (by simp; omega)).trans (HK3.out q q1 q2))
        have HU4 := Lib.hid hc4
        have HG4 := Lib.hid (gtr HG3.out hg4)
        have hs4 : w3.heap.size ≤ w4.heap.size := hg4.size
        obtain ⟨k, rfl⟩ := Int.eq_ofNat_of_zero_le hq0
        obtain ⟨j, rfl⟩ := Int.eq_ofNat_of_zero_le hp0
        have hk3 : k < 3 := by omega
        have hj4 : j < 4 := by omega
        have hjc : (j : Int) ≤ (c0 : Int) := by omega
        have hO4 := HO2.out.kept (w' := w4) HK4.out
        have hkl : k < M.length := by rw [HL.out]; exact hk3
        obtain ⟨hd5, hh5⟩ := hd_at hO4.2.1.1 hkl
        obtain ⟨b5, off5, e5, _, _, d5⟩ := hO4.1.1 k _ (hcells_at (List.getElem?_eq_getElem hkl) hh5)
        cases e5
        rw [Nat.zero_add] at d5
        have f5 := hO4.1.2 b 0 rfl (by rw [hcells_len hO4.2.1.1]; omega) k
        have HR := Lib.hid (hO4.alias h0 hkl HB.out (j := j) (by rw [H40.out]; omega))
        have HO4 := Lib.hid hO4
        clear hc4 hg4 hh5 hO4
        refine hK.out _ _ (trivial) ?_
        clear hK K
        (try simp only [Act.put, List.setIfInBounds_toArray, List.set_cons_zero, List.set_cons_succ])
        (refine Ord.ot_take (v := ?_) rfl (by rfl) (fun w' hS => ?_) ?_; rotate_left; (focus ((try dsimp only at hS); go_simp; first | done | with_reducible rfl)); simp only [Act.put, List.setIfInBounds_toArray, List.set_cons_zero, List.set_cons_succ])
        (refine Ord.ot_take (v := ?_) rfl (by rfl) (fun w' hS => ?_) ?_; rotate_left; (focus ((try dsimp only at hS); go_simp; first | done | with_reducible rfl)); simp only [Act.put, List.setIfInBounds_toArray, List.set_cons_zero, List.set_cons_succ])
        refine Ord.ot_alone rfl (fun K hK => ?_)
        go_simp
        refine hK.out _ _ (trivial) ?_
        clear hK K
        (try simp only [Act.put, List.setIfInBounds_toArray, List.set_cons_zero, List.set_cons_succ])
        refine Ord.ot_nil ?_
        go_wp2_with fail
        go_ret
        exact ⟨_, 3, _, M.set k (M[0].take j), _, rfl, by rw [List.length_set]; exact HL.out, Nat.le_refl _, four_set H4.out k (r := M[0].take j) (by rw [List.length_take]; omega), by have hR := HR.out.wide (Nat.le_refl _) (show w1.heap.size ≤ w4.heap.size by omega); simpa using hR, var_cur HU4.out (by omega) (by omega) _ _, grown_far HG4.out hb1.1 _ _⟩
      · go_simp
        go_wp2_with fail
        refine (below_any w0 A n c g _ 4 (by omega) (by omega) hn HC.out HU3.out).mono ?_
        rintro e w4 ⟨q4, rfl, hp0, hp1, hc4, hg4⟩
        have HK4 := Lib.hid (show ∀ q, w.heap.size ≤ q → q < w1.heap.size → w4.heap[q]? = w2.heap[q]? from fun q q1 q2 => (hg4.block q (by omega) (by simp; omega)).trans (HK3.out q q1 q2))
        have HU4 := Lib.hid hc4
        have HG4 := Lib.hid (gtr HG3.out hg4)
        have hs4 : w3.heap.size ≤ w4.heap.size := hg4.size
        obtain ⟨k, rfl⟩ := Int.eq_ofNat_of_zero_le hq0
        obtain ⟨j, rfl⟩ := Int.eq_ofNat_of_zero_le hp0
        have hk3 : k < 3 := by omega
        have hj4 : j < 4 := by omega
        have hjc : (j : Int) ≤ (c0 : Int) := by omega
        have hO4 := HO2.out.kept (w' := w4) HK4.out
        have hkl : k < M.length := by rw [HL.out]; exact hk3
        obtain ⟨hd5, hh5⟩ := hd_at hO4.2.1.1 hkl
        obtain ⟨b5, off5, e5, _, _, d5⟩ := hO4.1.1 k _ (hcells_at (List.getElem?_eq_getElem hkl) hh5)
        cases e5
        rw [Nat.zero_add] at d5
        have f5 := hO4.1.2 b 0 rfl (by rw [hcells_len hO4.2.1.1]; omega) k
        have HR := Lib.hid (hO4.alias h0 hkl HB.out (j := j) (by rw [H40.out]; omega))
        have HO4 := Lib.hid hO4
        clear hc4 hg4 hh5 hO4
        refine hK.out _ _ (trivial) ?_
        clear hK K
        (try simp only [Act.put, List.setIfInBounds_toArray, List.set_cons_zero, List.set_cons_succ])
        refine Ord.ot_alone rfl (fun K hK => ?_)
        have d9 := HS.out w4 (HK4.out)
        go_simp
        refine hK.out _ _ (trivial) ?_
        clear hK K
        (try simp only [Act.put, List.setIfInBounds_toArray, List.set_cons_zero, List.set_cons_succ])
        (refine Ord.ot_take (v := ?_) rfl (by rfl) (fun w' hS => ?_) ?_; rotate_left; (focus ((try dsimp only at hS); go_simp; first | done | with_reducible rfl)); simp only [Act.put, List.setIfInBounds_toArray, List.set_cons_zero, List.set_cons_succ])
        (refine Ord.ot_take (v := ?_) rfl (by rfl) (fun w' hS => ?_) ?_; rotate_left; (focus ((try dsimp only at hS); go_simp; first | done | with_reducible rfl)); simp only [Act.put, List.setIfInBounds_toArray, List.set_cons_zero, List.set_cons_succ])
        refine Ord.ot_alone rfl (fun K hK => ?_)
        go_simp
        refine hK.out _ _ (trivial) ?_
        clear hK K
        (try simp only [Act.put, List.setIfInBounds_toArray, List.set_cons_zero, List.set_cons_succ])
        refine Ord.ot_nil ?_
        go_wp2_with fail
        go_ret
        exact ⟨_, 3, _, M.set k (M[0].take j), _, rfl, by rw [List.length_set]; exact HL.out, Nat.le_refl _, four_set H4.out k (r := M[0].take j) (by rw [List.length_take]; omega), by have hR := HR.out.wide (Nat.le_refl _) (show w1.heap.size ≤ w4.heap.size by omega); simpa using hR, var_cur HU4.out (by omega) (by omega) _ _, grown_far HG4.out hb1.1 _ _⟩
    · have d9 := HS.out w2.drew (fun q _ _ => rfl)
      go_simp
      refine hK.out _ _ (trivial) ?_
      clear hK K
      (try simp only [Act.put, List.setIfInBounds_toArray, List.set_cons_zero, List.set_cons_succ])
      refine Ord.ot_alone rfl (fun K hK => ?_)
      go_simp
      go_wp2_with fail
      refine (below_any w0 A n c g _ 3 (by omega) (by omega) hn HC.out (below_cur HU2.out)).mono ?_
      rintro e w3 ⟨q3, rfl, hq0, hq1, hc3, hg3⟩
      have HK3 := Lib.hid (show ∀ q, w.heap.size ≤ q → q < w1.heap.size → w3.heap[q]? = w2.heap[q]? from fun q q1 q2 => hg3.block q (by simp; omega) (by simp; omega))
      have HU3 := Lib.hid hc3
      have HG3 := Lib.hid (gtr HG2.out (gtr (grown_drew w2 _) hg3))
      have hs3 : w2.heap.size ≤ w3.heap.size := hg3.size
      clear hc3 hg3
      refine hK.out _ _ (trivial) ?_
      clear hK K
      (try simp only [Act.put, List.setIfInBounds_toArray, List.set_cons_zero, List.set_cons_succ])
      refine Ord.ot_alone rfl (fun K hK => ?_)
      go_simp
      go_wp2_with fail
      refine (below_any w0 A n c g _ 4 (by omega) (by omega) hn HC.out HU3.out).mono ?_
      rintro e w4 ⟨q4, rfl, hp0, hp1, hc4, hg4⟩
      have HK4 := Lib.hid (show ∀ q, w.heap.size ≤ q → q < w1.heap.size → w4.heap[q]? = w2.heap[q]? from fun q q1 q2 => (hg4.block q (by omega) (by simp; omega)).trans (HK3.out q q1 q2))
      have HU4 := Lib.hid hc4
      have HG4 := Lib.hid (gtr HG3.out hg4)
      have hs4 : w3.heap.size ≤ w4.heap.size := hg4.size
      obtain ⟨k, rfl⟩ := Int.eq_ofNat_of_zero_le hq0
      obtain ⟨j, rfl⟩ := Int.eq_ofNat_of_zero_le hp0
      have hk3 : k < 3 := by omega
      have hj4 : j < 4 := by omega
      have hjc : (j : Int) ≤ (c0 : Int) := by omega
      have hO4 := HO2.out.kept (w' := w4) HK4.out
      have hkl : k < M.length := by rw [HL.out]; exact hk3
      obtain ⟨hd5, hh5⟩ := hd_at hO4.2.1.1 hkl
      obtain ⟨b5, off5, e5, _, _, d5⟩ := hO4.1.1 k _ (hcells_at (List.getElem?_eq_getElem hkl) hh5)
      cases e5
      rw [Nat.zero_add] at d5
      have f5 := hO4.1.2 b 0 rfl (by rw [hcells_len hO4.2.1.1]; omega) k
      have HR := Lib.hid (hO4.alias h0 hkl HB.out (j := j) (by rw [H40.out]; omega))
      have HO4 := Lib.hid hO4
      clear hc4 hg4 hh5 hO4
      refine hK.out _ _ (trivial) ?_
      clear hK K
      (try simp only [Act.put, List.setIfInBounds_toArray, List.set_cons_zero, List.set_cons_succ])
      (refine Ord.ot_take (v := ?_) rfl (by rfl) (fun w' hS => ?_) ?_; rotate_left; (focus ((try dsimp only at hS); go_simp; first | done | with_reducible rfl)); simp only [Act.put, List.setIfInBounds_toArray, List.set_cons_zero, List.set_cons_succ])
      (refine Ord.ot_take (v := ?_) rfl (by rfl) (fun w' hS => ?_) ?_; rotate_left; (focus ((try dsimp only at hS); go_simp; first | done | with_reducible rfl)); simp only [Act.put, List.setIfInBounds_toArray, List.set_cons_zero, List.set_cons_succ])
      refine Ord.ot_alone rfl (fun K hK => ?_)
      go_simp
      refine hK.out _ _ (trivial) ?_
      clear hK K
      (try simp only [Act.put, List.setIfInBounds_toArray, List.set_cons_zero, List.set_cons_succ])
      refine Ord.ot_nil ?_
      go_wp2_with fail
      go_ret
      exact ⟨_, 3, _, M.set k (M[0].take j), _, rfl, by rw [List.length_set]; exact HL.out, Nat.le_refl _, four_set H4.out k (r := M[0].take j) (by rw [List.length_take]; omega), by have hR := HR.out.wide (Nat.le_refl _) (show w1.heap.size ≤ w4.heap.size by omega); simpa using hR, var_cur HU4.out (by omega) (by omega) _ _, grown_far HG4.out hb1.1 _ _⟩
  · have hzz' : (z == 0) = false := by simpa using hzz
    by_cases hz1' : z = 1
    · subst hz1'
      have h1 : 1 < M.length := by rw [HL.out]; omega
      have h41 : M[1].length = 4 := H4.out M[1] (List.getElem_mem h1)
      obtain ⟨b5, off5, b', off', c0, e5, hb0, hb9, hV⟩ := HO2.out.cellK hs2 1 2 h1 (by omega)
      cases e5
      rw [Nat.zero_add, h41] at hV
      have hbb : b' ≠ b := by
        intro e0
        subst e0
        obtain ⟨⟨B9, c9⟩, hB9⟩ := hd_at HO2.out.2.1.1 h1
        have h8 := (hV w2 (fun _ _ _ => rfl) hs2).1
        obtain ⟨b9, off9, e9, _, _, z9⟩ := HO2.out.1.1 1 _ (hcells_at (List.getElem?_eq_getElem h1) hB9)
        cases e9
        rw [Nat.zero_add, h8] at z9
        injection z9 with z9
        injection z9 with z9
        exact HO2.out.2.2 1 _ _ (List.getElem?_eq_getElem h1) hB9 (fun e0 => by rw [e0] at h41; simp at h41) (by rw [← z9]; rfl)
      have HV := Lib.hid hV
      have HS := Lib.hid (show ∀ V : World, (∀ q, w.heap.size ≤ q → q < w1.heap.size → V.heap[q]? = w2.heap[q]?) → w1.heap.size ≤ V.heap.size → V.cell? ⟨b, 1, none⟩ = some (.slice (some ⟨b', off', none⟩) 4 c0) from fun V h8 h9 => (hV V h8 h9).1)
      have H41 := Lib.hid h41
      clear h41 hV
      go_wp2_with fail
      refine Ord.wp_region_ord (fun w' => w'.cell? ⟨b, 1, none⟩ = some (.slice (some ⟨b', off', none⟩) 4 c0)) [(0, true), (1, true), (2, true), (3, true), (4, false), (5, false), (6, true), (7, false)] (by kernel_rfl) (by kernel_rfl) rfl (by kernel_rfl) (HS.out _ (fun q _ _ => rfl) hs2) ?_
      simp only [Ord.ordOps, List.getElem?_toArray, List.getElem?_cons_zero, List.getElem?_cons_succ]
      repeat (first
        | (refine Ord.ord_plain (v := ?_) rfl (fun w' hS => ?_) ?_; rotate_left; (focus ((try dsimp only at hS); go_simp; first | done | with_reducible rfl)); simp only [Act.put, List.setIfInBounds_toArray, List.set_cons_zero, List.set_cons_succ])
        | (refine Ord.ord_skip (by rfl) ?_; simp only [Act.put, List.setIfInBounds_toArray, List.set_cons_zero, List.set_cons_succ])
        | (refine Ord.ord_take (v := ?_) (by rfl) (fun w' hS => ?_) ?_; rotate_left; (focus ((try dsimp only at hS); go_simp; first | done | with_reducible rfl)); simp only [Act.put, List.setIfInBounds_toArray, List.set_cons_zero, List.set_cons_succ]))
      refine Ord.ord_call (fun K hK => ?_)
      go_simp
      refine hK.out _ _ (HS.out _ (fun q q1 q2 => Below.heap_alloc w2.drew _ q (by simp; omega)) (by simp; omega)) ?_
      clear hK K
      repeat (first
        | (refine Ord.ord_plain (v := ?_) rfl (fun w' hS => ?_) ?_; rotate_left; (focus ((try dsimp only at hS); go_simp; first | done | with_reducible rfl)); simp only [Act.put, List.setIfInBounds_toArray, List.set_cons_zero, List.set_cons_succ])
        | (refine Ord.ord_skip (by rfl) ?_; simp only [Act.put, List.setIfInBounds_toArray, List.set_cons_zero, List.set_cons_succ])
        | (refine Ord.ord_take (v := ?_) (by rfl) (fun w' hS => ?_) ?_; rotate_left; (focus ((try dsimp only at hS); go_simp; first | done | with_reducible rfl)); simp only [Act.put, List.setIfInBounds_toArray, List.set_cons_zero, List.set_cons_succ]))
      refine Ord.ord_call (fun K hK => ?_)
      go_simp
      go_wp2_with fail
      refine (pick_any w0 A n c g _ w2.heap.size 2 [-1, 100] (by decide) (by decide) hn HC.out ((below_cur HU2.out).alloc _) (by omega) rfl (heap_alloc_new w2.drew _)).mono ?_
      rintro e w3 ⟨x, rfl, hx, hc3, hg3⟩
      have HK3 := Lib.hid (show ∀ q, w.heap.size ≤ q → q < w1.heap.size → w3.heap[q]? = w2.heap[q]? from fun q q1 q2 => (hg3.block q (by simp; omega) (by simp; omega)).trans (Below.heap_alloc w2.drew _ q (by simp; omega)))
      have HU3 := Lib.hid hc3
      have HG3 := Lib.hid (gtr HG2.out (gtr (gtr (grown_drew w2 _) (grown_new w2.drew _ _)) hg3))
      have hs3 : w2.heap.size ≤ w3.heap.size := by have := hg3.size; simp at this; omega
      obtain ⟨_, ⟨u7, d7⟩, f7, hst⟩ := HV.out w3 HK3.out (by omega)
      have hO5 := hst x
      have HR := Lib.hid hO5
      clear hx hc3 hg3 hst hO5
      refine hK.out _ _ (HS.out _ HK3.out (by omega)) ?_
      clear hK K
      repeat (first
        | (refine Ord.ord_plain (v := ?_) rfl (fun w' hS => ?_) ?_; rotate_left; (focus ((try dsimp only at hS); go_simp; first | done | with_reducible rfl)); simp only [Act.put, List.setIfInBounds_toArray, List.set_cons_zero, List.set_cons_succ])
        | (refine Ord.ord_skip (by rfl) ?_; simp only [Act.put, List.setIfInBounds_toArray, List.set_cons_zero, List.set_cons_succ])
        | (refine Ord.ord_take (v := ?_) (by rfl) (fun w' hS => ?_) ?_; rotate_left; (focus ((try dsimp only at hS); go_simp; first | done | with_reducible rfl)); simp only [Act.put, List.setIfInBounds_toArray, List.set_cons_zero, List.set_cons_succ]))
      refine Ord.ord_call (fun K hK => ?_)
      go_simp
      refine hK.out _ _ ((World.cell?_setCell_far w3 ⟨b', off' + 2, none⟩ ⟨b, 1, none⟩ _ hbb).trans (HS.out _ HK3.out (by omega))) ?_
      clear hK K
      refine Ord.ord_nil ?_
      go_wp2_with fail
      go_ret
      exact ⟨_, 3, _, M.set 1 (M[1].set 2 x), _, rfl, by rw [List.length_set]; exact HL.out, Nat.le_refl _, four_set H4.out 1 (r := M[1].set 2 x) (by rw [List.length_set, H41.out]; omega), by have hR := HR.out.rg.wide (Nat.le_refl _) (show w1.heap.size ≤ w3.heap.size by omega); simpa using hR, var_cur HU3.out (by omega) (by omega) _ _, grown_far HG3.out hb0 _ _⟩
    · have hz1'' : (z == 1) = false := by simpa using hz1'
      by_cases hz2 : z = 2
      · subst hz2
        go_wp2_with fail
        refine (below_any w0 A n c g _ 3 (by omega) (by omega) hn HC.out HU2.out).mono ?_
        rintro e w3 ⟨q, rfl, hq0, hq1, hc3, hg3⟩
        obtain ⟨k, rfl⟩ := Int.eq_ofNat_of_zero_le hq0
        have hk : k < 3 := by omega
        have hkc : (k : Int) ≤ (cap : Int) := by omega
        have HU3 := Lib.hid hc3
        have HG3 := Lib.hid (gtr HG2.out hg3)
        have HR := Lib.hid ((HO2.out.kept (w' := w3) (fun q q1 q2 => hg3.block q (by omega) (by simp; omega))).rg.wide (Nat.le_refl _) (show w1.heap.size ≤ w3.heap.size by have := hg3.size; omega))
        clear hc3 hg3 HU2 HG2
        go_wp2_with fail
        go_ret
        exact ⟨some ⟨b, 0, none⟩, k, cap, M.take k, hs.take k, by simp, by rw [List.length_take, HL.out]; omega, by omega, fun r hr => by have := H4.out r (List.mem_of_mem_take hr); omega, HR.out.take k, HU3.out, HG3.out⟩
      · have hz2' : (z == 2) = false := by simpa using hz2
        have HR := Lib.hid (HO2.out.rg.wide (Nat.le_refl _) (show w1.heap.size ≤ w2.heap.size by omega))
        go_wp2_with fail
        go_ret
        exact ⟨_, 3, _, M, hs, rfl, HL.out, Nat.le_refl _, four_small H4.out, HR.out, HU2.out, HG2.out⟩
end Go.Proofs.Ytkbcmeachfplnaa.GDraw
