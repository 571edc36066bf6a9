/-
  The draws of chapter 10's laws: what they draw lies in memory and is within its range; no statement about the project's code stands here. No condition beyond the length of the code.
-/
import Derived.Test.YtgccejlkjeenpaaDoorInsDraw2
import Derived.Test.YtgccejlkjeenpaaDoorAppend
namespace Go.Proofs.YtgccejlkjeenpaaDoor.Inss
set_option maxRecDepth 100000
open Go.ChangeShapes Go.WideShapes Go.ChangeAt Go.RowKit
open Go.Proofs.YtgccejlkjeenpaaDoor.Base Go.Proofs.YtgccejlkjeenpaaDoor.Mem Go.Proofs.YtgccejlkjeenpaaDoor.Data Go.Proofs.YtgccejlkjeenpaaDoor.Draw Go.Proofs.YtgccejlkjeenpaaDoor.SDraw
set_option linter.unusedVariables false
set_option linter.unusedSimpArgs false

/-- A drawn program. -/
def PB (w' : World) (lo : Nat) (ad : Addr) (m : Nat) (l : List JT) : Prop := m ≤ 20 ∧ l.length = m ∧ wfJL l ∧ Lies w' lo w'.heap.size (some ad) (jcells l)
theorem PB.grown {w w' : World} {lo g m : Nat} {ad : Addr} {l : List JT} (h : PB w lo ad m l) (hg : w.grownBy w' (some g)) (hlo : g < lo) : PB w' lo ad m l :=
  ⟨h.1, h.2.1, h.2.2.1, (h.2.2.2.kept fun k h1 h2 => hg.block k h2 (by simp; omega)).wide (Nat.le_refl _) hg.size⟩
theorem PB.low {w : World} {lo lo' m : Nat} {ad : Addr} {l : List JT} (h : PB w lo ad m l) (h1 : lo' ≤ lo) : PB w lo' ad m l := ⟨h.1, h.2.1, h.2.2.1, h.2.2.2.wide h1 (Nat.le_refl _)⟩
theorem PB.below {w w' : World} {lo m : Nat} {ad : Addr} {l : List JT} (h : PB w lo ad m l) (hb : Below w.heap.size w w') : PB w' lo ad m l :=
  ⟨h.1, h.2.1, h.2.2.1, (h.2.2.2.below hb (Nat.le_refl _)).wide (Nat.le_refl _) hb.size⟩
def InsB (w : World) (e : Ending) (w' : World) : Prop := ∃ o x, e = .returned (.agg #[.int .i64 o, .int .i64 x]) ∧ wfJ (o, x) ∧ Below w.heap.size w w'
def ProgB (w : World) (e : Ending) (w' : World) : Prop := ∃ ad m cap l, e = .returned (.slice (some ad) m cap) ∧ PB w' w.heap.size ad m l ∧ Below w.heap.size w w'
def ProgInt (w : World) (e : Ending) (w' : World) : Prop := ∃ ad m cap l x, e = .returned (.tuple #[.slice (some ad) m cap, .int .i64 x]) ∧ (Lit.int .i64 x).wf = true ∧ PB w' w.heap.size ad m l ∧ Below w.heap.size w w'
def ProgTwo (w : World) (e : Ending) (w' : World) : Prop := ∃ ad m cap l ad' m' cap' l', e = .returned (.tuple #[.slice (some ad) m cap, .slice (some ad') m' cap']) ∧ PB w' w.heap.size ad m l ∧ PB w' w.heap.size ad' m' l' ∧ Below w.heap.size w w'
def IntB (w : World) (e : Ending) (w' : World) : Prop := ∃ x, e = .returned (.int .i64 x) ∧ (Lit.int .i64 x).wf = true ∧ Below w.heap.size w w'

set_option maxHeartbeats 2000000 in
theorem drawTouches_any (A : Option Addr) (n c : Nat) (w : World) (hn : n ≤ 1048576) (hcode : CodeAt w A n) :
    Calls Tryd.prog 6 #[.slice A n c] w (InsB w) := by
  have hb0 : Below w.heap.size w (w.alloc (.cells #[.int .i64 0, .int .i64 0] 25)) := (Below.refl _ _).alloc (Nat.le_refl _) _
  have t0 := Var.new w [.int .i64 0, .int .i64 0] 25
  change Var (w.alloc (.cells #[.int .i64 0, .int .i64 0] 25)) w.heap.size [.int .i64 0, .int .i64 0] at t0
  have hz : w.heap.size < (w.alloc (.cells #[.int .i64 0, .int .i64 0] 25)).heap.size := by simp
  have HC := Lib.hid (hcode.below hb0)
  clear hcode
  go_enter Tryd.func6, Tryd.ntmps6
  go_wp2_with fail
  generalize w.alloc (.cells #[.int .i64 0, .int .i64 0] 25) = W at t0 hb0 HC hz ⊢
  refine (new_any A n c _ hn HC.out).mono ?_
  rintro e w0 ⟨rfl, hcur, hsz0⟩
  clear hsz0
  have t1 := t0.below hcur.1 (by omega)
  have HU := Lib.hid hcur
  clear hcur t0
  go_wp2_with fail
  refine (anyIns_any W A n c _ _ hn HC.out HU.out).mono ?_
  rintro e w1 ⟨o, x, rfl, hw, hc1, hg1⟩
  have t2 := t1.grown hg1 (by omega)
  have r0 := t2.cell 0 (v := .int .i64 0) rfl
  have r1 := t2.cell 1 (v := .int .i64 0) rfl
  have rf0 := t2.loose 0 (v := .int .i64 0) rfl
  have rf1 := t2.loose 1 (v := .int .i64 0) rfl
  have HF := Lib.hid (And.intro hw (btr hb0 hc1.1))
  clear hw hc1 hg1 HU t1 t2
  go_wp2_with fail
  exact bodyPost_ret (v := .agg #[.int .i64 o, .int .i64 x]) (by simp [results, Tryd.results6, go_sem, r0, r1]) rfl
    ⟨o, x, rfl, HF.out.1, (HF.out.2.setCell (p := ⟨w.heap.size, 0, none⟩) (Nat.le_refl _) _).setCell (p := ⟨w.heap.size, 1, none⟩) (Nat.le_refl _) _⟩

theorem drawProgOk_any (A : Option Addr) (n c : Nat) (w : World) (hn : n ≤ 1048576) (hcode : CodeAt w A n) :
    Calls Tryd.prog 9 #[.slice A n c] w (ProgB w) := by
  have HC := Lib.hid hcode
  clear hcode
  go_enter Tryd.func9, Tryd.ntmps9
  go_wp2_with fail
  refine (new_any A n c _ hn HC.out).mono ?_
  rintro e w0 ⟨rfl, hcur, hsz0⟩
  clear hsz0
  have HU := Lib.hid hcur
  have hs := hcur.lt
  clear hcur
  go_wp2_with fail
  refine (anyProg_any w A n c _ _ hn HC.out HU.out).mono ?_
  rintro e w1 ⟨b, m, cap, l, rfl, hl, hm, hwf, hli, hc1, hg1⟩
  have HF := Lib.hid (And.intro (show PB w1 w.heap.size ⟨b, 0, none⟩ m l from ⟨hm, hl, hwf, hli.wide (Nat.le_of_lt hs) (Nat.le_refl _)⟩) hc1.1)
  clear hl hm hwf hli hc1 hg1 HU
  go_wp2_with fail
  go_ret
  exact ⟨_, m, cap, l, rfl, HF.out.1, HF.out.2⟩

set_option maxHeartbeats 2000000 in
theorem drawInsAt_any (A : Option Addr) (n c : Nat) (w : World) (hn : n ≤ 1048576) (hcode : CodeAt w A n) :
    Calls Tryd.prog 10 #[.slice A n c] w (ProgInt w) := by
  have HC := Lib.hid hcode
  clear hcode
  go_enter Tryd.func10, Tryd.ntmps10
  go_wp2_with fail
  refine (new_any A n c _ hn HC.out).mono ?_
  rintro e w0 ⟨rfl, hcur, hsz0⟩
  clear hsz0
  have HU := Lib.hid hcur
  have hs := hcur.lt
  clear hcur
  go_wp2_with fail
  refine (anyProg_any w A n c _ _ hn HC.out HU.out).mono ?_
  rintro e w1 ⟨b, m, cap, l, rfl, hl, hm, hwf, hli, hc1, hg1⟩
  have HT := Lib.hid (show PB w1 w0.heap.size ⟨b, 0, none⟩ m l from ⟨hm, hl, hwf, hli⟩)
  have HU1 := Lib.hid hc1
  have hlt1 := hc1.lt
  clear hl hm hwf hli hc1 hg1 HU
  go_wp2_with fail
  refine (pick_any w A n c _ _ w1.heap.size 6 [0, 1, 5, 12, -1, 9223372036854775807] (by decide) (by decide) hn HC.out (HU1.out.alloc _) (by omega) rfl (heap_alloc_new w1 _)).mono ?_
  rintro e w2 ⟨x, rfl, hx, hc2, hg2⟩
  have HF := Lib.hid (And.intro (((HT.out.below ((Below.refl _ _).alloc (Nat.le_refl _) _)).grown hg2 hs).low (Nat.le_of_lt hs)) (And.intro hc2.1 (wf_of (by decide) hx)))
  clear hx hc2 hg2 HU1 HT
  go_wp2_with fail
  exact bodyPost_ret (v := .tuple #[.slice (some ⟨b, 0, none⟩) m cap, .int .i64 x]) (by simp [results, Tryd.results10, go_sem]) rfl ⟨_, m, cap, l, x, rfl, HF.out.2.2, HF.out.1, HF.out.2.1⟩

theorem drawOpName_any (A : Option Addr) (n c : Nat) (w : World) (hn : n ≤ 1048576) (hcode : CodeAt w A n) :
    Calls Tryd.prog 11 #[.slice A n c] w (IntB w) := by
  have HC := Lib.hid hcode
  clear hcode
  go_enter Tryd.func11, Tryd.ntmps11
  go_wp2_with fail
  refine (new_any A n c _ hn HC.out).mono ?_
  rintro e w0 ⟨rfl, hcur, hsz0⟩
  clear hsz0
  have HU := Lib.hid hcur
  clear hcur
  go_wp2_with fail
  refine (below_any w A n c _ _ 11 (by omega) (by omega) hn HC.out HU.out).mono ?_
  rintro e w1 ⟨x, rfl, hx0, hx1, hc1, hg1⟩
  have HF := Lib.hid (And.intro (wf_less hx0 hx1 (by omega)) hc1.1)
  clear hc1 hg1 HU
  go_wp2_with fail
  go_ret
  exact ⟨x - 1, rfl, HF.out.1, HF.out.2⟩

set_option maxRecDepth 100000 in
set_option maxHeartbeats 4000000 in
theorem drawSameProg_any (A : Option Addr) (n c : Nat) (w : World) (hn : n ≤ 1048576) (hcode : CodeAt w A n) :
    Calls Tryd.prog 12 #[.slice A n c] w (ProgTwo w) := by
  obtain ⟨i0, hi0, hz0, hz1, hz2⟩ := info_parts Tryd.infoIns
  have HC := Lib.hid hcode
  clear hcode
  go_enter Tryd.func12, Tryd.ntmps12
  go_wp2_with fail
  refine (new_any A n c _ hn HC.out).mono ?_
  rintro e w0 ⟨rfl, hcur, hsz0⟩
  clear hsz0
  have HU := Lib.hid hcur
  have hs := hcur.lt
  clear hcur
  go_wp2_with fail
  refine (anyProg_any w A n c _ _ hn HC.out HU.out).mono ?_
  rintro e w1 ⟨b, m, cap, l, rfl, hl, hm, hwf, hli, hc1, hg1⟩
  have HT := Lib.hid (show PB w1 w0.heap.size ⟨b, 0, none⟩ m l from ⟨hm, hl, hwf, hli⟩)
  have HU1 := Lib.hid hc1
  have hs1 := hg1.size
  clear hl hm hwf hli hc1 hg1 HU
  go_wp2_with fail
  refine (once_any w A n c _ _ 2 (by omega) (by omega) hn HC.out HU1.out).mono ?_
  rintro e w2 ⟨o, rfl, hc2, hg2⟩
  have HT2 := Lib.hid (HT.out.grown hg2 hs)
  have HU2 := Lib.hid hc2
  have hs2 := hg2.size
  clear hc2 hg2 HU1 HT
  cases o
  · go_wp2_with fail
    refine (anyProg_any w A n c _ _ hn HC.out HU2.out).mono ?_
    rintro e w3 ⟨b', m', cap', l', rfl, hl, hm, hwf, hli, hc3, hg3⟩
    have HF := Lib.hid (And.intro ((HT2.out.grown hg3 hs).low (Nat.le_of_lt hs)) (And.intro (show PB w3 w.heap.size ⟨b', 0, none⟩ m' l' from ⟨hm, hl, hwf, hli.wide (by omega) (Nat.le_refl _)⟩) hc3.1))
    clear hl hm hwf hli hc3 hg3 HU2 HT2
    go_wp2_with fail
    exact bodyPost_ret (v := .tuple #[.slice (some ⟨b, 0, none⟩) m cap, .slice (some ⟨b', 0, none⟩) m' cap']) (by simp [results, Tryd.results12, go_sem]) rfl ⟨_, m, cap, l, _, m', cap', l', rfl, HF.out.1, HF.out.2.1, HF.out.2.2⟩
  · have hm := World.ownsRow_made (e := 25) (size := 2) w2 #[] 0 (Nat.le_refl _) (Nat.zero_le _) rfl
    have HM := Lib.hid hm
    have HS := Lib.hid (App.Lies.src (HT2.out.2.2.2.below ((Below.refl w2.heap.size w2).alloc (Nat.le_refl _) (.cells #[] 25)) (Nat.le_refl _)))
    have hm20 := HT2.out.1
    clear hm
    go_wp2_with (at_builtin; refine App.wpList_append_fresh _ rfl (.tmp 13) (.tmp 14) 29 rfl w2.heap.size 25 i0 _ 2 16 Tryd.underlying29 hi0 hz0 hz1 hz2 rfl (by omega) w2.heap.size rfl HM.out (some ⟨b, 0, none⟩) m cap (jcells l) rfl (by rw [jcells_len, HT2.out.2.1, Nat.mul_comm]) HS.out (jcells_one l) (by simp only [maxLen]; omega) (by omega) (by simp) ?_; intro g1 cap1 w3 hown1 hg1; have ho1 := row_lies hown1; have hb1 : Below w2.heap.size w2 w3 := ((Below.refl _ _).alloc (Nat.le_refl _) _).grown hg1 (by simp) (fun j hj => by cases hj; exact Nat.le_refl _); have HF := Lib.hid (And.intro ((HT2.out.below hb1).low (Nat.le_of_lt hs)) (And.intro (show PB w3 w.heap.size ⟨g1, 0, none⟩ m l from ⟨HT2.out.1, HT2.out.2.1, HT2.out.2.2.1, ho1.wide (by omega) (Nat.le_refl _)⟩) (btr HU2.out.1 hb1))); clear hown1 hg1 ho1 hb1)
    exact bodyPost_ret (v := .tuple #[.slice (some ⟨b, 0, none⟩) m cap, .slice (some ⟨g1, 0, none⟩) m cap1]) (by simp [results, Tryd.results12, go_sem]) rfl ⟨_, m, cap, l, _, m, cap1, l, rfl, HF.out.1, HF.out.2.1, HF.out.2.2⟩
end Go.Proofs.YtgccejlkjeenpaaDoor.Inss
