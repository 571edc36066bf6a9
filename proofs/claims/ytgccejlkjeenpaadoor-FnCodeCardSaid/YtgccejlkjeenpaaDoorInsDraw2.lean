/-
  The draws of chapter 10, programs and what the laws draw: they lie in memory; no statement about the project's code stands here. No condition beyond the length of the code.
-/
import Derived.Test.YtgccejlkjeenpaaDoorInsDraws
namespace Go.Proofs.YtgccejlkjeenpaaDoor.Inss
set_option maxRecDepth 100000
open Go.ChangeShapes Go.WideShapes Go.ChangeAt Go.RowKit
open Go.Proofs.YtgccejlkjeenpaaDoor.Base Go.Proofs.YtgccejlkjeenpaaDoor.Mem Go.Proofs.YtgccejlkjeenpaaDoor.Data Go.Proofs.YtgccejlkjeenpaaDoor.Draw Go.Proofs.YtgccejlkjeenpaaDoor.SDraw
set_option linter.unusedVariables false
set_option linter.unusedSimpArgs false

theorem row_cap {w : World} {base n size g cap : Nat} {e : TypeId} {xs : List Value} (h : w.ownsRow base e size (.slice (some ⟨g, 0, none⟩) n cap) n xs) : n ≤ cap ∧ cap ≤ 9223372036854775807 := by
  rcases h.2 with ⟨h', _⟩ | ⟨g1, cap1, cur, h', _, _, hnc, hm, _⟩
  · simp at h'
  · injection h' with h1 h2 h3; simp only [maxLen] at hm; omega
theorem row_lies {w : World} {base n : Nat} {e : TypeId} {A : Option Addr} {cap : Nat} {cs : List Value} {s : Nat} (h : w.ownsRow base e s (.slice A n cap) n cs) : Lies w base w.heap.size A cs := (Owned.of_row h).1
theorem lies_take {w : World} {lo hi : Nat} {A : Option Addr} {l : List JT} (h : Lies w lo hi A (jcells l)) (j : Nat) (hj : j ≤ l.length) : Lies w lo hi A (jcells (l.take j)) := fun k u hu => by
  refine h k u ?_
  have hk := (List.getElem?_eq_some_iff.1 hu).1
  have e : jcells l = jcells (l.take j) ++ jcells (l.drop j) := by rw [← jcells_append, List.take_append_drop]
  rw [e, List.getElem?_append_left hk]; exact hu
theorem wfJL_nil : wfJL [] := fun _ h => by cases h
theorem wfJL_snoc {l : List JT} {s : JT} (h : wfJL l) (hs : wfJ s) : wfJL (l ++ [s]) := fun x hx => (List.mem_append.1 hx).elim (h x) (fun h1 => by rw [List.mem_singleton.1 h1]; exact hs)
theorem wfJL_set {l : List JT} {k : Nat} {s : JT} (h : wfJL l) (hs : wfJ s) : wfJL (l.set k s) := fun x hx => (List.mem_or_eq_of_mem_set hx).elim (h x) (fun h1 => h1 ▸ hs)
theorem wfJL_take {l : List JT} {k : Nat} (h : wfJL l) : wfJL (l.take k) := fun x hx => h x (List.mem_of_mem_take hx)
theorem wf_halt : wfJ (7, 0) := ⟨by decide, by decide⟩
theorem wf_jump : wfJ (8, 0) := ⟨by decide, by decide⟩
def POwn (w0 : World) (A : Option Addr) (n c : Nat) (w : World) (g : Nat) (e : Ending) (w' : World) : Prop :=
  ∃ b m cap l, e = .returned (.slice (some ⟨b, 0, none⟩) m cap) ∧ l.length = m ∧ 1 ≤ m ∧ m ≤ 20 ∧ wfJL l ∧ w'.ownsRow w.heap.size 25 2 (.slice (some ⟨b, 0, none⟩) m cap) m (jcells l) ∧ Cur w0 A n c w' g ∧ w.grownBy w' (some g)
def PLies (w0 : World) (A : Option Addr) (n c : Nat) (w : World) (g : Nat) (e : Ending) (w' : World) : Prop :=
  ∃ b m cap l, e = .returned (.slice (some ⟨b, 0, none⟩) m cap) ∧ l.length = m ∧ m ≤ 20 ∧ wfJL l ∧ Lies w' w.heap.size w'.heap.size (some ⟨b, 0, none⟩) (jcells l) ∧ Cur w0 A n c w' g ∧ w.grownBy w' (some g)

set_option maxRecDepth 100000 in
set_option maxHeartbeats 8000000 in
theorem prog_any (w0 : World) (A : Option Addr) (n c g : Nat) (w : World) (hn : n ≤ 1048576) (hcode : CodeAt w0 A n) (hcur : Cur w0 A n c w g) :
    Calls Tryd.prog 36 #[.pointer (some ⟨g, 0, none⟩)] w (POwn w0 A n c w g) := by
  obtain ⟨i0, hi0, hz0, hz1, hz2⟩ := info_parts Tryd.infoIns
  have HC := Lib.hid hcode
  have hlt := hcur.lt
  have hs0 := hcur.1.size
  have HU := Lib.hid hcur
  clear hcode hcur
  go_enter Tryd.func36, Tryd.ntmps36
  go_wp2_with fail
  go_loopw [3, 4] (fun v i wr => ∃ (k b m cap : Nat) (l : List JT), k ≤ 9 ∧ m ≤ k ∧ i = .int .i64 k ∧ v = .slice (some ⟨b, 0, none⟩) m cap ∧ l.length = m ∧ wfJL l ∧ wr.ownsRow w.heap.size 25 2 (.slice (some ⟨b, 0, none⟩) m cap) m (jcells l) ∧ Cur w0 A n c wr g ∧ w.grownBy wr (some g)) (fun _ i _ => 10 - (intOf i).toNat)
  case atStart =>
    exact ⟨0, w.heap.size, 0, 0, [], Nat.zero_le _, Nat.le_refl _, rfl, rfl, rfl, wfJL_nil, World.ownsRow_made w #[] 0 (Nat.le_refl _) (Nat.zero_le _) rfl, HU.out.alloc _, grown_new w _ _⟩
  case round =>
    obtain ⟨k, b, m, cap, l, hk, hmk, rfl, rfl, hl, hwf, hown, hcur, hgr⟩ := hrel
    have HL := Lib.hid hl
    have HA := Lib.hid hwf
    have HU := Lib.hid hcur
    have HG := Lib.hid hgr
    have hbg : b ≠ g := by have := (hown.lt b rfl).1; omega
    clear hl hwf hcur hgr
    go_wp2_with fail
    refine (below_any w0 A n c g _ 7 (by omega) (by omega) hn HC.out HU.out).mono ?_
    rintro e w1 ⟨x, rfl, hx0, hx1, hc1, hg1⟩
    have hown1 := hown.kept hg1 (.inr (by simp [Value.ownBlock]; exact hbg))
    have HU1 := Lib.hid hc1
    have HG1 := Lib.hid (gtr HG.out hg1)
    clear hc1 hg1 HU HG hown
    by_cases hk2 : (k : Int) < 2 + x
    · go_wp2_with fail
      refine (ins_any w0 A n c g _ hn HC.out HU1.out).mono ?_
      rintro e w2 ⟨x0, x1, rfl, hwx, hc2, hg2⟩
      have hown2 := hown1.kept hg2 (.inr (by simp [Value.ownBlock]; exact hbg))
      have HX := Lib.hid (wfJL_snoc HA.out hwx)
      have HU2 := Lib.hid hc2
      have HG2 := Lib.hid (gtr HG1.out hg2)
      have hsz2 := HG2.out.size
      clear hwx hc2 hg2 HU1 HG1 hown1
      go_wp2_with (at_builtin; refine wpList_append_lies _ rfl _ _ 29 rfl w.heap.size 25 i0 _ 2 16 Tryd.underlying29 hi0 hz0 hz1 hz2 rfl (by omega) (.slice (some ⟨b, 0, none⟩) m cap) m _ rfl (hown2.alloc _) ⟨w2.heap.size, 0, none⟩ 1 1 [.int .i64 x0, .int .i64 x1] rfl rfl (World.news_of_block (heap_alloc_new w2 _)) (by simp [Value.oneCell']) (by omega) (by simp only [maxLen]; omega) (by omega) (by simp; omega) (w2.heap.size + 1) (by simp) ?_; intro b' cap' w3 hownX hgrow hat hgX)
      have hF := (And.intro ((HU2.out.alloc (.cells #[.int .i64 x0, .int .i64 x1] 25)).grown hgrow (by simp [Value.ownBlock]; omega) (fun j hj => by have := (hown2.lt j hj).1; omega))
        (And.intro (grown_own (gtr HG2.out (grown_new w2 (.cells #[.int .i64 x0, .int .i64 x1] 25) _)) hgrow (fun j hj => (hown2.lt j hj).1))
          (show w3.ownsRow w.heap.size 25 2 (.slice (some ⟨b', 0, none⟩) (m + 1) cap') (m + 1) (jcells (l ++ [(x0, x1)])) by rw [jcells_append]; exact hownX)))
      have HF := Lib.hid hF
      clear hF hown2 hownX hgrow hat hgX
      go_wp2_with fail
      go_roundw
      case rel => exact ⟨k + 1, b', m + 1, cap', l ++ [(x0, x1)], by omega, by omega, by go_num, rfl, by rw [List.length_append, HL.out]; rfl, HX.out, HF.out.2.2, HF.out.1, HF.out.2.1⟩
      case measure => simp [intOf]; omega
    · go_wp2_with fail
      refine (once_any w0 A n c g _ 3 (by omega) (by omega) hn HC.out HU1.out).mono ?_
      rintro e w2 ⟨o, rfl, hc2, hg2⟩
      have hown2 := hown1.kept hg2 (.inr (by simp [Value.ownBlock]; exact hbg))
      have HU2 := Lib.hid hc2
      have HG2 := Lib.hid (gtr HG1.out hg2)
      have hsz2 := HG2.out.size
      clear hc2 hg2 HU1 HG1 hown1
      cases o
      · go_wp2_with (at_builtin; refine wpList_append_lies _ rfl _ _ 29 rfl w.heap.size 25 i0 _ 2 16 Tryd.underlying29 hi0 hz0 hz1 hz2 rfl (by omega) (.slice (some ⟨b, 0, none⟩) m cap) m _ rfl (hown2.alloc _) ⟨w2.heap.size, 0, none⟩ 1 1 [.int .i64 8, .int .i64 0] rfl rfl (World.news_of_block (heap_alloc_new w2 _)) (by simp [Value.oneCell']) (by omega) (by simp only [maxLen]; omega) (by omega) (by simp; omega) (w2.heap.size + 1) (by simp) ?_; intro b' cap' w3 hownX hgrow hat hgX)
        have hF := (And.intro ((HU2.out.alloc (.cells #[.int .i64 8, .int .i64 0] 25)).grown hgrow (by simp [Value.ownBlock]; omega) (fun j hj => by have := (hown2.lt j hj).1; omega))
          (And.intro (grown_own (gtr HG2.out (grown_new w2 (.cells #[.int .i64 8, .int .i64 0] 25) _)) hgrow (fun j hj => (hown2.lt j hj).1))
            (show w3.ownsRow w.heap.size 25 2 (.slice (some ⟨b', 0, none⟩) (m + 1) cap') (m + 1) (jcells (l ++ [(8, 0)])) by rw [jcells_append]; exact hownX)))
        have HF := Lib.hid hF
        clear hF hown2 hownX hgrow hat hgX
        go_wp2_with fail
        go_ret
        exact ⟨b', m + 1, cap', l ++ [(8, 0)], rfl, by rw [List.length_append, HL.out]; rfl, by omega, by omega, wfJL_snoc HA.out wf_jump, HF.out.2.2, HF.out.1, HF.out.2.1⟩
      · go_wp2_with (at_builtin; refine wpList_append_lies _ rfl _ _ 29 rfl w.heap.size 25 i0 _ 2 16 Tryd.underlying29 hi0 hz0 hz1 hz2 rfl (by omega) (.slice (some ⟨b, 0, none⟩) m cap) m _ rfl (hown2.alloc _) ⟨w2.heap.size, 0, none⟩ 1 1 [.int .i64 7, .int .i64 0] rfl rfl (World.news_of_block (heap_alloc_new w2 _)) (by simp [Value.oneCell']) (by omega) (by simp only [maxLen]; omega) (by omega) (by simp; omega) (w2.heap.size + 1) (by simp) ?_; intro b' cap' w3 hownX hgrow hat hgX)
        have hF := (And.intro ((HU2.out.alloc (.cells #[.int .i64 7, .int .i64 0] 25)).grown hgrow (by simp [Value.ownBlock]; omega) (fun j hj => by have := (hown2.lt j hj).1; omega))
          (And.intro (grown_own (gtr HG2.out (grown_new w2 (.cells #[.int .i64 7, .int .i64 0] 25) _)) hgrow (fun j hj => (hown2.lt j hj).1))
            (show w3.ownsRow w.heap.size 25 2 (.slice (some ⟨b', 0, none⟩) (m + 1) cap') (m + 1) (jcells (l ++ [(7, 0)])) by rw [jcells_append]; exact hownX)))
        have HF := Lib.hid hF
        clear hF hown2 hownX hgrow hat hgX
        go_wp2_with fail
        go_ret
        exact ⟨b', m + 1, cap', l ++ [(7, 0)], rfl, by rw [List.length_append, HL.out]; rfl, by omega, by omega, wfJL_snoc HA.out wf_halt, HF.out.2.2, HF.out.1, HF.out.2.1⟩

def slen : Value → Nat
  | .slice _ n _ => n
  | _ => 0
set_option maxRecDepth 100000 in
set_option maxHeartbeats 8000000 in
theorem anyProg_any (w0 : World) (A : Option Addr) (n c g : Nat) (w : World) (hn : n ≤ 1048576) (hcode : CodeAt w0 A n) (hcur : Cur w0 A n c w g) :
    Calls Tryd.prog 29 #[.pointer (some ⟨g, 0, none⟩)] w (PLies w0 A n c w g) := by
  obtain ⟨i0, hi0, hz0, hz1, hz2⟩ := info_parts Tryd.infoIns
  have HC := Lib.hid hcode
  have hlt := hcur.lt
  have hs0 := hcur.1.size
  have HU := Lib.hid hcur
  clear hcode hcur
  go_enter Tryd.func29, Tryd.ntmps29
  go_wp2_with fail
  refine (prog_any w0 A n c g _ hn HC.out HU.out).mono ?_
  rintro e w1 ⟨b, m, cap, l, rfl, hl, hm1, hm2, hwf, hown1, hc1, hg1⟩
  have HL := Lib.hid hl
  have HA := Lib.hid hwf
  have HU1 := Lib.hid hc1
  have HG1 := Lib.hid hg1
  have hb0 := (hown1.lt b rfl).1
  have hbg : b ≠ g := by omega
  clear hl hwf hc1 hg1 HU
  go_wp2_with fail
  refine (below_any w0 A n c g _ 8 (by omega) (by omega) hn HC.out HU1.out).mono ?_
  rintro e w2 ⟨k, rfl, _, _, hc2, hg2⟩
  have hown2 := hown1.kept hg2 (.inr (by simp [Value.ownBlock]; exact hbg))
  have HU2 := Lib.hid hc2
  have HG2 := Lib.hid (gtr HG1.out hg2)
  clear hc2 hg2 HU1 HG1 hown1
  by_cases h0 : k = 0
  · subst h0
    go_wp2_with fail
    refine (anyIns_any w0 A n c g _ hn HC.out HU2.out).mono ?_
    rintro e w3 ⟨x0, x1, rfl, hwx, hc3, hg3⟩
    have hown3 := hown2.kept hg3 (.inr (by simp [Value.ownBlock]; exact hbg))
    have HX := Lib.hid (wfJL_set (k := 0) HA.out hwx)
    have HU3 := Lib.hid hc3
    have HG3 := Lib.hid (gtr HG2.out hg3)
    obtain ⟨⟨u0, q0⟩, ⟨u1, q1⟩, f0, f1⟩ := jrow_some hown3 (k := 0) (by omega)
    have hs := jrow_set hown3 0 (.int .i64 x0) (.int .i64 x1)
    rw [jset (by have := HL.out; omega)] at hs
    simp only [Nat.zero_mul, Nat.zero_add] at q0 q1 f0 f1 hs
    have HS := Lib.hid hs
    have hm0 : (0 : Int) < (m : Int) := by omega
    clear hwx hc3 hg3 HU2 HG2 hown2 hown3 hs
    go_wp2_with fail
    go_ret
    exact ⟨b, m, cap, l.set 0 (x0, x1), rfl, by rw [List.length_set]; exact HL.out, hm2, HX.out, row_lies HS.out, cur2 HU3.out (by omega) (by omega) _ _, far2 HG3.out hb0 _ _⟩
  · have h0' : (k == 0) = false := by simpa using h0
    by_cases h1 : k = 1
    · subst h1
      go_wp2_with fail
      clear hb0 hbg hm1
      go_loopw [3] (fun v wr => ∃ (b m cap : Nat) (l : List JT), m ≤ 20 ∧ v = .slice (some ⟨b, 0, none⟩) m cap ∧ l.length = m ∧ wfJL l ∧ wr.ownsRow w.heap.size 25 2 (.slice (some ⟨b, 0, none⟩) m cap) m (jcells l) ∧ Cur w0 A n c wr g ∧ w.grownBy wr (some g)) (fun v _ => 20 - slen v)
      case atStart => exact ⟨b, m, cap, l, hm2, rfl, HL.out, HA.out, hown2, HU2.out, HG2.out⟩
      case round =>
        clear hown2 HU2 HG2 HL HA hm2
        obtain ⟨b, m, cap, l, hm, rfl, hl, hwf, hown, hcur, hgr⟩ := hrel
        have HL := Lib.hid hl
        have HA := Lib.hid hwf
        have HU := Lib.hid hcur
        have HG := Lib.hid hgr
        have hbg : b ≠ g := by have := (hown.lt b rfl).1; omega
        clear hl hwf hcur hgr
        go_wp2_with fail
        refine (below_any w0 A n c g _ 2 (by omega) (by omega) hn HC.out HU.out).mono ?_
        rintro e w3 ⟨x, rfl, hx0, hx1, hc3, hg3⟩
        have hown3 := hown.kept hg3 (.inr (by simp [Value.ownBlock]; exact hbg))
        have HU3 := Lib.hid hc3
        have HG3 := Lib.hid (gtr HG.out hg3)
        clear hc3 hg3 HU HG hown
        by_cases hk2 : (m : Int) < 12 + x
        · go_wp2_with fail
          refine (ins_any w0 A n c g _ hn HC.out HU3.out).mono ?_
          rintro e w4 ⟨x0, x1, rfl, hwx, hc4, hg4⟩
          have hown4 := hown3.kept hg4 (.inr (by simp [Value.ownBlock]; exact hbg))
          have HX := Lib.hid (wfJL_snoc HA.out hwx)
          have HU4 := Lib.hid hc4
          have HG4 := Lib.hid (gtr HG3.out hg4)
          have hsz4 := HG4.out.size
          clear hwx hc4 hg4 HU3 HG3 hown3
          go_wp2_with (at_builtin; refine wpList_append_lies _ rfl _ _ 29 rfl w.heap.size 25 i0 _ 2 16 Tryd.underlying29 hi0 hz0 hz1 hz2 rfl (by omega) (.slice (some ⟨b, 0, none⟩) m cap) m _ rfl (hown4.alloc _) ⟨w4.heap.size, 0, none⟩ 1 1 [.int .i64 x0, .int .i64 x1] rfl rfl (World.news_of_block (heap_alloc_new w4 _)) (by simp [Value.oneCell']) (by omega) (by simp only [maxLen]; omega) (by omega) (by simp; omega) (w4.heap.size + 1) (by simp) ?_; intro b' cap' w5 hownX hgrow hat hgX)
          have hF := (And.intro ((HU4.out.alloc (.cells #[.int .i64 x0, .int .i64 x1] 25)).grown hgrow (by simp [Value.ownBlock]; omega) (fun j hj => by have := (hown4.lt j hj).1; omega))
            (And.intro (grown_own (gtr HG4.out (grown_new w4 (.cells #[.int .i64 x0, .int .i64 x1] 25) _)) hgrow (fun j hj => (hown4.lt j hj).1))
              (show w5.ownsRow w.heap.size 25 2 (.slice (some ⟨b', 0, none⟩) (m + 1) cap') (m + 1) (jcells (l ++ [(x0, x1)])) by rw [jcells_append]; exact hownX)))
          have HF := Lib.hid hF
          clear hF hown4 hownX hgrow hat hgX
          go_wp2_with fail
          go_roundw
          case rel => exact ⟨b', m + 1, cap', l ++ [(x0, x1)], by omega, rfl, by rw [List.length_append, HL.out]; rfl, HX.out, HF.out.2.2, HF.out.1, HF.out.2.1⟩
          case measure => simp only [slen]; omega
        · go_wp2_with fail
          go_ret
          exact ⟨b, m, cap, l, rfl, HL.out, hm, HA.out, row_lies hown3, HU3.out, HG3.out⟩
    · have h1' : (k == 1) = false := by simpa using h1
      by_cases h2 : k = 2
      · subst h2
        go_wp2_with fail
        refine (below_any w0 A n c g _ 2 (by omega) (by omega) hn HC.out HU2.out).mono ?_
        rintro e w3 ⟨x, rfl, hx0, hx1, hc3, hg3⟩
        have hown3 := hown2.kept hg3 (.inr (by simp [Value.ownBlock]; exact hbg))
        have HU3 := Lib.hid hc3
        have HG3 := Lib.hid (gtr HG2.out hg3)
        have hcap := row_cap hown3
        have HR := Lib.hid (row_lies hown3)
        obtain ⟨j, rfl⟩ := Int.eq_ofNat_of_zero_le hx0
        have hj1 : (j : Int) ≤ (cap : Int) := by omega
        have hj2 : j ≤ cap := by omega
        have hj3 : j ≤ m := by omega
        clear hc3 hg3 HU2 HG2 hown2 hown3
        go_wp2_with fail
        go_ret
        exact ⟨b, j, cap, l.take j, rfl, by rw [List.length_take, HL.out]; omega, by omega, wfJL_take HA.out, lies_take HR.out j (by rw [HL.out]; exact hj3), HU3.out, HG3.out⟩
      · have h2' : (k == 2) = false := by simpa using h2
        go_wp2_with fail
        go_ret
        exact ⟨b, m, cap, l, rfl, HL.out, hm2, HA.out, row_lies hown2, HU2.out, HG2.out⟩
end Go.Proofs.YtgccejlkjeenpaaDoor.Inss
