/-
  For every slice of bytes the law FnInsKinds returns true: each kind of instruction is right just within its range, and only loads and stores touch a page. No condition.
-/
import Derived.Test.YtgccejlkjeenpaaInsImpl
import Derived.Test.YtgccejlkjeenpaaPlaces
import Derived.Test.YtgccejlkjeenpaaCode
import Derived.Test.YtgccejlkjeenpaaBig
namespace Go.Proofs.Ytgccejlkjeenpaa.fnInsKinds
set_option maxRecDepth 100000
open Go.ChangeShapes Go.WideShapes Go.ChangeAt Go.RowKit
open Go.Proofs.Ytgccejlkjeenpaa.Base Go.Proofs.Ytgccejlkjeenpaa.Mem Go.Proofs.Ytgccejlkjeenpaa.Slots Go.Proofs.Ytgccejlkjeenpaa.Ints Go.Proofs.Ytgccejlkjeenpaa.Draw Go.Proofs.Ytgccejlkjeenpaa.Inss Go.Proofs.Ytgccejlkjeenpaa.Addrs Go.Proofs.Ytgccejlkjeenpaa.Rights
set_option linter.unusedVariables false
set_option linter.unusedSimpArgs false

theorem wf_nat {m : Int} (h0 : -100 ≤ m) (h : m ≤ 1048576) : (Lit.int .i64 m).wf = true := by
  simp [Lit.wf]
  have e1 : IntKind.i64.min = -9223372036854775808 := by decide
  have e2 : IntKind.i64.max = 9223372036854775807 := by decide
  omega
/-- The first two of the drawn numbers lie in memory. -/
def P2 (W : World) (g : Nat) (a b : Int) : Prop :=
  W.cell? ⟨g, 0, none⟩ = some (.int .i64 a) ∧ W.cell? ⟨g, 1, none⟩ = some (.int .i64 b) ∧ g < W.heap.size
theorem pcell {w : World} {base g n c : Nat} {e : TypeId} {l : List Int} (h : w.ownsRow base e 1 (.slice (some ⟨g, 0, none⟩) n c) n (icells l)) (k : Nat) (hk : k < l.length) : w.cell? ⟨g, k, none⟩ = some (.int .i64 l[k]) := by
  have hl := h.1
  simp only [icells, List.length_map] at hl
  rw [h.cellAt k (by omega)]
  simp [icells, hk]
theorem wfp {o x : Int} (h : (Lit.int .i64 o).wf = true) (k : (Lit.int .i64 x).wf = true) : wfJ (o, x) := ⟨h, k⟩
theorem rem_part (q m : Int) (h0 : 0 ≤ q) (hm : 0 < m) : 0 ≤ q.tmod m ∧ q.tmod m < m := by
  rw [Int.tmod_eq_emod_of_nonneg h0]; exact ⟨Int.emod_nonneg q (by omega), Int.emod_lt_of_pos q hm⟩

set_option maxRecDepth 100000 in
set_option maxHeartbeats 8000000 in
theorem walk (A : Option Addr) (n c : Nat) (hn : n ≤ maxLen) {w : World} (hcode : CodeAt w A n) :
    Calls Try.prog 3 #[.slice A n c] w fun e w' => e = .returned (.bool true) ∧ Below w.heap.size w w' := by
  have hn' : n ≤ 9223372036854775807 := hn
  have HC := Lib.hid (show ∀ W, Below w.heap.size w W → CodeAt W A n from fun W hb => hcode.below hb)
  clear hcode hn
  by_cases h1 : 1048576 < n
  · go_enter Try.func3, Try.ntmps3
    go_wp2_with (go_at_call 9; refine (big_yes A n c _ hn' h1).mono ?_; rintro e w' ⟨rfl, rfl⟩)
    go_ret
    exact ⟨rfl, Below.refl _ _⟩
  · have hn2 : n ≤ 1048576 := by omega
    clear h1 hn'
    go_enter Try.func3, Try.ntmps3
    go_wp2_with (go_at_call 9; refine (big_no A n c _ hn2).mono ?_; rintro e w' ⟨rfl, rfl⟩)
    refine (places_any A n c _ hn2 (HC.out _ (Below.refl _ _))).mono ?_
    rintro e w1 ⟨gp, capp, l, rfl, hl, hall, hown, hb1⟩
    obtain ⟨q0, q1, q2, q3, q4, q5, q6, q7, q8, q9, q10, q11, rfl⟩ := list12 hl
    have hR0 := (hall q0 (by simp)).1
    have hR1 := (hall q1 (by simp)).1
    obtain ⟨x0, x1, x2⟩ : P2 w1 gp q0 q1 := ⟨pcell hown 0 (by simp), pcell hown 1 (by simp), (hown.lt gp rfl).2⟩
    have x3 : gp ≠ w1.heap.size := by omega
    obtain ⟨ra, rb⟩ := rem_part q0 8 hR0 (by omega)
    have hop : q0.tmod 8 = 0 ∨ q0.tmod 8 = 1 ∨ q0.tmod 8 = 2 ∨ q0.tmod 8 = 3 ∨ q0.tmod 8 = 4 ∨ q0.tmod 8 = 5 ∨ q0.tmod 8 = 6 ∨ q0.tmod 8 = 7 := by omega
    have HB1 := Lib.hid hb1
    clear hall hown hl HC hR0 ra rb hb1
    rcases hop with hq0 | hq0 | hq0 | hq0 | hq0 | hq0 | hq0 | hq0
    · obtain ⟨y0, y1⟩ := rem_part q1 100 hR1 (by omega)
      obtain ⟨x, hx⟩ : ∃ x, x = q1.tmod 100 := ⟨_, rfl⟩
      rw [← hx] at y0 y1
      have hq1 := hx.symm
      have wx := wf_nat (m := x) (by omega) (by omega)
      have hT := fun V : World => impl_touches 1 x V (wfp (by decide) wx)
      rw [show touches (1, x) = (-1, 0) from rfl] at hT
      unfold TwoI at hT
      dsimp only at hT
      have h1 := fun V : World => impl_insOk 1 x V (wfp (by decide) wx)
      rw [show insOk (1, x) = true from inB_iff.2 (show (0 : Int) ≤ x ∧ x ≤ 99 by omega)] at h1
      have h2 := fun V : World => impl_insOk 1 99 V (wfp (by decide) (by decide))
      rw [show insOk (1, 99) = true from by decide] at h2
      have h3 := fun V : World => impl_insOk 1 100 V (wfp (by decide) (by decide))
      rw [show insOk (1, 100) = false from by decide] at h3
      have h4 := fun V : World => impl_insOk 1 (-1) V (wfp (by decide) (by decide))
      rw [show insOk (1, (-1)) = false from by decide] at h4
      have HT := Lib.hid hT
      have H1 := Lib.hid h1
      have H2 := Lib.hid h2
      have H3 := Lib.hid h3
      have H4 := Lib.hid h4
      clear hT h1 h2 h3 h4 hx wx hR1
      go_wp2_with fail
      refine (HT.out _).mono ?_
      rintro e w2 ⟨rfl, hb2⟩
      have HB2 := Lib.hid (btr (HB1.out.alloc HB1.out.size _) hb2)
      clear hb2
      go_wp2_with fail
      refine (H1.out _).mono ?_
      rintro e w3 ⟨rfl, hb3⟩
      have HB3 := Lib.hid (btr HB2.out hb3)
      clear hb3
      go_wp2_with fail
      refine (H2.out _).mono ?_
      rintro e w4 ⟨rfl, hb4⟩
      have HB4 := Lib.hid (btr HB3.out hb4)
      clear hb4
      go_wp2_with fail
      refine (H3.out _).mono ?_
      rintro e w5 ⟨rfl, hb5⟩
      have HB5 := Lib.hid (btr HB4.out hb5)
      clear hb5
      go_wp2_with fail
      refine (H4.out _).mono ?_
      rintro e w6 ⟨rfl, hb6⟩
      have HB6 := Lib.hid (btr HB5.out hb6)
      clear hb6
      go_wp2_with fail
      go_ret
      exact ⟨rfl, HB6.out⟩
    · obtain ⟨y0, y1⟩ := rem_part q1 100 hR1 (by omega)
      obtain ⟨x, hx⟩ : ∃ x, x = q1.tmod 100 := ⟨_, rfl⟩
      rw [← hx] at y0 y1
      have hq1 := hx.symm
      have wx := wf_nat (m := x) (by omega) (by omega)
      have hT := fun V : World => impl_touches 2 x V (wfp (by decide) wx)
      rw [show touches (2, x) = (-1, 0) from rfl] at hT
      unfold TwoI at hT
      dsimp only at hT
      have h1 := fun V : World => impl_insOk 2 x V (wfp (by decide) wx)
      rw [show insOk (2, x) = true from inB_iff.2 (show (0 : Int) ≤ x ∧ x ≤ 99 by omega)] at h1
      have h2 := fun V : World => impl_insOk 2 99 V (wfp (by decide) (by decide))
      rw [show insOk (2, 99) = true from by decide] at h2
      have h3 := fun V : World => impl_insOk 2 100 V (wfp (by decide) (by decide))
      rw [show insOk (2, 100) = false from by decide] at h3
      have h4 := fun V : World => impl_insOk 2 (-1) V (wfp (by decide) (by decide))
      rw [show insOk (2, (-1)) = false from by decide] at h4
      have HT := Lib.hid hT
      have H1 := Lib.hid h1
      have H2 := Lib.hid h2
      have H3 := Lib.hid h3
      have H4 := Lib.hid h4
      clear hT h1 h2 h3 h4 hx wx hR1
      go_wp2_with fail
      refine (HT.out _).mono ?_
      rintro e w2 ⟨rfl, hb2⟩
      have HB2 := Lib.hid (btr (HB1.out.alloc HB1.out.size _) hb2)
      clear hb2
      go_wp2_with fail
      refine (H1.out _).mono ?_
      rintro e w3 ⟨rfl, hb3⟩
      have HB3 := Lib.hid (btr HB2.out hb3)
      clear hb3
      go_wp2_with fail
      refine (H2.out _).mono ?_
      rintro e w4 ⟨rfl, hb4⟩
      have HB4 := Lib.hid (btr HB3.out hb4)
      clear hb4
      go_wp2_with fail
      refine (H3.out _).mono ?_
      rintro e w5 ⟨rfl, hb5⟩
      have HB5 := Lib.hid (btr HB4.out hb5)
      clear hb5
      go_wp2_with fail
      refine (H4.out _).mono ?_
      rintro e w6 ⟨rfl, hb6⟩
      have HB6 := Lib.hid (btr HB5.out hb6)
      clear hb6
      go_wp2_with fail
      go_ret
      exact ⟨rfl, HB6.out⟩
    · obtain ⟨y0, y1⟩ := rem_part q1 16 hR1 (by omega)
      obtain ⟨x, hx⟩ : ∃ x, x = q1.tmod 16 := ⟨_, rfl⟩
      rw [← hx] at y0 y1
      have hq1 := hx.symm
      have wx := wf_nat (m := x) (by omega) (by omega)
      obtain ⟨pg, hpg, hp0⟩ : ∃ p, p = addrP x ∧ 0 ≤ p := ⟨_, rfl, by unfold addrP; rw [if_neg (by omega)]; omega⟩
      have hT := fun V : World => impl_touches 3 x V (wfp (by decide) wx)
      rw [show touches (3, x) = (addrP x, need false) from rfl] at hT
      rw [← hpg] at hT
      unfold TwoI at hT
      dsimp only [need, if_true, if_false, Bool.false_eq_true] at hT
      have h1 := fun V : World => impl_insOk 3 x V (wfp (by decide) wx)
      rw [show insOk (3, x) = true from inB_iff.2 (show (0 : Int) ≤ x ∧ x ≤ 15 by omega)] at h1
      have h2 := fun V : World => impl_insOk 3 15 V (wfp (by decide) (by decide))
      rw [show insOk (3, 15) = true from by decide] at h2
      have h3 := fun V : World => impl_insOk 3 16 V (wfp (by decide) (by decide))
      rw [show insOk (3, 16) = false from by decide] at h3
      have h4 := fun V : World => impl_insOk 3 (-1) V (wfp (by decide) (by decide))
      rw [show insOk (3, (-1)) = false from by decide] at h4
      have HT := Lib.hid hT
      have H1 := Lib.hid h1
      have H2 := Lib.hid h2
      have H3 := Lib.hid h3
      have H4 := Lib.hid h4
      clear hT h1 h2 h3 h4 hx wx hR1
      go_wp2_with fail
      refine (HT.out _).mono ?_
      rintro e w2 ⟨rfl, hb2⟩
      have HB2 := Lib.hid (btr (HB1.out.alloc HB1.out.size _) hb2)
      clear hb2
      go_wp2_with fail
      refine (H1.out _).mono ?_
      rintro e w3 ⟨rfl, hb3⟩
      have HB3 := Lib.hid (btr HB2.out hb3)
      clear hb3
      go_wp2_with fail
      refine (H2.out _).mono ?_
      rintro e w4 ⟨rfl, hb4⟩
      have HB4 := Lib.hid (btr HB3.out hb4)
      clear hb4
      go_wp2_with fail
      refine (H3.out _).mono ?_
      rintro e w5 ⟨rfl, hb5⟩
      have HB5 := Lib.hid (btr HB4.out hb5)
      clear hb5
      go_wp2_with fail
      refine (H4.out _).mono ?_
      rintro e w6 ⟨rfl, hb6⟩
      have HB6 := Lib.hid (btr HB5.out hb6)
      clear hb6
      go_wp2_with fail
      go_ret
      exact ⟨rfl, HB6.out⟩
    · obtain ⟨y0, y1⟩ := rem_part q1 16 hR1 (by omega)
      obtain ⟨x, hx⟩ : ∃ x, x = q1.tmod 16 := ⟨_, rfl⟩
      rw [← hx] at y0 y1
      have hq1 := hx.symm
      have wx := wf_nat (m := x) (by omega) (by omega)
      obtain ⟨pg, hpg, hp0⟩ : ∃ p, p = addrP x ∧ 0 ≤ p := ⟨_, rfl, by unfold addrP; rw [if_neg (by omega)]; omega⟩
      have hT := fun V : World => impl_touches 4 x V (wfp (by decide) wx)
      rw [show touches (4, x) = (addrP x, need true) from rfl] at hT
      rw [← hpg] at hT
      unfold TwoI at hT
      dsimp only [need, if_true, if_false, Bool.false_eq_true] at hT
      have h1 := fun V : World => impl_insOk 4 x V (wfp (by decide) wx)
      rw [show insOk (4, x) = true from inB_iff.2 (show (0 : Int) ≤ x ∧ x ≤ 15 by omega)] at h1
      have h2 := fun V : World => impl_insOk 4 15 V (wfp (by decide) (by decide))
      rw [show insOk (4, 15) = true from by decide] at h2
      have h3 := fun V : World => impl_insOk 4 16 V (wfp (by decide) (by decide))
      rw [show insOk (4, 16) = false from by decide] at h3
      have h4 := fun V : World => impl_insOk 4 (-1) V (wfp (by decide) (by decide))
      rw [show insOk (4, (-1)) = false from by decide] at h4
      have HT := Lib.hid hT
      have H1 := Lib.hid h1
      have H2 := Lib.hid h2
      have H3 := Lib.hid h3
      have H4 := Lib.hid h4
      clear hT h1 h2 h3 h4 hx wx hR1
      go_wp2_with fail
      refine (HT.out _).mono ?_
      rintro e w2 ⟨rfl, hb2⟩
      have HB2 := Lib.hid (btr (HB1.out.alloc HB1.out.size _) hb2)
      clear hb2
      go_wp2_with fail
      refine (H1.out _).mono ?_
      rintro e w3 ⟨rfl, hb3⟩
      have HB3 := Lib.hid (btr HB2.out hb3)
      clear hb3
      go_wp2_with fail
      refine (H2.out _).mono ?_
      rintro e w4 ⟨rfl, hb4⟩
      have HB4 := Lib.hid (btr HB3.out hb4)
      clear hb4
      go_wp2_with fail
      refine (H3.out _).mono ?_
      rintro e w5 ⟨rfl, hb5⟩
      have HB5 := Lib.hid (btr HB4.out hb5)
      clear hb5
      go_wp2_with fail
      refine (H4.out _).mono ?_
      rintro e w6 ⟨rfl, hb6⟩
      have HB6 := Lib.hid (btr HB5.out hb6)
      clear hb6
      go_wp2_with fail
      go_ret
      exact ⟨rfl, HB6.out⟩
    · obtain ⟨y0, y1⟩ := rem_part q1 100 hR1 (by omega)
      obtain ⟨x, hx⟩ : ∃ x, x = q1.tmod 100 := ⟨_, rfl⟩
      rw [← hx] at y0 y1
      have hq1 := hx.symm
      have wx := wf_nat (m := x) (by omega) (by omega)
      have hT := fun V : World => impl_touches 5 x V (wfp (by decide) wx)
      rw [show touches (5, x) = (-1, 0) from rfl] at hT
      unfold TwoI at hT
      dsimp only at hT
      have h1 := fun V : World => impl_insOk 5 x V (wfp (by decide) wx)
      rw [show insOk (5, x) = true from inB_iff.2 (show (0 : Int) ≤ x ∧ x ≤ 99 by omega)] at h1
      have h2 := fun V : World => impl_insOk 5 99 V (wfp (by decide) (by decide))
      rw [show insOk (5, 99) = true from by decide] at h2
      have h3 := fun V : World => impl_insOk 5 100 V (wfp (by decide) (by decide))
      rw [show insOk (5, 100) = false from by decide] at h3
      have h4 := fun V : World => impl_insOk 5 (-1) V (wfp (by decide) (by decide))
      rw [show insOk (5, (-1)) = false from by decide] at h4
      have HT := Lib.hid hT
      have H1 := Lib.hid h1
      have H2 := Lib.hid h2
      have H3 := Lib.hid h3
      have H4 := Lib.hid h4
      clear hT h1 h2 h3 h4 hx wx hR1
      go_wp2_with fail
      refine (HT.out _).mono ?_
      rintro e w2 ⟨rfl, hb2⟩
      have HB2 := Lib.hid (btr (HB1.out.alloc HB1.out.size _) hb2)
      clear hb2
      go_wp2_with fail
      refine (H1.out _).mono ?_
      rintro e w3 ⟨rfl, hb3⟩
      have HB3 := Lib.hid (btr HB2.out hb3)
      clear hb3
      go_wp2_with fail
      refine (H2.out _).mono ?_
      rintro e w4 ⟨rfl, hb4⟩
      have HB4 := Lib.hid (btr HB3.out hb4)
      clear hb4
      go_wp2_with fail
      refine (H3.out _).mono ?_
      rintro e w5 ⟨rfl, hb5⟩
      have HB5 := Lib.hid (btr HB4.out hb5)
      clear hb5
      go_wp2_with fail
      refine (H4.out _).mono ?_
      rintro e w6 ⟨rfl, hb6⟩
      have HB6 := Lib.hid (btr HB5.out hb6)
      clear hb6
      go_wp2_with fail
      go_ret
      exact ⟨rfl, HB6.out⟩
    · obtain ⟨y0, y1⟩ := rem_part q1 100 hR1 (by omega)
      obtain ⟨x, hx⟩ : ∃ x, x = q1.tmod 100 := ⟨_, rfl⟩
      rw [← hx] at y0 y1
      have hq1 := hx.symm
      have wx := wf_nat (m := x) (by omega) (by omega)
      have hT := fun V : World => impl_touches 6 x V (wfp (by decide) wx)
      rw [show touches (6, x) = (-1, 0) from rfl] at hT
      unfold TwoI at hT
      dsimp only at hT
      have h1 := fun V : World => impl_insOk 6 x V (wfp (by decide) wx)
      rw [show insOk (6, x) = true from inB_iff.2 (show (0 : Int) ≤ x ∧ x ≤ 99 by omega)] at h1
      have h2 := fun V : World => impl_insOk 6 99 V (wfp (by decide) (by decide))
      rw [show insOk (6, 99) = true from by decide] at h2
      have h3 := fun V : World => impl_insOk 6 100 V (wfp (by decide) (by decide))
      rw [show insOk (6, 100) = false from by decide] at h3
      have h4 := fun V : World => impl_insOk 6 (-1) V (wfp (by decide) (by decide))
      rw [show insOk (6, (-1)) = false from by decide] at h4
      have HT := Lib.hid hT
      have H1 := Lib.hid h1
      have H2 := Lib.hid h2
      have H3 := Lib.hid h3
      have H4 := Lib.hid h4
      clear hT h1 h2 h3 h4 hx wx hR1
      go_wp2_with fail
      refine (HT.out _).mono ?_
      rintro e w2 ⟨rfl, hb2⟩
      have HB2 := Lib.hid (btr (HB1.out.alloc HB1.out.size _) hb2)
      clear hb2
      go_wp2_with fail
      refine (H1.out _).mono ?_
      rintro e w3 ⟨rfl, hb3⟩
      have HB3 := Lib.hid (btr HB2.out hb3)
      clear hb3
      go_wp2_with fail
      refine (H2.out _).mono ?_
      rintro e w4 ⟨rfl, hb4⟩
      have HB4 := Lib.hid (btr HB3.out hb4)
      clear hb4
      go_wp2_with fail
      refine (H3.out _).mono ?_
      rintro e w5 ⟨rfl, hb5⟩
      have HB5 := Lib.hid (btr HB4.out hb5)
      clear hb5
      go_wp2_with fail
      refine (H4.out _).mono ?_
      rintro e w6 ⟨rfl, hb6⟩
      have HB6 := Lib.hid (btr HB5.out hb6)
      clear hb6
      go_wp2_with fail
      go_ret
      exact ⟨rfl, HB6.out⟩
    · obtain ⟨y0, y1⟩ := rem_part q1 1 hR1 (by omega)
      obtain ⟨x, hx⟩ : ∃ x, x = q1.tmod 1 := ⟨_, rfl⟩
      rw [← hx] at y0 y1
      have hq1 := hx.symm
      have wx := wf_nat (m := x) (by omega) (by omega)
      have hT := fun V : World => impl_touches 7 x V (wfp (by decide) wx)
      rw [show touches (7, x) = (-1, 0) from rfl] at hT
      unfold TwoI at hT
      dsimp only at hT
      have h1 := fun V : World => impl_insOk 7 x V (wfp (by decide) wx)
      rw [show insOk (7, x) = true from by show ((x : Int) == 0) = true; rw [show x = 0 by omega]; decide] at h1
      have h2 := fun V : World => impl_insOk 7 0 V (wfp (by decide) (by decide))
      rw [show insOk (7, 0) = true from by show ((0 : Int) == 0) = true; decide] at h2
      have h3 := fun V : World => impl_insOk 7 1 V (wfp (by decide) (by decide))
      rw [show insOk (7, 1) = false from by show ((1 : Int) == 0) = false; decide] at h3
      have h4 := fun V : World => impl_insOk 7 (-1) V (wfp (by decide) (by decide))
      rw [show insOk (7, (-1)) = false from by show (((-1) : Int) == 0) = false; decide] at h4
      have HT := Lib.hid hT
      have H1 := Lib.hid h1
      have H2 := Lib.hid h2
      have H3 := Lib.hid h3
      have H4 := Lib.hid h4
      clear hT h1 h2 h3 h4 hx wx hR1
      go_wp2_with fail
      refine (HT.out _).mono ?_
      rintro e w2 ⟨rfl, hb2⟩
      have HB2 := Lib.hid (btr (HB1.out.alloc HB1.out.size _) hb2)
      clear hb2
      go_wp2_with fail
      refine (H1.out _).mono ?_
      rintro e w3 ⟨rfl, hb3⟩
      have HB3 := Lib.hid (btr HB2.out hb3)
      clear hb3
      go_wp2_with fail
      refine (H2.out _).mono ?_
      rintro e w4 ⟨rfl, hb4⟩
      have HB4 := Lib.hid (btr HB3.out hb4)
      clear hb4
      go_wp2_with fail
      refine (H3.out _).mono ?_
      rintro e w5 ⟨rfl, hb5⟩
      have HB5 := Lib.hid (btr HB4.out hb5)
      clear hb5
      go_wp2_with fail
      refine (H4.out _).mono ?_
      rintro e w6 ⟨rfl, hb6⟩
      have HB6 := Lib.hid (btr HB5.out hb6)
      clear hb6
      go_wp2_with fail
      go_ret
      exact ⟨rfl, HB6.out⟩
    · obtain ⟨y0, y1⟩ := rem_part q1 12 hR1 (by omega)
      obtain ⟨x, hx⟩ : ∃ x, x = q1.tmod 12 := ⟨_, rfl⟩
      rw [← hx] at y0 y1
      have hq1 := hx.symm
      have wx := wf_nat (m := x) (by omega) (by omega)
      have hT := fun V : World => impl_touches 8 x V (wfp (by decide) wx)
      rw [show touches (8, x) = (-1, 0) from rfl] at hT
      unfold TwoI at hT
      dsimp only at hT
      have h1 := fun V : World => impl_insOk 8 x V (wfp (by decide) wx)
      rw [show insOk (8, x) = true from inB_iff.2 (show (0 : Int) ≤ x ∧ x ≤ 11 by omega)] at h1
      have h2 := fun V : World => impl_insOk 8 11 V (wfp (by decide) (by decide))
      rw [show insOk (8, 11) = true from by decide] at h2
      have h3 := fun V : World => impl_insOk 8 12 V (wfp (by decide) (by decide))
      rw [show insOk (8, 12) = false from by decide] at h3
      have h4 := fun V : World => impl_insOk 8 (-1) V (wfp (by decide) (by decide))
      rw [show insOk (8, (-1)) = false from by decide] at h4
      have HT := Lib.hid hT
      have H1 := Lib.hid h1
      have H2 := Lib.hid h2
      have H3 := Lib.hid h3
      have H4 := Lib.hid h4
      clear hT h1 h2 h3 h4 hx wx hR1
      go_wp2_with fail
      refine (HT.out _).mono ?_
      rintro e w2 ⟨rfl, hb2⟩
      have HB2 := Lib.hid (btr (HB1.out.alloc HB1.out.size _) hb2)
      clear hb2
      go_wp2_with fail
      refine (H1.out _).mono ?_
      rintro e w3 ⟨rfl, hb3⟩
      have HB3 := Lib.hid (btr HB2.out hb3)
      clear hb3
      go_wp2_with fail
      refine (H2.out _).mono ?_
      rintro e w4 ⟨rfl, hb4⟩
      have HB4 := Lib.hid (btr HB3.out hb4)
      clear hb4
      go_wp2_with fail
      refine (H3.out _).mono ?_
      rintro e w5 ⟨rfl, hb5⟩
      have HB5 := Lib.hid (btr HB4.out hb5)
      clear hb5
      go_wp2_with fail
      refine (H4.out _).mono ?_
      rintro e w6 ⟨rfl, hb6⟩
      have HB6 := Lib.hid (btr HB5.out hb6)
      clear hb6
      go_wp2_with fail
      go_ret
      exact ⟨rfl, HB6.out⟩

/-! ### The row's step -/
set_option maxRecDepth 100000 in
theorem lifted (os : Os) (started : os.Started) (H : Type) (enc : TypeId × Value → H) :
    ReturnsInHanded {} Try.checked os 3 .any (Rows.fnInsKindsSpec.pre6 enc Try.prog Try.f3 Rows.fnInsKindsRow.domain false) (Rows.fnInsKindsSpec.post enc Try.prog Try.f3 false true false false) := by
  refine returnsInHanded_of_change (C := Try.checked) Base.own started (by kernel_rfl) Try.func3
    (ChangeSpec.witness6 (enc := enc) (C := Try.checked) false ⟨#[], #[.slice none 0 0], []⟩ 8 (by kernel_rfl) (by kernel_rfl) (by kernel_rfl) (by kernel_rfl)) ?_
  intro W base args ds gs before hval0 hW hcnd _
  have hval : ∀ (j : Nat) t v, Try.f3.params[j]? = some t → args[j]? = some v → Value.okWide Try.prog W .any base t v := hval0
  have hW' := hW
  obtain ⟨p, q, hA0, hV, rfl, hfz, hnd⟩ := hW
  have hA : DataW.TrodAll enc Try.prog W 0 (fun _ => true) true Try.f3.params.toList args.toList ds p := hA0
  have hA1 := hA
  rw [Try.params3] at hA hval
  obtain ⟨v0, vs0, d0, ds0, p0, q0, hargs, rfl, rfl, h0, r0⟩ := trodAll_cons hA
  obtain ⟨rfl, rfl, rfl⟩ := trodAll_nil r0
  obtain rfl : args = #[v0] := by cases args; simp_all
  obtain ⟨rfl, rfl⟩ := trodVars_none hV
  obtain ⟨A0, n0, c0, rfl, hn0, hcode0, _⟩ := Draw.open_code (hval 0 22 v0 rfl rfl) h0
  clear hA0 hval0
  rw [List.append_nil] at hW'
  refine (walk A0 n0 c0 hn0 hcode0).mono fun e W' ⟨he, hg⟩ => ?_
  subst he
  exact ⟨_, rfl, Mem.post_args Slots.laid (by kernel_rfl) rfl rfl rfl hW' hA1 hg (fun _ _ _ => (trodAll_cons_mk (shut_bool Try.underlying4 _) trodAll_mk0)) (ok_one (by kernel_rfl) rfl (okWide_bool_mk Try.underlying4 _))⟩

theorem over : Rows.fnInsKindsRow.holds Try.pinned (OpenSpec.ofChange Rows.fnInsKindsSpec) :=
  OpenClaim.holds_of_wide 3 Try.f3 rfl rfl rfl rfl rfl rfl rfl ⟨rfl, rfl, rfl, rfl, rfl⟩ rfl rfl rfl rfl rfl (by kernel_rfl) Try.func3 (by kernel_rfl)
    (of_decide_eq_true (by kernel_rfl)) (by unfold Func.isWrapper; first | (rw [if_pos (by decide +kernel)]; kernel_rfl) | (rw [if_neg (by decide +kernel)]; exact ⟨rfl, rfl⟩))
    (fun os started H enc _ => lifted os started H enc)

/-- The given statement. -/
theorem proved : Rows.FnInsKindsSaid :=
  over
#print axioms proved
end Go.Proofs.Ytgccejlkjeenpaa.fnInsKinds
