/-
  Single slots: NoSlot and SlotOk of the project and of the given model. No condition beyond a slot's numbers being of an int's range.
-/
import Derived.Test.YteopkcndkcciaaaSlotMath
import Derived.Deep.RegionHeld3
namespace Go.Proofs.Yteopkcndkcciaaa.Slots
set_option maxRecDepth 100000
open Go.ChangeShapes Go.WideShapes Go.ChangeAt Go.RowKit
open Go.Proofs.Yteopkcndkcciaaa.Base Go.Proofs.Yteopkcndkcciaaa.Mem Go.Proofs.Yteopkcndkcciaaa.Ints

theorem impl_no (w : World) :
    Calls Try.prog 107 #[] w fun e w' => e = .returned (.agg #[.int .i64 (-1), .int .i64 0]) ∧ Below w.heap.size w w' := by
  go_enter Try.func107, Try.ntmps107
  go_wp2
  exact bodyPost_ret (v := .agg #[.int .i64 (-1), .int .i64 0]) (by simp [results, Try.results107, go_sem]) rfl ⟨rfl, (Below.refl _ _).alloc (Nat.le_refl _) _⟩
theorem spec_no (w : World) :
    Calls Try.prog 92 #[] w fun e w' => e = .returned (.agg #[.int .i64 (-1), .int .i64 0]) ∧ Below w.heap.size w w' := by
  go_enter Try.func92, Try.ntmps92
  go_wp2
  exact bodyPost_ret (v := .agg #[.int .i64 (-1), .int .i64 0]) (by simp [results, Try.results92, go_sem]) rfl ⟨rfl, (Below.refl _ _).alloc (Nat.le_refl _) _⟩

theorem impl_rok (r : Int) (w : World) (hr : (Lit.int .i64 r).wf = true) :
    Calls Try.prog 115 #[.int .i64 r] w fun e w' => e = .returned (.bool (Rights.rok r)) ∧ w = w' := by
  have h := Lib.hid (Rights.andNot3 hr)
  clear hr
  go_enter Try.func115, Try.ntmps115
  go_wp2
  go_ret
  rw [h.out]
  exact ⟨rfl, rfl⟩

/-- A slot in a block of its own. -/
theorem boxed (w : World) (u v : Value) (T : TypeId) : (w.alloc (.cells #[u, v] T)).cell? ⟨w.heap.size, 0, none⟩ = some u ∧ (w.alloc (.cells #[u, v] T)).cell? ⟨w.heap.size, 1, none⟩ = some v ∧ Below w.heap.size w (w.alloc (.cells #[u, v] T)) ∧ w.heap.size < (w.alloc (.cells #[u, v] T)).heap.size :=
  ⟨cell_of_row _ _ 0 _ _ _ (heap_alloc_new w _), cell_of_row _ _ 1 _ _ _ (heap_alloc_new w _), (Below.refl _ _).alloc (Nat.le_refl _) _, by simp⟩

def OkPost (w : World) (x : Bool) (e : Ending) (w' : World) : Prop := e = .returned (.bool x) ∧ Below w.heap.size w w'

theorem okS_cases (p r pages : Int) : (p = -1 ∧ r = 0 ∧ okS p r pages = true) ∨ (((p = -1 ∧ r ≠ 0) ∨ p ≠ -1) ∧
    ((¬ 0 ≤ p ∧ okS p r pages = false) ∨ (0 ≤ p ∧ ¬ p < pages ∧ okS p r pages = false) ∨ (0 ≤ p ∧ p < pages ∧ r = 0 ∧ okS p r pages = false) ∨
      (0 ≤ p ∧ p < pages ∧ r ≠ 0 ∧ Rights.rok r = false ∧ okS p r pages = false) ∨ (0 ≤ p ∧ p < pages ∧ r ≠ 0 ∧ Rights.rok r = true ∧ okS p r pages = true))) := by
  simp only [okS, decide_eq_true_eq, decide_eq_false_iff_not, Rights.rok_iff, Rights.rok_false]
  omega

set_option maxHeartbeats 4000000 in
theorem impl_okS (p r pages : Int) (w : World) (hr : (Lit.int .i64 r).wf = true) :
    Calls Try.prog 103 #[.agg #[.int .i64 p, .int .i64 r], .int .i64 pages] w (OkPost w (okS p r pages)) := by
  have HR := Lib.hid hr
  clear hr
  obtain ⟨k0, k1, hW, hsz⟩ := boxed w (.int .i64 p) (.int .i64 r) 102
  rcases okS_cases p r pages with ⟨rfl, rfl, h⟩ | ⟨hno, hh⟩
  · rw [h]; clear h
    go_enter Try.func103, Try.ntmps103
    go_wp2_with fail
    generalize w.alloc (.cells #[.int .i64 (-1), .int .i64 0] 102) = W at k0 k1 hW hsz ⊢
    refine wp_region_noPanic ?_
    go_region_held (fun w' => w'.cell? ⟨w.heap.size, 0, none⟩ = some (.int .i64 (-1)) ∧ w'.cell? ⟨w.heap.size, 1, none⟩ = some (.int .i64 0))
      (first | exact ⟨k0, k1⟩ | exact ⟨(hb1.cell (p := ⟨w.heap.size, 0, none⟩) hsz).trans k0, (hb1.cell (p := ⟨w.heap.size, 1, none⟩) hsz).trans k1⟩)
      (first | (go_at_call 107; refine (impl_no _).mono ?_; rintro e w1 ⟨rfl, hb1⟩))
    refine NoPanic.normal ?_
    have hbw : Below w.heap.size w w1 := hW.drew.trans (hb1.mono hW.size)
    clear hb1 k0 k1
    go_wp2_with fail
    go_ret
    exact ⟨rfl, hbw⟩
  · rcases hno with ⟨rfl, h0⟩ | h0
    · have h0' : (r == 0) = false := by simpa using h0
      have h : okS (-1) r pages = false := by simp [okS, h0]
      rw [h]; clear h hh h0
      go_enter Try.func103, Try.ntmps103
      go_wp2_with fail
      generalize w.alloc (.cells #[.int .i64 (-1), .int .i64 r] 102) = W at k0 k1 hW hsz ⊢
      refine wp_region_noPanic ?_
      go_region_held (fun w' => w'.cell? ⟨w.heap.size, 0, none⟩ = some (.int .i64 (-1)) ∧ w'.cell? ⟨w.heap.size, 1, none⟩ = some (.int .i64 r))
        (first | exact ⟨k0, k1⟩ | exact ⟨(hb1.cell (p := ⟨w.heap.size, 0, none⟩) hsz).trans k0, (hb1.cell (p := ⟨w.heap.size, 1, none⟩) hsz).trans k1⟩)
        (first | (go_at_call 107; refine (impl_no _).mono ?_; rintro e w1 ⟨rfl, hb1⟩))
      refine NoPanic.normal ?_
      have hbw : Below w.heap.size w w1 := hW.drew.trans (hb1.mono hW.size)
      have j0 : w1.cell? ⟨w.heap.size, 0, none⟩ = some (.int .i64 (-1)) := (hb1.cell (p := ⟨w.heap.size, 0, none⟩) hsz).trans k0
      clear hb1 k0 k1
      go_wp2_with fail
      go_ret
      exact ⟨rfl, hbw⟩
    · have h0' : (p == -1) = false := by simpa using h0
      clear h0
      go_enter Try.func103, Try.ntmps103
      go_wp2_with fail
      generalize w.alloc (.cells #[.int .i64 p, .int .i64 r] 102) = W at k0 k1 hW hsz ⊢
      refine wp_region_noPanic ?_
      go_region_held (fun w' => w'.cell? ⟨w.heap.size, 0, none⟩ = some (.int .i64 p) ∧ w'.cell? ⟨w.heap.size, 1, none⟩ = some (.int .i64 r))
        (first | exact ⟨k0, k1⟩ | exact ⟨(hb1.cell (p := ⟨w.heap.size, 0, none⟩) hsz).trans k0, (hb1.cell (p := ⟨w.heap.size, 1, none⟩) hsz).trans k1⟩)
        (first | (go_at_call 107; refine (impl_no _).mono ?_; rintro e w1 ⟨rfl, hb1⟩))
      refine NoPanic.normal ?_
      have hbw : Below w.heap.size w w1 := hW.drew.trans (hb1.mono hW.size)
      have j0 : w1.cell? ⟨w.heap.size, 0, none⟩ = some (.int .i64 p) := (hb1.cell (p := ⟨w.heap.size, 0, none⟩) hsz).trans k0
      have j1 : w1.cell? ⟨w.heap.size, 1, none⟩ = some (.int .i64 r) := (hb1.cell (p := ⟨w.heap.size, 1, none⟩) hsz).trans k1
      have HB := Lib.hid hbw
      clear hb1 k0 k1 hbw
      rcases hh with ⟨h1, h⟩ | ⟨h1, h2, h⟩ | ⟨h1, h2, rfl, h⟩ | ⟨h1, h2, h3, h4, h⟩ | ⟨h1, h2, h3, h4, h⟩
      · have HH := Lib.hid h
        clear h
        go_wp2_with fail
        go_ret
        exact ⟨by rw [HH.out]; rfl, HB.out⟩
      · have HH := Lib.hid h
        clear h
        go_wp2_with fail
        go_ret
        exact ⟨by rw [HH.out]; rfl, HB.out⟩
      · have HH := Lib.hid h
        clear h
        go_wp2_with fail
        go_ret
        exact ⟨by rw [HH.out]; rfl, HB.out⟩
      · have HH := Lib.hid h
        have h3' : (r != 0) = true := by simpa using h3
        have K := fun V : World => impl_rok r V HR.out
        rw [h4] at K
        have HK := Lib.hid K
        clear K h4 h3 h
        go_wp2_with fail
        refine (HK.out _).mono ?_
        rintro e w' ⟨rfl, rfl⟩
        go_wp2_with fail
        go_ret
        exact ⟨by rw [HH.out]; rfl, HB.out⟩
      · have HH := Lib.hid h
        have h3' : (r != 0) = true := by simpa using h3
        have K := fun V : World => impl_rok r V HR.out
        rw [h4] at K
        have HK := Lib.hid K
        clear K h4 h3 h
        go_wp2_with fail
        refine (HK.out _).mono ?_
        rintro e w' ⟨rfl, rfl⟩
        go_wp2_with fail
        go_ret
        exact ⟨by rw [HH.out]; rfl, HB.out⟩
end Go.Proofs.Yteopkcndkcciaaa.Slots
