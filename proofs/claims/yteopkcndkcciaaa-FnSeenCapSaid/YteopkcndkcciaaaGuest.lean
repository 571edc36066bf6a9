/-
  Guests: what chapter 15 computes, and the given model's functions of it. No condition beyond the lengths of slices.
-/
import Derived.Test.YteopkcndkcciaaaGuestC
import Derived.Test.YteopkcndkcciaaaIrq
import Derived.Test.YteopkcndkcciaaaCtl2
import Derived.Test.YteopkcndkcciaaaExit
import Derived.Deep.Cut
namespace Go.Proofs.Yteopkcndkcciaaa.Guests
set_option maxRecDepth 100000
open Go.ChangeShapes Go.WideShapes Go.ChangeAt Go.RowKit
open Go.Proofs.Yteopkcndkcciaaa.Base Go.Proofs.Yteopkcndkcciaaa.Mem Go.Proofs.Yteopkcndkcciaaa.Slots Go.Proofs.Yteopkcndkcciaaa.Data Go.Proofs.Yteopkcndkcciaaa.Ints Go.Proofs.Yteopkcndkcciaaa.Inss Go.Proofs.Yteopkcndkcciaaa.Ctls Go.Proofs.Yteopkcndkcciaaa.Exits Go.Proofs.Yteopkcndkcciaaa.Part Go.Proofs.Yteopkcndkcciaaa.Guests
open Go.Proofs.Yteopkcndkcciaaa.Irqs
set_option linter.unusedVariables false
set_option linter.unusedSimpArgs false

def canRun (g : gT) : Bool := (g.x.1 == 0 && g.x.2.1 == 0 && g.x.2.2.1 == false && g.x.2.2.2 == 0) && !g.hl
def takesI (g : gT) : Bool := canRun g && g.t.2.2 && decide (topI g.pd ≥ 0)
def sawG (g : gT) (n : Int) : gT := if g.seen.length < 40 then { g with seen := g.seen ++ [n] } else g
def stopG (g : gT) (e : QT) : gT := { g with x := e }
def intG (g : gT) : gT := if takesI g = true then sawG { g with pd := (takeI g.pd).1 } (100 + (takeI g.pd).2.1) else g
theorem gR.with {w : World} {lo hi : Nat} {g h : gT} {P0 P1 P2 P3 : Value} (r : gR w lo hi g P0 P1 P2 P3) (e0 : h.prog = g.prog) (e1 : h.wr = g.wr) (e2 : h.lv = g.lv) (e3 : h.seen = g.seen) : gR w lo hi h P0 P1 P2 P3 :=
  ⟨by rw [e0]; exact r.r0, by rw [e1]; exact r.r1, by rw [e2]; exact r.r2, by rw [e3]; exact r.r3⟩
theorem gO.with {w : World} {lo hi : Nat} {g h : gT} {P0 P1 P2 P3 : Value} (r : gO w lo hi g P0 P1 P2 P3) (e0 : h.prog = g.prog) (e1 : h.wr = g.wr) (e2 : h.lv = g.lv) (e3 : h.seen = g.seen) : gO w lo hi h P0 P1 P2 P3 :=
  ⟨by rw [e0]; exact r.r0, by rw [e1]; exact r.r1, by rw [e2]; exact r.r2, by rw [e3]; exact r.r3, r.d01, r.d02, r.d03, r.d12, r.d13, r.d23⟩
theorem gO.far {w : World} {lo hi : Nat} {g : gT} {P0 P1 P2 P3 : Value} (r : gO w lo hi g P0 P1 P2 P3) {z : Nat} (hz : z < lo ∨ hi ≤ z) (i : Nat) (u : Value) : gO (w.setCell ⟨z, i, none⟩ u) lo hi g P0 P1 P2 P3 :=
  r.kept fun k h1 h2 => Below.heap_setCell w ⟨z, i, none⟩ u k (by show k ≠ z; omega)

set_option maxRecDepth 100000 in
set_option maxHeartbeats 4000000 in
theorem spec_canRun (g : gT) (P0 P1 P2 P3 : Value) (w : World) : Calls Try.prog 28 #[.agg #[P0, .int .i64 g.a, .int .i64 g.pc, P1, P2, .int .i64 g.t.1, .int .i64 g.t.2.1, .bool g.t.2.2, .int .i64 g.pd, .int .i64 g.x.1, .int .i64 g.x.2.1, .bool g.x.2.2.1, .int .i64 g.x.2.2.2, .bool g.hl, P3]] w fun e w' => e = .returned (.bool (canRun g)) ∧ Below w.heap.size w w' := by
  have hb0 : Below w.heap.size w (w.alloc (.cells #[P0, .int .i64 g.a, .int .i64 g.pc, P1, P2, .int .i64 g.t.1, .int .i64 g.t.2.1, .bool g.t.2.2, .int .i64 g.pd, .int .i64 g.x.1, .int .i64 g.x.2.1, .bool g.x.2.2.1, .int .i64 g.x.2.2.2, .bool g.hl, P3] 33)) := (Below.refl _ _).alloc (Nat.le_refl _) _
  have hv : canRun g = ((g.x.1 == 0 && g.x.2.1 == 0 && g.x.2.2.1 == false && g.x.2.2.2 == 0) && !g.hl) := rfl
  have HB := Lib.hid hb0
  clear hb0
  rw [hv]
  clear hv
  cases h0 : (g.x.1 == 0)
  · go_enter Try.func28, Try.ntmps28
    go_wp2
    go_ret
    exact ⟨rfl, HB.out⟩
  cases h1 : (g.x.2.1 == 0)
  · go_enter Try.func28, Try.ntmps28
    go_wp2
    go_ret
    exact ⟨rfl, HB.out⟩
  cases h2 : g.x.2.2.1
  all_goals
    cases h3 : (g.x.2.2.2 == 0)
    all_goals
      cases h4 : g.hl
      all_goals
        go_enter Try.func28, Try.ntmps28
        go_wp2
        go_ret
        exact ⟨rfl, by first | exact HB.out | (rw [← h2]; exact HB.out) | (simpa [h2, h4] using HB.out)⟩

set_option maxRecDepth 100000 in
set_option maxHeartbeats 4000000 in
theorem spec_takes (g : gT) (P0 P1 P2 P3 : Value) (w : World) : Calls Try.prog 31 #[.agg #[P0, .int .i64 g.a, .int .i64 g.pc, P1, P2, .int .i64 g.t.1, .int .i64 g.t.2.1, .bool g.t.2.2, .int .i64 g.pd, .int .i64 g.x.1, .int .i64 g.x.2.1, .bool g.x.2.2.1, .int .i64 g.x.2.2.2, .bool g.hl, P3]] w fun e w' => e = .returned (.bool (takesI g)) ∧ Below w.heap.size w w' := by
  have a0 : Var (w.alloc (.cells #[P0, .int .i64 g.a, .int .i64 g.pc, P1, P2, .int .i64 g.t.1, .int .i64 g.t.2.1, .bool g.t.2.2, .int .i64 g.pd, .int .i64 g.x.1, .int .i64 g.x.2.1, .bool g.x.2.2.1, .int .i64 g.x.2.2.2, .bool g.hl, P3] 33)) w.heap.size [P0, .int .i64 g.a, .int .i64 g.pc, P1, P2, .int .i64 g.t.1, .int .i64 g.t.2.1, .bool g.t.2.2, .int .i64 g.pd, .int .i64 g.x.1, .int .i64 g.x.2.1, .bool g.x.2.2.1, .int .i64 g.x.2.2.2, .bool g.hl, P3] := Var.new w _ _
  have hb0 : Below w.heap.size w (w.alloc (.cells #[P0, .int .i64 g.a, .int .i64 g.pc, P1, P2, .int .i64 g.t.1, .int .i64 g.t.2.1, .bool g.t.2.2, .int .i64 g.pd, .int .i64 g.x.1, .int .i64 g.x.2.1, .bool g.x.2.2.1, .int .i64 g.x.2.2.2, .bool g.hl, P3] 33)) := (Below.refl _ _).alloc (Nat.le_refl _) _
  have hv : takesI g = (canRun g && g.t.2.2 && decide (topI g.pd ≥ 0)) := rfl
  have K1 := Lib.hid (fun V : World => spec_canRun g P0 P1 P2 P3 V)
  have K2 := Lib.hid (fun V : World => spec_top g.pd V)
  rw [hv]
  clear hv
  generalize canRun g = c at K1 ⊢
  generalize topI g.pd = k at K2 ⊢
  go_enter Try.func31, Try.ntmps31
  go_wp2_with fail
  generalize (w.alloc (.cells #[P0, .int .i64 g.a, .int .i64 g.pc, P1, P2, .int .i64 g.t.1, .int .i64 g.t.2.1, .bool g.t.2.2, .int .i64 g.pd, .int .i64 g.x.1, .int .i64 g.x.2.1, .bool g.x.2.2.1, .int .i64 g.x.2.2.2, .bool g.hl, P3] 33)) = W0 at a0 hb0 ⊢
  refine (K1.out _).mono ?_
  rintro e w1 ⟨rfl, hbb⟩
  have y7 := (a0.below hbb (by have := a0.2; omega)).cell 7 (v := .bool g.t.2.2) rfl
  have y8 := (a0.below hbb (by have := a0.2; omega)).cell 8 (v := .int .i64 g.pd) rfl
  have HB := Lib.hid (hb0.trans (hbb.mono hb0.size))
  clear hbb hb0 a0 K1
  cases c
  · go_wp2_with fail
    go_ret
    exact ⟨rfl, HB.out⟩
  · cases ho : g.t.2.2
    · rw [ho] at y7
      go_wp2_with fail
      go_ret
      exact ⟨by rw [ho]; rfl, HB.out⟩
    · rw [ho] at y7
      go_wp2_with fail
      refine (K2.out _).mono ?_
      rintro e w' ⟨rfl, rfl⟩
      go_wp2_with fail
      go_ret
      exact ⟨by rw [ho]; rfl, HB.out⟩

/-- Cells of one block are set, one behind the other. -/
def sets (w : World) (z : Nat) : List (Nat × Value) → World
  | [] => w
  | (i, u) :: l => sets (w.setCell ⟨z, i, none⟩ u) z l
theorem sets_heap (z : Nat) : ∀ (l : List (Nat × Value)) (w : World) (k : Nat), k ≠ z → (sets w z l).heap[k]? = w.heap[k]?
  | [], _, _, _ => rfl
  | (i, u) :: l, w, k, h => (sets_heap z l _ k h).trans (Below.heap_setCell w ⟨z, i, none⟩ u k h)
theorem sets_size (z : Nat) : ∀ (l : List (Nat × Value)) (w : World), (sets w z l).heap.size = w.heap.size
  | [], _ => rfl
  | (i, u) :: l, w => (sets_size z l _).trans (by simp)
theorem sets_below {B : Nat} {a : World} (z : Nat) (hz : B ≤ z) : ∀ (l : List (Nat × Value)) {w : World}, Below B a w → Below B a (sets w z l)
  | [], _, h => h
  | (i, u) :: l, w, h => sets_below z hz l (h.setCell (p := ⟨z, i, none⟩) hz u)
theorem gO.sets {w : World} {lo hi : Nat} {g : gT} {P0 P1 P2 P3 : Value} (r : gO w lo hi g P0 P1 P2 P3) {z : Nat} (hz : z < lo ∨ hi ≤ z) (l : List (Nat × Value)) : gO (Guests.sets w z l) lo hi g P0 P1 P2 P3 :=
  r.kept fun k h1 h2 => sets_heap z l w k (by omega)

set_option maxRecDepth 100000 in
set_option maxHeartbeats 8000000 in
theorem spec_stop (lo : Nat) (g : gT) (e : QT) (P0 P1 P2 P3 : Value) (w : World) (hc : gcap g) (h : gR w lo w.heap.size g P0 P1 P2 P3) :
    Calls Try.prog 35 #[.agg #[P0, .int .i64 g.a, .int .i64 g.pc, P1, P2, .int .i64 g.t.1, .int .i64 g.t.2.1, .bool g.t.2.2, .int .i64 g.pd, .int .i64 g.x.1, .int .i64 g.x.2.1, .bool g.x.2.2.1, .int .i64 g.x.2.2.2, .bool g.hl, P3], .agg #[.int .i64 e.1, .int .i64 e.2.1, .bool e.2.2.1, .int .i64 e.2.2.2]] w (gP w (stopG g e)) := by
  have a0 : Var (((w.alloc (.cells #[P0, .int .i64 g.a, .int .i64 g.pc, P1, P2, .int .i64 g.t.1, .int .i64 g.t.2.1, .bool g.t.2.2, .int .i64 g.pd, .int .i64 g.x.1, .int .i64 g.x.2.1, .bool g.x.2.2.1, .int .i64 g.x.2.2.2, .bool g.hl, P3] 33)).alloc (.cells #[.int .i64 e.1, .int .i64 e.2.1, .bool e.2.2.1, .int .i64 e.2.2.2] 31)).alloc (.cells #[.slice none 0 0, .int .i64 0, .int .i64 0, .slice none 0 0, .slice none 0 0, .int .i64 0, .int .i64 0, .bool false, .int .i64 0, .int .i64 0, .int .i64 0, .bool false, .int .i64 0, .bool false, .slice none 0 0] 33)) (w.heap.size) [P0, .int .i64 g.a, .int .i64 g.pc, P1, P2, .int .i64 g.t.1, .int .i64 g.t.2.1, .bool g.t.2.2, .int .i64 g.pd, .int .i64 g.x.1, .int .i64 g.x.2.1, .bool g.x.2.2.1, .int .i64 g.x.2.2.2, .bool g.hl, P3] := by
    have h := Var.new w [P0, .int .i64 g.a, .int .i64 g.pc, P1, P2, .int .i64 g.t.1, .int .i64 g.t.2.1, .bool g.t.2.2, .int .i64 g.pd, .int .i64 g.x.1, .int .i64 g.x.2.1, .bool g.x.2.2.1, .int .i64 g.x.2.2.2, .bool g.hl, P3] 33
    exact ((h.below ((Below.refl _ _).alloc (Nat.le_refl _) _) (by simp <;> omega)).below ((Below.refl _ _).alloc (Nat.le_refl _) _) (by simp <;> omega))
  have e0 : Var (((w.alloc (.cells #[P0, .int .i64 g.a, .int .i64 g.pc, P1, P2, .int .i64 g.t.1, .int .i64 g.t.2.1, .bool g.t.2.2, .int .i64 g.pd, .int .i64 g.x.1, .int .i64 g.x.2.1, .bool g.x.2.2.1, .int .i64 g.x.2.2.2, .bool g.hl, P3] 33)).alloc (.cells #[.int .i64 e.1, .int .i64 e.2.1, .bool e.2.2.1, .int .i64 e.2.2.2] 31)).alloc (.cells #[.slice none 0 0, .int .i64 0, .int .i64 0, .slice none 0 0, .slice none 0 0, .int .i64 0, .int .i64 0, .bool false, .int .i64 0, .int .i64 0, .int .i64 0, .bool false, .int .i64 0, .bool false, .slice none 0 0] 33)) (w.heap.size + 1) [.int .i64 e.1, .int .i64 e.2.1, .bool e.2.2.1, .int .i64 e.2.2.2] := by
    have h := Var.new (w.alloc (.cells #[P0, .int .i64 g.a, .int .i64 g.pc, P1, P2, .int .i64 g.t.1, .int .i64 g.t.2.1, .bool g.t.2.2, .int .i64 g.pd, .int .i64 g.x.1, .int .i64 g.x.2.1, .bool g.x.2.2.1, .int .i64 g.x.2.2.2, .bool g.hl, P3] 33)) [.int .i64 e.1, .int .i64 e.2.1, .bool e.2.2.1, .int .i64 e.2.2.2] 31
    rw [show (w.alloc (.cells #[P0, .int .i64 g.a, .int .i64 g.pc, P1, P2, .int .i64 g.t.1, .int .i64 g.t.2.1, .bool g.t.2.2, .int .i64 g.pd, .int .i64 g.x.1, .int .i64 g.x.2.1, .bool g.x.2.2.1, .int .i64 g.x.2.2.2, .bool g.hl, P3] 33)).heap.size = w.heap.size + 1 by simp] at h
    exact (h.below ((Below.refl _ _).alloc (Nat.le_refl _) _) (by simp <;> omega))
  have r0 : Var (((w.alloc (.cells #[P0, .int .i64 g.a, .int .i64 g.pc, P1, P2, .int .i64 g.t.1, .int .i64 g.t.2.1, .bool g.t.2.2, .int .i64 g.pd, .int .i64 g.x.1, .int .i64 g.x.2.1, .bool g.x.2.2.1, .int .i64 g.x.2.2.2, .bool g.hl, P3] 33)).alloc (.cells #[.int .i64 e.1, .int .i64 e.2.1, .bool e.2.2.1, .int .i64 e.2.2.2] 31)).alloc (.cells #[.slice none 0 0, .int .i64 0, .int .i64 0, .slice none 0 0, .slice none 0 0, .int .i64 0, .int .i64 0, .bool false, .int .i64 0, .int .i64 0, .int .i64 0, .bool false, .int .i64 0, .bool false, .slice none 0 0] 33)) (w.heap.size + 1 + 1) [.slice none 0 0, .int .i64 0, .int .i64 0, .slice none 0 0, .slice none 0 0, .int .i64 0, .int .i64 0, .bool false, .int .i64 0, .int .i64 0, .int .i64 0, .bool false, .int .i64 0, .bool false, .slice none 0 0] := by
    have h := Var.new ((w.alloc (.cells #[P0, .int .i64 g.a, .int .i64 g.pc, P1, P2, .int .i64 g.t.1, .int .i64 g.t.2.1, .bool g.t.2.2, .int .i64 g.pd, .int .i64 g.x.1, .int .i64 g.x.2.1, .bool g.x.2.2.1, .int .i64 g.x.2.2.2, .bool g.hl, P3] 33)).alloc (.cells #[.int .i64 e.1, .int .i64 e.2.1, .bool e.2.2.1, .int .i64 e.2.2.2] 31)) [.slice none 0 0, .int .i64 0, .int .i64 0, .slice none 0 0, .slice none 0 0, .int .i64 0, .int .i64 0, .bool false, .int .i64 0, .int .i64 0, .int .i64 0, .bool false, .int .i64 0, .bool false, .slice none 0 0] 33
    rw [show ((w.alloc (.cells #[P0, .int .i64 g.a, .int .i64 g.pc, P1, P2, .int .i64 g.t.1, .int .i64 g.t.2.1, .bool g.t.2.2, .int .i64 g.pd, .int .i64 g.x.1, .int .i64 g.x.2.1, .bool g.x.2.2.1, .int .i64 g.x.2.2.2, .bool g.hl, P3] 33)).alloc (.cells #[.int .i64 e.1, .int .i64 e.2.1, .bool e.2.2.1, .int .i64 e.2.2.2] 31)).heap.size = w.heap.size + 1 + 1 by simp] at h
    exact h
  have hb0 : Below w.heap.size w (((w.alloc (.cells #[P0, .int .i64 g.a, .int .i64 g.pc, P1, P2, .int .i64 g.t.1, .int .i64 g.t.2.1, .bool g.t.2.2, .int .i64 g.pd, .int .i64 g.x.1, .int .i64 g.x.2.1, .bool g.x.2.2.1, .int .i64 g.x.2.2.2, .bool g.hl, P3] 33)).alloc (.cells #[.int .i64 e.1, .int .i64 e.2.1, .bool e.2.2.1, .int .i64 e.2.2.2] 31)).alloc (.cells #[.slice none 0 0, .int .i64 0, .int .i64 0, .slice none 0 0, .slice none 0 0, .int .i64 0, .int .i64 0, .bool false, .int .i64 0, .int .i64 0, .int .i64 0, .bool false, .int .i64 0, .bool false, .slice none 0 0] 33)) := ((((Below.refl _ _).alloc (Nat.le_refl _) _).alloc (by simp <;> omega) _).alloc (by simp <;> omega) _)
  have hz0 : (((w.alloc (.cells #[P0, .int .i64 g.a, .int .i64 g.pc, P1, P2, .int .i64 g.t.1, .int .i64 g.t.2.1, .bool g.t.2.2, .int .i64 g.pd, .int .i64 g.x.1, .int .i64 g.x.2.1, .bool g.x.2.2.1, .int .i64 g.x.2.2.2, .bool g.hl, P3] 33)).alloc (.cells #[.int .i64 e.1, .int .i64 e.2.1, .bool e.2.2.1, .int .i64 e.2.2.2] 31)).alloc (.cells #[.slice none 0 0, .int .i64 0, .int .i64 0, .slice none 0 0, .slice none 0 0, .int .i64 0, .int .i64 0, .bool false, .int .i64 0, .int .i64 0, .int .i64 0, .bool false, .int .i64 0, .bool false, .slice none 0 0] 33)).heap.size = w.heap.size + 3 := by simp
  have HH := Lib.hid h
  clear h
  go_enter Try.func35, Try.ntmps35
  go_wp2_with fail
  generalize (((w.alloc (.cells #[P0, .int .i64 g.a, .int .i64 g.pc, P1, P2, .int .i64 g.t.1, .int .i64 g.t.2.1, .bool g.t.2.2, .int .i64 g.pd, .int .i64 g.x.1, .int .i64 g.x.2.1, .bool g.x.2.2.1, .int .i64 g.x.2.2.2, .bool g.hl, P3] 33)).alloc (.cells #[.int .i64 e.1, .int .i64 e.2.1, .bool e.2.2.1, .int .i64 e.2.2.2] 31)).alloc (.cells #[.slice none 0 0, .int .i64 0, .int .i64 0, .slice none 0 0, .slice none 0 0, .int .i64 0, .int .i64 0, .bool false, .int .i64 0, .int .i64 0, .int .i64 0, .bool false, .int .i64 0, .bool false, .slice none 0 0] 33)) = W0 at a0 e0 r0 hb0 hz0 ⊢
  refine (spec_copy lo g P0 P1 P2 P3 W0 hc ((HH.out.below hb0 (Nat.le_refl _)).wide (Nat.le_refl _) hb0.size)).mono ?_
  rintro e' w1 ⟨Q0, Q1, Q2, gb, cap, rfl, ho, hrow, hgb, hbb⟩
  obtain ⟨D0, d0, rfl, _⟩ := ho.r0
  obtain ⟨D1, d1, rfl, _⟩ := ho.r1
  obtain ⟨D2, d2, rfl, _⟩ := ho.r2
  have HO := Lib.hid ho
  clear hrow ho hgb
  have hs1 := hbb.size
  have a1c := a0.below hbb (by omega)
  clear a0
  have e1c := e0.below hbb (by omega)
  clear e0
  have r1c := r0.below hbb (by omega)
  clear r0
  have hb1c := hb0.trans (hbb.mono hb0.size)
  have hbs1 := hb1c.size
  clear hbb hb0
  have ya0 := a1c.cell 0 (v := P0) rfl
  have za0 := a1c.loose 0 (v := P0) rfl
  have ya1 := a1c.cell 1 (v := .int .i64 g.a) rfl
  have za1 := a1c.loose 1 (v := .int .i64 g.a) rfl
  have ya2 := a1c.cell 2 (v := .int .i64 g.pc) rfl
  have za2 := a1c.loose 2 (v := .int .i64 g.pc) rfl
  have ya3 := a1c.cell 3 (v := P1) rfl
  have za3 := a1c.loose 3 (v := P1) rfl
  have ya4 := a1c.cell 4 (v := P2) rfl
  have za4 := a1c.loose 4 (v := P2) rfl
  have ya5 := a1c.cell 5 (v := .int .i64 g.t.1) rfl
  have za5 := a1c.loose 5 (v := .int .i64 g.t.1) rfl
  have ya6 := a1c.cell 6 (v := .int .i64 g.t.2.1) rfl
  have za6 := a1c.loose 6 (v := .int .i64 g.t.2.1) rfl
  have ya7 := a1c.cell 7 (v := .bool g.t.2.2) rfl
  have za7 := a1c.loose 7 (v := .bool g.t.2.2) rfl
  have ya8 := a1c.cell 8 (v := .int .i64 g.pd) rfl
  have za8 := a1c.loose 8 (v := .int .i64 g.pd) rfl
  have ya9 := a1c.cell 9 (v := .int .i64 g.x.1) rfl
  have za9 := a1c.loose 9 (v := .int .i64 g.x.1) rfl
  have ya10 := a1c.cell 10 (v := .int .i64 g.x.2.1) rfl
  have za10 := a1c.loose 10 (v := .int .i64 g.x.2.1) rfl
  have ya11 := a1c.cell 11 (v := .bool g.x.2.2.1) rfl
  have za11 := a1c.loose 11 (v := .bool g.x.2.2.1) rfl
  have ya12 := a1c.cell 12 (v := .int .i64 g.x.2.2.2) rfl
  have za12 := a1c.loose 12 (v := .int .i64 g.x.2.2.2) rfl
  have ya13 := a1c.cell 13 (v := .bool g.hl) rfl
  have za13 := a1c.loose 13 (v := .bool g.hl) rfl
  have ya14 := a1c.cell 14 (v := P3) rfl
  have za14 := a1c.loose 14 (v := P3) rfl
  go_upto_region 2 with fail
  clear ya0 za0 ya1 za1 ya2 za2 ya3 za3 ya4 za4 ya5 za5 ya6 za6 ya7 za7 ya8 za8 ya9 za9 ya10 za10 ya11 za11 ya12 za12 ya13 za13 ya14 za14
  have a2s : Var (((((((((((((((w1.setCell ⟨w.heap.size, 0, none⟩ (.slice D0 g.prog.length d0)).setCell ⟨w.heap.size, 1, none⟩ (.int .i64 g.a)).setCell ⟨w.heap.size, 2, none⟩ (.int .i64 g.pc)).setCell ⟨w.heap.size, 3, none⟩ (.slice D1 g.wr.length d1)).setCell ⟨w.heap.size, 4, none⟩ (.slice D2 g.lv.length d2)).setCell ⟨w.heap.size, 5, none⟩ (.int .i64 g.t.1)).setCell ⟨w.heap.size, 6, none⟩ (.int .i64 g.t.2.1)).setCell ⟨w.heap.size, 7, none⟩ (.bool g.t.2.2)).setCell ⟨w.heap.size, 8, none⟩ (.int .i64 g.pd)).setCell ⟨w.heap.size, 9, none⟩ (.int .i64 g.x.1)).setCell ⟨w.heap.size, 10, none⟩ (.int .i64 g.x.2.1)).setCell ⟨w.heap.size, 11, none⟩ (.bool g.x.2.2.1)).setCell ⟨w.heap.size, 12, none⟩ (.int .i64 g.x.2.2.2)).setCell ⟨w.heap.size, 13, none⟩ (.bool g.hl)).setCell ⟨w.heap.size, 14, none⟩ (.slice (some ⟨gb, 0, none⟩) g.seen.length cap)) (w.heap.size) [.slice D0 g.prog.length d0, .int .i64 g.a, .int .i64 g.pc, .slice D1 g.wr.length d1, .slice D2 g.lv.length d2, .int .i64 g.t.1, .int .i64 g.t.2.1, .bool g.t.2.2, .int .i64 g.pd, .int .i64 g.x.1, .int .i64 g.x.2.1, .bool g.x.2.2.1, .int .i64 g.x.2.2.2, .bool g.hl, .slice (some ⟨gb, 0, none⟩) g.seen.length cap] := (((((((((((((((a1c.set 0 (.slice D0 g.prog.length d0)).set 1 (.int .i64 g.a)).set 2 (.int .i64 g.pc)).set 3 (.slice D1 g.wr.length d1)).set 4 (.slice D2 g.lv.length d2)).set 5 (.int .i64 g.t.1)).set 6 (.int .i64 g.t.2.1)).set 7 (.bool g.t.2.2)).set 8 (.int .i64 g.pd)).set 9 (.int .i64 g.x.1)).set 10 (.int .i64 g.x.2.1)).set 11 (.bool g.x.2.2.1)).set 12 (.int .i64 g.x.2.2.2)).set 13 (.bool g.hl)).set 14 (.slice (some ⟨gb, 0, none⟩) g.seen.length cap))
  have e2s : Var (((((((((((((((w1.setCell ⟨w.heap.size, 0, none⟩ (.slice D0 g.prog.length d0)).setCell ⟨w.heap.size, 1, none⟩ (.int .i64 g.a)).setCell ⟨w.heap.size, 2, none⟩ (.int .i64 g.pc)).setCell ⟨w.heap.size, 3, none⟩ (.slice D1 g.wr.length d1)).setCell ⟨w.heap.size, 4, none⟩ (.slice D2 g.lv.length d2)).setCell ⟨w.heap.size, 5, none⟩ (.int .i64 g.t.1)).setCell ⟨w.heap.size, 6, none⟩ (.int .i64 g.t.2.1)).setCell ⟨w.heap.size, 7, none⟩ (.bool g.t.2.2)).setCell ⟨w.heap.size, 8, none⟩ (.int .i64 g.pd)).setCell ⟨w.heap.size, 9, none⟩ (.int .i64 g.x.1)).setCell ⟨w.heap.size, 10, none⟩ (.int .i64 g.x.2.1)).setCell ⟨w.heap.size, 11, none⟩ (.bool g.x.2.2.1)).setCell ⟨w.heap.size, 12, none⟩ (.int .i64 g.x.2.2.2)).setCell ⟨w.heap.size, 13, none⟩ (.bool g.hl)).setCell ⟨w.heap.size, 14, none⟩ (.slice (some ⟨gb, 0, none⟩) g.seen.length cap)) (w.heap.size + 1) [.int .i64 e.1, .int .i64 e.2.1, .bool e.2.2.1, .int .i64 e.2.2.2] := (((((((((((((((e1c.far (by omega) 0 _).far (by omega) 1 _).far (by omega) 2 _).far (by omega) 3 _).far (by omega) 4 _).far (by omega) 5 _).far (by omega) 6 _).far (by omega) 7 _).far (by omega) 8 _).far (by omega) 9 _).far (by omega) 10 _).far (by omega) 11 _).far (by omega) 12 _).far (by omega) 13 _).far (by omega) 14 _)
  have r2s : Var (((((((((((((((w1.setCell ⟨w.heap.size, 0, none⟩ (.slice D0 g.prog.length d0)).setCell ⟨w.heap.size, 1, none⟩ (.int .i64 g.a)).setCell ⟨w.heap.size, 2, none⟩ (.int .i64 g.pc)).setCell ⟨w.heap.size, 3, none⟩ (.slice D1 g.wr.length d1)).setCell ⟨w.heap.size, 4, none⟩ (.slice D2 g.lv.length d2)).setCell ⟨w.heap.size, 5, none⟩ (.int .i64 g.t.1)).setCell ⟨w.heap.size, 6, none⟩ (.int .i64 g.t.2.1)).setCell ⟨w.heap.size, 7, none⟩ (.bool g.t.2.2)).setCell ⟨w.heap.size, 8, none⟩ (.int .i64 g.pd)).setCell ⟨w.heap.size, 9, none⟩ (.int .i64 g.x.1)).setCell ⟨w.heap.size, 10, none⟩ (.int .i64 g.x.2.1)).setCell ⟨w.heap.size, 11, none⟩ (.bool g.x.2.2.1)).setCell ⟨w.heap.size, 12, none⟩ (.int .i64 g.x.2.2.2)).setCell ⟨w.heap.size, 13, none⟩ (.bool g.hl)).setCell ⟨w.heap.size, 14, none⟩ (.slice (some ⟨gb, 0, none⟩) g.seen.length cap)) (w.heap.size + 1 + 1) [.slice none 0 0, .int .i64 0, .int .i64 0, .slice none 0 0, .slice none 0 0, .int .i64 0, .int .i64 0, .bool false, .int .i64 0, .int .i64 0, .int .i64 0, .bool false, .int .i64 0, .bool false, .slice none 0 0] := (((((((((((((((r1c.far (by omega) 0 _).far (by omega) 1 _).far (by omega) 2 _).far (by omega) 3 _).far (by omega) 4 _).far (by omega) 5 _).far (by omega) 6 _).far (by omega) 7 _).far (by omega) 8 _).far (by omega) 9 _).far (by omega) 10 _).far (by omega) 11 _).far (by omega) 12 _).far (by omega) 13 _).far (by omega) 14 _)
  have HO2s := Lib.hid (((((((((((((((HO.out.far (z := w.heap.size) (.inl (by omega)) 0 (.slice D0 g.prog.length d0)).far (z := w.heap.size) (.inl (by omega)) 1 (.int .i64 g.a)).far (z := w.heap.size) (.inl (by omega)) 2 (.int .i64 g.pc)).far (z := w.heap.size) (.inl (by omega)) 3 (.slice D1 g.wr.length d1)).far (z := w.heap.size) (.inl (by omega)) 4 (.slice D2 g.lv.length d2)).far (z := w.heap.size) (.inl (by omega)) 5 (.int .i64 g.t.1)).far (z := w.heap.size) (.inl (by omega)) 6 (.int .i64 g.t.2.1)).far (z := w.heap.size) (.inl (by omega)) 7 (.bool g.t.2.2)).far (z := w.heap.size) (.inl (by omega)) 8 (.int .i64 g.pd)).far (z := w.heap.size) (.inl (by omega)) 9 (.int .i64 g.x.1)).far (z := w.heap.size) (.inl (by omega)) 10 (.int .i64 g.x.2.1)).far (z := w.heap.size) (.inl (by omega)) 11 (.bool g.x.2.2.1)).far (z := w.heap.size) (.inl (by omega)) 12 (.int .i64 g.x.2.2.2)).far (z := w.heap.size) (.inl (by omega)) 13 (.bool g.hl)).far (z := w.heap.size) (.inl (by omega)) 14 (.slice (some ⟨gb, 0, none⟩) g.seen.length cap))
  have hb2s : Below w.heap.size w (((((((((((((((w1.setCell ⟨w.heap.size, 0, none⟩ (.slice D0 g.prog.length d0)).setCell ⟨w.heap.size, 1, none⟩ (.int .i64 g.a)).setCell ⟨w.heap.size, 2, none⟩ (.int .i64 g.pc)).setCell ⟨w.heap.size, 3, none⟩ (.slice D1 g.wr.length d1)).setCell ⟨w.heap.size, 4, none⟩ (.slice D2 g.lv.length d2)).setCell ⟨w.heap.size, 5, none⟩ (.int .i64 g.t.1)).setCell ⟨w.heap.size, 6, none⟩ (.int .i64 g.t.2.1)).setCell ⟨w.heap.size, 7, none⟩ (.bool g.t.2.2)).setCell ⟨w.heap.size, 8, none⟩ (.int .i64 g.pd)).setCell ⟨w.heap.size, 9, none⟩ (.int .i64 g.x.1)).setCell ⟨w.heap.size, 10, none⟩ (.int .i64 g.x.2.1)).setCell ⟨w.heap.size, 11, none⟩ (.bool g.x.2.2.1)).setCell ⟨w.heap.size, 12, none⟩ (.int .i64 g.x.2.2.2)).setCell ⟨w.heap.size, 13, none⟩ (.bool g.hl)).setCell ⟨w.heap.size, 14, none⟩ (.slice (some ⟨gb, 0, none⟩) g.seen.length cap)) := (((((((((((((((hb1c.setCell (p := ⟨w.heap.size, 0, none⟩) (show w.heap.size ≤ w.heap.size by omega) _).setCell (p := ⟨w.heap.size, 1, none⟩) (show w.heap.size ≤ w.heap.size by omega) _).setCell (p := ⟨w.heap.size, 2, none⟩) (show w.heap.size ≤ w.heap.size by omega) _).setCell (p := ⟨w.heap.size, 3, none⟩) (show w.heap.size ≤ w.heap.size by omega) _).setCell (p := ⟨w.heap.size, 4, none⟩) (show w.heap.size ≤ w.heap.size by omega) _).setCell (p := ⟨w.heap.size, 5, none⟩) (show w.heap.size ≤ w.heap.size by omega) _).setCell (p := ⟨w.heap.size, 6, none⟩) (show w.heap.size ≤ w.heap.size by omega) _).setCell (p := ⟨w.heap.size, 7, none⟩) (show w.heap.size ≤ w.heap.size by omega) _).setCell (p := ⟨w.heap.size, 8, none⟩) (show w.heap.size ≤ w.heap.size by omega) _).setCell (p := ⟨w.heap.size, 9, none⟩) (show w.heap.size ≤ w.heap.size by omega) _).setCell (p := ⟨w.heap.size, 10, none⟩) (show w.heap.size ≤ w.heap.size by omega) _).setCell (p := ⟨w.heap.size, 11, none⟩) (show w.heap.size ≤ w.heap.size by omega) _).setCell (p := ⟨w.heap.size, 12, none⟩) (show w.heap.size ≤ w.heap.size by omega) _).setCell (p := ⟨w.heap.size, 13, none⟩) (show w.heap.size ≤ w.heap.size by omega) _).setCell (p := ⟨w.heap.size, 14, none⟩) (show w.heap.size ≤ w.heap.size by omega) _)
  have hzs2 : (((((((((((((((w1.setCell ⟨w.heap.size, 0, none⟩ (.slice D0 g.prog.length d0)).setCell ⟨w.heap.size, 1, none⟩ (.int .i64 g.a)).setCell ⟨w.heap.size, 2, none⟩ (.int .i64 g.pc)).setCell ⟨w.heap.size, 3, none⟩ (.slice D1 g.wr.length d1)).setCell ⟨w.heap.size, 4, none⟩ (.slice D2 g.lv.length d2)).setCell ⟨w.heap.size, 5, none⟩ (.int .i64 g.t.1)).setCell ⟨w.heap.size, 6, none⟩ (.int .i64 g.t.2.1)).setCell ⟨w.heap.size, 7, none⟩ (.bool g.t.2.2)).setCell ⟨w.heap.size, 8, none⟩ (.int .i64 g.pd)).setCell ⟨w.heap.size, 9, none⟩ (.int .i64 g.x.1)).setCell ⟨w.heap.size, 10, none⟩ (.int .i64 g.x.2.1)).setCell ⟨w.heap.size, 11, none⟩ (.bool g.x.2.2.1)).setCell ⟨w.heap.size, 12, none⟩ (.int .i64 g.x.2.2.2)).setCell ⟨w.heap.size, 13, none⟩ (.bool g.hl)).setCell ⟨w.heap.size, 14, none⟩ (.slice (some ⟨gb, 0, none⟩) g.seen.length cap)).heap.size = w1.heap.size := by simp
  clear a1c e1c r1c HO hb1c
  generalize (((((((((((((((w1.setCell ⟨w.heap.size, 0, none⟩ (.slice D0 g.prog.length d0)).setCell ⟨w.heap.size, 1, none⟩ (.int .i64 g.a)).setCell ⟨w.heap.size, 2, none⟩ (.int .i64 g.pc)).setCell ⟨w.heap.size, 3, none⟩ (.slice D1 g.wr.length d1)).setCell ⟨w.heap.size, 4, none⟩ (.slice D2 g.lv.length d2)).setCell ⟨w.heap.size, 5, none⟩ (.int .i64 g.t.1)).setCell ⟨w.heap.size, 6, none⟩ (.int .i64 g.t.2.1)).setCell ⟨w.heap.size, 7, none⟩ (.bool g.t.2.2)).setCell ⟨w.heap.size, 8, none⟩ (.int .i64 g.pd)).setCell ⟨w.heap.size, 9, none⟩ (.int .i64 g.x.1)).setCell ⟨w.heap.size, 10, none⟩ (.int .i64 g.x.2.1)).setCell ⟨w.heap.size, 11, none⟩ (.bool g.x.2.2.1)).setCell ⟨w.heap.size, 12, none⟩ (.int .i64 g.x.2.2.2)).setCell ⟨w.heap.size, 13, none⟩ (.bool g.hl)).setCell ⟨w.heap.size, 14, none⟩ (.slice (some ⟨gb, 0, none⟩) g.seen.length cap)) = U2 at a2s e2s r2s HO2s hb2s hzs2 ⊢
  have hzl2 : U2.heap.size ≤ w1.heap.size ∧ w1.heap.size ≤ U2.heap.size := by omega
  clear hzs2
  have hbs2 := hb2s.size
  have ya0 := a2s.cell 0 (v := .slice D0 g.prog.length d0) rfl
  have za0 := a2s.loose 0 (v := .slice D0 g.prog.length d0) rfl
  have ya1 := a2s.cell 1 (v := .int .i64 g.a) rfl
  have za1 := a2s.loose 1 (v := .int .i64 g.a) rfl
  have ya2 := a2s.cell 2 (v := .int .i64 g.pc) rfl
  have za2 := a2s.loose 2 (v := .int .i64 g.pc) rfl
  have ya3 := a2s.cell 3 (v := .slice D1 g.wr.length d1) rfl
  have za3 := a2s.loose 3 (v := .slice D1 g.wr.length d1) rfl
  have ya4 := a2s.cell 4 (v := .slice D2 g.lv.length d2) rfl
  have za4 := a2s.loose 4 (v := .slice D2 g.lv.length d2) rfl
  have ya5 := a2s.cell 5 (v := .int .i64 g.t.1) rfl
  have za5 := a2s.loose 5 (v := .int .i64 g.t.1) rfl
  have ya6 := a2s.cell 6 (v := .int .i64 g.t.2.1) rfl
  have za6 := a2s.loose 6 (v := .int .i64 g.t.2.1) rfl
  have ya7 := a2s.cell 7 (v := .bool g.t.2.2) rfl
  have za7 := a2s.loose 7 (v := .bool g.t.2.2) rfl
  have ya8 := a2s.cell 8 (v := .int .i64 g.pd) rfl
  have za8 := a2s.loose 8 (v := .int .i64 g.pd) rfl
  have ya9 := a2s.cell 9 (v := .int .i64 g.x.1) rfl
  have za9 := a2s.loose 9 (v := .int .i64 g.x.1) rfl
  have ya10 := a2s.cell 10 (v := .int .i64 g.x.2.1) rfl
  have za10 := a2s.loose 10 (v := .int .i64 g.x.2.1) rfl
  have ya11 := a2s.cell 11 (v := .bool g.x.2.2.1) rfl
  have za11 := a2s.loose 11 (v := .bool g.x.2.2.1) rfl
  have ya12 := a2s.cell 12 (v := .int .i64 g.x.2.2.2) rfl
  have za12 := a2s.loose 12 (v := .int .i64 g.x.2.2.2) rfl
  have ya13 := a2s.cell 13 (v := .bool g.hl) rfl
  have za13 := a2s.loose 13 (v := .bool g.hl) rfl
  have ya14 := a2s.cell 14 (v := .slice (some ⟨gb, 0, none⟩) g.seen.length cap) rfl
  have za14 := a2s.loose 14 (v := .slice (some ⟨gb, 0, none⟩) g.seen.length cap) rfl
  have ye0 := e2s.cell 0 (v := .int .i64 e.1) rfl
  have ze0 := e2s.loose 0 (v := .int .i64 e.1) rfl
  have ye1 := e2s.cell 1 (v := .int .i64 e.2.1) rfl
  have ze1 := e2s.loose 1 (v := .int .i64 e.2.1) rfl
  have ye2 := e2s.cell 2 (v := .bool e.2.2.1) rfl
  have ze2 := e2s.loose 2 (v := .bool e.2.2.1) rfl
  have ye3 := e2s.cell 3 (v := .int .i64 e.2.2.2) rfl
  have ze3 := e2s.loose 3 (v := .int .i64 e.2.2.2) rfl
  go_upto_region 3 with fail
  clear ya0 za0 ya1 za1 ya2 za2 ya3 za3 ya4 za4 ya5 za5 ya6 za6 ya7 za7 ya8 za8 ya9 za9 ya10 za10 ya11 za11 ya12 za12 ya13 za13 ya14 za14 ye0 ze0 ye1 ze1 ye2 ze2 ye3 ze3
  have a3s : Var ((((U2.setCell ⟨w.heap.size, 9, none⟩ (.int .i64 e.1)).setCell ⟨w.heap.size, 10, none⟩ (.int .i64 e.2.1)).setCell ⟨w.heap.size, 11, none⟩ (.bool e.2.2.1)).setCell ⟨w.heap.size, 12, none⟩ (.int .i64 e.2.2.2)) (w.heap.size) [.slice D0 g.prog.length d0, .int .i64 g.a, .int .i64 g.pc, .slice D1 g.wr.length d1, .slice D2 g.lv.length d2, .int .i64 g.t.1, .int .i64 g.t.2.1, .bool g.t.2.2, .int .i64 g.pd, .int .i64 e.1, .int .i64 e.2.1, .bool e.2.2.1, .int .i64 e.2.2.2, .bool g.hl, .slice (some ⟨gb, 0, none⟩) g.seen.length cap] := ((((a2s.set 9 (.int .i64 e.1)).set 10 (.int .i64 e.2.1)).set 11 (.bool e.2.2.1)).set 12 (.int .i64 e.2.2.2))
  have e3s : Var ((((U2.setCell ⟨w.heap.size, 9, none⟩ (.int .i64 e.1)).setCell ⟨w.heap.size, 10, none⟩ (.int .i64 e.2.1)).setCell ⟨w.heap.size, 11, none⟩ (.bool e.2.2.1)).setCell ⟨w.heap.size, 12, none⟩ (.int .i64 e.2.2.2)) (w.heap.size + 1) [.int .i64 e.1, .int .i64 e.2.1, .bool e.2.2.1, .int .i64 e.2.2.2] := ((((e2s.far (by omega) 9 _).far (by omega) 10 _).far (by omega) 11 _).far (by omega) 12 _)
  have r3s : Var ((((U2.setCell ⟨w.heap.size, 9, none⟩ (.int .i64 e.1)).setCell ⟨w.heap.size, 10, none⟩ (.int .i64 e.2.1)).setCell ⟨w.heap.size, 11, none⟩ (.bool e.2.2.1)).setCell ⟨w.heap.size, 12, none⟩ (.int .i64 e.2.2.2)) (w.heap.size + 1 + 1) [.slice none 0 0, .int .i64 0, .int .i64 0, .slice none 0 0, .slice none 0 0, .int .i64 0, .int .i64 0, .bool false, .int .i64 0, .int .i64 0, .int .i64 0, .bool false, .int .i64 0, .bool false, .slice none 0 0] := ((((r2s.far (by omega) 9 _).far (by omega) 10 _).far (by omega) 11 _).far (by omega) 12 _)
  have HO3s := Lib.hid ((((HO2s.out.far (z := w.heap.size) (.inl (by omega)) 9 (.int .i64 e.1)).far (z := w.heap.size) (.inl (by omega)) 10 (.int .i64 e.2.1)).far (z := w.heap.size) (.inl (by omega)) 11 (.bool e.2.2.1)).far (z := w.heap.size) (.inl (by omega)) 12 (.int .i64 e.2.2.2))
  have hb3s : Below w.heap.size w ((((U2.setCell ⟨w.heap.size, 9, none⟩ (.int .i64 e.1)).setCell ⟨w.heap.size, 10, none⟩ (.int .i64 e.2.1)).setCell ⟨w.heap.size, 11, none⟩ (.bool e.2.2.1)).setCell ⟨w.heap.size, 12, none⟩ (.int .i64 e.2.2.2)) := ((((hb2s.setCell (p := ⟨w.heap.size, 9, none⟩) (show w.heap.size ≤ w.heap.size by omega) _).setCell (p := ⟨w.heap.size, 10, none⟩) (show w.heap.size ≤ w.heap.size by omega) _).setCell (p := ⟨w.heap.size, 11, none⟩) (show w.heap.size ≤ w.heap.size by omega) _).setCell (p := ⟨w.heap.size, 12, none⟩) (show w.heap.size ≤ w.heap.size by omega) _)
  have hzs3 : ((((U2.setCell ⟨w.heap.size, 9, none⟩ (.int .i64 e.1)).setCell ⟨w.heap.size, 10, none⟩ (.int .i64 e.2.1)).setCell ⟨w.heap.size, 11, none⟩ (.bool e.2.2.1)).setCell ⟨w.heap.size, 12, none⟩ (.int .i64 e.2.2.2)).heap.size = U2.heap.size := by simp
  clear a2s e2s r2s HO2s hb2s
  generalize ((((U2.setCell ⟨w.heap.size, 9, none⟩ (.int .i64 e.1)).setCell ⟨w.heap.size, 10, none⟩ (.int .i64 e.2.1)).setCell ⟨w.heap.size, 11, none⟩ (.bool e.2.2.1)).setCell ⟨w.heap.size, 12, none⟩ (.int .i64 e.2.2.2)) = U3 at a3s e3s r3s HO3s hb3s hzs3 ⊢
  have hzl3 : U3.heap.size ≤ U2.heap.size ∧ U2.heap.size ≤ U3.heap.size := by omega
  clear hzs3
  have hbs3 := hb3s.size
  have ya0 := a3s.cell 0 (v := .slice D0 g.prog.length d0) rfl
  have za0 := a3s.loose 0 (v := .slice D0 g.prog.length d0) rfl
  have ya1 := a3s.cell 1 (v := .int .i64 g.a) rfl
  have za1 := a3s.loose 1 (v := .int .i64 g.a) rfl
  have ya2 := a3s.cell 2 (v := .int .i64 g.pc) rfl
  have za2 := a3s.loose 2 (v := .int .i64 g.pc) rfl
  have ya3 := a3s.cell 3 (v := .slice D1 g.wr.length d1) rfl
  have za3 := a3s.loose 3 (v := .slice D1 g.wr.length d1) rfl
  have ya4 := a3s.cell 4 (v := .slice D2 g.lv.length d2) rfl
  have za4 := a3s.loose 4 (v := .slice D2 g.lv.length d2) rfl
  have ya5 := a3s.cell 5 (v := .int .i64 g.t.1) rfl
  have za5 := a3s.loose 5 (v := .int .i64 g.t.1) rfl
  have ya6 := a3s.cell 6 (v := .int .i64 g.t.2.1) rfl
  have za6 := a3s.loose 6 (v := .int .i64 g.t.2.1) rfl
  have ya7 := a3s.cell 7 (v := .bool g.t.2.2) rfl
  have za7 := a3s.loose 7 (v := .bool g.t.2.2) rfl
  have ya8 := a3s.cell 8 (v := .int .i64 g.pd) rfl
  have za8 := a3s.loose 8 (v := .int .i64 g.pd) rfl
  have ya9 := a3s.cell 9 (v := .int .i64 e.1) rfl
  have za9 := a3s.loose 9 (v := .int .i64 e.1) rfl
  have ya10 := a3s.cell 10 (v := .int .i64 e.2.1) rfl
  have za10 := a3s.loose 10 (v := .int .i64 e.2.1) rfl
  have ya11 := a3s.cell 11 (v := .bool e.2.2.1) rfl
  have za11 := a3s.loose 11 (v := .bool e.2.2.1) rfl
  have ya12 := a3s.cell 12 (v := .int .i64 e.2.2.2) rfl
  have za12 := a3s.loose 12 (v := .int .i64 e.2.2.2) rfl
  have ya13 := a3s.cell 13 (v := .bool g.hl) rfl
  have za13 := a3s.loose 13 (v := .bool g.hl) rfl
  have ya14 := a3s.cell 14 (v := .slice (some ⟨gb, 0, none⟩) g.seen.length cap) rfl
  have za14 := a3s.loose 14 (v := .slice (some ⟨gb, 0, none⟩) g.seen.length cap) rfl
  have ye0 := e3s.cell 0 (v := .int .i64 e.1) rfl
  have ze0 := e3s.loose 0 (v := .int .i64 e.1) rfl
  have ye1 := e3s.cell 1 (v := .int .i64 e.2.1) rfl
  have ze1 := e3s.loose 1 (v := .int .i64 e.2.1) rfl
  have ye2 := e3s.cell 2 (v := .bool e.2.2.1) rfl
  have ze2 := e3s.loose 2 (v := .bool e.2.2.1) rfl
  have ye3 := e3s.cell 3 (v := .int .i64 e.2.2.2) rfl
  have ze3 := e3s.loose 3 (v := .int .i64 e.2.2.2) rfl
  have yr0 := r3s.cell 0 (v := .slice none 0 0) rfl
  have zr0 := r3s.loose 0 (v := .slice none 0 0) rfl
  have yr1 := r3s.cell 1 (v := .int .i64 0) rfl
  have zr1 := r3s.loose 1 (v := .int .i64 0) rfl
  have yr2 := r3s.cell 2 (v := .int .i64 0) rfl
  have zr2 := r3s.loose 2 (v := .int .i64 0) rfl
  have yr3 := r3s.cell 3 (v := .slice none 0 0) rfl
  have zr3 := r3s.loose 3 (v := .slice none 0 0) rfl
  have yr4 := r3s.cell 4 (v := .slice none 0 0) rfl
  have zr4 := r3s.loose 4 (v := .slice none 0 0) rfl
  have yr5 := r3s.cell 5 (v := .int .i64 0) rfl
  have zr5 := r3s.loose 5 (v := .int .i64 0) rfl
  have yr6 := r3s.cell 6 (v := .int .i64 0) rfl
  have zr6 := r3s.loose 6 (v := .int .i64 0) rfl
  have yr7 := r3s.cell 7 (v := .bool false) rfl
  have zr7 := r3s.loose 7 (v := .bool false) rfl
  have yr8 := r3s.cell 8 (v := .int .i64 0) rfl
  have zr8 := r3s.loose 8 (v := .int .i64 0) rfl
  have yr9 := r3s.cell 9 (v := .int .i64 0) rfl
  have zr9 := r3s.loose 9 (v := .int .i64 0) rfl
  have yr10 := r3s.cell 10 (v := .int .i64 0) rfl
  have zr10 := r3s.loose 10 (v := .int .i64 0) rfl
  have yr11 := r3s.cell 11 (v := .bool false) rfl
  have zr11 := r3s.loose 11 (v := .bool false) rfl
  have yr12 := r3s.cell 12 (v := .int .i64 0) rfl
  have zr12 := r3s.loose 12 (v := .int .i64 0) rfl
  have yr13 := r3s.cell 13 (v := .bool false) rfl
  have zr13 := r3s.loose 13 (v := .bool false) rfl
  have yr14 := r3s.cell 14 (v := .slice none 0 0) rfl
  have zr14 := r3s.loose 14 (v := .slice none 0 0) rfl
  go_wp2_with fail
  exact bodyPost_ret (v := .agg #[.slice D0 g.prog.length d0, .int .i64 g.a, .int .i64 g.pc, .slice D1 g.wr.length d1, .slice D2 g.lv.length d2, .int .i64 g.t.1, .int .i64 g.t.2.1, .bool g.t.2.2, .int .i64 g.pd, .int .i64 e.1, .int .i64 e.2.1, .bool e.2.2.1, .int .i64 e.2.2.2, .bool g.hl, .slice (some ⟨gb, 0, none⟩) g.seen.length cap]) (by simp [results, Try.results35, go_sem, yr0, yr1, yr2, yr3, yr4, yr5, yr6, yr7, yr8, yr9, yr10, yr11, yr12, yr13, yr14]) rfl ⟨.slice D0 g.prog.length d0, .slice D1 g.wr.length d1, .slice D2 g.lv.length d2, .slice (some ⟨gb, 0, none⟩) g.seen.length cap, rfl, (show gO (sets U3 (w.heap.size + 1 + 1) [(0, .slice D0 g.prog.length d0), (1, .int .i64 g.a), (2, .int .i64 g.pc), (3, .slice D1 g.wr.length d1), (4, .slice D2 g.lv.length d2), (5, .int .i64 g.t.1), (6, .int .i64 g.t.2.1), (7, .bool g.t.2.2), (8, .int .i64 g.pd), (9, .int .i64 e.1), (10, .int .i64 e.2.1), (11, .bool e.2.2.1), (12, .int .i64 e.2.2.2), (13, .bool g.hl), (14, .slice (some ⟨gb, 0, none⟩) g.seen.length cap)]) w.heap.size (sets U3 (w.heap.size + 1 + 1) [(0, .slice D0 g.prog.length d0), (1, .int .i64 g.a), (2, .int .i64 g.pc), (3, .slice D1 g.wr.length d1), (4, .slice D2 g.lv.length d2), (5, .int .i64 g.t.1), (6, .int .i64 g.t.2.1), (7, .bool g.t.2.2), (8, .int .i64 g.pd), (9, .int .i64 e.1), (10, .int .i64 e.2.1), (11, .bool e.2.2.1), (12, .int .i64 e.2.2.2), (13, .bool g.hl), (14, .slice (some ⟨gb, 0, none⟩) g.seen.length cap)]).heap.size (stopG g e) (.slice D0 g.prog.length d0) (.slice D1 g.wr.length d1) (.slice D2 g.lv.length d2) (.slice (some ⟨gb, 0, none⟩) g.seen.length cap) from by
    rw [sets_size]
    exact ((HO3s.out.sets (.inl (by omega)) _).wide (by omega) (by omega)).with rfl rfl rfl rfl),
    (show Below w.heap.size w (sets U3 (w.heap.size + 1 + 1) [(0, .slice D0 g.prog.length d0), (1, .int .i64 g.a), (2, .int .i64 g.pc), (3, .slice D1 g.wr.length d1), (4, .slice D2 g.lv.length d2), (5, .int .i64 g.t.1), (6, .int .i64 g.t.2.1), (7, .bool g.t.2.2), (8, .int .i64 g.pd), (9, .int .i64 e.1), (10, .int .i64 e.2.1), (11, .bool e.2.2.1), (12, .int .i64 e.2.2.2), (13, .bool g.hl), (14, .slice (some ⟨gb, 0, none⟩) g.seen.length cap)]) from sets_below _ (by omega) _ hb3s)⟩
end Go.Proofs.Yteopkcndkcciaaa.Guests
