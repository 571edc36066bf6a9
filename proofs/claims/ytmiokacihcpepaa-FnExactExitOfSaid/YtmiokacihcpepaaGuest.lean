/-
  Guests: what chapter 15 computes, and the given model's functions of it. No condition beyond the lengths of slices.
-/
import Derived.Test.YtmiokacihcpepaaGuestC
import Derived.Test.YtmiokacihcpepaaIrq
import Derived.Test.YtmiokacihcpepaaCtl2
import Derived.Test.YtmiokacihcpepaaExit
import Derived.Deep.Cut
namespace Go.Proofs.Ytmiokacihcpepaa.Guests
set_option maxRecDepth 100000
open Go.ChangeShapes Go.WideShapes Go.ChangeAt Go.RowKit
open Go.Proofs.Ytmiokacihcpepaa.Base Go.Proofs.Ytmiokacihcpepaa.Mem Go.Proofs.Ytmiokacihcpepaa.Slots Go.Proofs.Ytmiokacihcpepaa.Data Go.Proofs.Ytmiokacihcpepaa.Ints Go.Proofs.Ytmiokacihcpepaa.Inss Go.Proofs.Ytmiokacihcpepaa.Ctls Go.Proofs.Ytmiokacihcpepaa.Exits Go.Proofs.Ytmiokacihcpepaa.Part Go.Proofs.Ytmiokacihcpepaa.Guests
open Go.Proofs.Ytmiokacihcpepaa.Irqs
set_option linter.unusedVariables false
set_option linter.unusedSimpArgs false

def canRun (g : gT) : Bool := (g.x.1 == 0 && g.x.2.1 == 0 && g.x.2.2.1 == false && g.x.2.2.2 == 0) && !g.hl
def takesI (g : gT) : Bool := canRun g && g.t.2.2 && decide (topI g.pd ≥ 0)
def sawG (g : gT) (n : Int) : gT := if g.seen.length < 40 then { g with seen := g.seen ++ [n] } else g
def stopG (g : gT) (e : QT) : gT := { g with x := e }
def intG (g : gT) : gT := if takesI g = true then sawG { g with pd := (takeI g.pd).1 } (100 + (takeI g.pd).2.1) else g
theorem gR.with {w : World} {lo hi : Nat} {g h : gT} {P0 P1 P2 P3 : Value} (r : gR w lo hi g P0 P1 P2 P3) (e0 : h.prog = g.prog) (e1 : h.wr = g.wr) (e2 : h.lv = g.lv) (e3 : h.seen = g.seen) : gR w lo hi h P0 P1 P2 P3 :=
  ⟨by rw [e0]; exact r.r0, by rw [e1]; exact r.r1, by rw [e2]; exact r.r2, by rw [e3]; exact r.r3⟩
theorem gO.with {w : World} {lo hi : Nat} {g h : gT} {P0 P1 P2 P3 : Value} (r : gO w lo hi g P0 P1 P2 P3) (e0 : h.prog = g.prog) (e1 : h.wr = g.wr) (e2 : h.lv = g.lv) (e3 : h.seen = g.seen) : gO w lo hi h P0 P1 P2 P3 :=
  ⟨by rw [e0]; exact r.r0, by rw [e1]; exact r.r1, by rw [e2]; exact r.r2, by rw [e3]; exact r.r3, r.d01, r.d02, r.d03, r.d12, r.d13, r.d23⟩
theorem gO.far {w : World} {lo hi : Nat} {g : gT} {P0 P1 P2 P3 : Value} (r : gO w lo hi g P0 P1 P2 P3) {z : Nat} (hz : z < lo ∨ hi ≤ z) (i : Nat) (u : Value) : gO (w.setCell ⟨z, i, none⟩ u) lo hi g P0 P1 P2 P3 :=
  r.kept fun k h1 h2 => Below.heap_setCell w ⟨z, i, none⟩ u k (by show k ≠ z; omega)

set_option maxRecDepth 100000 in
set_option maxHeartbeats 4000000 in
theorem spec_canRun (g : gT) (P0 P1 P2 P3 : Value) (w : World) : Calls Try.prog 23 #[.agg #[P0, .int .i64 g.a, .int .i64 g.pc, P1, P2, .int .i64 g.t.1, .int .i64 g.t.2.1, .bool g.t.2.2, .int .i64 g.pd, .int .i64 g.x.1, .int .i64 g.x.2.1, .bool g.x.2.2.1, .int .i64 g.x.2.2.2, .bool g.hl, P3]] w fun e w' => e = .returned (.bool (canRun g)) ∧ Below w.heap.size w w' := by
  have hb0 : Below w.heap.size w (w.alloc (.cells #[P0, .int .i64 g.a, .int .i64 g.pc, P1, P2, .int .i64 g.t.1, .int .i64 g.t.2.1, .bool g.t.2.2, .int .i64 g.pd, .int .i64 g.x.1, .int .i64 g.x.2.1, .bool g.x.2.2.1, .int .i64 g.x.2.2.2, .bool g.hl, P3] 52)) := (Below.refl _ _).alloc (Nat.le_refl _) _
  have hv : canRun g = ((g.x.1 == 0 && g.x.2.1 == 0 && g.x.2.2.1 == false && g.x.2.2.2 == 0) && !g.hl) := rfl
  have HB := Lib.hid hb0
  clear hb0
  rw [hv]
  clear hv
  cases h0 : (g.x.1 == 0)
  · go_enter Try.func23, Try.ntmps23
    go_wp2
    go_ret
    exact ⟨rfl, HB.out⟩
  cases h1 : (g.x.2.1 == 0)
  · go_enter Try.func23, Try.ntmps23
    go_wp2
    go_ret
    exact ⟨rfl, HB.out⟩
  cases h2 : g.x.2.2.1
  all_goals
    cases h3 : (g.x.2.2.2 == 0)
    all_goals
      cases h4 : g.hl
      all_goals
        go_enter Try.func23, Try.ntmps23
        go_wp2
        go_ret
        exact ⟨rfl, by first | exact HB.out | (rw [← h2]; exact HB.out) | (simpa [h2, h4] using HB.out)⟩

/-- Cells of one block are set, one behind the other. -/
def sets (w : World) (z : Nat) : List (Nat × Value) → World
  | [] => w
  | (i, u) :: l => sets (w.setCell ⟨z, i, none⟩ u) z l
theorem sets_heap (z : Nat) : ∀ (l : List (Nat × Value)) (w : World) (k : Nat), k ≠ z → (sets w z l).heap[k]? = w.heap[k]?
  | [], _, _, _ => rfl
  | (i, u) :: l, w, k, h => (sets_heap z l _ k h).trans (Below.heap_setCell w ⟨z, i, none⟩ u k h)
theorem sets_size (z : Nat) : ∀ (l : List (Nat × Value)) (w : World), (sets w z l).heap.size = w.heap.size
  | [], _ => rfl
  | (i, u) :: l, w => (sets_size z l _).trans (by simp)
theorem sets_below {B : Nat} {a : World} (z : Nat) (hz : B ≤ z) : ∀ (l : List (Nat × Value)) {w : World}, Below B a w → Below B a (sets w z l)
  | [], _, h => h
  | (i, u) :: l, w, h => sets_below z hz l (h.setCell (p := ⟨z, i, none⟩) hz u)
theorem gO.sets {w : World} {lo hi : Nat} {g : gT} {P0 P1 P2 P3 : Value} (r : gO w lo hi g P0 P1 P2 P3) {z : Nat} (hz : z < lo ∨ hi ≤ z) (l : List (Nat × Value)) : gO (Guests.sets w z l) lo hi g P0 P1 P2 P3 :=
  r.kept fun k h1 h2 => sets_heap z l w k (by omega)

end Go.Proofs.Ytmiokacihcpepaa.Guests
