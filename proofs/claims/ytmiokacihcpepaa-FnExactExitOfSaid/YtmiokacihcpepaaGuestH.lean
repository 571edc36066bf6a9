/-
  Values of the type Guest: how they lie in memory, and the laws' helpers over them. No condition beyond the lengths of slices.
-/
import Derived.Test.YtmiokacihcpepaaPart
import Derived.Test.YtmiokacihcpepaaCtlH
import Derived.Test.YtmiokacihcpepaaExitH
import Derived.Test.YtmiokacihcpepaaVar
namespace Go.Proofs.Ytmiokacihcpepaa.Guests
set_option maxRecDepth 100000
open Go.ChangeShapes Go.WideShapes Go.ChangeAt Go.RowKit
open Go.Proofs.Ytmiokacihcpepaa.Base Go.Proofs.Ytmiokacihcpepaa.Mem Go.Proofs.Ytmiokacihcpepaa.Slots Go.Proofs.Ytmiokacihcpepaa.Data Go.Proofs.Ytmiokacihcpepaa.Ints Go.Proofs.Ytmiokacihcpepaa.Inss Go.Proofs.Ytmiokacihcpepaa.Ctls Go.Proofs.Ytmiokacihcpepaa.Exits Go.Proofs.Ytmiokacihcpepaa.Part
set_option linter.unusedVariables false
set_option linter.unusedSimpArgs false

structure gT where
  prog : List JT
  a : Int
  pc : Int
  wr : List Sl
  lv : List Sl
  t : CT
  pd : Int
  x : QT
  hl : Bool
  seen : List Int
/-- The value with these slices. -/
def gV (g : gT) (P0 P1 P2 P3 : Value) : List Value := [P0, .int .i64 g.a, .int .i64 g.pc, P1, P2, .int .i64 g.t.1, .int .i64 g.t.2.1, .bool g.t.2.2, .int .i64 g.pd, .int .i64 g.x.1, .int .i64 g.x.2.1, .bool g.x.2.2.1, .int .i64 g.x.2.2.2, .bool g.hl, P3]
/-- The slices are read only. -/
structure gR (w : World) (lo hi : Nat) (g : gT) (P0 P1 P2 P3 : Value) : Prop where
  r0 : SR w lo hi (jcells g.prog) g.prog.length P0
  r1 : SR w lo hi (scells g.wr) g.wr.length P1
  r2 : SR w lo hi (scells g.lv) g.lv.length P2
  r3 : SR w lo hi (ncells g.seen) g.seen.length P3
/-- .. in memory of their own: no two share a block. -/
structure gO (w : World) (lo hi : Nat) (g : gT) (P0 P1 P2 P3 : Value) : Prop where
  r0 : SO w lo hi (jcells g.prog) g.prog.length P0
  r1 : SO w lo hi (scells g.wr) g.wr.length P1
  r2 : SO w lo hi (scells g.lv) g.lv.length P2
  r3 : SO w lo hi (ncells g.seen) g.seen.length P3
  d01 : ∀ k ∈ bl P0, k ∉ bl P1
  d02 : ∀ k ∈ bl P0, k ∉ bl P2
  d03 : ∀ k ∈ bl P0, k ∉ bl P3
  d12 : ∀ k ∈ bl P1, k ∉ bl P2
  d13 : ∀ k ∈ bl P1, k ∉ bl P3
  d23 : ∀ k ∈ bl P2, k ∉ bl P3
/-- No slice is longer than 2^20. -/
def gcap (g : gT) : Prop := g.prog.length ≤ 1048576 ∧ g.wr.length ≤ 1048576 ∧ g.lv.length ≤ 1048576 ∧ g.seen.length ≤ 1048576
/-- The lengths of all slices together; the number of their cells. -/
def gsize (g : gT) : Nat := g.prog.length + g.wr.length + g.lv.length + g.seen.length
section
variable {w w' : World} {lo hi lo' hi' : Nat} {g : gT} {P0 P1 P2 P3 : Value}
theorem gO.reads (h : gO w lo hi g P0 P1 P2 P3) : gR w lo hi g P0 P1 P2 P3 := ⟨h.r0.reads, h.r1.reads, h.r2.reads, h.r3.reads⟩
theorem gR.kept (h : gR w lo hi g P0 P1 P2 P3) (hb : ∀ k, lo ≤ k → k < hi → w'.heap[k]? = w.heap[k]?) : gR w' lo hi g P0 P1 P2 P3 := ⟨h.r0.kept hb, h.r1.kept hb, h.r2.kept hb, h.r3.kept hb⟩
theorem gR.wide (h : gR w lo hi g P0 P1 P2 P3) (a : lo' ≤ lo) (b : hi ≤ hi') : gR w lo' hi' g P0 P1 P2 P3 := ⟨h.r0.wide a b, h.r1.wide a b, h.r2.wide a b, h.r3.wide a b⟩
theorem gR.below {B : Nat} (h : gR w lo hi g P0 P1 P2 P3) (hb : Below B w w') (hB : hi ≤ B) : gR w' lo hi g P0 P1 P2 P3 := h.kept fun k _ h2 => hb.block k (by omega)
theorem gR.turned {lo2 hi2 : Nat} (h : gR w lo hi g P0 P1 P2 P3) (hb : ∀ k, k < w.heap.size → (k < lo2 ∨ hi2 ≤ k) → w'.heap[k]? = w.heap[k]?) (hh : hi ≤ w.heap.size) (hd : hi ≤ lo2 ∨ hi2 ≤ lo) : gR w' lo hi g P0 P1 P2 P3 := h.kept fun k h1 h2 => hb k (by omega) (by omega)
theorem gO.kept (h : gO w lo hi g P0 P1 P2 P3) (hb : ∀ k, lo ≤ k → k < hi → w'.heap[k]? = w.heap[k]?) : gO w' lo hi g P0 P1 P2 P3 := ⟨h.r0.kept hb, h.r1.kept hb, h.r2.kept hb, h.r3.kept hb, h.d01, h.d02, h.d03, h.d12, h.d13, h.d23⟩
theorem gO.wide (h : gO w lo hi g P0 P1 P2 P3) (a : lo' ≤ lo) (b : hi ≤ hi') : gO w lo' hi' g P0 P1 P2 P3 := ⟨h.r0.wide a b, h.r1.wide a b, h.r2.wide a b, h.r3.wide a b, h.d01, h.d02, h.d03, h.d12, h.d13, h.d23⟩
theorem gO.below {B : Nat} (h : gO w lo hi g P0 P1 P2 P3) (hb : Below B w w') (hB : hi ≤ B) : gO w' lo hi g P0 P1 P2 P3 := h.kept fun k _ h2 => hb.block k (by omega)
theorem gO.turned {lo2 hi2 : Nat} (h : gO w lo hi g P0 P1 P2 P3) (hb : ∀ k, k < w.heap.size → (k < lo2 ∨ hi2 ≤ k) → w'.heap[k]? = w.heap[k]?) (hh : hi ≤ w.heap.size) (hd : hi ≤ lo2 ∨ hi2 ≤ lo) : gO w' lo hi g P0 P1 P2 P3 := h.kept fun k h1 h2 => hb k (by omega) (by omega)
end

/-- A value of its own is handed back. -/
def gP (w : World) (g : gT) (e : Ending) (w' : World) : Prop :=
  ∃ Q0 Q1 Q2 Q3, e = .returned (.agg #[Q0, .int .i64 g.a, .int .i64 g.pc, Q1, Q2, .int .i64 g.t.1, .int .i64 g.t.2.1, .bool g.t.2.2, .int .i64 g.pd, .int .i64 g.x.1, .int .i64 g.x.2.1, .bool g.x.2.2.1, .int .i64 g.x.2.2.2, .bool g.hl, Q3]) ∧ gO w' w.heap.size w'.heap.size g Q0 Q1 Q2 Q3 ∧ Below w.heap.size w w'

set_option maxRecDepth 100000 in
set_option maxHeartbeats 8000000 in
theorem toGuest_any (lo : Nat) (g : gT) (P0 P1 P2 P3 : Value) (w : World) (hc : gcap g) (h : gR w lo w.heap.size g P0 P1 P2 P3) :
    Calls Try.prog 35 #[.agg #[P0, .int .i64 g.a, .int .i64 g.pc, P1, P2, .int .i64 g.t.1, .int .i64 g.t.2.1, .bool g.t.2.2, .int .i64 g.pd, .int .i64 g.x.1, .int .i64 g.x.2.1, .bool g.x.2.2.1, .int .i64 g.x.2.2.2, .bool g.hl, P3]] w (gP w g) := by
  obtain ⟨hn0, hn1, hn2, hn3⟩ := hc
  have b0 : Var (((w.alloc (.cells #[P0, .int .i64 g.a, .int .i64 g.pc, P1, P2, .int .i64 g.t.1, .int .i64 g.t.2.1, .bool g.t.2.2, .int .i64 g.pd, .int .i64 g.x.1, .int .i64 g.x.2.1, .bool g.x.2.2.1, .int .i64 g.x.2.2.2, .bool g.hl, P3] 67)).alloc (.cells #[.slice none 0 0, .int .i64 0, .int .i64 0, .slice none 0 0, .slice none 0 0, .int .i64 0, .int .i64 0, .bool false, .int .i64 0, .int .i64 0, .int .i64 0, .bool false, .int .i64 0, .bool false, .slice none 0 0] 52)).alloc (.cells #[.slice none 0 0, .int .i64 0, .int .i64 0, .slice none 0 0, .slice none 0 0, .int .i64 0, .int .i64 0, .bool false, .int .i64 0, .int .i64 0, .int .i64 0, .bool false, .int .i64 0, .bool false, .slice none 0 0] 52)) w.heap.size [P0, .int .i64 g.a, .int .i64 g.pc, P1, P2, .int .i64 g.t.1, .int .i64 g.t.2.1, .bool g.t.2.2, .int .i64 g.pd, .int .i64 g.x.1, .int .i64 g.x.2.1, .bool g.x.2.2.1, .int .i64 g.x.2.2.2, .bool g.hl, P3] := ((Var.new w _ _).below ((Below.refl _ _).alloc (Nat.le_refl _) _) (by simp)).below ((Below.refl _ _).alloc (Nat.le_refl _) _) (by simp <;> omega)
  have r0 : Var (((w.alloc (.cells #[P0, .int .i64 g.a, .int .i64 g.pc, P1, P2, .int .i64 g.t.1, .int .i64 g.t.2.1, .bool g.t.2.2, .int .i64 g.pd, .int .i64 g.x.1, .int .i64 g.x.2.1, .bool g.x.2.2.1, .int .i64 g.x.2.2.2, .bool g.hl, P3] 67)).alloc (.cells #[.slice none 0 0, .int .i64 0, .int .i64 0, .slice none 0 0, .slice none 0 0, .int .i64 0, .int .i64 0, .bool false, .int .i64 0, .int .i64 0, .int .i64 0, .bool false, .int .i64 0, .bool false, .slice none 0 0] 52)).alloc (.cells #[.slice none 0 0, .int .i64 0, .int .i64 0, .slice none 0 0, .slice none 0 0, .int .i64 0, .int .i64 0, .bool false, .int .i64 0, .int .i64 0, .int .i64 0, .bool false, .int .i64 0, .bool false, .slice none 0 0] 52)) (w.heap.size + 1) [.slice none 0 0, .int .i64 0, .int .i64 0, .slice none 0 0, .slice none 0 0, .int .i64 0, .int .i64 0, .bool false, .int .i64 0, .int .i64 0, .int .i64 0, .bool false, .int .i64 0, .bool false, .slice none 0 0] := by
    have h := Var.new (w.alloc (.cells #[P0, .int .i64 g.a, .int .i64 g.pc, P1, P2, .int .i64 g.t.1, .int .i64 g.t.2.1, .bool g.t.2.2, .int .i64 g.pd, .int .i64 g.x.1, .int .i64 g.x.2.1, .bool g.x.2.2.1, .int .i64 g.x.2.2.2, .bool g.hl, P3] 67)) [.slice none 0 0, .int .i64 0, .int .i64 0, .slice none 0 0, .slice none 0 0, .int .i64 0, .int .i64 0, .bool false, .int .i64 0, .int .i64 0, .int .i64 0, .bool false, .int .i64 0, .bool false, .slice none 0 0] 52
    rw [show (w.alloc (.cells #[P0, .int .i64 g.a, .int .i64 g.pc, P1, P2, .int .i64 g.t.1, .int .i64 g.t.2.1, .bool g.t.2.2, .int .i64 g.pd, .int .i64 g.x.1, .int .i64 g.x.2.1, .bool g.x.2.2.1, .int .i64 g.x.2.2.2, .bool g.hl, P3] 67)).heap.size = w.heap.size + 1 by simp] at h
    exact h.below ((Below.refl _ _).alloc (Nat.le_refl _) _) (by simp)
  have o0 : Var (((w.alloc (.cells #[P0, .int .i64 g.a, .int .i64 g.pc, P1, P2, .int .i64 g.t.1, .int .i64 g.t.2.1, .bool g.t.2.2, .int .i64 g.pd, .int .i64 g.x.1, .int .i64 g.x.2.1, .bool g.x.2.2.1, .int .i64 g.x.2.2.2, .bool g.hl, P3] 67)).alloc (.cells #[.slice none 0 0, .int .i64 0, .int .i64 0, .slice none 0 0, .slice none 0 0, .int .i64 0, .int .i64 0, .bool false, .int .i64 0, .int .i64 0, .int .i64 0, .bool false, .int .i64 0, .bool false, .slice none 0 0] 52)).alloc (.cells #[.slice none 0 0, .int .i64 0, .int .i64 0, .slice none 0 0, .slice none 0 0, .int .i64 0, .int .i64 0, .bool false, .int .i64 0, .int .i64 0, .int .i64 0, .bool false, .int .i64 0, .bool false, .slice none 0 0] 52)) (w.heap.size + 1 + 1) [.slice none 0 0, .int .i64 0, .int .i64 0, .slice none 0 0, .slice none 0 0, .int .i64 0, .int .i64 0, .bool false, .int .i64 0, .int .i64 0, .int .i64 0, .bool false, .int .i64 0, .bool false, .slice none 0 0] := by
    have h := Var.new ((w.alloc (.cells #[P0, .int .i64 g.a, .int .i64 g.pc, P1, P2, .int .i64 g.t.1, .int .i64 g.t.2.1, .bool g.t.2.2, .int .i64 g.pd, .int .i64 g.x.1, .int .i64 g.x.2.1, .bool g.x.2.2.1, .int .i64 g.x.2.2.2, .bool g.hl, P3] 67)).alloc (.cells #[.slice none 0 0, .int .i64 0, .int .i64 0, .slice none 0 0, .slice none 0 0, .int .i64 0, .int .i64 0, .bool false, .int .i64 0, .int .i64 0, .int .i64 0, .bool false, .int .i64 0, .bool false, .slice none 0 0] 52)) [.slice none 0 0, .int .i64 0, .int .i64 0, .slice none 0 0, .slice none 0 0, .int .i64 0, .int .i64 0, .bool false, .int .i64 0, .int .i64 0, .int .i64 0, .bool false, .int .i64 0, .bool false, .slice none 0 0] 52
    rwa [show ((w.alloc (.cells #[P0, .int .i64 g.a, .int .i64 g.pc, P1, P2, .int .i64 g.t.1, .int .i64 g.t.2.1, .bool g.t.2.2, .int .i64 g.pd, .int .i64 g.x.1, .int .i64 g.x.2.1, .bool g.x.2.2.1, .int .i64 g.x.2.2.2, .bool g.hl, P3] 67)).alloc (.cells #[.slice none 0 0, .int .i64 0, .int .i64 0, .slice none 0 0, .slice none 0 0, .int .i64 0, .int .i64 0, .bool false, .int .i64 0, .int .i64 0, .int .i64 0, .bool false, .int .i64 0, .bool false, .slice none 0 0] 52)).heap.size = w.heap.size + 1 + 1 by simp] at h
  have hb0 : Below w.heap.size w (((w.alloc (.cells #[P0, .int .i64 g.a, .int .i64 g.pc, P1, P2, .int .i64 g.t.1, .int .i64 g.t.2.1, .bool g.t.2.2, .int .i64 g.pd, .int .i64 g.x.1, .int .i64 g.x.2.1, .bool g.x.2.2.1, .int .i64 g.x.2.2.2, .bool g.hl, P3] 67)).alloc (.cells #[.slice none 0 0, .int .i64 0, .int .i64 0, .slice none 0 0, .slice none 0 0, .int .i64 0, .int .i64 0, .bool false, .int .i64 0, .int .i64 0, .int .i64 0, .bool false, .int .i64 0, .bool false, .slice none 0 0] 52)).alloc (.cells #[.slice none 0 0, .int .i64 0, .int .i64 0, .slice none 0 0, .slice none 0 0, .int .i64 0, .int .i64 0, .bool false, .int .i64 0, .int .i64 0, .int .i64 0, .bool false, .int .i64 0, .bool false, .slice none 0 0] 52)) := (((Below.refl _ _).alloc (Nat.le_refl _) _).alloc (by simp) _).alloc (by simp <;> omega) _
  have hz0 : (((w.alloc (.cells #[P0, .int .i64 g.a, .int .i64 g.pc, P1, P2, .int .i64 g.t.1, .int .i64 g.t.2.1, .bool g.t.2.2, .int .i64 g.pd, .int .i64 g.x.1, .int .i64 g.x.2.1, .bool g.x.2.2.1, .int .i64 g.x.2.2.2, .bool g.hl, P3] 67)).alloc (.cells #[.slice none 0 0, .int .i64 0, .int .i64 0, .slice none 0 0, .slice none 0 0, .int .i64 0, .int .i64 0, .bool false, .int .i64 0, .int .i64 0, .int .i64 0, .bool false, .int .i64 0, .bool false, .slice none 0 0] 52)).alloc (.cells #[.slice none 0 0, .int .i64 0, .int .i64 0, .slice none 0 0, .slice none 0 0, .int .i64 0, .int .i64 0, .bool false, .int .i64 0, .int .i64 0, .int .i64 0, .bool false, .int .i64 0, .bool false, .slice none 0 0] 52)).heap.size = w.heap.size + 3 := by simp
  have HH := Lib.hid h
  clear h
  go_enter Try.func35, Try.ntmps35
  go_wp2_with fail
  generalize (((w.alloc (.cells #[P0, .int .i64 g.a, .int .i64 g.pc, P1, P2, .int .i64 g.t.1, .int .i64 g.t.2.1, .bool g.t.2.2, .int .i64 g.pd, .int .i64 g.x.1, .int .i64 g.x.2.1, .bool g.x.2.2.1, .int .i64 g.x.2.2.2, .bool g.hl, P3] 67)).alloc (.cells #[.slice none 0 0, .int .i64 0, .int .i64 0, .slice none 0 0, .slice none 0 0, .int .i64 0, .int .i64 0, .bool false, .int .i64 0, .int .i64 0, .int .i64 0, .bool false, .int .i64 0, .bool false, .slice none 0 0] 52)).alloc (.cells #[.slice none 0 0, .int .i64 0, .int .i64 0, .slice none 0 0, .slice none 0 0, .int .i64 0, .int .i64 0, .bool false, .int .i64 0, .int .i64 0, .int .i64 0, .bool false, .int .i64 0, .bool false, .slice none 0 0] 52)) = W0 at b0 r0 o0 hb0 hz0 ⊢
  have hz : w.heap.size + 3 ≤ W0.heap.size := by omega
  refine (toJ lo P0 g.prog W0 hn0 ((HH.out.r0.below hb0 (Nat.le_refl _)).wide (Nat.le_refl _) hb0.size)).mono ?_
  rintro e w0 ⟨B0, e0, rfl, ho0, hbb⟩
  have hs0 := hbb.size
  have bx := b0.below hbb (by omega)
  have rx := r0.below hbb (by omega)
  have ox := o0.below hbb (by omega)
  have hbx : Below w.heap.size w w0 := hb0.trans (hbb.mono hb0.size)
  have ho0x := ho0
  clear hbb b0 r0 o0 hb0 ho0
  have o1 : Var (((w0.setCell ⟨w.heap.size + 1 + 1, 0, none⟩ (.slice B0 g.prog.length e0)).setCell ⟨w.heap.size + 1 + 1, 1, none⟩ (.int .i64 g.a)).setCell ⟨w.heap.size + 1 + 1, 2, none⟩ (.int .i64 g.pc)) (w.heap.size + 1 + 1) [.slice B0 g.prog.length e0, .int .i64 g.a, .int .i64 g.pc, .slice none 0 0, .slice none 0 0, .int .i64 0, .int .i64 0, .bool false, .int .i64 0, .int .i64 0, .int .i64 0, .bool false, .int .i64 0, .bool false, .slice none 0 0] := (((ox.set 0 (.slice B0 g.prog.length e0)).set 1 (.int .i64 g.a)).set 2 (.int .i64 g.pc))
  have b1 : Var (((w0.setCell ⟨w.heap.size + 1 + 1, 0, none⟩ (.slice B0 g.prog.length e0)).setCell ⟨w.heap.size + 1 + 1, 1, none⟩ (.int .i64 g.a)).setCell ⟨w.heap.size + 1 + 1, 2, none⟩ (.int .i64 g.pc)) w.heap.size [P0, .int .i64 g.a, .int .i64 g.pc, P1, P2, .int .i64 g.t.1, .int .i64 g.t.2.1, .bool g.t.2.2, .int .i64 g.pd, .int .i64 g.x.1, .int .i64 g.x.2.1, .bool g.x.2.2.1, .int .i64 g.x.2.2.2, .bool g.hl, P3] := (((bx.far (by omega) 0 _).far (by omega) 1 _).far (by omega) 2 _)
  have r1 : Var (((w0.setCell ⟨w.heap.size + 1 + 1, 0, none⟩ (.slice B0 g.prog.length e0)).setCell ⟨w.heap.size + 1 + 1, 1, none⟩ (.int .i64 g.a)).setCell ⟨w.heap.size + 1 + 1, 2, none⟩ (.int .i64 g.pc)) (w.heap.size + 1) [.slice none 0 0, .int .i64 0, .int .i64 0, .slice none 0 0, .slice none 0 0, .int .i64 0, .int .i64 0, .bool false, .int .i64 0, .int .i64 0, .int .i64 0, .bool false, .int .i64 0, .bool false, .slice none 0 0] := (((rx.far (by omega) 0 _).far (by omega) 1 _).far (by omega) 2 _)
  have hb1 : Below w.heap.size w (((w0.setCell ⟨w.heap.size + 1 + 1, 0, none⟩ (.slice B0 g.prog.length e0)).setCell ⟨w.heap.size + 1 + 1, 1, none⟩ (.int .i64 g.a)).setCell ⟨w.heap.size + 1 + 1, 2, none⟩ (.int .i64 g.pc)) := (((hbx.setCell (p := ⟨w.heap.size + 1 + 1, 0, none⟩) (show w.heap.size ≤ w.heap.size + 1 + 1 by omega) _).setCell (p := ⟨w.heap.size + 1 + 1, 1, none⟩) (show w.heap.size ≤ w.heap.size + 1 + 1 by omega) _).setCell (p := ⟨w.heap.size + 1 + 1, 2, none⟩) (show w.heap.size ≤ w.heap.size + 1 + 1 by omega) _)
  have ho0' := (((ho0x.far (z := w.heap.size + 1 + 1) (.inl (by omega)) 0 (.slice B0 g.prog.length e0)).far (z := w.heap.size + 1 + 1) (.inl (by omega)) 1 (.int .i64 g.a)).far (z := w.heap.size + 1 + 1) (.inl (by omega)) 2 (.int .i64 g.pc))
  have hz1 : (((w0.setCell ⟨w.heap.size + 1 + 1, 0, none⟩ (.slice B0 g.prog.length e0)).setCell ⟨w.heap.size + 1 + 1, 1, none⟩ (.int .i64 g.a)).setCell ⟨w.heap.size + 1 + 1, 2, none⟩ (.int .i64 g.pc)).heap.size = w0.heap.size := by simp
  have yb0 := bx.cell 0 (v := P0) rfl
  have yb1 := bx.cell 1 (v := .int .i64 g.a) rfl
  have yb2 := bx.cell 2 (v := .int .i64 g.pc) rfl
  have yb3 := bx.cell 3 (v := P1) rfl
  have yb4 := bx.cell 4 (v := P2) rfl
  have yb5 := bx.cell 5 (v := .int .i64 g.t.1) rfl
  have yb6 := bx.cell 6 (v := .int .i64 g.t.2.1) rfl
  have yb7 := bx.cell 7 (v := .bool g.t.2.2) rfl
  have yb8 := bx.cell 8 (v := .int .i64 g.pd) rfl
  have yb9 := bx.cell 9 (v := .int .i64 g.x.1) rfl
  have yb10 := bx.cell 10 (v := .int .i64 g.x.2.1) rfl
  have yb11 := bx.cell 11 (v := .bool g.x.2.2.1) rfl
  have yb12 := bx.cell 12 (v := .int .i64 g.x.2.2.2) rfl
  have yb13 := bx.cell 13 (v := .bool g.hl) rfl
  have yb14 := bx.cell 14 (v := P3) rfl
  have yo0 := ox.cell 0 rfl
  have fo0 := ox.loose 0 rfl
  have yo1 := ox.cell 1 rfl
  have fo1 := ox.loose 1 rfl
  have yo2 := ox.cell 2 rfl
  have fo2 := ox.loose 2 rfl
  have yo3 := ox.cell 3 rfl
  have fo3 := ox.loose 3 rfl
  have yo4 := ox.cell 4 rfl
  have fo4 := ox.loose 4 rfl
  have yo5 := ox.cell 5 rfl
  have fo5 := ox.loose 5 rfl
  have yo6 := ox.cell 6 rfl
  have fo6 := ox.loose 6 rfl
  have yo7 := ox.cell 7 rfl
  have fo7 := ox.loose 7 rfl
  have yo8 := ox.cell 8 rfl
  have fo8 := ox.loose 8 rfl
  have yo9 := ox.cell 9 rfl
  have fo9 := ox.loose 9 rfl
  have yo10 := ox.cell 10 rfl
  have fo10 := ox.loose 10 rfl
  have yo11 := ox.cell 11 rfl
  have fo11 := ox.loose 11 rfl
  have yo12 := ox.cell 12 rfl
  have fo12 := ox.loose 12 rfl
  have yo13 := ox.cell 13 rfl
  have fo13 := ox.loose 13 rfl
  have yo14 := ox.cell 14 rfl
  have fo14 := ox.loose 14 rfl
  go_wp2_with fail
  generalize (((w0.setCell ⟨w.heap.size + 1 + 1, 0, none⟩ (.slice B0 g.prog.length e0)).setCell ⟨w.heap.size + 1 + 1, 1, none⟩ (.int .i64 g.a)).setCell ⟨w.heap.size + 1 + 1, 2, none⟩ (.int .i64 g.pc)) = W1 at o1 b1 r1 hb1 hz1 ho0' ⊢
  clear yb0 yb1 yb2 yb3 yb4 yb5 yb6 yb7 yb8 yb9 yb10 yb11 yb12 yb13 yb14 yo0 fo0 yo1 fo1 yo2 fo2 yo3 fo3 yo4 fo4 yo5 fo5 yo6 fo6 yo7 fo7 yo8 fo8 yo9 fo9 yo10 fo10 yo11 fo11 yo12 fo12 yo13 fo13 yo14 fo14 bx rx ox hbx ho0x
  have ho0 := ho0'
  clear ho0'
  refine (toS lo P1 g.wr W1 hn1 ((HH.out.r1.below hb1 (Nat.le_refl _)).wide (Nat.le_refl _) hb1.size)).mono ?_
  rintro e w1 ⟨B1, e1, rfl, ho1, hbb⟩
  have hs1 := hbb.size
  have bx := b1.below hbb (by omega)
  have rx := r1.below hbb (by omega)
  have ox := o1.below hbb (by omega)
  have hbx : Below w.heap.size w w1 := hb1.trans (hbb.mono hb1.size)
  have ho0x := ho0.below hbb (by omega)
  have ho1x := ho1
  clear hbb b1 r1 o1 hb1 ho0 ho1
  have o2 : Var (w1.setCell ⟨w.heap.size + 1 + 1, 3, none⟩ (.slice B1 g.wr.length e1)) (w.heap.size + 1 + 1) [.slice B0 g.prog.length e0, .int .i64 g.a, .int .i64 g.pc, .slice B1 g.wr.length e1, .slice none 0 0, .int .i64 0, .int .i64 0, .bool false, .int .i64 0, .int .i64 0, .int .i64 0, .bool false, .int .i64 0, .bool false, .slice none 0 0] := (ox.set 3 (.slice B1 g.wr.length e1))
  have b2 : Var (w1.setCell ⟨w.heap.size + 1 + 1, 3, none⟩ (.slice B1 g.wr.length e1)) w.heap.size [P0, .int .i64 g.a, .int .i64 g.pc, P1, P2, .int .i64 g.t.1, .int .i64 g.t.2.1, .bool g.t.2.2, .int .i64 g.pd, .int .i64 g.x.1, .int .i64 g.x.2.1, .bool g.x.2.2.1, .int .i64 g.x.2.2.2, .bool g.hl, P3] := (bx.far (by omega) 3 _)
  have r2 : Var (w1.setCell ⟨w.heap.size + 1 + 1, 3, none⟩ (.slice B1 g.wr.length e1)) (w.heap.size + 1) [.slice none 0 0, .int .i64 0, .int .i64 0, .slice none 0 0, .slice none 0 0, .int .i64 0, .int .i64 0, .bool false, .int .i64 0, .int .i64 0, .int .i64 0, .bool false, .int .i64 0, .bool false, .slice none 0 0] := (rx.far (by omega) 3 _)
  have hb2 : Below w.heap.size w (w1.setCell ⟨w.heap.size + 1 + 1, 3, none⟩ (.slice B1 g.wr.length e1)) := (hbx.setCell (p := ⟨w.heap.size + 1 + 1, 3, none⟩) (show w.heap.size ≤ w.heap.size + 1 + 1 by omega) _)
  have ho0' := (ho0x.far (z := w.heap.size + 1 + 1) (.inl (by omega)) 3 (.slice B1 g.wr.length e1))
  have ho1' := (ho1x.far (z := w.heap.size + 1 + 1) (.inl (by omega)) 3 (.slice B1 g.wr.length e1))
  have hz2 : (w1.setCell ⟨w.heap.size + 1 + 1, 3, none⟩ (.slice B1 g.wr.length e1)).heap.size = w1.heap.size := by simp
  have yb0 := bx.cell 0 (v := P0) rfl
  have yb1 := bx.cell 1 (v := .int .i64 g.a) rfl
  have yb2 := bx.cell 2 (v := .int .i64 g.pc) rfl
  have yb3 := bx.cell 3 (v := P1) rfl
  have yb4 := bx.cell 4 (v := P2) rfl
  have yb5 := bx.cell 5 (v := .int .i64 g.t.1) rfl
  have yb6 := bx.cell 6 (v := .int .i64 g.t.2.1) rfl
  have yb7 := bx.cell 7 (v := .bool g.t.2.2) rfl
  have yb8 := bx.cell 8 (v := .int .i64 g.pd) rfl
  have yb9 := bx.cell 9 (v := .int .i64 g.x.1) rfl
  have yb10 := bx.cell 10 (v := .int .i64 g.x.2.1) rfl
  have yb11 := bx.cell 11 (v := .bool g.x.2.2.1) rfl
  have yb12 := bx.cell 12 (v := .int .i64 g.x.2.2.2) rfl
  have yb13 := bx.cell 13 (v := .bool g.hl) rfl
  have yb14 := bx.cell 14 (v := P3) rfl
  have yo0 := ox.cell 0 rfl
  have fo0 := ox.loose 0 rfl
  have yo1 := ox.cell 1 rfl
  have fo1 := ox.loose 1 rfl
  have yo2 := ox.cell 2 rfl
  have fo2 := ox.loose 2 rfl
  have yo3 := ox.cell 3 rfl
  have fo3 := ox.loose 3 rfl
  have yo4 := ox.cell 4 rfl
  have fo4 := ox.loose 4 rfl
  have yo5 := ox.cell 5 rfl
  have fo5 := ox.loose 5 rfl
  have yo6 := ox.cell 6 rfl
  have fo6 := ox.loose 6 rfl
  have yo7 := ox.cell 7 rfl
  have fo7 := ox.loose 7 rfl
  have yo8 := ox.cell 8 rfl
  have fo8 := ox.loose 8 rfl
  have yo9 := ox.cell 9 rfl
  have fo9 := ox.loose 9 rfl
  have yo10 := ox.cell 10 rfl
  have fo10 := ox.loose 10 rfl
  have yo11 := ox.cell 11 rfl
  have fo11 := ox.loose 11 rfl
  have yo12 := ox.cell 12 rfl
  have fo12 := ox.loose 12 rfl
  have yo13 := ox.cell 13 rfl
  have fo13 := ox.loose 13 rfl
  have yo14 := ox.cell 14 rfl
  have fo14 := ox.loose 14 rfl
  go_wp2_with fail
  generalize (w1.setCell ⟨w.heap.size + 1 + 1, 3, none⟩ (.slice B1 g.wr.length e1)) = W2 at o2 b2 r2 hb2 hz2 ho0' ho1' ⊢
  clear yb0 yb1 yb2 yb3 yb4 yb5 yb6 yb7 yb8 yb9 yb10 yb11 yb12 yb13 yb14 yo0 fo0 yo1 fo1 yo2 fo2 yo3 fo3 yo4 fo4 yo5 fo5 yo6 fo6 yo7 fo7 yo8 fo8 yo9 fo9 yo10 fo10 yo11 fo11 yo12 fo12 yo13 fo13 yo14 fo14 bx rx ox hbx ho0x ho1x
  have ho0 := ho0'
  clear ho0'
  have ho1 := ho1'
  clear ho1'
  refine (toS lo P2 g.lv W2 hn2 ((HH.out.r2.below hb2 (Nat.le_refl _)).wide (Nat.le_refl _) hb2.size)).mono ?_
  rintro e w2 ⟨B2, e2, rfl, ho2, hbb⟩
  have hs2 := hbb.size
  have bx := b2.below hbb (by omega)
  have rx := r2.below hbb (by omega)
  have ox := o2.below hbb (by omega)
  have hbx : Below w.heap.size w w2 := hb2.trans (hbb.mono hb2.size)
  have ho0x := ho0.below hbb (by omega)
  have ho1x := ho1.below hbb (by omega)
  have ho2x := ho2
  clear hbb b2 r2 o2 hb2 ho0 ho1 ho2
  have o3 : Var (w2.setCell ⟨w.heap.size + 1 + 1, 4, none⟩ (.slice B2 g.lv.length e2)) (w.heap.size + 1 + 1) [.slice B0 g.prog.length e0, .int .i64 g.a, .int .i64 g.pc, .slice B1 g.wr.length e1, .slice B2 g.lv.length e2, .int .i64 0, .int .i64 0, .bool false, .int .i64 0, .int .i64 0, .int .i64 0, .bool false, .int .i64 0, .bool false, .slice none 0 0] := (ox.set 4 (.slice B2 g.lv.length e2))
  have b3 : Var (w2.setCell ⟨w.heap.size + 1 + 1, 4, none⟩ (.slice B2 g.lv.length e2)) w.heap.size [P0, .int .i64 g.a, .int .i64 g.pc, P1, P2, .int .i64 g.t.1, .int .i64 g.t.2.1, .bool g.t.2.2, .int .i64 g.pd, .int .i64 g.x.1, .int .i64 g.x.2.1, .bool g.x.2.2.1, .int .i64 g.x.2.2.2, .bool g.hl, P3] := (bx.far (by omega) 4 _)
  have r3 : Var (w2.setCell ⟨w.heap.size + 1 + 1, 4, none⟩ (.slice B2 g.lv.length e2)) (w.heap.size + 1) [.slice none 0 0, .int .i64 0, .int .i64 0, .slice none 0 0, .slice none 0 0, .int .i64 0, .int .i64 0, .bool false, .int .i64 0, .int .i64 0, .int .i64 0, .bool false, .int .i64 0, .bool false, .slice none 0 0] := (rx.far (by omega) 4 _)
  have hb3 : Below w.heap.size w (w2.setCell ⟨w.heap.size + 1 + 1, 4, none⟩ (.slice B2 g.lv.length e2)) := (hbx.setCell (p := ⟨w.heap.size + 1 + 1, 4, none⟩) (show w.heap.size ≤ w.heap.size + 1 + 1 by omega) _)
  have ho0' := (ho0x.far (z := w.heap.size + 1 + 1) (.inl (by omega)) 4 (.slice B2 g.lv.length e2))
  have ho1' := (ho1x.far (z := w.heap.size + 1 + 1) (.inl (by omega)) 4 (.slice B2 g.lv.length e2))
  have ho2' := (ho2x.far (z := w.heap.size + 1 + 1) (.inl (by omega)) 4 (.slice B2 g.lv.length e2))
  have hz3 : (w2.setCell ⟨w.heap.size + 1 + 1, 4, none⟩ (.slice B2 g.lv.length e2)).heap.size = w2.heap.size := by simp
  have yb0 := bx.cell 0 (v := P0) rfl
  have yb1 := bx.cell 1 (v := .int .i64 g.a) rfl
  have yb2 := bx.cell 2 (v := .int .i64 g.pc) rfl
  have yb3 := bx.cell 3 (v := P1) rfl
  have yb4 := bx.cell 4 (v := P2) rfl
  have yb5 := bx.cell 5 (v := .int .i64 g.t.1) rfl
  have yb6 := bx.cell 6 (v := .int .i64 g.t.2.1) rfl
  have yb7 := bx.cell 7 (v := .bool g.t.2.2) rfl
  have yb8 := bx.cell 8 (v := .int .i64 g.pd) rfl
  have yb9 := bx.cell 9 (v := .int .i64 g.x.1) rfl
  have yb10 := bx.cell 10 (v := .int .i64 g.x.2.1) rfl
  have yb11 := bx.cell 11 (v := .bool g.x.2.2.1) rfl
  have yb12 := bx.cell 12 (v := .int .i64 g.x.2.2.2) rfl
  have yb13 := bx.cell 13 (v := .bool g.hl) rfl
  have yb14 := bx.cell 14 (v := P3) rfl
  have yo0 := ox.cell 0 rfl
  have fo0 := ox.loose 0 rfl
  have yo1 := ox.cell 1 rfl
  have fo1 := ox.loose 1 rfl
  have yo2 := ox.cell 2 rfl
  have fo2 := ox.loose 2 rfl
  have yo3 := ox.cell 3 rfl
  have fo3 := ox.loose 3 rfl
  have yo4 := ox.cell 4 rfl
  have fo4 := ox.loose 4 rfl
  have yo5 := ox.cell 5 rfl
  have fo5 := ox.loose 5 rfl
  have yo6 := ox.cell 6 rfl
  have fo6 := ox.loose 6 rfl
  have yo7 := ox.cell 7 rfl
  have fo7 := ox.loose 7 rfl
  have yo8 := ox.cell 8 rfl
  have fo8 := ox.loose 8 rfl
  have yo9 := ox.cell 9 rfl
  have fo9 := ox.loose 9 rfl
  have yo10 := ox.cell 10 rfl
  have fo10 := ox.loose 10 rfl
  have yo11 := ox.cell 11 rfl
  have fo11 := ox.loose 11 rfl
  have yo12 := ox.cell 12 rfl
  have fo12 := ox.loose 12 rfl
  have yo13 := ox.cell 13 rfl
  have fo13 := ox.loose 13 rfl
  have yo14 := ox.cell 14 rfl
  have fo14 := ox.loose 14 rfl
  go_wp2_with fail
  generalize (w2.setCell ⟨w.heap.size + 1 + 1, 4, none⟩ (.slice B2 g.lv.length e2)) = W3 at o3 b3 r3 hb3 hz3 ho0' ho1' ho2' ⊢
  clear yb0 yb1 yb2 yb3 yb4 yb5 yb6 yb7 yb8 yb9 yb10 yb11 yb12 yb13 yb14 yo0 fo0 yo1 fo1 yo2 fo2 yo3 fo3 yo4 fo4 yo5 fo5 yo6 fo6 yo7 fo7 yo8 fo8 yo9 fo9 yo10 fo10 yo11 fo11 yo12 fo12 yo13 fo13 yo14 fo14 bx rx ox hbx ho0x ho1x ho2x
  have ho0 := ho0'
  clear ho0'
  have ho1 := ho1'
  clear ho1'
  have ho2 := ho2'
  clear ho2'
  refine (toCtl_any g.t.1 g.t.2.1 g.t.2.2 W3).mono ?_
  rintro e w3 ⟨rfl, hbb⟩
  have hs3 := hbb.size
  have bx := b3.below hbb (by omega)
  have rx := r3.below hbb (by omega)
  have ox := o3.below hbb (by omega)
  have hbx : Below w.heap.size w w3 := hb3.trans (hbb.mono hb3.size)
  have ho0x := ho0.below hbb (by omega)
  have ho1x := ho1.below hbb (by omega)
  have ho2x := ho2.below hbb (by omega)
  clear hbb b3 r3 o3 hb3 ho0 ho1 ho2
  have o4 : Var ((((w3.setCell ⟨w.heap.size + 1 + 1, 5, none⟩ (.int .i64 g.t.1)).setCell ⟨w.heap.size + 1 + 1, 6, none⟩ (.int .i64 g.t.2.1)).setCell ⟨w.heap.size + 1 + 1, 7, none⟩ (.bool g.t.2.2)).setCell ⟨w.heap.size + 1 + 1, 8, none⟩ (.int .i64 g.pd)) (w.heap.size + 1 + 1) [.slice B0 g.prog.length e0, .int .i64 g.a, .int .i64 g.pc, .slice B1 g.wr.length e1, .slice B2 g.lv.length e2, .int .i64 g.t.1, .int .i64 g.t.2.1, .bool g.t.2.2, .int .i64 g.pd, .int .i64 0, .int .i64 0, .bool false, .int .i64 0, .bool false, .slice none 0 0] := ((((ox.set 5 (.int .i64 g.t.1)).set 6 (.int .i64 g.t.2.1)).set 7 (.bool g.t.2.2)).set 8 (.int .i64 g.pd))
  have b4 : Var ((((w3.setCell ⟨w.heap.size + 1 + 1, 5, none⟩ (.int .i64 g.t.1)).setCell ⟨w.heap.size + 1 + 1, 6, none⟩ (.int .i64 g.t.2.1)).setCell ⟨w.heap.size + 1 + 1, 7, none⟩ (.bool g.t.2.2)).setCell ⟨w.heap.size + 1 + 1, 8, none⟩ (.int .i64 g.pd)) w.heap.size [P0, .int .i64 g.a, .int .i64 g.pc, P1, P2, .int .i64 g.t.1, .int .i64 g.t.2.1, .bool g.t.2.2, .int .i64 g.pd, .int .i64 g.x.1, .int .i64 g.x.2.1, .bool g.x.2.2.1, .int .i64 g.x.2.2.2, .bool g.hl, P3] := ((((bx.far (by omega) 5 _).far (by omega) 6 _).far (by omega) 7 _).far (by omega) 8 _)
  have r4 : Var ((((w3.setCell ⟨w.heap.size + 1 + 1, 5, none⟩ (.int .i64 g.t.1)).setCell ⟨w.heap.size + 1 + 1, 6, none⟩ (.int .i64 g.t.2.1)).setCell ⟨w.heap.size + 1 + 1, 7, none⟩ (.bool g.t.2.2)).setCell ⟨w.heap.size + 1 + 1, 8, none⟩ (.int .i64 g.pd)) (w.heap.size + 1) [.slice none 0 0, .int .i64 0, .int .i64 0, .slice none 0 0, .slice none 0 0, .int .i64 0, .int .i64 0, .bool false, .int .i64 0, .int .i64 0, .int .i64 0, .bool false, .int .i64 0, .bool false, .slice none 0 0] := ((((rx.far (by omega) 5 _).far (by omega) 6 _).far (by omega) 7 _).far (by omega) 8 _)
  have hb4 : Below w.heap.size w ((((w3.setCell ⟨w.heap.size + 1 + 1, 5, none⟩ (.int .i64 g.t.1)).setCell ⟨w.heap.size + 1 + 1, 6, none⟩ (.int .i64 g.t.2.1)).setCell ⟨w.heap.size + 1 + 1, 7, none⟩ (.bool g.t.2.2)).setCell ⟨w.heap.size + 1 + 1, 8, none⟩ (.int .i64 g.pd)) := ((((hbx.setCell (p := ⟨w.heap.size + 1 + 1, 5, none⟩) (show w.heap.size ≤ w.heap.size + 1 + 1 by omega) _).setCell (p := ⟨w.heap.size + 1 + 1, 6, none⟩) (show w.heap.size ≤ w.heap.size + 1 + 1 by omega) _).setCell (p := ⟨w.heap.size + 1 + 1, 7, none⟩) (show w.heap.size ≤ w.heap.size + 1 + 1 by omega) _).setCell (p := ⟨w.heap.size + 1 + 1, 8, none⟩) (show w.heap.size ≤ w.heap.size + 1 + 1 by omega) _)
  have ho0' := ((((ho0x.far (z := w.heap.size + 1 + 1) (.inl (by omega)) 5 (.int .i64 g.t.1)).far (z := w.heap.size + 1 + 1) (.inl (by omega)) 6 (.int .i64 g.t.2.1)).far (z := w.heap.size + 1 + 1) (.inl (by omega)) 7 (.bool g.t.2.2)).far (z := w.heap.size + 1 + 1) (.inl (by omega)) 8 (.int .i64 g.pd))
  have ho1' := ((((ho1x.far (z := w.heap.size + 1 + 1) (.inl (by omega)) 5 (.int .i64 g.t.1)).far (z := w.heap.size + 1 + 1) (.inl (by omega)) 6 (.int .i64 g.t.2.1)).far (z := w.heap.size + 1 + 1) (.inl (by omega)) 7 (.bool g.t.2.2)).far (z := w.heap.size + 1 + 1) (.inl (by omega)) 8 (.int .i64 g.pd))
  have ho2' := ((((ho2x.far (z := w.heap.size + 1 + 1) (.inl (by omega)) 5 (.int .i64 g.t.1)).far (z := w.heap.size + 1 + 1) (.inl (by omega)) 6 (.int .i64 g.t.2.1)).far (z := w.heap.size + 1 + 1) (.inl (by omega)) 7 (.bool g.t.2.2)).far (z := w.heap.size + 1 + 1) (.inl (by omega)) 8 (.int .i64 g.pd))
  have hz4 : ((((w3.setCell ⟨w.heap.size + 1 + 1, 5, none⟩ (.int .i64 g.t.1)).setCell ⟨w.heap.size + 1 + 1, 6, none⟩ (.int .i64 g.t.2.1)).setCell ⟨w.heap.size + 1 + 1, 7, none⟩ (.bool g.t.2.2)).setCell ⟨w.heap.size + 1 + 1, 8, none⟩ (.int .i64 g.pd)).heap.size = w3.heap.size := by simp
  have yb0 := bx.cell 0 (v := P0) rfl
  have yb1 := bx.cell 1 (v := .int .i64 g.a) rfl
  have yb2 := bx.cell 2 (v := .int .i64 g.pc) rfl
  have yb3 := bx.cell 3 (v := P1) rfl
  have yb4 := bx.cell 4 (v := P2) rfl
  have yb5 := bx.cell 5 (v := .int .i64 g.t.1) rfl
  have yb6 := bx.cell 6 (v := .int .i64 g.t.2.1) rfl
  have yb7 := bx.cell 7 (v := .bool g.t.2.2) rfl
  have yb8 := bx.cell 8 (v := .int .i64 g.pd) rfl
  have yb9 := bx.cell 9 (v := .int .i64 g.x.1) rfl
  have yb10 := bx.cell 10 (v := .int .i64 g.x.2.1) rfl
  have yb11 := bx.cell 11 (v := .bool g.x.2.2.1) rfl
  have yb12 := bx.cell 12 (v := .int .i64 g.x.2.2.2) rfl
  have yb13 := bx.cell 13 (v := .bool g.hl) rfl
  have yb14 := bx.cell 14 (v := P3) rfl
  have yo0 := ox.cell 0 rfl
  have fo0 := ox.loose 0 rfl
  have yo1 := ox.cell 1 rfl
  have fo1 := ox.loose 1 rfl
  have yo2 := ox.cell 2 rfl
  have fo2 := ox.loose 2 rfl
  have yo3 := ox.cell 3 rfl
  have fo3 := ox.loose 3 rfl
  have yo4 := ox.cell 4 rfl
  have fo4 := ox.loose 4 rfl
  have yo5 := ox.cell 5 rfl
  have fo5 := ox.loose 5 rfl
  have yo6 := ox.cell 6 rfl
  have fo6 := ox.loose 6 rfl
  have yo7 := ox.cell 7 rfl
  have fo7 := ox.loose 7 rfl
  have yo8 := ox.cell 8 rfl
  have fo8 := ox.loose 8 rfl
  have yo9 := ox.cell 9 rfl
  have fo9 := ox.loose 9 rfl
  have yo10 := ox.cell 10 rfl
  have fo10 := ox.loose 10 rfl
  have yo11 := ox.cell 11 rfl
  have fo11 := ox.loose 11 rfl
  have yo12 := ox.cell 12 rfl
  have fo12 := ox.loose 12 rfl
  have yo13 := ox.cell 13 rfl
  have fo13 := ox.loose 13 rfl
  have yo14 := ox.cell 14 rfl
  have fo14 := ox.loose 14 rfl
  go_wp2_with fail
  generalize ((((w3.setCell ⟨w.heap.size + 1 + 1, 5, none⟩ (.int .i64 g.t.1)).setCell ⟨w.heap.size + 1 + 1, 6, none⟩ (.int .i64 g.t.2.1)).setCell ⟨w.heap.size + 1 + 1, 7, none⟩ (.bool g.t.2.2)).setCell ⟨w.heap.size + 1 + 1, 8, none⟩ (.int .i64 g.pd)) = W4 at o4 b4 r4 hb4 hz4 ho0' ho1' ho2' ⊢
  clear yb0 yb1 yb2 yb3 yb4 yb5 yb6 yb7 yb8 yb9 yb10 yb11 yb12 yb13 yb14 yo0 fo0 yo1 fo1 yo2 fo2 yo3 fo3 yo4 fo4 yo5 fo5 yo6 fo6 yo7 fo7 yo8 fo8 yo9 fo9 yo10 fo10 yo11 fo11 yo12 fo12 yo13 fo13 yo14 fo14 bx rx ox hbx ho0x ho1x ho2x
  have ho0 := ho0'
  clear ho0'
  have ho1 := ho1'
  clear ho1'
  have ho2 := ho2'
  clear ho2'
  refine (toExit_any g.x.1 g.x.2.1 g.x.2.2.1 g.x.2.2.2 W4).mono ?_
  rintro e w4 ⟨rfl, hbb⟩
  have hs4 := hbb.size
  have bx := b4.below hbb (by omega)
  have rx := r4.below hbb (by omega)
  have ox := o4.below hbb (by omega)
  have hbx : Below w.heap.size w w4 := hb4.trans (hbb.mono hb4.size)
  have ho0x := ho0.below hbb (by omega)
  have ho1x := ho1.below hbb (by omega)
  have ho2x := ho2.below hbb (by omega)
  clear hbb b4 r4 o4 hb4 ho0 ho1 ho2
  have o5 : Var (((((w4.setCell ⟨w.heap.size + 1 + 1, 9, none⟩ (.int .i64 g.x.1)).setCell ⟨w.heap.size + 1 + 1, 10, none⟩ (.int .i64 g.x.2.1)).setCell ⟨w.heap.size + 1 + 1, 11, none⟩ (.bool g.x.2.2.1)).setCell ⟨w.heap.size + 1 + 1, 12, none⟩ (.int .i64 g.x.2.2.2)).setCell ⟨w.heap.size + 1 + 1, 13, none⟩ (.bool g.hl)) (w.heap.size + 1 + 1) [.slice B0 g.prog.length e0, .int .i64 g.a, .int .i64 g.pc, .slice B1 g.wr.length e1, .slice B2 g.lv.length e2, .int .i64 g.t.1, .int .i64 g.t.2.1, .bool g.t.2.2, .int .i64 g.pd, .int .i64 g.x.1, .int .i64 g.x.2.1, .bool g.x.2.2.1, .int .i64 g.x.2.2.2, .bool g.hl, .slice none 0 0] := (((((ox.set 9 (.int .i64 g.x.1)).set 10 (.int .i64 g.x.2.1)).set 11 (.bool g.x.2.2.1)).set 12 (.int .i64 g.x.2.2.2)).set 13 (.bool g.hl))
  have b5 : Var (((((w4.setCell ⟨w.heap.size + 1 + 1, 9, none⟩ (.int .i64 g.x.1)).setCell ⟨w.heap.size + 1 + 1, 10, none⟩ (.int .i64 g.x.2.1)).setCell ⟨w.heap.size + 1 + 1, 11, none⟩ (.bool g.x.2.2.1)).setCell ⟨w.heap.size + 1 + 1, 12, none⟩ (.int .i64 g.x.2.2.2)).setCell ⟨w.heap.size + 1 + 1, 13, none⟩ (.bool g.hl)) w.heap.size [P0, .int .i64 g.a, .int .i64 g.pc, P1, P2, .int .i64 g.t.1, .int .i64 g.t.2.1, .bool g.t.2.2, .int .i64 g.pd, .int .i64 g.x.1, .int .i64 g.x.2.1, .bool g.x.2.2.1, .int .i64 g.x.2.2.2, .bool g.hl, P3] := (((((bx.far (by omega) 9 _).far (by omega) 10 _).far (by omega) 11 _).far (by omega) 12 _).far (by omega) 13 _)
  have r5 : Var (((((w4.setCell ⟨w.heap.size + 1 + 1, 9, none⟩ (.int .i64 g.x.1)).setCell ⟨w.heap.size + 1 + 1, 10, none⟩ (.int .i64 g.x.2.1)).setCell ⟨w.heap.size + 1 + 1, 11, none⟩ (.bool g.x.2.2.1)).setCell ⟨w.heap.size + 1 + 1, 12, none⟩ (.int .i64 g.x.2.2.2)).setCell ⟨w.heap.size + 1 + 1, 13, none⟩ (.bool g.hl)) (w.heap.size + 1) [.slice none 0 0, .int .i64 0, .int .i64 0, .slice none 0 0, .slice none 0 0, .int .i64 0, .int .i64 0, .bool false, .int .i64 0, .int .i64 0, .int .i64 0, .bool false, .int .i64 0, .bool false, .slice none 0 0] := (((((rx.far (by omega) 9 _).far (by omega) 10 _).far (by omega) 11 _).far (by omega) 12 _).far (by omega) 13 _)
  have hb5 : Below w.heap.size w (((((w4.setCell ⟨w.heap.size + 1 + 1, 9, none⟩ (.int .i64 g.x.1)).setCell ⟨w.heap.size + 1 + 1, 10, none⟩ (.int .i64 g.x.2.1)).setCell ⟨w.heap.size + 1 + 1, 11, none⟩ (.bool g.x.2.2.1)).setCell ⟨w.heap.size + 1 + 1, 12, none⟩ (.int .i64 g.x.2.2.2)).setCell ⟨w.heap.size + 1 + 1, 13, none⟩ (.bool g.hl)) := (((((hbx.setCell (p := ⟨w.heap.size + 1 + 1, 9, none⟩) (show w.heap.size ≤ w.heap.size + 1 + 1 by omega) _).setCell (p := ⟨w.heap.size + 1 + 1, 10, none⟩) (show w.heap.size ≤ w.heap.size + 1 + 1 by omega) _).setCell (p := ⟨w.heap.size + 1 + 1, 11, none⟩) (show w.heap.size ≤ w.heap.size + 1 + 1 by omega) _).setCell (p := ⟨w.heap.size + 1 + 1, 12, none⟩) (show w.heap.size ≤ w.heap.size + 1 + 1 by omega) _).setCell (p := ⟨w.heap.size + 1 + 1, 13, none⟩) (show w.heap.size ≤ w.heap.size + 1 + 1 by omega) _)
  have ho0' := (((((ho0x.far (z := w.heap.size + 1 + 1) (.inl (by omega)) 9 (.int .i64 g.x.1)).far (z := w.heap.size + 1 + 1) (.inl (by omega)) 10 (.int .i64 g.x.2.1)).far (z := w.heap.size + 1 + 1) (.inl (by omega)) 11 (.bool g.x.2.2.1)).far (z := w.heap.size + 1 + 1) (.inl (by omega)) 12 (.int .i64 g.x.2.2.2)).far (z := w.heap.size + 1 + 1) (.inl (by omega)) 13 (.bool g.hl))
  have ho1' := (((((ho1x.far (z := w.heap.size + 1 + 1) (.inl (by omega)) 9 (.int .i64 g.x.1)).far (z := w.heap.size + 1 + 1) (.inl (by omega)) 10 (.int .i64 g.x.2.1)).far (z := w.heap.size + 1 + 1) (.inl (by omega)) 11 (.bool g.x.2.2.1)).far (z := w.heap.size + 1 + 1) (.inl (by omega)) 12 (.int .i64 g.x.2.2.2)).far (z := w.heap.size + 1 + 1) (.inl (by omega)) 13 (.bool g.hl))
  have ho2' := (((((ho2x.far (z := w.heap.size + 1 + 1) (.inl (by omega)) 9 (.int .i64 g.x.1)).far (z := w.heap.size + 1 + 1) (.inl (by omega)) 10 (.int .i64 g.x.2.1)).far (z := w.heap.size + 1 + 1) (.inl (by omega)) 11 (.bool g.x.2.2.1)).far (z := w.heap.size + 1 + 1) (.inl (by omega)) 12 (.int .i64 g.x.2.2.2)).far (z := w.heap.size + 1 + 1) (.inl (by omega)) 13 (.bool g.hl))
  have hz5 : (((((w4.setCell ⟨w.heap.size + 1 + 1, 9, none⟩ (.int .i64 g.x.1)).setCell ⟨w.heap.size + 1 + 1, 10, none⟩ (.int .i64 g.x.2.1)).setCell ⟨w.heap.size + 1 + 1, 11, none⟩ (.bool g.x.2.2.1)).setCell ⟨w.heap.size + 1 + 1, 12, none⟩ (.int .i64 g.x.2.2.2)).setCell ⟨w.heap.size + 1 + 1, 13, none⟩ (.bool g.hl)).heap.size = w4.heap.size := by simp
  have yb0 := bx.cell 0 (v := P0) rfl
  have yb1 := bx.cell 1 (v := .int .i64 g.a) rfl
  have yb2 := bx.cell 2 (v := .int .i64 g.pc) rfl
  have yb3 := bx.cell 3 (v := P1) rfl
  have yb4 := bx.cell 4 (v := P2) rfl
  have yb5 := bx.cell 5 (v := .int .i64 g.t.1) rfl
  have yb6 := bx.cell 6 (v := .int .i64 g.t.2.1) rfl
  have yb7 := bx.cell 7 (v := .bool g.t.2.2) rfl
  have yb8 := bx.cell 8 (v := .int .i64 g.pd) rfl
  have yb9 := bx.cell 9 (v := .int .i64 g.x.1) rfl
  have yb10 := bx.cell 10 (v := .int .i64 g.x.2.1) rfl
  have yb11 := bx.cell 11 (v := .bool g.x.2.2.1) rfl
  have yb12 := bx.cell 12 (v := .int .i64 g.x.2.2.2) rfl
  have yb13 := bx.cell 13 (v := .bool g.hl) rfl
  have yb14 := bx.cell 14 (v := P3) rfl
  have yo0 := ox.cell 0 rfl
  have fo0 := ox.loose 0 rfl
  have yo1 := ox.cell 1 rfl
  have fo1 := ox.loose 1 rfl
  have yo2 := ox.cell 2 rfl
  have fo2 := ox.loose 2 rfl
  have yo3 := ox.cell 3 rfl
  have fo3 := ox.loose 3 rfl
  have yo4 := ox.cell 4 rfl
  have fo4 := ox.loose 4 rfl
  have yo5 := ox.cell 5 rfl
  have fo5 := ox.loose 5 rfl
  have yo6 := ox.cell 6 rfl
  have fo6 := ox.loose 6 rfl
  have yo7 := ox.cell 7 rfl
  have fo7 := ox.loose 7 rfl
  have yo8 := ox.cell 8 rfl
  have fo8 := ox.loose 8 rfl
  have yo9 := ox.cell 9 rfl
  have fo9 := ox.loose 9 rfl
  have yo10 := ox.cell 10 rfl
  have fo10 := ox.loose 10 rfl
  have yo11 := ox.cell 11 rfl
  have fo11 := ox.loose 11 rfl
  have yo12 := ox.cell 12 rfl
  have fo12 := ox.loose 12 rfl
  have yo13 := ox.cell 13 rfl
  have fo13 := ox.loose 13 rfl
  have yo14 := ox.cell 14 rfl
  have fo14 := ox.loose 14 rfl
  go_wp2_with fail
  generalize (((((w4.setCell ⟨w.heap.size + 1 + 1, 9, none⟩ (.int .i64 g.x.1)).setCell ⟨w.heap.size + 1 + 1, 10, none⟩ (.int .i64 g.x.2.1)).setCell ⟨w.heap.size + 1 + 1, 11, none⟩ (.bool g.x.2.2.1)).setCell ⟨w.heap.size + 1 + 1, 12, none⟩ (.int .i64 g.x.2.2.2)).setCell ⟨w.heap.size + 1 + 1, 13, none⟩ (.bool g.hl)) = W5 at o5 b5 r5 hb5 hz5 ho0' ho1' ho2' ⊢
  clear yb0 yb1 yb2 yb3 yb4 yb5 yb6 yb7 yb8 yb9 yb10 yb11 yb12 yb13 yb14 yo0 fo0 yo1 fo1 yo2 fo2 yo3 fo3 yo4 fo4 yo5 fo5 yo6 fo6 yo7 fo7 yo8 fo8 yo9 fo9 yo10 fo10 yo11 fo11 yo12 fo12 yo13 fo13 yo14 fo14 bx rx ox hbx ho0x ho1x ho2x
  have ho0 := ho0'
  clear ho0'
  have ho1 := ho1'
  clear ho1'
  have ho2 := ho2'
  clear ho2'
  refine (toN lo P3 g.seen W5 hn3 ((HH.out.r3.below hb5 (Nat.le_refl _)).wide (Nat.le_refl _) hb5.size)).mono ?_
  rintro e w5 ⟨B3, e3, rfl, ho3, hbb⟩
  have hs5 := hbb.size
  have bx := b5.below hbb (by omega)
  have rx := r5.below hbb (by omega)
  have ox := o5.below hbb (by omega)
  have hbx : Below w.heap.size w w5 := hb5.trans (hbb.mono hb5.size)
  have ho0x := ho0.below hbb (by omega)
  have ho1x := ho1.below hbb (by omega)
  have ho2x := ho2.below hbb (by omega)
  have ho3x := ho3
  clear hbb b5 r5 o5 hb5 ho0 ho1 ho2 ho3
  have o6 : Var (w5.setCell ⟨w.heap.size + 1 + 1, 14, none⟩ (.slice B3 g.seen.length e3)) (w.heap.size + 1 + 1) [.slice B0 g.prog.length e0, .int .i64 g.a, .int .i64 g.pc, .slice B1 g.wr.length e1, .slice B2 g.lv.length e2, .int .i64 g.t.1, .int .i64 g.t.2.1, .bool g.t.2.2, .int .i64 g.pd, .int .i64 g.x.1, .int .i64 g.x.2.1, .bool g.x.2.2.1, .int .i64 g.x.2.2.2, .bool g.hl, .slice B3 g.seen.length e3] := (ox.set 14 (.slice B3 g.seen.length e3))
  have b6 : Var (w5.setCell ⟨w.heap.size + 1 + 1, 14, none⟩ (.slice B3 g.seen.length e3)) w.heap.size [P0, .int .i64 g.a, .int .i64 g.pc, P1, P2, .int .i64 g.t.1, .int .i64 g.t.2.1, .bool g.t.2.2, .int .i64 g.pd, .int .i64 g.x.1, .int .i64 g.x.2.1, .bool g.x.2.2.1, .int .i64 g.x.2.2.2, .bool g.hl, P3] := (bx.far (by omega) 14 _)
  have r6 : Var (w5.setCell ⟨w.heap.size + 1 + 1, 14, none⟩ (.slice B3 g.seen.length e3)) (w.heap.size + 1) [.slice none 0 0, .int .i64 0, .int .i64 0, .slice none 0 0, .slice none 0 0, .int .i64 0, .int .i64 0, .bool false, .int .i64 0, .int .i64 0, .int .i64 0, .bool false, .int .i64 0, .bool false, .slice none 0 0] := (rx.far (by omega) 14 _)
  have hb6 : Below w.heap.size w (w5.setCell ⟨w.heap.size + 1 + 1, 14, none⟩ (.slice B3 g.seen.length e3)) := (hbx.setCell (p := ⟨w.heap.size + 1 + 1, 14, none⟩) (show w.heap.size ≤ w.heap.size + 1 + 1 by omega) _)
  have ho0' := (ho0x.far (z := w.heap.size + 1 + 1) (.inl (by omega)) 14 (.slice B3 g.seen.length e3))
  have ho1' := (ho1x.far (z := w.heap.size + 1 + 1) (.inl (by omega)) 14 (.slice B3 g.seen.length e3))
  have ho2' := (ho2x.far (z := w.heap.size + 1 + 1) (.inl (by omega)) 14 (.slice B3 g.seen.length e3))
  have ho3' := (ho3x.far (z := w.heap.size + 1 + 1) (.inl (by omega)) 14 (.slice B3 g.seen.length e3))
  have hz6 : (w5.setCell ⟨w.heap.size + 1 + 1, 14, none⟩ (.slice B3 g.seen.length e3)).heap.size = w5.heap.size := by simp
  have yb0 := bx.cell 0 (v := P0) rfl
  have yb1 := bx.cell 1 (v := .int .i64 g.a) rfl
  have yb2 := bx.cell 2 (v := .int .i64 g.pc) rfl
  have yb3 := bx.cell 3 (v := P1) rfl
  have yb4 := bx.cell 4 (v := P2) rfl
  have yb5 := bx.cell 5 (v := .int .i64 g.t.1) rfl
  have yb6 := bx.cell 6 (v := .int .i64 g.t.2.1) rfl
  have yb7 := bx.cell 7 (v := .bool g.t.2.2) rfl
  have yb8 := bx.cell 8 (v := .int .i64 g.pd) rfl
  have yb9 := bx.cell 9 (v := .int .i64 g.x.1) rfl
  have yb10 := bx.cell 10 (v := .int .i64 g.x.2.1) rfl
  have yb11 := bx.cell 11 (v := .bool g.x.2.2.1) rfl
  have yb12 := bx.cell 12 (v := .int .i64 g.x.2.2.2) rfl
  have yb13 := bx.cell 13 (v := .bool g.hl) rfl
  have yb14 := bx.cell 14 (v := P3) rfl
  have yo0 := ox.cell 0 rfl
  have fo0 := ox.loose 0 rfl
  have yo1 := ox.cell 1 rfl
  have fo1 := ox.loose 1 rfl
  have yo2 := ox.cell 2 rfl
  have fo2 := ox.loose 2 rfl
  have yo3 := ox.cell 3 rfl
  have fo3 := ox.loose 3 rfl
  have yo4 := ox.cell 4 rfl
  have fo4 := ox.loose 4 rfl
  have yo5 := ox.cell 5 rfl
  have fo5 := ox.loose 5 rfl
  have yo6 := ox.cell 6 rfl
  have fo6 := ox.loose 6 rfl
  have yo7 := ox.cell 7 rfl
  have fo7 := ox.loose 7 rfl
  have yo8 := ox.cell 8 rfl
  have fo8 := ox.loose 8 rfl
  have yo9 := ox.cell 9 rfl
  have fo9 := ox.loose 9 rfl
  have yo10 := ox.cell 10 rfl
  have fo10 := ox.loose 10 rfl
  have yo11 := ox.cell 11 rfl
  have fo11 := ox.loose 11 rfl
  have yo12 := ox.cell 12 rfl
  have fo12 := ox.loose 12 rfl
  have yo13 := ox.cell 13 rfl
  have fo13 := ox.loose 13 rfl
  have yo14 := ox.cell 14 rfl
  have fo14 := ox.loose 14 rfl
  have yr0 := rx.cell 0 (v := .slice none 0 0) rfl
  have fr0 := rx.loose 0 (v := .slice none 0 0) rfl
  have yr1 := rx.cell 1 (v := .int .i64 0) rfl
  have fr1 := rx.loose 1 (v := .int .i64 0) rfl
  have yr2 := rx.cell 2 (v := .int .i64 0) rfl
  have fr2 := rx.loose 2 (v := .int .i64 0) rfl
  have yr3 := rx.cell 3 (v := .slice none 0 0) rfl
  have fr3 := rx.loose 3 (v := .slice none 0 0) rfl
  have yr4 := rx.cell 4 (v := .slice none 0 0) rfl
  have fr4 := rx.loose 4 (v := .slice none 0 0) rfl
  have yr5 := rx.cell 5 (v := .int .i64 0) rfl
  have fr5 := rx.loose 5 (v := .int .i64 0) rfl
  have yr6 := rx.cell 6 (v := .int .i64 0) rfl
  have fr6 := rx.loose 6 (v := .int .i64 0) rfl
  have yr7 := rx.cell 7 (v := .bool false) rfl
  have fr7 := rx.loose 7 (v := .bool false) rfl
  have yr8 := rx.cell 8 (v := .int .i64 0) rfl
  have fr8 := rx.loose 8 (v := .int .i64 0) rfl
  have yr9 := rx.cell 9 (v := .int .i64 0) rfl
  have fr9 := rx.loose 9 (v := .int .i64 0) rfl
  have yr10 := rx.cell 10 (v := .int .i64 0) rfl
  have fr10 := rx.loose 10 (v := .int .i64 0) rfl
  have yr11 := rx.cell 11 (v := .bool false) rfl
  have fr11 := rx.loose 11 (v := .bool false) rfl
  have yr12 := rx.cell 12 (v := .int .i64 0) rfl
  have fr12 := rx.loose 12 (v := .int .i64 0) rfl
  have yr13 := rx.cell 13 (v := .bool false) rfl
  have fr13 := rx.loose 13 (v := .bool false) rfl
  have yr14 := rx.cell 14 (v := .slice none 0 0) rfl
  have fr14 := rx.loose 14 (v := .slice none 0 0) rfl
  have dd01 : ∀ k ∈ bl (.slice B0 g.prog.length e0), k ∉ bl (.slice B1 g.wr.length e1) := fun k h1 h2 => by have u1 := ho0'.inB (nilJ _) h1; have u2 := ho1'.inB (nilS _) h2; omega
  have dd02 : ∀ k ∈ bl (.slice B0 g.prog.length e0), k ∉ bl (.slice B2 g.lv.length e2) := fun k h1 h2 => by have u1 := ho0'.inB (nilJ _) h1; have u2 := ho2'.inB (nilS _) h2; omega
  have dd03 : ∀ k ∈ bl (.slice B0 g.prog.length e0), k ∉ bl (.slice B3 g.seen.length e3) := fun k h1 h2 => by have u1 := ho0'.inB (nilJ _) h1; have u2 := ho3'.inB (nilN _) h2; omega
  have dd12 : ∀ k ∈ bl (.slice B1 g.wr.length e1), k ∉ bl (.slice B2 g.lv.length e2) := fun k h1 h2 => by have u1 := ho1'.inB (nilS _) h1; have u2 := ho2'.inB (nilS _) h2; omega
  have dd13 : ∀ k ∈ bl (.slice B1 g.wr.length e1), k ∉ bl (.slice B3 g.seen.length e3) := fun k h1 h2 => by have u1 := ho1'.inB (nilS _) h1; have u2 := ho3'.inB (nilN _) h2; omega
  have dd23 : ∀ k ∈ bl (.slice B2 g.lv.length e2), k ∉ bl (.slice B3 g.seen.length e3) := fun k h1 h2 => by have u1 := ho2'.inB (nilS _) h1; have u2 := ho3'.inB (nilN _) h2; omega
  have HO0 := Lib.hid ho0'
  have HO1 := Lib.hid ho1'
  have HO2 := Lib.hid ho2'
  have HO3 := Lib.hid ho3'
  skip
  have HBL := Lib.hid hb6
  clear ho0' ho1' ho2' ho3' hb6 ox bx rx hbx ho0x ho1x ho2x ho3x o6 b6 r6
  go_wp2_with fail
  exact bodyPost_ret (v := .agg #[.slice B0 g.prog.length e0, .int .i64 g.a, .int .i64 g.pc, .slice B1 g.wr.length e1, .slice B2 g.lv.length e2, .int .i64 g.t.1, .int .i64 g.t.2.1, .bool g.t.2.2, .int .i64 g.pd, .int .i64 g.x.1, .int .i64 g.x.2.1, .bool g.x.2.2.1, .int .i64 g.x.2.2.2, .bool g.hl, .slice B3 g.seen.length e3]) (by simp [results, Try.results35, go_sem, yr0, yr1, yr2, yr3, yr4, yr5, yr6, yr7, yr8, yr9, yr10, yr11, yr12, yr13, yr14]) rfl ⟨_, _, _, _, rfl, ⟨((((((((((((((((HO0.out.far (.inl (by omega)) 0 _).far (.inl (by omega)) 1 _).far (.inl (by omega)) 2 _).far (.inl (by omega)) 3 _).far (.inl (by omega)) 4 _).far (.inl (by omega)) 5 _).far (.inl (by omega)) 6 _).far (.inl (by omega)) 7 _).far (.inl (by omega)) 8 _).far (.inl (by omega)) 9 _).far (.inl (by omega)) 10 _).far (.inl (by omega)) 11 _).far (.inl (by omega)) 12 _).far (.inl (by omega)) 13 _).far (.inl (by omega)) 14 _).wide (by omega) (by simp <;> omega)), ((((((((((((((((HO1.out.far (.inl (by omega)) 0 _).far (.inl (by omega)) 1 _).far (.inl (by omega)) 2 _).far (.inl (by omega)) 3 _).far (.inl (by omega)) 4 _).far (.inl (by omega)) 5 _).far (.inl (by omega)) 6 _).far (.inl (by omega)) 7 _).far (.inl (by omega)) 8 _).far (.inl (by omega)) 9 _).far (.inl (by omega)) 10 _).far (.inl (by omega)) 11 _).far (.inl (by omega)) 12 _).far (.inl (by omega)) 13 _).far (.inl (by omega)) 14 _).wide (by omega) (by simp <;> omega)), ((((((((((((((((HO2.out.far (.inl (by omega)) 0 _).far (.inl (by omega)) 1 _).far (.inl (by omega)) 2 _).far (.inl (by omega)) 3 _).far (.inl (by omega)) 4 _).far (.inl (by omega)) 5 _).far (.inl (by omega)) 6 _).far (.inl (by omega)) 7 _).far (.inl (by omega)) 8 _).far (.inl (by omega)) 9 _).far (.inl (by omega)) 10 _).far (.inl (by omega)) 11 _).far (.inl (by omega)) 12 _).far (.inl (by omega)) 13 _).far (.inl (by omega)) 14 _).wide (by omega) (by simp <;> omega)), ((((((((((((((((HO3.out.far (.inl (by omega)) 0 _).far (.inl (by omega)) 1 _).far (.inl (by omega)) 2 _).far (.inl (by omega)) 3 _).far (.inl (by omega)) 4 _).far (.inl (by omega)) 5 _).far (.inl (by omega)) 6 _).far (.inl (by omega)) 7 _).far (.inl (by omega)) 8 _).far (.inl (by omega)) 9 _).far (.inl (by omega)) 10 _).far (.inl (by omega)) 11 _).far (.inl (by omega)) 12 _).far (.inl (by omega)) 13 _).far (.inl (by omega)) 14 _).wide (by omega) (by simp <;> omega)), dd01, dd02, dd03, dd12, dd13, dd23⟩, (((((((((((((((HBL.out.setCell (p := ⟨w.heap.size + 1, 0, none⟩) (show w.heap.size ≤ w.heap.size + 1 by omega) _).setCell (p := ⟨w.heap.size + 1, 1, none⟩) (show w.heap.size ≤ w.heap.size + 1 by omega) _).setCell (p := ⟨w.heap.size + 1, 2, none⟩) (show w.heap.size ≤ w.heap.size + 1 by omega) _).setCell (p := ⟨w.heap.size + 1, 3, none⟩) (show w.heap.size ≤ w.heap.size + 1 by omega) _).setCell (p := ⟨w.heap.size + 1, 4, none⟩) (show w.heap.size ≤ w.heap.size + 1 by omega) _).setCell (p := ⟨w.heap.size + 1, 5, none⟩) (show w.heap.size ≤ w.heap.size + 1 by omega) _).setCell (p := ⟨w.heap.size + 1, 6, none⟩) (show w.heap.size ≤ w.heap.size + 1 by omega) _).setCell (p := ⟨w.heap.size + 1, 7, none⟩) (show w.heap.size ≤ w.heap.size + 1 by omega) _).setCell (p := ⟨w.heap.size + 1, 8, none⟩) (show w.heap.size ≤ w.heap.size + 1 by omega) _).setCell (p := ⟨w.heap.size + 1, 9, none⟩) (show w.heap.size ≤ w.heap.size + 1 by omega) _).setCell (p := ⟨w.heap.size + 1, 10, none⟩) (show w.heap.size ≤ w.heap.size + 1 by omega) _).setCell (p := ⟨w.heap.size + 1, 11, none⟩) (show w.heap.size ≤ w.heap.size + 1 by omega) _).setCell (p := ⟨w.heap.size + 1, 12, none⟩) (show w.heap.size ≤ w.heap.size + 1 by omega) _).setCell (p := ⟨w.heap.size + 1, 13, none⟩) (show w.heap.size ≤ w.heap.size + 1 by omega) _).setCell (p := ⟨w.heap.size + 1, 14, none⟩) (show w.heap.size ≤ w.heap.size + 1 by omega) _)⟩

set_option maxRecDepth 100000 in
set_option maxHeartbeats 8000000 in
theorem eqGuest_same (lo hi lo' hi' : Nat) (g : gT) (P0 P1 P2 P3 Q0 Q1 Q2 Q3 : Value) (w : World) (hc : gcap g) (hh : hi ≤ w.heap.size) (hh' : hi' ≤ w.heap.size) (h : gR w lo hi g P0 P1 P2 P3) (h' : gR w lo' hi' g Q0 Q1 Q2 Q3) :
    Calls Try.prog 38 #[.agg #[P0, .int .i64 g.a, .int .i64 g.pc, P1, P2, .int .i64 g.t.1, .int .i64 g.t.2.1, .bool g.t.2.2, .int .i64 g.pd, .int .i64 g.x.1, .int .i64 g.x.2.1, .bool g.x.2.2.1, .int .i64 g.x.2.2.2, .bool g.hl, P3], .agg #[Q0, .int .i64 g.a, .int .i64 g.pc, Q1, Q2, .int .i64 g.t.1, .int .i64 g.t.2.1, .bool g.t.2.2, .int .i64 g.pd, .int .i64 g.x.1, .int .i64 g.x.2.1, .bool g.x.2.2.1, .int .i64 g.x.2.2.2, .bool g.hl, Q3]] w fun e w' => e = .returned (.bool true) ∧ Below w.heap.size w w' := by
  obtain ⟨hn0, hn1, hn2, hn3⟩ := hc
  have a0 : Var ((w.alloc (.cells #[P0, .int .i64 g.a, .int .i64 g.pc, P1, P2, .int .i64 g.t.1, .int .i64 g.t.2.1, .bool g.t.2.2, .int .i64 g.pd, .int .i64 g.x.1, .int .i64 g.x.2.1, .bool g.x.2.2.1, .int .i64 g.x.2.2.2, .bool g.hl, P3] 52)).alloc (.cells #[Q0, .int .i64 g.a, .int .i64 g.pc, Q1, Q2, .int .i64 g.t.1, .int .i64 g.t.2.1, .bool g.t.2.2, .int .i64 g.pd, .int .i64 g.x.1, .int .i64 g.x.2.1, .bool g.x.2.2.1, .int .i64 g.x.2.2.2, .bool g.hl, Q3] 52)) w.heap.size [P0, .int .i64 g.a, .int .i64 g.pc, P1, P2, .int .i64 g.t.1, .int .i64 g.t.2.1, .bool g.t.2.2, .int .i64 g.pd, .int .i64 g.x.1, .int .i64 g.x.2.1, .bool g.x.2.2.1, .int .i64 g.x.2.2.2, .bool g.hl, P3] := (Var.new w _ _).below ((Below.refl _ _).alloc (Nat.le_refl _) _) (by simp)
  have b0 : Var ((w.alloc (.cells #[P0, .int .i64 g.a, .int .i64 g.pc, P1, P2, .int .i64 g.t.1, .int .i64 g.t.2.1, .bool g.t.2.2, .int .i64 g.pd, .int .i64 g.x.1, .int .i64 g.x.2.1, .bool g.x.2.2.1, .int .i64 g.x.2.2.2, .bool g.hl, P3] 52)).alloc (.cells #[Q0, .int .i64 g.a, .int .i64 g.pc, Q1, Q2, .int .i64 g.t.1, .int .i64 g.t.2.1, .bool g.t.2.2, .int .i64 g.pd, .int .i64 g.x.1, .int .i64 g.x.2.1, .bool g.x.2.2.1, .int .i64 g.x.2.2.2, .bool g.hl, Q3] 52)) (w.heap.size + 1) [Q0, .int .i64 g.a, .int .i64 g.pc, Q1, Q2, .int .i64 g.t.1, .int .i64 g.t.2.1, .bool g.t.2.2, .int .i64 g.pd, .int .i64 g.x.1, .int .i64 g.x.2.1, .bool g.x.2.2.1, .int .i64 g.x.2.2.2, .bool g.hl, Q3] := by
    have h := Var.new (w.alloc (.cells #[P0, .int .i64 g.a, .int .i64 g.pc, P1, P2, .int .i64 g.t.1, .int .i64 g.t.2.1, .bool g.t.2.2, .int .i64 g.pd, .int .i64 g.x.1, .int .i64 g.x.2.1, .bool g.x.2.2.1, .int .i64 g.x.2.2.2, .bool g.hl, P3] 52)) [Q0, .int .i64 g.a, .int .i64 g.pc, Q1, Q2, .int .i64 g.t.1, .int .i64 g.t.2.1, .bool g.t.2.2, .int .i64 g.pd, .int .i64 g.x.1, .int .i64 g.x.2.1, .bool g.x.2.2.1, .int .i64 g.x.2.2.2, .bool g.hl, Q3] 52
    rwa [show (w.alloc (.cells #[P0, .int .i64 g.a, .int .i64 g.pc, P1, P2, .int .i64 g.t.1, .int .i64 g.t.2.1, .bool g.t.2.2, .int .i64 g.pd, .int .i64 g.x.1, .int .i64 g.x.2.1, .bool g.x.2.2.1, .int .i64 g.x.2.2.2, .bool g.hl, P3] 52)).heap.size = w.heap.size + 1 by simp] at h
  have hb0 : Below w.heap.size w ((w.alloc (.cells #[P0, .int .i64 g.a, .int .i64 g.pc, P1, P2, .int .i64 g.t.1, .int .i64 g.t.2.1, .bool g.t.2.2, .int .i64 g.pd, .int .i64 g.x.1, .int .i64 g.x.2.1, .bool g.x.2.2.1, .int .i64 g.x.2.2.2, .bool g.hl, P3] 52)).alloc (.cells #[Q0, .int .i64 g.a, .int .i64 g.pc, Q1, Q2, .int .i64 g.t.1, .int .i64 g.t.2.1, .bool g.t.2.2, .int .i64 g.pd, .int .i64 g.x.1, .int .i64 g.x.2.1, .bool g.x.2.2.1, .int .i64 g.x.2.2.2, .bool g.hl, Q3] 52)) := ((Below.refl _ _).alloc (Nat.le_refl _) _).alloc (by simp) _
  have H1 := Lib.hid h
  have H2 := Lib.hid h'
  clear h h'
  go_enter Try.func38, Try.ntmps38
  go_wp2_with fail
  generalize ((w.alloc (.cells #[P0, .int .i64 g.a, .int .i64 g.pc, P1, P2, .int .i64 g.t.1, .int .i64 g.t.2.1, .bool g.t.2.2, .int .i64 g.pd, .int .i64 g.x.1, .int .i64 g.x.2.1, .bool g.x.2.2.1, .int .i64 g.x.2.2.2, .bool g.hl, P3] 52)).alloc (.cells #[Q0, .int .i64 g.a, .int .i64 g.pc, Q1, Q2, .int .i64 g.t.1, .int .i64 g.t.2.1, .bool g.t.2.2, .int .i64 g.pd, .int .i64 g.x.1, .int .i64 g.x.2.1, .bool g.x.2.2.1, .int .i64 g.x.2.2.2, .bool g.hl, Q3] 52)) = W0 at a0 b0 hb0 ⊢
  have hs0 := hb0.size
  refine (eqJ lo hi lo' hi' P0 Q0 g.prog W0 hn0 (by omega) (by omega) (H1.out.r0.below hb0 hh) (H2.out.r0.below hb0 hh')).mono ?_
  rintro e w0 ⟨rfl, hbb⟩
  have hb1 := hb0.trans (hbb.mono hb0.size)
  have hs1 := hb1.size
  have a1 := a0.below hbb (by have := b0.2; omega)
  have b1 := b0.below hbb (by have := b0.2; omega)
  clear hbb a0 b0 hb0
  have ya0 := a1.cell 0 (v := P0) rfl
  have yb0 := b1.cell 0 (v := Q0) rfl
  have ya1 := a1.cell 1 (v := .int .i64 g.a) rfl
  have yb1 := b1.cell 1 (v := .int .i64 g.a) rfl
  have ya2 := a1.cell 2 (v := .int .i64 g.pc) rfl
  have yb2 := b1.cell 2 (v := .int .i64 g.pc) rfl
  have ya3 := a1.cell 3 (v := P1) rfl
  have yb3 := b1.cell 3 (v := Q1) rfl
  go_wp2_with fail
  clear ya0 yb0 ya1 yb1 ya2 yb2 ya3 yb3
  refine (eqS lo hi lo' hi' P1 Q1 g.wr w0 hn1 (by omega) (by omega) (H1.out.r1.below hb1 hh) (H2.out.r1.below hb1 hh')).mono ?_
  rintro e w1 ⟨rfl, hbb⟩
  have hb2 := hb1.trans (hbb.mono hb1.size)
  have hs2 := hb2.size
  have a2 := a1.below hbb (by have := b1.2; omega)
  have b2 := b1.below hbb (by have := b1.2; omega)
  clear hbb a1 b1 hb1
  have ya3 := a2.cell 3 (v := P1) rfl
  have yb3 := b2.cell 3 (v := Q1) rfl
  have ya4 := a2.cell 4 (v := P2) rfl
  have yb4 := b2.cell 4 (v := Q2) rfl
  go_wp2_with fail
  clear ya3 yb3 ya4 yb4
  refine (eqS lo hi lo' hi' P2 Q2 g.lv w1 hn2 (by omega) (by omega) (H1.out.r2.below hb2 hh) (H2.out.r2.below hb2 hh')).mono ?_
  rintro e w2 ⟨rfl, hbb⟩
  have hb3 := hb2.trans (hbb.mono hb2.size)
  have hs3 := hb3.size
  have a3 := a2.below hbb (by have := b2.2; omega)
  have b3 := b2.below hbb (by have := b2.2; omega)
  clear hbb a2 b2 hb2
  have ya4 := a3.cell 4 (v := P2) rfl
  have yb4 := b3.cell 4 (v := Q2) rfl
  have ya5 := a3.cell 5 (v := .int .i64 g.t.1) rfl
  have yb5 := b3.cell 5 (v := .int .i64 g.t.1) rfl
  have ya6 := a3.cell 6 (v := .int .i64 g.t.2.1) rfl
  have yb6 := b3.cell 6 (v := .int .i64 g.t.2.1) rfl
  have ya7 := a3.cell 7 (v := .bool g.t.2.2) rfl
  have yb7 := b3.cell 7 (v := .bool g.t.2.2) rfl
  go_wp2_with fail
  clear ya4 yb4 ya5 yb5 ya6 yb6 ya7 yb7
  refine (eqCtl_same g.t.1 g.t.2.1 g.t.2.2 w2).mono ?_
  rintro e w3 ⟨rfl, hbb⟩
  have hb4 := hb3.trans (hbb.mono hb3.size)
  have hs4 := hb4.size
  have a4 := a3.below hbb (by have := b3.2; omega)
  have b4 := b3.below hbb (by have := b3.2; omega)
  clear hbb a3 b3 hb3
  have ya5 := a4.cell 5 (v := .int .i64 g.t.1) rfl
  have yb5 := b4.cell 5 (v := .int .i64 g.t.1) rfl
  have ya6 := a4.cell 6 (v := .int .i64 g.t.2.1) rfl
  have yb6 := b4.cell 6 (v := .int .i64 g.t.2.1) rfl
  have ya7 := a4.cell 7 (v := .bool g.t.2.2) rfl
  have yb7 := b4.cell 7 (v := .bool g.t.2.2) rfl
  have ya8 := a4.cell 8 (v := .int .i64 g.pd) rfl
  have yb8 := b4.cell 8 (v := .int .i64 g.pd) rfl
  have ya9 := a4.cell 9 (v := .int .i64 g.x.1) rfl
  have yb9 := b4.cell 9 (v := .int .i64 g.x.1) rfl
  have ya10 := a4.cell 10 (v := .int .i64 g.x.2.1) rfl
  have yb10 := b4.cell 10 (v := .int .i64 g.x.2.1) rfl
  have ya11 := a4.cell 11 (v := .bool g.x.2.2.1) rfl
  have yb11 := b4.cell 11 (v := .bool g.x.2.2.1) rfl
  have ya12 := a4.cell 12 (v := .int .i64 g.x.2.2.2) rfl
  have yb12 := b4.cell 12 (v := .int .i64 g.x.2.2.2) rfl
  go_wp2_with fail
  clear ya5 yb5 ya6 yb6 ya7 yb7 ya8 yb8 ya9 yb9 ya10 yb10 ya11 yb11 ya12 yb12
  refine (eqExit_same g.x.1 g.x.2.1 g.x.2.2.1 g.x.2.2.2 w3).mono ?_
  rintro e w4 ⟨rfl, hbb⟩
  have hb5 := hb4.trans (hbb.mono hb4.size)
  have hs5 := hb5.size
  have a5 := a4.below hbb (by have := b4.2; omega)
  have b5 := b4.below hbb (by have := b4.2; omega)
  clear hbb a4 b4 hb4
  have ya9 := a5.cell 9 (v := .int .i64 g.x.1) rfl
  have yb9 := b5.cell 9 (v := .int .i64 g.x.1) rfl
  have ya10 := a5.cell 10 (v := .int .i64 g.x.2.1) rfl
  have yb10 := b5.cell 10 (v := .int .i64 g.x.2.1) rfl
  have ya11 := a5.cell 11 (v := .bool g.x.2.2.1) rfl
  have yb11 := b5.cell 11 (v := .bool g.x.2.2.1) rfl
  have ya12 := a5.cell 12 (v := .int .i64 g.x.2.2.2) rfl
  have yb12 := b5.cell 12 (v := .int .i64 g.x.2.2.2) rfl
  have ya13 := a5.cell 13 (v := .bool g.hl) rfl
  have yb13 := b5.cell 13 (v := .bool g.hl) rfl
  have ya14 := a5.cell 14 (v := P3) rfl
  have yb14 := b5.cell 14 (v := Q3) rfl
  go_wp2_with fail
  clear ya9 yb9 ya10 yb10 ya11 yb11 ya12 yb12 ya13 yb13 ya14 yb14
  refine (eqN lo hi lo' hi' P3 Q3 g.seen w4 hn3 (by omega) (by omega) (H1.out.r3.below hb5 hh) (H2.out.r3.below hb5 hh')).mono ?_
  rintro e w5 ⟨rfl, hbb⟩
  have hb6 := hb5.trans (hbb.mono hb5.size)
  have hs6 := hb6.size
  have a6 := a5.below hbb (by have := b5.2; omega)
  have b6 := b5.below hbb (by have := b5.2; omega)
  clear hbb a5 b5 hb5
  have ya14 := a6.cell 14 (v := P3) rfl
  have yb14 := b6.cell 14 (v := Q3) rfl
  have HZ := Lib.hid hb6
  go_wp2_with fail
  clear ya14 yb14
  go_ret
  exact ⟨rfl, HZ.out⟩

/-- The value with its slices' numbers marked from k on. -/
def gmark (k : Nat) (g : gT) : gT := { g with prog := jmarks k g.prog.length, wr := smarks (k + 2 * g.prog.length) g.wr.length, lv := smarks ((k + 2 * g.prog.length) + 2 * g.wr.length) g.lv.length, seen := nmarks (((k + 2 * g.prog.length) + 2 * g.wr.length) + 2 * g.lv.length) g.seen.length }
def gcnt (g : gT) : Nat := 2 * g.prog.length + 2 * g.wr.length + 2 * g.lv.length + g.seen.length

set_option maxRecDepth 100000 in
set_option maxHeartbeats 8000000 in
theorem szGuest_yes (lo hi : Nat) (g : gT) (P0 P1 P2 P3 : Value) (left : Int) (w : World) (hk1 : left ≤ 1048576) (h1 : (gsize g : Int) ≤ left) (hh : hi ≤ w.heap.size) (h : gR w lo hi g P0 P1 P2 P3) :
    Calls Try.prog 34 #[.agg #[P0, .int .i64 g.a, .int .i64 g.pc, P1, P2, .int .i64 g.t.1, .int .i64 g.t.2.1, .bool g.t.2.2, .int .i64 g.pd, .int .i64 g.x.1, .int .i64 g.x.2.1, .bool g.x.2.2.1, .int .i64 g.x.2.2.2, .bool g.hl, P3], .int .i64 left] w fun e w' => e = .returned (.int .i64 (left - (gsize g : Int))) ∧ Below w.heap.size w w' := by
  unfold gsize at h1 ⊢
  have hb0 : Below w.heap.size w (w.alloc (.cells #[P0, .int .i64 g.a, .int .i64 g.pc, P1, P2, .int .i64 g.t.1, .int .i64 g.t.2.1, .bool g.t.2.2, .int .i64 g.pd, .int .i64 g.x.1, .int .i64 g.x.2.1, .bool g.x.2.2.1, .int .i64 g.x.2.2.2, .bool g.hl, P3] 67)) := (Below.refl _ _).alloc (Nat.le_refl _) _
  have a0 : Var (w.alloc (.cells #[P0, .int .i64 g.a, .int .i64 g.pc, P1, P2, .int .i64 g.t.1, .int .i64 g.t.2.1, .bool g.t.2.2, .int .i64 g.pd, .int .i64 g.x.1, .int .i64 g.x.2.1, .bool g.x.2.2.1, .int .i64 g.x.2.2.2, .bool g.hl, P3] 67)) w.heap.size [P0, .int .i64 g.a, .int .i64 g.pc, P1, P2, .int .i64 g.t.1, .int .i64 g.t.2.1, .bool g.t.2.2, .int .i64 g.pd, .int .i64 g.x.1, .int .i64 g.x.2.1, .bool g.x.2.2.1, .int .i64 g.x.2.2.2, .bool g.hl, P3] := Var.new w _ _
  have H := Lib.hid (h.below hb0 hh)
  have HB := Lib.hid hb0
  clear h hb0
  obtain ⟨n0, hn0⟩ : ∃ n, g.prog.length = n := ⟨_, rfl⟩
  obtain ⟨n1, hn1⟩ : ∃ n, g.wr.length = n := ⟨_, rfl⟩
  obtain ⟨n2, hn2⟩ : ∃ n, g.lv.length = n := ⟨_, rfl⟩
  obtain ⟨n3, hn3⟩ : ∃ n, g.seen.length = n := ⟨_, rfl⟩
  rw [hn0, hn1, hn2, hn3] at h1 ⊢
  have hq0 : ¬ (left - (n0 : Int)) < 0 := by omega
  have hq1 : ¬ ((left - (n0 : Int)) - (n1 : Int)) < 0 := by omega
  have hq2 : ¬ (((left - (n0 : Int)) - (n1 : Int)) - (n2 : Int)) < 0 := by omega
  have hq3 : ¬ ((((left - (n0 : Int)) - (n1 : Int)) - (n2 : Int)) - (n3 : Int)) < 0 := by omega
  go_enter Try.func34, Try.ntmps34
  go_wp2_with fail
  generalize (w.alloc (.cells #[P0, .int .i64 g.a, .int .i64 g.pc, P1, P2, .int .i64 g.t.1, .int .i64 g.t.2.1, .bool g.t.2.2, .int .i64 g.pd, .int .i64 g.x.1, .int .i64 g.x.2.1, .bool g.x.2.2.1, .int .i64 g.x.2.2.2, .bool g.hl, P3] 67)) = W0 at a0 H HB ⊢
  refine (szYesJ lo hi n0 P0 _ left W0 (by omega) (by have h := H.out.r0; rw [hn0] at h; exact h) (by omega)).mono ?_
  rintro e w' ⟨rfl, rfl⟩
  have ya := a0.cell 3 (v := P1) rfl
  go_wp2_with fail
  clear ya
  refine (szYesS lo hi n1 P1 _ (left - (n0 : Int)) W0 (by omega) (by have h := H.out.r1; rw [hn1] at h; exact h) (by omega)).mono ?_
  rintro e w' ⟨rfl, rfl⟩
  have ya := a0.cell 4 (v := P2) rfl
  go_wp2_with fail
  clear ya
  refine (szYesS lo hi n2 P2 _ ((left - (n0 : Int)) - (n1 : Int)) W0 (by omega) (by have h := H.out.r2; rw [hn2] at h; exact h) (by omega)).mono ?_
  rintro e w' ⟨rfl, rfl⟩
  have ya := a0.cell 14 (v := P3) rfl
  go_wp2_with fail
  clear ya
  refine (szYesN lo hi n3 P3 _ (((left - (n0 : Int)) - (n1 : Int)) - (n2 : Int)) W0 (by omega) (by have h := H.out.r3; rw [hn3] at h; exact h) (by omega)).mono ?_
  rintro e w' ⟨rfl, rfl⟩
  go_wp2_with fail
  go_ret
  exact ⟨by rw [show left - ((n0 + n1 + n2 + n3 : Nat) : Int) = ((((left - (n0 : Int)) - (n1 : Int)) - (n2 : Int)) - (n3 : Int)) by omega]; rfl, HB.out⟩

set_option maxRecDepth 100000 in
set_option maxHeartbeats 8000000 in
theorem szGuest_no (lo hi : Nat) (g : gT) (P0 P1 P2 P3 : Value) (left : Int) (w : World) (hk1 : left ≤ 1048576) (hk0 : 0 ≤ left) (hm0 : g.prog.length ≤ 9223372036854775807) (hm1 : g.wr.length ≤ 9223372036854775807) (hm2 : g.lv.length ≤ 9223372036854775807) (hm3 : g.seen.length ≤ 9223372036854775807) (h1 : left < (gsize g : Int)) (hh : hi ≤ w.heap.size) (h : gR w lo hi g P0 P1 P2 P3) :
    Calls Try.prog 34 #[.agg #[P0, .int .i64 g.a, .int .i64 g.pc, P1, P2, .int .i64 g.t.1, .int .i64 g.t.2.1, .bool g.t.2.2, .int .i64 g.pd, .int .i64 g.x.1, .int .i64 g.x.2.1, .bool g.x.2.2.1, .int .i64 g.x.2.2.2, .bool g.hl, P3], .int .i64 left] w fun e w' => e = .returned (.int .i64 (-1)) ∧ Below w.heap.size w w' := by
  unfold gsize at h1
  have hb0 : Below w.heap.size w (w.alloc (.cells #[P0, .int .i64 g.a, .int .i64 g.pc, P1, P2, .int .i64 g.t.1, .int .i64 g.t.2.1, .bool g.t.2.2, .int .i64 g.pd, .int .i64 g.x.1, .int .i64 g.x.2.1, .bool g.x.2.2.1, .int .i64 g.x.2.2.2, .bool g.hl, P3] 67)) := (Below.refl _ _).alloc (Nat.le_refl _) _
  have a0 : Var (w.alloc (.cells #[P0, .int .i64 g.a, .int .i64 g.pc, P1, P2, .int .i64 g.t.1, .int .i64 g.t.2.1, .bool g.t.2.2, .int .i64 g.pd, .int .i64 g.x.1, .int .i64 g.x.2.1, .bool g.x.2.2.1, .int .i64 g.x.2.2.2, .bool g.hl, P3] 67)) w.heap.size [P0, .int .i64 g.a, .int .i64 g.pc, P1, P2, .int .i64 g.t.1, .int .i64 g.t.2.1, .bool g.t.2.2, .int .i64 g.pd, .int .i64 g.x.1, .int .i64 g.x.2.1, .bool g.x.2.2.1, .int .i64 g.x.2.2.2, .bool g.hl, P3] := Var.new w _ _
  have H := Lib.hid (h.below hb0 hh)
  have HB := Lib.hid hb0
  clear h hb0
  obtain ⟨n0, hn0⟩ : ∃ n, g.prog.length = n := ⟨_, rfl⟩
  obtain ⟨n1, hn1⟩ : ∃ n, g.wr.length = n := ⟨_, rfl⟩
  obtain ⟨n2, hn2⟩ : ∃ n, g.lv.length = n := ⟨_, rfl⟩
  obtain ⟨n3, hn3⟩ : ∃ n, g.seen.length = n := ⟨_, rfl⟩
  rw [hn0, hn1, hn2, hn3] at h1
  skip
  rw [hn0] at hm0
  rw [hn1] at hm1
  rw [hn2] at hm2
  rw [hn3] at hm3
  by_cases hx0 : left < (n0 : Int)
  · skip
    go_enter Try.func34, Try.ntmps34
    go_wp2_with fail
    generalize (w.alloc (.cells #[P0, .int .i64 g.a, .int .i64 g.pc, P1, P2, .int .i64 g.t.1, .int .i64 g.t.2.1, .bool g.t.2.2, .int .i64 g.pd, .int .i64 g.x.1, .int .i64 g.x.2.1, .bool g.x.2.2.1, .int .i64 g.x.2.2.2, .bool g.hl, P3] 67)) = W0 at a0 H HB ⊢
    refine (szNoJ lo hi n0 P0 _ left W0 (by omega) (by omega) hm0 (by have h := H.out.r0; rw [hn0] at h; exact h) (by omega)).mono ?_
    rintro e w' ⟨rfl, rfl⟩
    have ya := a0.cell 3 (v := P1) rfl
    go_wp2_with fail
    clear ya
    go_ret
    exact ⟨rfl, HB.out⟩
  · skip
    by_cases hx1 : (left - (n0 : Int)) < (n1 : Int)
    · skip
      have hq0 : ¬ (left - (n0 : Int)) < 0 := by omega
      go_enter Try.func34, Try.ntmps34
      go_wp2_with fail
      generalize (w.alloc (.cells #[P0, .int .i64 g.a, .int .i64 g.pc, P1, P2, .int .i64 g.t.1, .int .i64 g.t.2.1, .bool g.t.2.2, .int .i64 g.pd, .int .i64 g.x.1, .int .i64 g.x.2.1, .bool g.x.2.2.1, .int .i64 g.x.2.2.2, .bool g.hl, P3] 67)) = W0 at a0 H HB ⊢
      refine (szYesJ lo hi n0 P0 _ left W0 (by omega) (by have h := H.out.r0; rw [hn0] at h; exact h) (by omega)).mono ?_
      rintro e w' ⟨rfl, rfl⟩
      have ya := a0.cell 3 (v := P1) rfl
      go_wp2_with fail
      clear ya
      refine (szNoS lo hi n1 P1 _ (left - (n0 : Int)) W0 (by omega) (by omega) hm1 (by have h := H.out.r1; rw [hn1] at h; exact h) (by omega)).mono ?_
      rintro e w' ⟨rfl, rfl⟩
      have ya := a0.cell 4 (v := P2) rfl
      go_wp2_with fail
      clear ya
      go_ret
      exact ⟨rfl, HB.out⟩
    · skip
      by_cases hx2 : ((left - (n0 : Int)) - (n1 : Int)) < (n2 : Int)
      · skip
        have hq0 : ¬ (left - (n0 : Int)) < 0 := by omega
        have hq1 : ¬ ((left - (n0 : Int)) - (n1 : Int)) < 0 := by omega
        go_enter Try.func34, Try.ntmps34
        go_wp2_with fail
        generalize (w.alloc (.cells #[P0, .int .i64 g.a, .int .i64 g.pc, P1, P2, .int .i64 g.t.1, .int .i64 g.t.2.1, .bool g.t.2.2, .int .i64 g.pd, .int .i64 g.x.1, .int .i64 g.x.2.1, .bool g.x.2.2.1, .int .i64 g.x.2.2.2, .bool g.hl, P3] 67)) = W0 at a0 H HB ⊢
        refine (szYesJ lo hi n0 P0 _ left W0 (by omega) (by have h := H.out.r0; rw [hn0] at h; exact h) (by omega)).mono ?_
        rintro e w' ⟨rfl, rfl⟩
        have ya := a0.cell 3 (v := P1) rfl
        go_wp2_with fail
        clear ya
        refine (szYesS lo hi n1 P1 _ (left - (n0 : Int)) W0 (by omega) (by have h := H.out.r1; rw [hn1] at h; exact h) (by omega)).mono ?_
        rintro e w' ⟨rfl, rfl⟩
        have ya := a0.cell 4 (v := P2) rfl
        go_wp2_with fail
        clear ya
        refine (szNoS lo hi n2 P2 _ ((left - (n0 : Int)) - (n1 : Int)) W0 (by omega) (by omega) hm2 (by have h := H.out.r2; rw [hn2] at h; exact h) (by omega)).mono ?_
        rintro e w' ⟨rfl, rfl⟩
        have ya := a0.cell 14 (v := P3) rfl
        go_wp2_with fail
        clear ya
        go_ret
        exact ⟨rfl, HB.out⟩
      · skip
        have hq0 : ¬ (left - (n0 : Int)) < 0 := by omega
        have hq1 : ¬ ((left - (n0 : Int)) - (n1 : Int)) < 0 := by omega
        have hq2 : ¬ (((left - (n0 : Int)) - (n1 : Int)) - (n2 : Int)) < 0 := by omega
        go_enter Try.func34, Try.ntmps34
        go_wp2_with fail
        generalize (w.alloc (.cells #[P0, .int .i64 g.a, .int .i64 g.pc, P1, P2, .int .i64 g.t.1, .int .i64 g.t.2.1, .bool g.t.2.2, .int .i64 g.pd, .int .i64 g.x.1, .int .i64 g.x.2.1, .bool g.x.2.2.1, .int .i64 g.x.2.2.2, .bool g.hl, P3] 67)) = W0 at a0 H HB ⊢
        refine (szYesJ lo hi n0 P0 _ left W0 (by omega) (by have h := H.out.r0; rw [hn0] at h; exact h) (by omega)).mono ?_
        rintro e w' ⟨rfl, rfl⟩
        have ya := a0.cell 3 (v := P1) rfl
        go_wp2_with fail
        clear ya
        refine (szYesS lo hi n1 P1 _ (left - (n0 : Int)) W0 (by omega) (by have h := H.out.r1; rw [hn1] at h; exact h) (by omega)).mono ?_
        rintro e w' ⟨rfl, rfl⟩
        have ya := a0.cell 4 (v := P2) rfl
        go_wp2_with fail
        clear ya
        refine (szYesS lo hi n2 P2 _ ((left - (n0 : Int)) - (n1 : Int)) W0 (by omega) (by have h := H.out.r2; rw [hn2] at h; exact h) (by omega)).mono ?_
        rintro e w' ⟨rfl, rfl⟩
        have ya := a0.cell 14 (v := P3) rfl
        go_wp2_with fail
        clear ya
        refine (szNoN lo hi n3 P3 _ (((left - (n0 : Int)) - (n1 : Int)) - (n2 : Int)) W0 (by omega) (by omega) hm3 (by have h := H.out.r3; rw [hn3] at h; exact h) (by omega)).mono ?_
        rintro e w' ⟨rfl, rfl⟩
        go_wp2_with fail
        go_ret
        exact ⟨rfl, HB.out⟩

/-! ### An argument opened -/
def rSlP : Rp Sl := rPair rInt rInt
def rTabP : Rp (List Sl) := rList rSlP
def rIntsP : Rp (List Int) := rList rInt
section
variable {w : World} {lo hi : Nat}
theorem slotsP_cells : ∀ {l : List Sl} {ds : List Value}, rdAll rSlP w lo hi l ds → ds = scells l
  | [], ds, h => h
  | s :: l, ds, h => by
    obtain ⟨c1, c2, rfl, ⟨a, b, rfl, ha, hb⟩, h2⟩ := h
    rw [show a = _ from ha, show b = _ from hb, slotsP_cells h2]
    rfl
theorem intsP_cells : ∀ {l : List Int} {ds : List Value}, rdAll rInt w lo hi l ds → ds = ncells l
  | [], ds, h => h
  | s :: l, ds, h => by
    obtain ⟨c1, c2, rfl, h1, h2⟩ := h
    rw [show c1 = _ from h1, intsP_cells h2]
    rfl
theorem inssP_rd {l : List JT} {cs : List Value} (h : rInss.rd w lo hi l cs) : ∃ P, cs = [P] ∧ SR w lo hi (jcells l) l.length P := by
  obtain ⟨A, c, ds, e, h1, h2⟩ := h
  exact ⟨_, e, A, c, rfl, jall_cells h1 ▸ h2⟩
theorem tabP_rd {l : List Sl} {cs : List Value} (h : rTabP.rd w lo hi l cs) : ∃ P, cs = [P] ∧ SR w lo hi (scells l) l.length P := by
  obtain ⟨A, c, ds, e, h1, h2⟩ := h
  exact ⟨_, e, A, c, rfl, slotsP_cells h1 ▸ h2⟩
theorem intsP_rd {l : List Int} {cs : List Value} (h : rIntsP.rd w lo hi l cs) : ∃ P, cs = [P] ∧ SR w lo hi (ncells l) l.length P := by
  obtain ⟨A, c, ds, e, h1, h2⟩ := h
  exact ⟨_, e, A, c, rfl, intsP_cells h1 ▸ h2⟩
end
theorem opens_slotsP : Opens Try.prog rTabP 63 :=
  opens_list (by decide) Try.underlying63 (by kernel_rfl) (opens_struct Try.underlying98 (by kernel_rfl) (fields_cons (opens_int Try.underlying3) rfl (by kernel_rfl) (fields_one (opens_int Try.underlying3) rfl (by kernel_rfl))))
theorem opens_intsP : Opens Try.prog rIntsP 24 := opens_list (by decide) Try.underlying24 (by kernel_rfl) (opens_int Try.underlying3)
abbrev gN := List JT × Int × Int × List Sl × List Sl × CT × Int × QT × Bool × List Int
def rGuest : Rp gN := (rPair rInss (rPair rInt (rPair rInt (rPair rTabP (rPair rTabP (rPair rCtl (rPair rInt (rPair rExit (rPair rBool rIntsP)))))))))
def gof (k : gN) : gT := ⟨k.1, k.2.1, k.2.2.1, k.2.2.2.1, k.2.2.2.2.1, k.2.2.2.2.2.1, k.2.2.2.2.2.2.1, k.2.2.2.2.2.2.2.1, k.2.2.2.2.2.2.2.2.1, k.2.2.2.2.2.2.2.2.2⟩
theorem opens_Guest : Opens Try.prog rGuest 67 :=
  opens_struct Try.underlying67 (by kernel_rfl) (fields_cons opens_insts rfl (by kernel_rfl) (fields_cons (opens_int Try.underlying3) rfl (by kernel_rfl) (fields_cons (opens_int Try.underlying3) rfl (by kernel_rfl) (fields_cons opens_slotsP rfl (by kernel_rfl) (fields_cons opens_slotsP rfl (by kernel_rfl) (fields_cons opens_ctl rfl (by kernel_rfl) (fields_cons (opens_int Try.underlying3) rfl (by kernel_rfl) (fields_cons opens_exit rfl (by kernel_rfl) (fields_cons (opens_bool Try.underlying4) rfl (by kernel_rfl) (fields_one opens_intsP rfl (by kernel_rfl)))))))))))
theorem Guest_rd {w : World} {lo hi : Nat} {k : gN} {cs : List Value} (h : rGuest.rd w lo hi k cs) : ∃ P0 P1 P2 P3, cs = gV (gof k) P0 P1 P2 P3 ∧ gR w lo hi (gof k) P0 P1 P2 P3 := by
  obtain ⟨c0, s0, rfl, h0, g0⟩ := h
  obtain ⟨P0, rfl, p0⟩ := inssP_rd h0
  obtain ⟨c1, s1, rfl, h1, g1⟩ := g0
  obtain rfl := show _ = _ from h1
  obtain ⟨c2, s2, rfl, h2, g2⟩ := g1
  obtain rfl := show _ = _ from h2
  obtain ⟨c3, s3, rfl, h3, g3⟩ := g2
  obtain ⟨P1, rfl, p1⟩ := tabP_rd h3
  obtain ⟨c4, s4, rfl, h4, g4⟩ := g3
  obtain ⟨P2, rfl, p2⟩ := tabP_rd h4
  obtain ⟨c5, s5, rfl, h5, g5⟩ := g4
  obtain ⟨u50, v50, rfl, x50, y50⟩ := h5
  obtain rfl := show _ = _ from x50
  obtain ⟨u51, v51, rfl, x51, y51⟩ := y50
  obtain rfl := show _ = _ from x51
  obtain rfl := show _ = _ from y51
  obtain ⟨c6, s6, rfl, h6, g6⟩ := g5
  obtain rfl := show _ = _ from h6
  obtain ⟨c7, s7, rfl, h7, g7⟩ := g6
  obtain ⟨u70, v70, rfl, x70, y70⟩ := h7
  obtain rfl := show _ = _ from x70
  obtain ⟨u71, v71, rfl, x71, y71⟩ := y70
  obtain rfl := show _ = _ from x71
  obtain ⟨u72, v72, rfl, x72, y72⟩ := y71
  obtain rfl := show _ = _ from x72
  obtain rfl := show _ = _ from y72
  obtain ⟨c8, s8, rfl, h8, g8⟩ := g7
  obtain rfl := show _ = _ from h8
  obtain ⟨P3, rfl, p3⟩ := intsP_rd g8
  exact ⟨P0, P1, P2, P3, rfl, p0, p1, p2, p3⟩
/-- Every number is of an int's range, every slice of a length that a machine holds. -/
def wfGuest (g : gT) : Prop := (g.prog.length ≤ 9223372036854775807 ∧ wfJL g.prog) ∧ (Lit.int .i64 g.a).wf = true ∧ (Lit.int .i64 g.pc).wf = true ∧ (g.wr.length ≤ 9223372036854775807 ∧ ∀ s ∈ g.wr, (Lit.int .i64 s.1).wf = true ∧ (Lit.int .i64 s.2).wf = true) ∧ (g.lv.length ≤ 9223372036854775807 ∧ ∀ s ∈ g.lv, (Lit.int .i64 s.1).wf = true ∧ (Lit.int .i64 s.2).wf = true) ∧ wfC g.t ∧ (Lit.int .i64 g.pd).wf = true ∧ wfQ g.x ∧ True ∧ (g.seen.length ≤ 9223372036854775807 ∧ ∀ s ∈ g.seen, (Lit.int .i64 s).wf = true)
section
variable {H : Type} {enc : TypeId × Value → H}
theorem open_Guest {W : World} {base : Nat} {v : Value} {d : DataW H} {p : List MemPlace} (hval : Value.okWide Try.prog W .any base 67 v) (h : DataW.Trod enc Try.prog W 0 (fun _ => true) true 67 v d p) :
    ∃ g P0 P1 P2 P3, v = .agg #[P0, .int .i64 g.a, .int .i64 g.pc, P1, P2, .int .i64 g.t.1, .int .i64 g.t.2.1, .bool g.t.2.2, .int .i64 g.pd, .int .i64 g.x.1, .int .i64 g.x.2.1, .bool g.x.2.2.1, .int .i64 g.x.2.2.2, .bool g.hl, P3] ∧ wfGuest g ∧ gR W 0 W.heap.size g P0 P1 P2 P3 := by
  obtain ⟨fuel, hf⟩ := h
  obtain ⟨k, hk, wk⟩ := opens_Guest H enc W fuel _ _ hf
  obtain ⟨P0, P1, P2, P3, hcs, hR⟩ := Guest_rd hk
  have hv : ∃ cs, v = .agg cs := by
    unfold Value.okWide at hval
    rw [Try.underlying67] at hval
    obtain ⟨cs, e, _⟩ := hval
    exact ⟨cs, e⟩
  obtain ⟨cs, rfl⟩ := hv
  simp [Value.cells] at hcs
  obtain ⟨q0, q1, q2, q3, q4, q5, q6, q7, q8, q9⟩ := wk
  have hlm : maxLen ≤ 9223372036854775807 := by decide
  refine ⟨gof k, P0, P1, P2, P3, ?_, ⟨⟨Nat.le_trans q0.1 hlm, fun s hs => q0.2 s hs⟩, q1, q2, ⟨Nat.le_trans q3.1 hlm, fun s hs => q3.2 s hs⟩, ⟨Nat.le_trans q4.1 hlm, fun s hs => q4.2 s hs⟩, q5, q6, q7, q8, ⟨Nat.le_trans q9.1 hlm, fun s hs => q9.2 s hs⟩⟩, hR⟩
  rw [← Array.toArray_toList (xs := cs), hcs]
  rfl
end
end Go.Proofs.Ytmiokacihcpepaa.Guests
