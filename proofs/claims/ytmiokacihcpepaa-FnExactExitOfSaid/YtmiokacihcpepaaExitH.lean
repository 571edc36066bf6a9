/-
  Contracts of the law package's helpers over Exit, a struct of ints and bools (equality, conversion), and such an argument opened; no statement about the project's code stands here. No condition.
-/
import Derived.Test.YtmiokacihcpepaaSlotArgs
import Derived.Test.YtmiokacihcpepaaDataO
namespace Go.Proofs.Ytmiokacihcpepaa.Exits
set_option maxRecDepth 100000
open Go.ChangeShapes Go.WideShapes Go.ChangeAt Go.RowKit
open Go.Proofs.Ytmiokacihcpepaa.Base Go.Proofs.Ytmiokacihcpepaa.Mem Go.Proofs.Ytmiokacihcpepaa.Data
set_option linter.unusedVariables false
set_option linter.unusedSimpArgs false

abbrev QT := Int × Int × Bool × Int
set_option maxHeartbeats 1000000 in
theorem eqExit_same (x0 : Int) (x1 : Int) (x2 : Bool) (x3 : Int) (w : World) :
    Calls Try.prog 19 #[.agg #[.int .i64 x0, .int .i64 x1, .bool x2, .int .i64 x3], .agg #[.int .i64 x0, .int .i64 x1, .bool x2, .int .i64 x3]] w fun e w' => e = .returned (.bool true) ∧ Below w.heap.size w w' := by
  go_enter Try.func19, Try.ntmps19
  go_wp2
  go_ret
  exact ⟨rfl, ((Below.refl _ _).alloc (Nat.le_refl _) _).alloc (by simp) _⟩

set_option maxHeartbeats 1000000 in
theorem toExit_any (x0 : Int) (x1 : Int) (x2 : Bool) (x3 : Int) (w : World) :
    Calls Try.prog 50 #[.agg #[.int .i64 x0, .int .i64 x1, .bool x2, .int .i64 x3]] w fun e w' => e = .returned (.agg #[.int .i64 x0, .int .i64 x1, .bool x2, .int .i64 x3]) ∧ Below w.heap.size w w' := by
  go_enter Try.func50, Try.ntmps50
  go_wp2
  exact bodyPost_ret (v := .agg #[.int .i64 x0, .int .i64 x1, .bool x2, .int .i64 x3]) (by simp [results, Try.results50, go_sem]) rfl ⟨rfl, (((Below.refl _ _).alloc (Nat.le_refl _) _).alloc (by simp) _).alloc (by simp; omega) _⟩

def wfQ (s : QT) : Prop := (Lit.int .i64 s.1).wf = true ∧ (Lit.int .i64 s.2.1).wf = true ∧ True ∧ (Lit.int .i64 s.2.2.2).wf = true
def rExit : Rp QT := rPair rInt (rPair rInt (rPair rBool rInt))
theorem boolCells' : Try.prog.cellsOf 4 = 1 := by kernel_rfl
theorem exitCells : Try.prog.cellsOf 65 = 4 := by kernel_rfl
theorem opens_exit : Opens Try.prog rExit 65 :=
  opens_struct Try.underlying65 exitCells (fields_cons (opens_int Try.underlying3) rfl Slots.intCells (fields_cons (opens_int Try.underlying3) rfl Slots.intCells (fields_cons (opens_bool Try.underlying4) rfl boolCells' (fields_one (opens_int Try.underlying3) rfl Slots.intCells))))
section
variable {H : Type} {enc : TypeId × Value → H} {w : World} {lo hi : Nat}
theorem qone_cells {s : QT} {cs : List Value} (h : rExit.rd w lo hi s cs) : cs = [.int .i64 s.1, .int .i64 s.2.1, .bool s.2.2.1, .int .i64 s.2.2.2] := by

  obtain ⟨a0, b0, rfl, h0, h⟩ := h
  rw [show a0 = _ from h0]
  obtain ⟨a1, b1, rfl, h1, h⟩ := h
  rw [show a1 = _ from h1]
  obtain ⟨a2, b2, rfl, h2, h⟩ := h
  rw [show a2 = _ from h2]
  rw [show b2 = _ from h]
  rfl
theorem open_exit {W : World} {base : Nat} {v : Value} {d : DataW H} {p : List MemPlace} (hval : Value.okWide Try.prog W .any base 65 v) (h : DataW.Trod enc Try.prog W 0 (fun _ => true) true 65 v d p) :
    ∃ x0 x1 x2 x3, v = .agg #[.int .i64 x0, .int .i64 x1, .bool x2, .int .i64 x3] ∧ wfQ (x0, x1, x2, x3) := by
  obtain ⟨fuel, hf⟩ := h
  obtain ⟨s, hs, wk⟩ := opens_exit H enc W fuel _ _ hf
  have hv : ∃ cs, v = .agg cs := by
    unfold Value.okWide at hval
    rw [Try.underlying65] at hval
    obtain ⟨cs, e, _⟩ := hval
    exact ⟨cs, e⟩
  obtain ⟨cs, rfl⟩ := hv
  have hcs := qone_cells hs
  simp [Value.cells] at hcs
  refine ⟨s.1, s.2.1, s.2.2.1, s.2.2.2, ?_, wk⟩
  rw [← Array.toArray_toList (xs := cs), hcs]
end
end Go.Proofs.Ytmiokacihcpepaa.Exits

