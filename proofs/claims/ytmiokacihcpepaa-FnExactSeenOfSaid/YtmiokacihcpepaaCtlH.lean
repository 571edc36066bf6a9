/-
  Contracts of the law package's helpers over Ctl, a struct of ints and bools (equality, conversion), and such an argument opened; no statement about the project's code stands here. No condition.
-/
import Derived.Test.YtmiokacihcpepaaSlotArgs
import Derived.Test.YtmiokacihcpepaaDataO
namespace Go.Proofs.Ytmiokacihcpepaa.Ctls
set_option maxRecDepth 100000
open Go.ChangeShapes Go.WideShapes Go.ChangeAt Go.RowKit
open Go.Proofs.Ytmiokacihcpepaa.Base Go.Proofs.Ytmiokacihcpepaa.Mem Go.Proofs.Ytmiokacihcpepaa.Data
set_option linter.unusedVariables false
set_option linter.unusedSimpArgs false

abbrev CT := Int × Int × Bool
set_option maxHeartbeats 1000000 in
theorem eqCtl_same (x0 : Int) (x1 : Int) (x2 : Bool) (w : World) :
    Calls Try.prog 53 #[.agg #[.int .i64 x0, .int .i64 x1, .bool x2], .agg #[.int .i64 x0, .int .i64 x1, .bool x2]] w fun e w' => e = .returned (.bool true) ∧ Below w.heap.size w w' := by
  go_enter Try.func53, Try.ntmps53
  go_wp2
  go_ret
  exact ⟨rfl, ((Below.refl _ _).alloc (Nat.le_refl _) _).alloc (by simp) _⟩

set_option maxHeartbeats 1000000 in
theorem toCtl_any (x0 : Int) (x1 : Int) (x2 : Bool) (w : World) :
    Calls Try.prog 49 #[.agg #[.int .i64 x0, .int .i64 x1, .bool x2]] w fun e w' => e = .returned (.agg #[.int .i64 x0, .int .i64 x1, .bool x2]) ∧ Below w.heap.size w w' := by
  go_enter Try.func49, Try.ntmps49
  go_wp2
  exact bodyPost_ret (v := .agg #[.int .i64 x0, .int .i64 x1, .bool x2]) (by simp [results, Try.results49, go_sem]) rfl ⟨rfl, (((Below.refl _ _).alloc (Nat.le_refl _) _).alloc (by simp) _).alloc (by simp; omega) _⟩

def wfC (s : CT) : Prop := (Lit.int .i64 s.1).wf = true ∧ (Lit.int .i64 s.2.1).wf = true ∧ True
def rCtl : Rp CT := rPair rInt (rPair rInt rBool)
theorem boolCells' : Try.prog.cellsOf 4 = 1 := by kernel_rfl
theorem ctlCells : Try.prog.cellsOf 64 = 3 := by kernel_rfl
theorem opens_ctl : Opens Try.prog rCtl 64 :=
  opens_struct Try.underlying64 ctlCells (fields_cons (opens_int Try.underlying3) rfl Slots.intCells (fields_cons (opens_int Try.underlying3) rfl Slots.intCells (fields_one (opens_bool Try.underlying4) rfl boolCells')))
section
variable {H : Type} {enc : TypeId × Value → H} {w : World} {lo hi : Nat}
theorem cone_cells {s : CT} {cs : List Value} (h : rCtl.rd w lo hi s cs) : cs = [.int .i64 s.1, .int .i64 s.2.1, .bool s.2.2] := by

  obtain ⟨a0, b0, rfl, h0, h⟩ := h
  rw [show a0 = _ from h0]
  obtain ⟨a1, b1, rfl, h1, h⟩ := h
  rw [show a1 = _ from h1]
  rw [show b1 = _ from h]
  rfl
theorem open_ctl {W : World} {base : Nat} {v : Value} {d : DataW H} {p : List MemPlace} (hval : Value.okWide Try.prog W .any base 64 v) (h : DataW.Trod enc Try.prog W 0 (fun _ => true) true 64 v d p) :
    ∃ x0 x1 x2, v = .agg #[.int .i64 x0, .int .i64 x1, .bool x2] ∧ wfC (x0, x1, x2) := by
  obtain ⟨fuel, hf⟩ := h
  obtain ⟨s, hs, wk⟩ := opens_ctl H enc W fuel _ _ hf
  have hv : ∃ cs, v = .agg cs := by
    unfold Value.okWide at hval
    rw [Try.underlying64] at hval
    obtain ⟨cs, e, _⟩ := hval
    exact ⟨cs, e⟩
  obtain ⟨cs, rfl⟩ := hv
  have hcs := cone_cells hs
  simp [Value.cells] at hcs
  refine ⟨s.1, s.2.1, s.2.2, ?_, wk⟩
  rw [← Array.toArray_toList (xs := cs), hcs]
end
end Go.Proofs.Ytmiokacihcpepaa.Ctls

