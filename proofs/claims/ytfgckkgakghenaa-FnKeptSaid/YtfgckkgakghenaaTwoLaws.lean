/-
  Words for the named laws of chapter 5: equal tables compared, a table of one slot. No condition beyond a table's length.
-/
import Derived.Test.YtfgckkgakghenaaSame
import Derived.Test.YtfgckkgakghenaaTwoSlot
import Derived.Test.YtfgckkgakghenaaTwoBelow
import Derived.WalkSmall
namespace Go.Proofs.Ytfgckkgakghenaa.Slots
set_option maxRecDepth 100000
open Go.ChangeShapes Go.WideShapes Go.ChangeAt Go.RowKit
open Go.Proofs.Ytfgckkgakghenaa.Base Go.Proofs.Ytfgckkgakghenaa.Mem Go.Proofs.Ytfgckkgakghenaa.Ints
set_option linter.unusedVariables false

theorem same_true (A B : Option Addr) (n c d lo lo' hi hi' : Nat) (l : List Sl) (w : World) (hn : n ≤ 1048576) (hl : l.length = n) (h1 : Lies w lo hi A (scells l)) (h2 : Lies w lo' hi' B (scells l)) :
    Calls Try.prog 45 #[.slice A n c, .slice B n d] w fun e w' => e = .returned (.bool true) ∧ Below w.heap.size w w' :=
  (law_same A B n n c d lo lo' hi hi' l l w hn hn hl hl h1 h2).mono fun e w' ⟨he, q, hw⟩ => ⟨by rw [he, decide_eq_true rfl], by rw [hw]; exact below_drewN (Below.refl _ _) q⟩
theorem lies_one {W : World} {b : Nat} {x y : Int} (h : Two W b (.int .i64 x) (.int .i64 y)) : Lies W 0 W.heap.size (some ⟨b, 0, none⟩) (scells [(x, y)]) := fun j u hu => by
  have hj := (List.getElem?_eq_some_iff.1 hu).1
  rw [scells_len] at hj
  simp at hj
  have hj' : j = 0 ∨ j = 1 := by omega
  rcases hj' with rfl | rfl
  · exact ⟨b, 0, rfl, Nat.zero_le _, h.2.2.2.2, by rw [h.1]; exact hu⟩
  · exact ⟨b, 0, rfl, Nat.zero_le _, h.2.2.2.2, by rw [h.2.1]; exact hu⟩
theorem wfL_one {x y : Int} (hx : (Lit.int .i64 x).wf = true) (hy : (Lit.int .i64 y).wf = true) : wfL [(x, y)] := fun s hs => by
  have : s = (x, y) := by simpa using hs
  rw [this]; exact ⟨hx, hy⟩
end Go.Proofs.Ytfgckkgakghenaa.Slots
