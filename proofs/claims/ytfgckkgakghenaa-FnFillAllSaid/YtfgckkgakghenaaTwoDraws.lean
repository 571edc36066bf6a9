/-
  The given model's draws of arguments for chapter 5's functions: tables and slots whose numbers are of an int's range, in new memory; no statement about the project's code stands here. No condition.
-/
import Derived.Test.YtfgckkgakghenaaSlotDraws
import Derived.Test.YtfgckkgakghenaaTwoSlot
namespace Go.Proofs.Ytfgckkgakghenaa.SDraw
set_option maxRecDepth 100000
open Go.ChangeShapes Go.WideShapes Go.ChangeAt Go.RowKit
open Go.Proofs.Ytfgckkgakghenaa.Base Go.Proofs.Ytfgckkgakghenaa.Mem Go.Proofs.Ytfgckkgakghenaa.Slots Go.Proofs.Ytfgckkgakghenaa.Draw
set_option linter.unusedVariables false

/-- Two tables of at most so many slots. -/
def TwoT (w : World) (sz sz' : Nat) (e : Ending) (w' : World) : Prop :=
  ∃ ad m cap l ad' m' cap' l', e = .returned (.tuple #[.slice (some ad) m cap, .slice (some ad') m' cap']) ∧ Tab w' w.heap.size sz ad m l ∧ Tab w' w.heap.size sz' ad' m' l' ∧ Below w.heap.size w w'
def SlotTabP (w : World) (sz : Nat) (e : Ending) (w' : World) : Prop :=
  ∃ x y ad m cap l, e = .returned (.tuple #[.agg #[.int .i64 x, .int .i64 y], .slice (some ad) m cap]) ∧ wfS (x, y) ∧ Tab w' w.heap.size sz ad m l ∧ Below w.heap.size w w'
def TwoSlots (w : World) (e : Ending) (w' : World) : Prop :=
  ∃ x y x' y', e = .returned (.tuple #[.agg #[.int .i64 x, .int .i64 y], .agg #[.int .i64 x', .int .i64 y']]) ∧ wfS (x, y) ∧ wfS (x', y') ∧ Below w.heap.size w w'
theorem cur_drew {w0 w : World} {A : Option Addr} {n c g : Nat} (h : Cur w0 A n c w g) : Cur w0 A n c w.drew g := ⟨h.1.drew, h.2⟩

set_option maxHeartbeats 2000000 in
theorem drawCompose_any (A : Option Addr) (n c : Nat) (w : World) (hn : n ≤ 1048576) (hcode : CodeAt w A n) :
    Calls Try.prog 44 #[.slice A n c] w (TwoT w 4 8) := by
  have HC := Lib.hid hcode
  clear hcode
  go_enter Try.func44, Try.ntmps44
  go_wp2_with fail
  refine (new_any A n c _ hn HC.out).mono ?_
  rintro e w0 ⟨rfl, hcur, hsz0⟩
  clear hsz0
  have HU := Lib.hid hcur
  have hs := hcur.lt
  clear hcur
  go_wp2_with fail
  refine (anyTable_any w A n c _ 4 _ 8 (by omega) (by omega) (by omega) (by omega) hn HC.out HU.out).mono ?_
  rintro e w1 ⟨ad, m, cap, l, rfl, hm, hl, hwf, hli, hc1, hg1⟩
  have HT := Lib.hid (show Tab w1 w0.heap.size 4 ad m l from ⟨hm, hl, hwf, hli⟩)
  have HU1 := Lib.hid hc1
  clear hm hl hwf hli HU
  have hsw : w.heap.size ≤ w1.heap.size := hc1.1.size
  clear hc1 hg1
  go_wp2_with fail
  refine (anyTable_any w A n c _ 8 _ 24 (by omega) (by omega) (by omega) (by omega) hn HC.out HU1.out).mono ?_
  rintro e w2 ⟨ad', m', cap', l', rfl, hm, hl, hwf, hli, hc2, hg2⟩
  have HT' := Lib.hid (show Tab w2 w1.heap.size 8 ad' m' l' from ⟨hm, hl, hwf, hli⟩)
  have HU2 := Lib.hid hc2
  clear hm hl hwf hli HU1
  have HF := Lib.hid (And.intro ((HT.out.grown hg2 hs).low (Nat.le_of_lt hs)) (And.intro (HT'.out.low hsw) hc2.1))
  clear hc2 hg2 HU2 HT HT'
  go_wp2_with fail
  go_ret2
  exact ⟨ad, m, cap, l, ad', m', cap', l', rfl, HF.out.1, HF.out.2.1, HF.out.2.2⟩

end Go.Proofs.Ytfgckkgakghenaa.SDraw
