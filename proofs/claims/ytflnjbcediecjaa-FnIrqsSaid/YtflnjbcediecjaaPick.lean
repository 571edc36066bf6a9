/-
  The given model's draws of a number out of a list (l01PickInt) and of a bool (l01Once); no statement about the project's code stands here. No condition.
-/
import Derived.Test.YtflnjbcediecjaaDraw
namespace Go.Proofs.Ytflnjbcediecjaa.Draw
set_option maxRecDepth 100000
open Go.ChangeShapes Go.WideShapes Go.ChangeAt Go.RowKit
open Go.Proofs.Ytflnjbcediecjaa.Base

/-- One of the list was drawn. -/
def PickPost (w0 : World) (A : Option Addr) (n c : Nat) (w : World) (g : Nat) (l : List Int) (e : Ending) (w' : World) : Prop :=
  ∃ x : Int, e = .returned (.int .i64 x) ∧ x ∈ l ∧ Cur w0 A n c w' g ∧ w.grownBy w' (some g)
def OncePost (w0 : World) (A : Option Addr) (n c : Nat) (w : World) (g : Nat) (e : Ending) (w' : World) : Prop :=
  ∃ x : Bool, e = .returned (.bool x) ∧ Cur w0 A n c w' g ∧ w.grownBy w' (some g)

set_option maxHeartbeats 1000000 in
theorem pick_any (w0 : World) (A : Option Addr) (n c g : Nat) (w : World) (g' k : Nat) (l : List Int) (hl0 : 0 < k) (hl1 : k ≤ 256) (hn : n ≤ 1048576) (hcode : CodeAt w0 A n) (hcur : Cur w0 A n c w g)
    (hne : g' ≠ g) (hlk : l.length = k) (hblk : w.heap[g']? = some (.cells (l.map (Value.int .i64)).toArray 3 (0, 0))) :
    Calls Try.prog 30 #[.pointer (some ⟨g, 0, none⟩), .slice (some ⟨g', 0, none⟩) k k] w (PickPost w0 A n c w g l) := by
  have HC := Lib.hid hcode
  have HU := Lib.hid hcur
  have HB := Lib.hid hblk
  have HL := Lib.hid hlk
  have hg' : g' < w.heap.size := by
    rcases Nat.lt_or_ge g' w.heap.size with h | h
    · exact h
    · rw [Array.getElem?_eq_none h] at hblk; cases hblk
  clear hcode hcur hblk hlk
  go_enter Try.func30, Try.ntmps30
  go_wp2_with fail
  refine (below_any w0 A n c g _ _ (by omega) (by omega) hn HC.out HU.out).mono ?_
  rintro e w1 ⟨x, rfl, hx0, hx1, hc1, hg1⟩
  obtain ⟨j, rfl⟩ := Int.eq_ofNat_of_zero_le hx0
  have hj : j < k := by omega
  have hjl : j < l.length := by have := HL.out; omega
  have hcell : w1.cell? ⟨g', j, none⟩ = some (.int .i64 l[j]) := by
    have := (hg1.block g' hg' (by simpa using hne)).trans HB.out
    simp [World.cell?, this, List.getElem?_eq_getElem hjl]
  have hmem : l[j] ∈ l := List.getElem_mem hjl
  have HF := Lib.hid (And.intro hc1 (And.intro hg1 hmem))
  generalize l[j] = y at hcell HF
  clear hc1 hg1 hmem
  go_wp2_with fail
  go_ret
  exact ⟨y, rfl, HF.out.2.2, HF.out.1, HF.out.2.1⟩

end Go.Proofs.Ytflnjbcediecjaa.Draw
