/-
  The given model's draws of a number out of a list (l01PickInt) and of a bool (l01Once); no statement about the project's code stands here. No condition.
-/
import Derived.Test.YtmfileflmpmkpaaDraw
namespace Go.Proofs.Ytmfileflmpmkpaa.Draw
set_option maxRecDepth 100000
open Go.ChangeShapes Go.WideShapes Go.ChangeAt Go.RowKit
open Go.Proofs.Ytmfileflmpmkpaa.Base

/-- One of the list was drawn. -/
def PickPost (w0 : World) (A : Option Addr) (n c : Nat) (w : World) (g : Nat) (l : List Int) (e : Ending) (w' : World) : Prop :=
  ∃ x : Int, e = .returned (.int .i64 x) ∧ x ∈ l ∧ Cur w0 A n c w' g ∧ w.grownBy w' (some g)
def OncePost (w0 : World) (A : Option Addr) (n c : Nat) (w : World) (g : Nat) (e : Ending) (w' : World) : Prop :=
  ∃ x : Bool, e = .returned (.bool x) ∧ Cur w0 A n c w' g ∧ w.grownBy w' (some g)

theorem once_any (w0 : World) (A : Option Addr) (n c g : Nat) (w : World) (m : Int) (hm0 : 0 < m) (hm1 : m ≤ 4294967296) (hn : n ≤ 1048576) (hcode : CodeAt w0 A n) (hcur : Cur w0 A n c w g) :
    Calls Try.prog 58 #[.pointer (some ⟨g, 0, none⟩), .int .i64 m] w (OncePost w0 A n c w g) := by
  have HC := Lib.hid hcode
  have HU := Lib.hid hcur
  clear hcode hcur
  go_enter Try.func58, Try.ntmps58
  go_wp2_with fail
  refine (below_any w0 A n c g _ m hm0 hm1 hn HC.out HU.out).mono ?_
  rintro e w1 ⟨x, rfl, hx0, hx1, hc1, hg1⟩
  go_wp2_with fail
  go_ret
  exact ⟨_, rfl, hc1, hg1⟩
end Go.Proofs.Ytmfileflmpmkpaa.Draw
