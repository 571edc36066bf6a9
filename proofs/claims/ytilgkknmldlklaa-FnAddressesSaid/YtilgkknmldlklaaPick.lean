/-
  The given model's draws of a number out of a list (l01PickInt) and of a bool (l01Once); no statement about the project's code stands here. No condition.
-/
import Derived.Test.YtilgkknmldlklaaDraw
namespace Go.Proofs.Ytilgkknmldlklaa.Draw
set_option maxRecDepth 100000
open Go.ChangeShapes Go.WideShapes Go.ChangeAt Go.RowKit
open Go.Proofs.Ytilgkknmldlklaa.Base

/-- One of the list was drawn. -/
def PickPost (w0 : World) (A : Option Addr) (n c : Nat) (w : World) (g : Nat) (l : List Int) (e : Ending) (w' : World) : Prop :=
  ∃ x : Int, e = .returned (.int .i64 x) ∧ x ∈ l ∧ Cur w0 A n c w' g ∧ w.grownBy w' (some g)
def OncePost (w0 : World) (A : Option Addr) (n c : Nat) (w : World) (g : Nat) (e : Ending) (w' : World) : Prop :=
  ∃ x : Bool, e = .returned (.bool x) ∧ Cur w0 A n c w' g ∧ w.grownBy w' (some g)

end Go.Proofs.Ytilgkknmldlklaa.Draw
