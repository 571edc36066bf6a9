/-
  Slots and page tables as plain lists: what the functions of chapter 3 compute; no statement about the program stands here. No condition.
-/
import Derived.Test.YtmiokacihcpepaaSlotH
import Derived.Test.YtmiokacihcpepaaIntH
import Derived.Test.YtmiokacihcpepaaRightsMath
import Derived.Test.YtmiokacihcpepaaIn
namespace Go.Proofs.Ytmiokacihcpepaa.Slots
set_option maxRecDepth 100000
open Go.ChangeShapes Go.WideShapes Go.ChangeAt Go.RowKit
open Go.Proofs.Ytmiokacihcpepaa.Base Go.Proofs.Ytmiokacihcpepaa.Mem Go.Proofs.Ytmiokacihcpepaa.Ints

abbrev Sl := Int × Int
def wfS (s : Sl) : Prop := (Lit.int .i64 s.1).wf = true ∧ (Lit.int .i64 s.2).wf = true
def wfL (l : List Sl) : Prop := ∀ s ∈ l, wfS s
def okS (p r pages : Int) : Bool := decide ((p = -1 ∧ r = 0) ∨ (0 ≤ p ∧ p < pages ∧ 1 ≤ r ∧ r ≤ 3))
def okT (l : List Sl) (pages : Int) : Bool := l.all fun s => okS s.1 s.2 pages
def atS (l : List Sl) (page : Int) : Sl := if 0 ≤ page then l.getD page.toNat (-1, 0) else (-1, 0)
def withS (l : List Sl) (page : Int) (s : Sl) : List Sl := if 0 ≤ page then l.set page.toNat s else l
def mapS (l : List Sl) : Nat := l.countP fun s => decide (s.1 ≠ -1)
def useS (l : List Sl) (page : Int) : List Int := ((List.range l.length).filter fun i => decide ((l.getD i (0, 0)).1 = page)).map fun (i : Nat) => (i : Int)
def nosL (n : Nat) : List Sl := List.replicate n (-1, 0)
end Go.Proofs.Ytmiokacihcpepaa.Slots
