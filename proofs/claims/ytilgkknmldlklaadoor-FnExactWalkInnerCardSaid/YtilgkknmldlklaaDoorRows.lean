/-
  NARROWER THAN 'FOR EVERY INPUT', by the rows' own cells (each row's printed sentence says how): FnWalks: ifaces, laid · FnExactWalkInner: ifaces, laid · FnExactWalk: ifaces, laid · FnExactFaults: ifaces, laid.
  DERIVED. THE GIVEN ROWS OF THIS SEAT. 4 by the template 'for every input the law returns true; each argument reads behind the call as it read before'; 0 by the template 'total and deterministic' (their statements: YtilgkknmldlklaaDoorTotals.lean).
  GIVEN WITH THE SEED: the statements are not yours to turn. If you find one false, say at which input.
  Laid BY PROGRAM, IN A SANDBOX (cutbox-rows.mjs): the forced cells as the released guide's own fill.sh prints them over the translation 6154aa39e8744ad0… (all of the seat's roots in one cut). By AI agents, Wed Nov 11 2026. No macro, syntax, notation, axiom, sorry.
-/
import Derived.Test.YtilgkknmldlklaaDoorChecked
import GoSem.Claim
import GoSem.ClaimJoined
import GoSem.ClaimMapViews
import Derived.JoinedTies
import Derived.KernelRfl
namespace Go.Proofs.YtilgkknmldlklaaDoor
/- THE CELL 'sum', in the pinned program and in every row, IS THE sha256 OF THE DUMP (.gsa) THAT YtilgkknmldlklaaDoorProg.lean LOADS. Nothing in Lean hashes anything: it is a label: what it is worth is what the hold of that sum in a sandbox is worth. -/
noncomputable def Tryd.pinned : Pinned := { name := "ytilgkknmldlklaadoor", sum := "6154aa39e8744ad0fa19b8a429dd32cbb0dfc09cb52c16e345d5266a803a7d36", checked := Tryd.checked }
namespace Rows
def none {H : Type} : Left H := { results := [], args := [] }

/- WHAT THE LISTED PACKAGE-LEVEL VARIABLES READ AS WHEN THE CALL BEGINS. Each datum BY PROGRAM (the guide's laid-datum.mjs) off the statement by which the dump's own 'gosem.cut.vars' lays the variable. In a bare row this is a premise. The card (YtilgkknmldlklaaDoorCards.lean) ties it to the program's text. -/
def laid_loop_example_g00975_impl_errInner {H : Type} : DataW H := .iface "*errors.errorString" (.ptr (.agg [.lit (.string [116, 104, 101, 32, 105, 110, 110, 101, 114, 32, 116, 97, 98, 108, 101, 32, 100, 111, 101, 115, 32, 110, 111, 116, 32, 112, 101, 114, 109, 105, 116, 32, 116, 104, 101, 32, 97, 99, 99, 101, 115, 115])]))
def laid_loop_example_g00975_impl_errOuter {H : Type} : DataW H := .iface "*errors.errorString" (.ptr (.agg [.lit (.string [116, 104, 101, 32, 111, 117, 116, 101, 114, 32, 116, 97, 98, 108, 101, 32, 100, 111, 101, 115, 32, 110, 111, 116, 32, 112, 101, 114, 109, 105, 116, 32, 116, 104, 101, 32, 97, 99, 99, 101, 115, 115])]))

/-- 'laws.FnWalks': WHATEVER THE INPUT: true; the input reads as it did. -/
def fnWalksSpec : ChangeSpec := { name := "fnWalks", vars := ["loop.example/g00975/impl.errInner", "loop.example/g00975/impl.errOuter"], fn := fun _ => fun
  | [d, g1, g2] => { results := [.lit (.bool true)], args := [d], vars := [g1, g2] }
  | _ => none }
def fnWalksRow : OpenClaim := { program := "ytilgkknmldlklaadoor", sum := "6154aa39e8744ad0fa19b8a429dd32cbb0dfc09cb52c16e345d5266a803a7d36", func := "loop.example/g00975/laws.FnWalks", spec := "fnWalks", inPlace := ["internal/reflectlite.TypeOf"], unfollowed := true, recurses := true, named := ["loop.example/g00975/impl.errInner", "loop.example/g00975/impl.errOuter"], ifaces := true, apart := false, laid := [("loop.example/g00975/impl.errInner", laid_loop_example_g00975_impl_errInner), ("loop.example/g00975/impl.errOuter", laid_loop_example_g00975_impl_errOuter)] }
def FnWalksSaid : Prop := fnWalksRow.holds Tryd.pinned (OpenSpec.ofChange fnWalksSpec)

/-- ITS FALSE NEIGHBOUR: 'it returns false'. Refute it at one input. -/
def fnWalksWrong : ChangeSpec := { name := "fnWalks", vars := ["loop.example/g00975/impl.errInner", "loop.example/g00975/impl.errOuter"], fn := fun _ => fun
  | [d, g1, g2] => { results := [.lit (.bool false)], args := [d], vars := [g1, g2] }
  | _ => none }
def FnWalksWrongFalsely : Prop := fnWalksRow.holds Tryd.pinned (OpenSpec.ofChange fnWalksWrong)

/-- 'laws.FnExactWalkInner': WHATEVER THE INPUT: true; the input reads as it did. -/
def fnExactWalkInnerSpec : ChangeSpec := { name := "fnExactWalkInner", vars := ["loop.example/g00975/impl.errInner"], fn := fun _ => fun
  | [d1, d2, d3, g1] => { results := [.lit (.bool true)], args := [d1, d2, d3], vars := [g1] }
  | _ => none }
def fnExactWalkInnerRow : OpenClaim := { program := "ytilgkknmldlklaadoor", sum := "6154aa39e8744ad0fa19b8a429dd32cbb0dfc09cb52c16e345d5266a803a7d36", func := "loop.example/g00975/laws.FnExactWalkInner", spec := "fnExactWalkInner", named := ["loop.example/g00975/impl.errInner"], ifaces := true, apart := false, laid := [("loop.example/g00975/impl.errInner", laid_loop_example_g00975_impl_errInner)] }
def FnExactWalkInnerSaid : Prop := fnExactWalkInnerRow.holds Tryd.pinned (OpenSpec.ofChange fnExactWalkInnerSpec)

/-- ITS FALSE NEIGHBOUR: 'it returns false'. Refute it at one input. -/
def fnExactWalkInnerWrong : ChangeSpec := { name := "fnExactWalkInner", vars := ["loop.example/g00975/impl.errInner"], fn := fun _ => fun
  | [d1, d2, d3, g1] => { results := [.lit (.bool false)], args := [d1, d2, d3], vars := [g1] }
  | _ => none }
def FnExactWalkInnerWrongFalsely : Prop := fnExactWalkInnerRow.holds Tryd.pinned (OpenSpec.ofChange fnExactWalkInnerWrong)

/-- 'laws.FnExactWalk': WHATEVER THE INPUT: true; the input reads as it did. -/
def fnExactWalkSpec : ChangeSpec := { name := "fnExactWalk", vars := ["loop.example/g00975/impl.errInner", "loop.example/g00975/impl.errOuter"], fn := fun _ => fun
  | [d1, d2, d3, d4, g1, g2] => { results := [.lit (.bool true)], args := [d1, d2, d3, d4], vars := [g1, g2] }
  | _ => none }
def fnExactWalkRow : OpenClaim := { program := "ytilgkknmldlklaadoor", sum := "6154aa39e8744ad0fa19b8a429dd32cbb0dfc09cb52c16e345d5266a803a7d36", func := "loop.example/g00975/laws.FnExactWalk", spec := "fnExactWalk", inPlace := ["internal/reflectlite.TypeOf"], unfollowed := true, recurses := true, named := ["loop.example/g00975/impl.errInner", "loop.example/g00975/impl.errOuter"], ifaces := true, apart := false, laid := [("loop.example/g00975/impl.errInner", laid_loop_example_g00975_impl_errInner), ("loop.example/g00975/impl.errOuter", laid_loop_example_g00975_impl_errOuter)] }
def FnExactWalkSaid : Prop := fnExactWalkRow.holds Tryd.pinned (OpenSpec.ofChange fnExactWalkSpec)

/-- ITS FALSE NEIGHBOUR: 'it returns false'. Refute it at one input. -/
def fnExactWalkWrong : ChangeSpec := { name := "fnExactWalk", vars := ["loop.example/g00975/impl.errInner", "loop.example/g00975/impl.errOuter"], fn := fun _ => fun
  | [d1, d2, d3, d4, g1, g2] => { results := [.lit (.bool false)], args := [d1, d2, d3, d4], vars := [g1, g2] }
  | _ => none }
def FnExactWalkWrongFalsely : Prop := fnExactWalkRow.holds Tryd.pinned (OpenSpec.ofChange fnExactWalkWrong)

/-- 'laws.FnExactFaults': WHATEVER THE INPUT: true; the input reads as it did. -/
def fnExactFaultsSpec : ChangeSpec := { name := "fnExactFaults", vars := ["loop.example/g00975/impl.errInner", "loop.example/g00975/impl.errOuter"], fn := fun _ => fun
  | [d1, d2, d3, g1, g2] => { results := [.lit (.bool true)], args := [d1, d2, d3], vars := [g1, g2] }
  | _ => none }
def fnExactFaultsRow : OpenClaim := { program := "ytilgkknmldlklaadoor", sum := "6154aa39e8744ad0fa19b8a429dd32cbb0dfc09cb52c16e345d5266a803a7d36", func := "loop.example/g00975/laws.FnExactFaults", spec := "fnExactFaults", inPlace := ["internal/reflectlite.TypeOf"], unfollowed := true, recurses := true, named := ["loop.example/g00975/impl.errInner", "loop.example/g00975/impl.errOuter"], ifaces := true, apart := false, laid := [("loop.example/g00975/impl.errInner", laid_loop_example_g00975_impl_errInner), ("loop.example/g00975/impl.errOuter", laid_loop_example_g00975_impl_errOuter)] }
def FnExactFaultsSaid : Prop := fnExactFaultsRow.holds Tryd.pinned (OpenSpec.ofChange fnExactFaultsSpec)

/-- ITS FALSE NEIGHBOUR: 'it returns false'. Refute it at one input. -/
def fnExactFaultsWrong : ChangeSpec := { name := "fnExactFaults", vars := ["loop.example/g00975/impl.errInner", "loop.example/g00975/impl.errOuter"], fn := fun _ => fun
  | [d1, d2, d3, g1, g2] => { results := [.lit (.bool false)], args := [d1, d2, d3], vars := [g1, g2] }
  | _ => none }
def FnExactFaultsWrongFalsely : Prop := fnExactFaultsRow.holds Tryd.pinned (OpenSpec.ofChange fnExactFaultsWrong)

/- THE SECOND FORM. 'bulk': how many values and letters a reading holds, each counted each time it is reached (what is shared counts as often as it is met; a slice's spare places count too). A statement '..UptoSaid' is the law's where the arguments, and the package variables that the reading takes, are together of bulk at most 1048576: NARROWER than '..Said'. Prove '..Said' where nothing that the law and all that it calls make is longer than what came in: it says more and counts as full. Else prove '..UptoSaid'. A law counts once. -/
mutual
def uptoBulk {H : Type} : DataW H → Nat
  | .lit (.string bytes) => bytes.length + 1
  | .lit _ => 1
  | .nil => 1
  | .ptr d => uptoBulk d + 1
  | .slice elems spare => uptoBulkAll elems + uptoBulkAll spare + 1
  | .agg parts => uptoBulkAll parts + 1
  | .iface _ d => uptoBulk d + 1
  | .map entries => uptoBulkEntries entries + 1
  | .held _ => 1
def uptoBulkAll {H : Type} : List (DataW H) → Nat
  | [] => 0
  | d :: r => uptoBulk d + uptoBulkAll r
def uptoBulkEntries {H : Type} : List (Lit × DataW H) → Nat
  | [] => 0
  | x :: r => uptoBulkEntry x + uptoBulkEntries r
def uptoBulkEntry {H : Type} : Lit × DataW H → Nat
  | (.string bytes, d) => bytes.length + uptoBulk d + 1
  | (_, d) => uptoBulk d + 1
 end
def uptoSmall : (H : Type) → List (DataW H) → Bool := fun _ ds => decide (uptoBulkAll ds ≤ 1048576)
def OpenSpec.upto (s : _root_.Go.ChangeSpec) : _root_.Go.OpenSpec := { _root_.Go.OpenSpec.ofChange s with cond := some uptoSmall }

/-- 'laws.FnWalks', WHERE WHAT IT READS IS OF BULK AT MOST 1048576: true; the input reads as it did. -/
def fnWalksUptoRow : OpenClaim := { program := "ytilgkknmldlklaadoor", sum := "6154aa39e8744ad0fa19b8a429dd32cbb0dfc09cb52c16e345d5266a803a7d36", func := "loop.example/g00975/laws.FnWalks", spec := "fnWalks", inPlace := ["internal/reflectlite.TypeOf"], unfollowed := true, recurses := true, named := ["loop.example/g00975/impl.errInner", "loop.example/g00975/impl.errOuter"], ifaces := true, apart := false, laid := [("loop.example/g00975/impl.errInner", laid_loop_example_g00975_impl_errInner), ("loop.example/g00975/impl.errOuter", laid_loop_example_g00975_impl_errOuter)], narrowed := true }
def FnWalksUptoSaid : Prop := fnWalksUptoRow.holds Tryd.pinned (OpenSpec.upto fnWalksSpec)

/-- 'laws.FnExactWalkInner', WHERE WHAT IT READS IS OF BULK AT MOST 1048576: true; the input reads as it did. -/
def fnExactWalkInnerUptoRow : OpenClaim := { program := "ytilgkknmldlklaadoor", sum := "6154aa39e8744ad0fa19b8a429dd32cbb0dfc09cb52c16e345d5266a803a7d36", func := "loop.example/g00975/laws.FnExactWalkInner", spec := "fnExactWalkInner", named := ["loop.example/g00975/impl.errInner"], ifaces := true, apart := false, laid := [("loop.example/g00975/impl.errInner", laid_loop_example_g00975_impl_errInner)], narrowed := true }
def FnExactWalkInnerUptoSaid : Prop := fnExactWalkInnerUptoRow.holds Tryd.pinned (OpenSpec.upto fnExactWalkInnerSpec)

/-- 'laws.FnExactWalk', WHERE WHAT IT READS IS OF BULK AT MOST 1048576: true; the input reads as it did. -/
def fnExactWalkUptoRow : OpenClaim := { program := "ytilgkknmldlklaadoor", sum := "6154aa39e8744ad0fa19b8a429dd32cbb0dfc09cb52c16e345d5266a803a7d36", func := "loop.example/g00975/laws.FnExactWalk", spec := "fnExactWalk", inPlace := ["internal/reflectlite.TypeOf"], unfollowed := true, recurses := true, named := ["loop.example/g00975/impl.errInner", "loop.example/g00975/impl.errOuter"], ifaces := true, apart := false, laid := [("loop.example/g00975/impl.errInner", laid_loop_example_g00975_impl_errInner), ("loop.example/g00975/impl.errOuter", laid_loop_example_g00975_impl_errOuter)], narrowed := true }
def FnExactWalkUptoSaid : Prop := fnExactWalkUptoRow.holds Tryd.pinned (OpenSpec.upto fnExactWalkSpec)

/-- 'laws.FnExactFaults', WHERE WHAT IT READS IS OF BULK AT MOST 1048576: true; the input reads as it did. -/
def fnExactFaultsUptoRow : OpenClaim := { program := "ytilgkknmldlklaadoor", sum := "6154aa39e8744ad0fa19b8a429dd32cbb0dfc09cb52c16e345d5266a803a7d36", func := "loop.example/g00975/laws.FnExactFaults", spec := "fnExactFaults", inPlace := ["internal/reflectlite.TypeOf"], unfollowed := true, recurses := true, named := ["loop.example/g00975/impl.errInner", "loop.example/g00975/impl.errOuter"], ifaces := true, apart := false, laid := [("loop.example/g00975/impl.errInner", laid_loop_example_g00975_impl_errInner), ("loop.example/g00975/impl.errOuter", laid_loop_example_g00975_impl_errOuter)], narrowed := true }
def FnExactFaultsUptoSaid : Prop := fnExactFaultsUptoRow.holds Tryd.pinned (OpenSpec.upto fnExactFaultsSpec)

end Rows
end Go.Proofs.YtilgkknmldlklaaDoor
