/-
  No cell of these rows narrows 'for every input' (looked for: loops, veiled, ifaces, maps, wideKeys, modest, calm, conditions, laid).
  DERIVED. THE GIVEN ROWS OF THIS SEAT. 11 by the template 'for every input the law returns true; each argument reads behind the call as it read before'; 0 by the template 'total and deterministic' (their statements: YtfgckkgakghenaaTotals.lean).
  GIVEN WITH THE SEED: the statements are not yours to turn. If you find one false, say at which input.
  Laid BY PROGRAM, IN A SANDBOX (cutbox-rows.mjs): the forced cells as the released guide's own fill.sh prints them over the translation a8ccb1cd1ffc4c01… (all of the seat's roots in one cut). By AI agents, Wed Nov 11 2026. No macro, syntax, notation, axiom, sorry.
-/
import Derived.Test.YtfgckkgakghenaaChecked
import GoSem.Claim
import GoSem.ClaimJoined
import GoSem.ClaimMapViews
import Derived.JoinedTies
import Derived.KernelRfl
namespace Go.Proofs.Ytfgckkgakghenaa
/- THE CELL 'sum', in the pinned program and in every row, IS THE sha256 OF THE DUMP (.gsa) THAT YtfgckkgakghenaaProg.lean LOADS. Nothing in Lean hashes anything: it is a label: what it is worth is what the hold of that sum in a sandbox is worth. -/
noncomputable def Try.pinned : Pinned := { name := "ytfgckkgakghenaa", sum := "a8ccb1cd1ffc4c01a5884a17a0bfb904840b675adb4704d68f6248a2152cdfd1", checked := Try.checked }
namespace Rows
def none {H : Type} : Left H := { results := [], args := [] }

/-- 'laws.FnKept': WHATEVER THE INPUT: true; the input reads as it did. -/
def fnKeptSpec : ChangeSpec := { name := "fnKept", fn := fun _ => fun
  | [d] => { results := [.lit (.bool true)], args := [d] }
  | _ => none }
def fnKeptRow : OpenClaim := { program := "ytfgckkgakghenaa", sum := "a8ccb1cd1ffc4c01a5884a17a0bfb904840b675adb4704d68f6248a2152cdfd1", func := "loop.example/g00975/laws.FnKept", spec := "fnKept", unfollowed := true, recurses := true, apart := false }
def FnKeptSaid : Prop := fnKeptRow.holds Try.pinned (OpenSpec.ofChange fnKeptSpec)

/-- ITS FALSE NEIGHBOUR: 'it returns false'. Refute it at one input. -/
def fnKeptWrong : ChangeSpec := { name := "fnKept", fn := fun _ => fun
  | [d] => { results := [.lit (.bool false)], args := [d] }
  | _ => none }
def FnKeptWrongFalsely : Prop := fnKeptRow.holds Try.pinned (OpenSpec.ofChange fnKeptWrong)

/-- 'laws.FnForgotten': WHATEVER THE INPUT: true; the input reads as it did. -/
def fnForgottenSpec : ChangeSpec := { name := "fnForgotten", fn := fun _ => fun
  | [d] => { results := [.lit (.bool true)], args := [d] }
  | _ => none }
def fnForgottenRow : OpenClaim := { program := "ytfgckkgakghenaa", sum := "a8ccb1cd1ffc4c01a5884a17a0bfb904840b675adb4704d68f6248a2152cdfd1", func := "loop.example/g00975/laws.FnForgotten", spec := "fnForgotten", unfollowed := true, recurses := true, apart := false }
def FnForgottenSaid : Prop := fnForgottenRow.holds Try.pinned (OpenSpec.ofChange fnForgottenSpec)

/-- ITS FALSE NEIGHBOUR: 'it returns false'. Refute it at one input. -/
def fnForgottenWrong : ChangeSpec := { name := "fnForgotten", fn := fun _ => fun
  | [d] => { results := [.lit (.bool false)], args := [d] }
  | _ => none }
def FnForgottenWrongFalsely : Prop := fnForgottenRow.holds Try.pinned (OpenSpec.ofChange fnForgottenWrong)

/-- 'laws.FnFillAll': WHATEVER THE INPUT: true; the input reads as it did. -/
def fnFillAllSpec : ChangeSpec := { name := "fnFillAll", fn := fun _ => fun
  | [d] => { results := [.lit (.bool true)], args := [d] }
  | _ => none }
def fnFillAllRow : OpenClaim := { program := "ytfgckkgakghenaa", sum := "a8ccb1cd1ffc4c01a5884a17a0bfb904840b675adb4704d68f6248a2152cdfd1", func := "loop.example/g00975/laws.FnFillAll", spec := "fnFillAll", unfollowed := true, recurses := true, apart := false }
def FnFillAllSaid : Prop := fnFillAllRow.holds Try.pinned (OpenSpec.ofChange fnFillAllSpec)

/-- ITS FALSE NEIGHBOUR: 'it returns false'. Refute it at one input. -/
def fnFillAllWrong : ChangeSpec := { name := "fnFillAll", fn := fun _ => fun
  | [d] => { results := [.lit (.bool false)], args := [d] }
  | _ => none }
def FnFillAllWrongFalsely : Prop := fnFillAllRow.holds Try.pinned (OpenSpec.ofChange fnFillAllWrong)

/-- 'laws.FnExactKeptNew': WHATEVER THE INPUT: true; the input reads as it did. -/
def fnExactKeptNewSpec : ChangeSpec := { name := "fnExactKeptNew", fn := fun _ => fun
  | [d] => { results := [.lit (.bool true)], args := [d] }
  | _ => none }
def fnExactKeptNewRow : OpenClaim := { program := "ytfgckkgakghenaa", sum := "a8ccb1cd1ffc4c01a5884a17a0bfb904840b675adb4704d68f6248a2152cdfd1", func := "loop.example/g00975/laws.FnExactKeptNew", spec := "fnExactKeptNew", apart := false }
def FnExactKeptNewSaid : Prop := fnExactKeptNewRow.holds Try.pinned (OpenSpec.ofChange fnExactKeptNewSpec)

/-- ITS FALSE NEIGHBOUR: 'it returns false'. Refute it at one input. -/
def fnExactKeptNewWrong : ChangeSpec := { name := "fnExactKeptNew", fn := fun _ => fun
  | [d] => { results := [.lit (.bool false)], args := [d] }
  | _ => none }
def FnExactKeptNewWrongFalsely : Prop := fnExactKeptNewRow.holds Try.pinned (OpenSpec.ofChange fnExactKeptNewWrong)

/-- 'laws.FnExactKeptOk': WHATEVER THE INPUT: true; the input reads as it did. -/
def fnExactKeptOkSpec : ChangeSpec := { name := "fnExactKeptOk", fn := fun _ => fun
  | [d1, d2, d3] => { results := [.lit (.bool true)], args := [d1, d2, d3] }
  | _ => none }
def fnExactKeptOkRow : OpenClaim := { program := "ytfgckkgakghenaa", sum := "a8ccb1cd1ffc4c01a5884a17a0bfb904840b675adb4704d68f6248a2152cdfd1", func := "loop.example/g00975/laws.FnExactKeptOk", spec := "fnExactKeptOk", unfollowed := true, recurses := true, apart := false }
def FnExactKeptOkSaid : Prop := fnExactKeptOkRow.holds Try.pinned (OpenSpec.ofChange fnExactKeptOkSpec)

/-- ITS FALSE NEIGHBOUR: 'it returns false'. Refute it at one input. -/
def fnExactKeptOkWrong : ChangeSpec := { name := "fnExactKeptOk", fn := fun _ => fun
  | [d1, d2, d3] => { results := [.lit (.bool false)], args := [d1, d2, d3] }
  | _ => none }
def FnExactKeptOkWrongFalsely : Prop := fnExactKeptOkRow.holds Try.pinned (OpenSpec.ofChange fnExactKeptOkWrong)

/-- 'laws.FnExactFill': WHATEVER THE INPUT: true; the input reads as it did. -/
def fnExactFillSpec : ChangeSpec := { name := "fnExactFill", fn := fun _ => fun
  | [d1, d2, d3, d4] => { results := [.lit (.bool true)], args := [d1, d2, d3, d4] }
  | _ => none }
def fnExactFillRow : OpenClaim := { program := "ytfgckkgakghenaa", sum := "a8ccb1cd1ffc4c01a5884a17a0bfb904840b675adb4704d68f6248a2152cdfd1", func := "loop.example/g00975/laws.FnExactFill", spec := "fnExactFill", unfollowed := true, recurses := true, apart := false }
def FnExactFillSaid : Prop := fnExactFillRow.holds Try.pinned (OpenSpec.ofChange fnExactFillSpec)

/-- ITS FALSE NEIGHBOUR: 'it returns false'. Refute it at one input. -/
def fnExactFillWrong : ChangeSpec := { name := "fnExactFill", fn := fun _ => fun
  | [d1, d2, d3, d4] => { results := [.lit (.bool false)], args := [d1, d2, d3, d4] }
  | _ => none }
def FnExactFillWrongFalsely : Prop := fnExactFillRow.holds Try.pinned (OpenSpec.ofChange fnExactFillWrong)

/-- 'laws.FnExactAsk': WHATEVER THE INPUT: true; the input reads as it did. -/
def fnExactAskSpec : ChangeSpec := { name := "fnExactAsk", fn := fun _ => fun
  | [d1, d2] => { results := [.lit (.bool true)], args := [d1, d2] }
  | _ => none }
def fnExactAskRow : OpenClaim := { program := "ytfgckkgakghenaa", sum := "a8ccb1cd1ffc4c01a5884a17a0bfb904840b675adb4704d68f6248a2152cdfd1", func := "loop.example/g00975/laws.FnExactAsk", spec := "fnExactAsk", apart := false }
def FnExactAskSaid : Prop := fnExactAskRow.holds Try.pinned (OpenSpec.ofChange fnExactAskSpec)

/-- ITS FALSE NEIGHBOUR: 'it returns false'. Refute it at one input. -/
def fnExactAskWrong : ChangeSpec := { name := "fnExactAsk", fn := fun _ => fun
  | [d1, d2] => { results := [.lit (.bool false)], args := [d1, d2] }
  | _ => none }
def FnExactAskWrongFalsely : Prop := fnExactAskRow.holds Try.pinned (OpenSpec.ofChange fnExactAskWrong)

/-- 'laws.FnExactForget': WHATEVER THE INPUT: true; the input reads as it did. -/
def fnExactForgetSpec : ChangeSpec := { name := "fnExactForget", fn := fun _ => fun
  | [d1, d2] => { results := [.lit (.bool true)], args := [d1, d2] }
  | _ => none }
def fnExactForgetRow : OpenClaim := { program := "ytfgckkgakghenaa", sum := "a8ccb1cd1ffc4c01a5884a17a0bfb904840b675adb4704d68f6248a2152cdfd1", func := "loop.example/g00975/laws.FnExactForget", spec := "fnExactForget", apart := false }
def FnExactForgetSaid : Prop := fnExactForgetRow.holds Try.pinned (OpenSpec.ofChange fnExactForgetSpec)

/-- ITS FALSE NEIGHBOUR: 'it returns false'. Refute it at one input. -/
def fnExactForgetWrong : ChangeSpec := { name := "fnExactForget", fn := fun _ => fun
  | [d1, d2] => { results := [.lit (.bool false)], args := [d1, d2] }
  | _ => none }
def FnExactForgetWrongFalsely : Prop := fnExactForgetRow.holds Try.pinned (OpenSpec.ofChange fnExactForgetWrong)

/-- 'laws.FnExactForgetUses': WHATEVER THE INPUT: true; the input reads as it did. -/
def fnExactForgetUsesSpec : ChangeSpec := { name := "fnExactForgetUses", fn := fun _ => fun
  | [d1, d2, d3] => { results := [.lit (.bool true)], args := [d1, d2, d3] }
  | _ => none }
def fnExactForgetUsesRow : OpenClaim := { program := "ytfgckkgakghenaa", sum := "a8ccb1cd1ffc4c01a5884a17a0bfb904840b675adb4704d68f6248a2152cdfd1", func := "loop.example/g00975/laws.FnExactForgetUses", spec := "fnExactForgetUses", apart := false }
def FnExactForgetUsesSaid : Prop := fnExactForgetUsesRow.holds Try.pinned (OpenSpec.ofChange fnExactForgetUsesSpec)

/-- ITS FALSE NEIGHBOUR: 'it returns false'. Refute it at one input. -/
def fnExactForgetUsesWrong : ChangeSpec := { name := "fnExactForgetUses", fn := fun _ => fun
  | [d1, d2, d3] => { results := [.lit (.bool false)], args := [d1, d2, d3] }
  | _ => none }
def FnExactForgetUsesWrongFalsely : Prop := fnExactForgetUsesRow.holds Try.pinned (OpenSpec.ofChange fnExactForgetUsesWrong)

/-- 'laws.FnExactForgetAll': WHATEVER THE INPUT: true; the input reads as it did. -/
def fnExactForgetAllSpec : ChangeSpec := { name := "fnExactForgetAll", fn := fun _ => fun
  | [d] => { results := [.lit (.bool true)], args := [d] }
  | _ => none }
def fnExactForgetAllRow : OpenClaim := { program := "ytfgckkgakghenaa", sum := "a8ccb1cd1ffc4c01a5884a17a0bfb904840b675adb4704d68f6248a2152cdfd1", func := "loop.example/g00975/laws.FnExactForgetAll", spec := "fnExactForgetAll", apart := false }
def FnExactForgetAllSaid : Prop := fnExactForgetAllRow.holds Try.pinned (OpenSpec.ofChange fnExactForgetAllSpec)

/-- ITS FALSE NEIGHBOUR: 'it returns false'. Refute it at one input. -/
def fnExactForgetAllWrong : ChangeSpec := { name := "fnExactForgetAll", fn := fun _ => fun
  | [d] => { results := [.lit (.bool false)], args := [d] }
  | _ => none }
def FnExactForgetAllWrongFalsely : Prop := fnExactForgetAllRow.holds Try.pinned (OpenSpec.ofChange fnExactForgetAllWrong)

/-- 'laws.FnExactKnownIn': WHATEVER THE INPUT: true; the input reads as it did. -/
def fnExactKnownInSpec : ChangeSpec := { name := "fnExactKnownIn", fn := fun _ => fun
  | [d] => { results := [.lit (.bool true)], args := [d] }
  | _ => none }
def fnExactKnownInRow : OpenClaim := { program := "ytfgckkgakghenaa", sum := "a8ccb1cd1ffc4c01a5884a17a0bfb904840b675adb4704d68f6248a2152cdfd1", func := "loop.example/g00975/laws.FnExactKnownIn", spec := "fnExactKnownIn", apart := false }
def FnExactKnownInSaid : Prop := fnExactKnownInRow.holds Try.pinned (OpenSpec.ofChange fnExactKnownInSpec)

/-- ITS FALSE NEIGHBOUR: 'it returns false'. Refute it at one input. -/
def fnExactKnownInWrong : ChangeSpec := { name := "fnExactKnownIn", fn := fun _ => fun
  | [d] => { results := [.lit (.bool false)], args := [d] }
  | _ => none }
def FnExactKnownInWrongFalsely : Prop := fnExactKnownInRow.holds Try.pinned (OpenSpec.ofChange fnExactKnownInWrong)

/- THE SECOND FORM. 'bulk': how many values and letters a reading holds, each counted each time it is reached (what is shared counts as often as it is met; a slice's spare places count too). A statement '..UptoSaid' is the law's where the arguments, and the package variables that the reading takes, are together of bulk at most 1048576: NARROWER than '..Said'. Prove '..Said' where nothing that the law and all that it calls make is longer than what came in: it says more and counts as full. Else prove '..UptoSaid'. A law counts once. -/
mutual
def uptoBulk {H : Type} : DataW H → Nat
  | .lit (.string bytes) => bytes.length + 1
  | .lit _ => 1
  | .nil => 1
  | .ptr d => uptoBulk d + 1
  | .slice elems spare => uptoBulkAll elems + uptoBulkAll spare + 1
  | .agg parts => uptoBulkAll parts + 1
  | .iface _ d => uptoBulk d + 1
  | .map entries => uptoBulkEntries entries + 1
  | .held _ => 1
def uptoBulkAll {H : Type} : List (DataW H) → Nat
  | [] => 0
  | d :: r => uptoBulk d + uptoBulkAll r
def uptoBulkEntries {H : Type} : List (Lit × DataW H) → Nat
  | [] => 0
  | x :: r => uptoBulkEntry x + uptoBulkEntries r
def uptoBulkEntry {H : Type} : Lit × DataW H → Nat
  | (.string bytes, d) => bytes.length + uptoBulk d + 1
  | (_, d) => uptoBulk d + 1
 end
def uptoSmall : (H : Type) → List (DataW H) → Bool := fun _ ds => decide (uptoBulkAll ds ≤ 1048576)
def OpenSpec.upto (s : _root_.Go.ChangeSpec) : _root_.Go.OpenSpec := { _root_.Go.OpenSpec.ofChange s with cond := some uptoSmall }

/-- 'laws.FnKept', WHERE WHAT IT READS IS OF BULK AT MOST 1048576: true; the input reads as it did. -/
def fnKeptUptoRow : OpenClaim := { program := "ytfgckkgakghenaa", sum := "a8ccb1cd1ffc4c01a5884a17a0bfb904840b675adb4704d68f6248a2152cdfd1", func := "loop.example/g00975/laws.FnKept", spec := "fnKept", unfollowed := true, recurses := true, apart := false, narrowed := true }
def FnKeptUptoSaid : Prop := fnKeptUptoRow.holds Try.pinned (OpenSpec.upto fnKeptSpec)

/-- 'laws.FnForgotten', WHERE WHAT IT READS IS OF BULK AT MOST 1048576: true; the input reads as it did. -/
def fnForgottenUptoRow : OpenClaim := { program := "ytfgckkgakghenaa", sum := "a8ccb1cd1ffc4c01a5884a17a0bfb904840b675adb4704d68f6248a2152cdfd1", func := "loop.example/g00975/laws.FnForgotten", spec := "fnForgotten", unfollowed := true, recurses := true, apart := false, narrowed := true }
def FnForgottenUptoSaid : Prop := fnForgottenUptoRow.holds Try.pinned (OpenSpec.upto fnForgottenSpec)

/-- 'laws.FnFillAll', WHERE WHAT IT READS IS OF BULK AT MOST 1048576: true; the input reads as it did. -/
def fnFillAllUptoRow : OpenClaim := { program := "ytfgckkgakghenaa", sum := "a8ccb1cd1ffc4c01a5884a17a0bfb904840b675adb4704d68f6248a2152cdfd1", func := "loop.example/g00975/laws.FnFillAll", spec := "fnFillAll", unfollowed := true, recurses := true, apart := false, narrowed := true }
def FnFillAllUptoSaid : Prop := fnFillAllUptoRow.holds Try.pinned (OpenSpec.upto fnFillAllSpec)

/-- 'laws.FnExactKeptNew', WHERE WHAT IT READS IS OF BULK AT MOST 1048576: true; the input reads as it did. -/
def fnExactKeptNewUptoRow : OpenClaim := { program := "ytfgckkgakghenaa", sum := "a8ccb1cd1ffc4c01a5884a17a0bfb904840b675adb4704d68f6248a2152cdfd1", func := "loop.example/g00975/laws.FnExactKeptNew", spec := "fnExactKeptNew", apart := false, narrowed := true }
def FnExactKeptNewUptoSaid : Prop := fnExactKeptNewUptoRow.holds Try.pinned (OpenSpec.upto fnExactKeptNewSpec)

/-- 'laws.FnExactKeptOk', WHERE WHAT IT READS IS OF BULK AT MOST 1048576: true; the input reads as it did. -/
def fnExactKeptOkUptoRow : OpenClaim := { program := "ytfgckkgakghenaa", sum := "a8ccb1cd1ffc4c01a5884a17a0bfb904840b675adb4704d68f6248a2152cdfd1", func := "loop.example/g00975/laws.FnExactKeptOk", spec := "fnExactKeptOk", unfollowed := true, recurses := true, apart := false, narrowed := true }
def FnExactKeptOkUptoSaid : Prop := fnExactKeptOkUptoRow.holds Try.pinned (OpenSpec.upto fnExactKeptOkSpec)

/-- 'laws.FnExactFill', WHERE WHAT IT READS IS OF BULK AT MOST 1048576: true; the input reads as it did. -/
def fnExactFillUptoRow : OpenClaim := { program := "ytfgckkgakghenaa", sum := "a8ccb1cd1ffc4c01a5884a17a0bfb904840b675adb4704d68f6248a2152cdfd1", func := "loop.example/g00975/laws.FnExactFill", spec := "fnExactFill", unfollowed := true, recurses := true, apart := false, narrowed := true }
def FnExactFillUptoSaid : Prop := fnExactFillUptoRow.holds Try.pinned (OpenSpec.upto fnExactFillSpec)

/-- 'laws.FnExactAsk', WHERE WHAT IT READS IS OF BULK AT MOST 1048576: true; the input reads as it did. -/
def fnExactAskUptoRow : OpenClaim := { program := "ytfgckkgakghenaa", sum := "a8ccb1cd1ffc4c01a5884a17a0bfb904840b675adb4704d68f6248a2152cdfd1", func := "loop.example/g00975/laws.FnExactAsk", spec := "fnExactAsk", apart := false, narrowed := true }
def FnExactAskUptoSaid : Prop := fnExactAskUptoRow.holds Try.pinned (OpenSpec.upto fnExactAskSpec)

/-- 'laws.FnExactForget', WHERE WHAT IT READS IS OF BULK AT MOST 1048576: true; the input reads as it did. -/
def fnExactForgetUptoRow : OpenClaim := { program := "ytfgckkgakghenaa", sum := "a8ccb1cd1ffc4c01a5884a17a0bfb904840b675adb4704d68f6248a2152cdfd1", func := "loop.example/g00975/laws.FnExactForget", spec := "fnExactForget", apart := false, narrowed := true }
def FnExactForgetUptoSaid : Prop := fnExactForgetUptoRow.holds Try.pinned (OpenSpec.upto fnExactForgetSpec)

/-- 'laws.FnExactForgetUses', WHERE WHAT IT READS IS OF BULK AT MOST 1048576: true; the input reads as it did. -/
def fnExactForgetUsesUptoRow : OpenClaim := { program := "ytfgckkgakghenaa", sum := "a8ccb1cd1ffc4c01a5884a17a0bfb904840b675adb4704d68f6248a2152cdfd1", func := "loop.example/g00975/laws.FnExactForgetUses", spec := "fnExactForgetUses", apart := false, narrowed := true }
def FnExactForgetUsesUptoSaid : Prop := fnExactForgetUsesUptoRow.holds Try.pinned (OpenSpec.upto fnExactForgetUsesSpec)

/-- 'laws.FnExactForgetAll', WHERE WHAT IT READS IS OF BULK AT MOST 1048576: true; the input reads as it did. -/
def fnExactForgetAllUptoRow : OpenClaim := { program := "ytfgckkgakghenaa", sum := "a8ccb1cd1ffc4c01a5884a17a0bfb904840b675adb4704d68f6248a2152cdfd1", func := "loop.example/g00975/laws.FnExactForgetAll", spec := "fnExactForgetAll", apart := false, narrowed := true }
def FnExactForgetAllUptoSaid : Prop := fnExactForgetAllUptoRow.holds Try.pinned (OpenSpec.upto fnExactForgetAllSpec)

/-- 'laws.FnExactKnownIn', WHERE WHAT IT READS IS OF BULK AT MOST 1048576: true; the input reads as it did. -/
def fnExactKnownInUptoRow : OpenClaim := { program := "ytfgckkgakghenaa", sum := "a8ccb1cd1ffc4c01a5884a17a0bfb904840b675adb4704d68f6248a2152cdfd1", func := "loop.example/g00975/laws.FnExactKnownIn", spec := "fnExactKnownIn", apart := false, narrowed := true }
def FnExactKnownInUptoSaid : Prop := fnExactKnownInUptoRow.holds Try.pinned (OpenSpec.upto fnExactKnownInSpec)

end Rows
end Go.Proofs.Ytfgckkgakghenaa
