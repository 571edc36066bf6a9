/-
  No cell of these rows narrows 'for every input' (looked for: loops, veiled, ifaces, maps, wideKeys, modest, calm, conditions, laid).
  DERIVED. THE GIVEN ROWS OF THIS SEAT. 4 by the template 'for every input the law returns true; each argument reads behind the call as it read before'; 0 by the template 'total and deterministic' (their statements: YtikamndjelamgaaTotals.lean).
  GIVEN WITH THE SEED: the statements are not yours to turn. If you find one false, say at which input.
  Laid BY PROGRAM, IN A SANDBOX (cutbox-rows.mjs): the forced cells as the released guide's own fill.sh prints them over the translation 2df506c83ceea0a7… (all of the seat's roots in one cut). By AI agents, Wed Nov 11 2026. No macro, syntax, notation, axiom, sorry.
-/
import Derived.Test.YtikamndjelamgaaChecked
import GoSem.Claim
import GoSem.ClaimJoined
import GoSem.ClaimMapViews
import Derived.JoinedTies
import Derived.KernelRfl
namespace Go.Proofs.Ytikamndjelamgaa
/- THE CELL 'sum', in the pinned program and in every row, IS THE sha256 OF THE DUMP (.gsa) THAT YtikamndjelamgaaProg.lean LOADS. Nothing in Lean hashes anything: it is a label: what it is worth is what the hold of that sum in a sandbox is worth. -/
noncomputable def Try.pinned : Pinned := { name := "ytikamndjelamgaa", sum := "2df506c83ceea0a723f7a4b0762ba0af3b1b53d832f4321a2420570c545c743d", checked := Try.checked }
namespace Rows
def none {H : Type} : Left H := { results := [], args := [] }

/-- 'laws.FnExactExitOk': WHATEVER THE INPUT: true; the input reads as it did. -/
def fnExactExitOkSpec : ChangeSpec := { name := "fnExactExitOk", fn := fun _ => fun
  | [d] => { results := [.lit (.bool true)], args := [d] }
  | _ => none }
def fnExactExitOkRow : OpenClaim := { program := "ytikamndjelamgaa", sum := "2df506c83ceea0a723f7a4b0762ba0af3b1b53d832f4321a2420570c545c743d", func := "loop.example/g00975/laws.FnExactExitOk", spec := "fnExactExitOk", apart := false }
def FnExactExitOkSaid : Prop := fnExactExitOkRow.holds Try.pinned (OpenSpec.ofChange fnExactExitOkSpec)

/-- ITS FALSE NEIGHBOUR: 'it returns false'. Refute it at one input. -/
def fnExactExitOkWrong : ChangeSpec := { name := "fnExactExitOk", fn := fun _ => fun
  | [d] => { results := [.lit (.bool false)], args := [d] }
  | _ => none }
def FnExactExitOkWrongFalsely : Prop := fnExactExitOkRow.holds Try.pinned (OpenSpec.ofChange fnExactExitOkWrong)

/-- 'laws.FnExactFaultExit': WHATEVER THE INPUT: true; the input reads as it did. -/
def fnExactFaultExitSpec : ChangeSpec := { name := "fnExactFaultExit", fn := fun _ => fun
  | [d1, d2] => { results := [.lit (.bool true)], args := [d1, d2] }
  | _ => none }
def fnExactFaultExitRow : OpenClaim := { program := "ytikamndjelamgaa", sum := "2df506c83ceea0a723f7a4b0762ba0af3b1b53d832f4321a2420570c545c743d", func := "loop.example/g00975/laws.FnExactFaultExit", spec := "fnExactFaultExit", apart := false }
def FnExactFaultExitSaid : Prop := fnExactFaultExitRow.holds Try.pinned (OpenSpec.ofChange fnExactFaultExitSpec)

/-- ITS FALSE NEIGHBOUR: 'it returns false'. Refute it at one input. -/
def fnExactFaultExitWrong : ChangeSpec := { name := "fnExactFaultExit", fn := fun _ => fun
  | [d1, d2] => { results := [.lit (.bool false)], args := [d1, d2] }
  | _ => none }
def FnExactFaultExitWrongFalsely : Prop := fnExactFaultExitRow.holds Try.pinned (OpenSpec.ofChange fnExactFaultExitWrong)

/-- 'laws.FnExactCallExit': WHATEVER THE INPUT: true; the input reads as it did. -/
def fnExactCallExitSpec : ChangeSpec := { name := "fnExactCallExit", fn := fun _ => fun
  | [d] => { results := [.lit (.bool true)], args := [d] }
  | _ => none }
def fnExactCallExitRow : OpenClaim := { program := "ytikamndjelamgaa", sum := "2df506c83ceea0a723f7a4b0762ba0af3b1b53d832f4321a2420570c545c743d", func := "loop.example/g00975/laws.FnExactCallExit", spec := "fnExactCallExit", apart := false }
def FnExactCallExitSaid : Prop := fnExactCallExitRow.holds Try.pinned (OpenSpec.ofChange fnExactCallExitSpec)

/-- ITS FALSE NEIGHBOUR: 'it returns false'. Refute it at one input. -/
def fnExactCallExitWrong : ChangeSpec := { name := "fnExactCallExit", fn := fun _ => fun
  | [d] => { results := [.lit (.bool false)], args := [d] }
  | _ => none }
def FnExactCallExitWrongFalsely : Prop := fnExactCallExitRow.holds Try.pinned (OpenSpec.ofChange fnExactCallExitWrong)

/-- 'laws.FnExactOutExit': WHATEVER THE INPUT: true; the input reads as it did. -/
def fnExactOutExitSpec : ChangeSpec := { name := "fnExactOutExit", fn := fun _ => fun
  | [d] => { results := [.lit (.bool true)], args := [d] }
  | _ => none }
def fnExactOutExitRow : OpenClaim := { program := "ytikamndjelamgaa", sum := "2df506c83ceea0a723f7a4b0762ba0af3b1b53d832f4321a2420570c545c743d", func := "loop.example/g00975/laws.FnExactOutExit", spec := "fnExactOutExit", apart := false }
def FnExactOutExitSaid : Prop := fnExactOutExitRow.holds Try.pinned (OpenSpec.ofChange fnExactOutExitSpec)

/-- ITS FALSE NEIGHBOUR: 'it returns false'. Refute it at one input. -/
def fnExactOutExitWrong : ChangeSpec := { name := "fnExactOutExit", fn := fun _ => fun
  | [d] => { results := [.lit (.bool false)], args := [d] }
  | _ => none }
def FnExactOutExitWrongFalsely : Prop := fnExactOutExitRow.holds Try.pinned (OpenSpec.ofChange fnExactOutExitWrong)

/- THE SECOND FORM. 'bulk': how many values and letters a reading holds, each counted each time it is reached (what is shared counts as often as it is met; a slice's spare places count too). A statement '..UptoSaid' is the law's where the arguments, and the package variables that the reading takes, are together of bulk at most 1048576: NARROWER than '..Said'. Prove '..Said' where nothing that the law and all that it calls make is longer than what came in: it says more and counts as full. Else prove '..UptoSaid'. A law counts once. -/
mutual
def uptoBulk {H : Type} : DataW H → Nat
  | .lit (.string bytes) => bytes.length + 1
  | .lit _ => 1
  | .nil => 1
  | .ptr d => uptoBulk d + 1
  | .slice elems spare => uptoBulkAll elems + uptoBulkAll spare + 1
  | .agg parts => uptoBulkAll parts + 1
  | .iface _ d => uptoBulk d + 1
  | .map entries => uptoBulkEntries entries + 1
  | .held _ => 1
def uptoBulkAll {H : Type} : List (DataW H) → Nat
  | [] => 0
  | d :: r => uptoBulk d + uptoBulkAll r
def uptoBulkEntries {H : Type} : List (Lit × DataW H) → Nat
  | [] => 0
  | x :: r => uptoBulkEntry x + uptoBulkEntries r
def uptoBulkEntry {H : Type} : Lit × DataW H → Nat
  | (.string bytes, d) => bytes.length + uptoBulk d + 1
  | (_, d) => uptoBulk d + 1
 end
def uptoSmall : (H : Type) → List (DataW H) → Bool := fun _ ds => decide (uptoBulkAll ds ≤ 1048576)
def OpenSpec.upto (s : _root_.Go.ChangeSpec) : _root_.Go.OpenSpec := { _root_.Go.OpenSpec.ofChange s with cond := some uptoSmall }

/-- 'laws.FnExactExitOk', WHERE WHAT IT READS IS OF BULK AT MOST 1048576: true; the input reads as it did. -/
def fnExactExitOkUptoRow : OpenClaim := { program := "ytikamndjelamgaa", sum := "2df506c83ceea0a723f7a4b0762ba0af3b1b53d832f4321a2420570c545c743d", func := "loop.example/g00975/laws.FnExactExitOk", spec := "fnExactExitOk", apart := false, narrowed := true }
def FnExactExitOkUptoSaid : Prop := fnExactExitOkUptoRow.holds Try.pinned (OpenSpec.upto fnExactExitOkSpec)

/-- 'laws.FnExactFaultExit', WHERE WHAT IT READS IS OF BULK AT MOST 1048576: true; the input reads as it did. -/
def fnExactFaultExitUptoRow : OpenClaim := { program := "ytikamndjelamgaa", sum := "2df506c83ceea0a723f7a4b0762ba0af3b1b53d832f4321a2420570c545c743d", func := "loop.example/g00975/laws.FnExactFaultExit", spec := "fnExactFaultExit", apart := false, narrowed := true }
def FnExactFaultExitUptoSaid : Prop := fnExactFaultExitUptoRow.holds Try.pinned (OpenSpec.upto fnExactFaultExitSpec)

/-- 'laws.FnExactCallExit', WHERE WHAT IT READS IS OF BULK AT MOST 1048576: true; the input reads as it did. -/
def fnExactCallExitUptoRow : OpenClaim := { program := "ytikamndjelamgaa", sum := "2df506c83ceea0a723f7a4b0762ba0af3b1b53d832f4321a2420570c545c743d", func := "loop.example/g00975/laws.FnExactCallExit", spec := "fnExactCallExit", apart := false, narrowed := true }
def FnExactCallExitUptoSaid : Prop := fnExactCallExitUptoRow.holds Try.pinned (OpenSpec.upto fnExactCallExitSpec)

/-- 'laws.FnExactOutExit', WHERE WHAT IT READS IS OF BULK AT MOST 1048576: true; the input reads as it did. -/
def fnExactOutExitUptoRow : OpenClaim := { program := "ytikamndjelamgaa", sum := "2df506c83ceea0a723f7a4b0762ba0af3b1b53d832f4321a2420570c545c743d", func := "loop.example/g00975/laws.FnExactOutExit", spec := "fnExactOutExit", apart := false, narrowed := true }
def FnExactOutExitUptoSaid : Prop := fnExactOutExitUptoRow.holds Try.pinned (OpenSpec.upto fnExactOutExitSpec)

end Rows
end Go.Proofs.Ytikamndjelamgaa
