/-
  No cell of these rows narrows 'for every input' (looked for: loops, veiled, ifaces, maps, wideKeys, modest, calm, conditions, laid).
  DERIVED. THE GIVEN ROWS OF THIS SEAT. 6 by the template 'for every input the law returns true; each argument reads behind the call as it read before'; 0 by the template 'total and deterministic' (their statements: YtmiokacihcpepaaGreatTotals.lean).
  GIVEN WITH THE SEED: the statements are not yours to turn. If you find one false, say at which input.
  Laid BY PROGRAM, IN A SANDBOX (cutbox-rows.mjs): the forced cells as the released guide's own fill.sh prints them over the translation f7f8fe18e6ed9062… (all of the seat's roots in one cut). By AI agents, Wed Nov 11 2026. No macro, syntax, notation, axiom, sorry.
-/
import Derived.Test.YtmiokacihcpepaaGreatChecked
import GoSem.Claim
import GoSem.ClaimJoined
import GoSem.ClaimMapViews
import Derived.JoinedTies
import Derived.KernelRfl
namespace Go.Proofs.YtmiokacihcpepaaGreat
/- THE CELL 'sum', in the pinned program and in every row, IS THE sha256 OF THE DUMP (.gsa) THAT YtmiokacihcpepaaGreatProg.lean LOADS. Nothing in Lean hashes anything: it is a label: what it is worth is what the hold of that sum in a sandbox is worth. -/
noncomputable def Tryz.pinned : Pinned := { name := "ytmiokacihcpepaagreat", sum := "f7f8fe18e6ed9062e938b40530253fec9943f163715388434995fd5d0998edcb", checked := Tryz.checked }
namespace Rows
def none {H : Type} : Left H := { results := [], args := [] }

/-- 'laws.FnBareSteps': WHATEVER THE INPUT: true; the input reads as it did. -/
def fnBareStepsSpec : ChangeSpec := { name := "fnBareSteps", fn := fun _ => fun
  | [d] => { results := [.lit (.bool true)], args := [d] }
  | _ => none }
def fnBareStepsRow : OpenClaim := { program := "ytmiokacihcpepaagreat", sum := "f7f8fe18e6ed9062e938b40530253fec9943f163715388434995fd5d0998edcb", func := "loop.example/g00975/laws.FnBareSteps", spec := "fnBareSteps", unfollowed := true, recurses := true, apart := false }
def FnBareStepsSaid : Prop := fnBareStepsRow.holds Tryz.pinned (OpenSpec.ofChange fnBareStepsSpec)

/-- ITS FALSE NEIGHBOUR: 'it returns false'. Refute it at one input. -/
def fnBareStepsWrong : ChangeSpec := { name := "fnBareSteps", fn := fun _ => fun
  | [d] => { results := [.lit (.bool false)], args := [d] }
  | _ => none }
def FnBareStepsWrongFalsely : Prop := fnBareStepsRow.holds Tryz.pinned (OpenSpec.ofChange fnBareStepsWrong)

/-- 'laws.FnProgram': WHATEVER THE INPUT: true; the input reads as it did. -/
def fnProgramSpec : ChangeSpec := { name := "fnProgram", fn := fun _ => fun
  | [d] => { results := [.lit (.bool true)], args := [d] }
  | _ => none }
def fnProgramRow : OpenClaim := { program := "ytmiokacihcpepaagreat", sum := "f7f8fe18e6ed9062e938b40530253fec9943f163715388434995fd5d0998edcb", func := "loop.example/g00975/laws.FnProgram", spec := "fnProgram", unfollowed := true, recurses := true, apart := false }
def FnProgramSaid : Prop := fnProgramRow.holds Tryz.pinned (OpenSpec.ofChange fnProgramSpec)

/-- ITS FALSE NEIGHBOUR: 'it returns false'. Refute it at one input. -/
def fnProgramWrong : ChangeSpec := { name := "fnProgram", fn := fun _ => fun
  | [d] => { results := [.lit (.bool false)], args := [d] }
  | _ => none }
def FnProgramWrongFalsely : Prop := fnProgramRow.holds Tryz.pinned (OpenSpec.ofChange fnProgramWrong)

/-- 'laws.FnStands': WHATEVER THE INPUT: true; the input reads as it did. -/
def fnStandsSpec : ChangeSpec := { name := "fnStands", fn := fun _ => fun
  | [d] => { results := [.lit (.bool true)], args := [d] }
  | _ => none }
def fnStandsRow : OpenClaim := { program := "ytmiokacihcpepaagreat", sum := "f7f8fe18e6ed9062e938b40530253fec9943f163715388434995fd5d0998edcb", func := "loop.example/g00975/laws.FnStands", spec := "fnStands", unfollowed := true, recurses := true, apart := false }
def FnStandsSaid : Prop := fnStandsRow.holds Tryz.pinned (OpenSpec.ofChange fnStandsSpec)

/-- ITS FALSE NEIGHBOUR: 'it returns false'. Refute it at one input. -/
def fnStandsWrong : ChangeSpec := { name := "fnStands", fn := fun _ => fun
  | [d] => { results := [.lit (.bool false)], args := [d] }
  | _ => none }
def FnStandsWrongFalsely : Prop := fnStandsRow.holds Tryz.pinned (OpenSpec.ofChange fnStandsWrong)

/-- 'laws.FnTrapped': WHATEVER THE INPUT: true; the input reads as it did. -/
def fnTrappedSpec : ChangeSpec := { name := "fnTrapped", fn := fun _ => fun
  | [d] => { results := [.lit (.bool true)], args := [d] }
  | _ => none }
def fnTrappedRow : OpenClaim := { program := "ytmiokacihcpepaagreat", sum := "f7f8fe18e6ed9062e938b40530253fec9943f163715388434995fd5d0998edcb", func := "loop.example/g00975/laws.FnTrapped", spec := "fnTrapped", unfollowed := true, recurses := true, apart := false }
def FnTrappedSaid : Prop := fnTrappedRow.holds Tryz.pinned (OpenSpec.ofChange fnTrappedSpec)

/-- ITS FALSE NEIGHBOUR: 'it returns false'. Refute it at one input. -/
def fnTrappedWrong : ChangeSpec := { name := "fnTrapped", fn := fun _ => fun
  | [d] => { results := [.lit (.bool false)], args := [d] }
  | _ => none }
def FnTrappedWrongFalsely : Prop := fnTrappedRow.holds Tryz.pinned (OpenSpec.ofChange fnTrappedWrong)

/-- 'laws.FnExactBareStep': WHATEVER THE INPUT: true; the input reads as it did. -/
def fnExactBareStepSpec : ChangeSpec := { name := "fnExactBareStep", fn := fun _ => fun
  | [d1, d2] => { results := [.lit (.bool true)], args := [d1, d2] }
  | _ => none }
def fnExactBareStepRow : OpenClaim := { program := "ytmiokacihcpepaagreat", sum := "f7f8fe18e6ed9062e938b40530253fec9943f163715388434995fd5d0998edcb", func := "loop.example/g00975/laws.FnExactBareStep", spec := "fnExactBareStep", unfollowed := true, recurses := true, apart := false }
def FnExactBareStepSaid : Prop := fnExactBareStepRow.holds Tryz.pinned (OpenSpec.ofChange fnExactBareStepSpec)

/-- ITS FALSE NEIGHBOUR: 'it returns false'. Refute it at one input. -/
def fnExactBareStepWrong : ChangeSpec := { name := "fnExactBareStep", fn := fun _ => fun
  | [d1, d2] => { results := [.lit (.bool false)], args := [d1, d2] }
  | _ => none }
def FnExactBareStepWrongFalsely : Prop := fnExactBareStepRow.holds Tryz.pinned (OpenSpec.ofChange fnExactBareStepWrong)

/-- 'laws.FnExactBareSteps': WHATEVER THE INPUT: true; the input reads as it did. -/
def fnExactBareStepsSpec : ChangeSpec := { name := "fnExactBareSteps", fn := fun _ => fun
  | [d1, d2] => { results := [.lit (.bool true)], args := [d1, d2] }
  | _ => none }
def fnExactBareStepsRow : OpenClaim := { program := "ytmiokacihcpepaagreat", sum := "f7f8fe18e6ed9062e938b40530253fec9943f163715388434995fd5d0998edcb", func := "loop.example/g00975/laws.FnExactBareSteps", spec := "fnExactBareSteps", unfollowed := true, recurses := true, apart := false }
def FnExactBareStepsSaid : Prop := fnExactBareStepsRow.holds Tryz.pinned (OpenSpec.ofChange fnExactBareStepsSpec)

/-- ITS FALSE NEIGHBOUR: 'it returns false'. Refute it at one input. -/
def fnExactBareStepsWrong : ChangeSpec := { name := "fnExactBareSteps", fn := fun _ => fun
  | [d1, d2] => { results := [.lit (.bool false)], args := [d1, d2] }
  | _ => none }
def FnExactBareStepsWrongFalsely : Prop := fnExactBareStepsRow.holds Tryz.pinned (OpenSpec.ofChange fnExactBareStepsWrong)

/- THE SECOND FORM. 'bulk': how many values and letters a reading holds, each counted each time it is reached (what is shared counts as often as it is met; a slice's spare places count too). A statement '..UptoSaid' is the law's where the arguments, and the package variables that the reading takes, are together of bulk at most 1048576: NARROWER than '..Said'. Prove '..Said' where nothing that the law and all that it calls make is longer than what came in: it says more and counts as full. Else prove '..UptoSaid'. A law counts once. -/
mutual
def uptoBulk {H : Type} : DataW H → Nat
  | .lit (.string bytes) => bytes.length + 1
  | .lit _ => 1
  | .nil => 1
  | .ptr d => uptoBulk d + 1
  | .slice elems spare => uptoBulkAll elems + uptoBulkAll spare + 1
  | .agg parts => uptoBulkAll parts + 1
  | .iface _ d => uptoBulk d + 1
  | .map entries => uptoBulkEntries entries + 1
  | .held _ => 1
def uptoBulkAll {H : Type} : List (DataW H) → Nat
  | [] => 0
  | d :: r => uptoBulk d + uptoBulkAll r
def uptoBulkEntries {H : Type} : List (Lit × DataW H) → Nat
  | [] => 0
  | x :: r => uptoBulkEntry x + uptoBulkEntries r
def uptoBulkEntry {H : Type} : Lit × DataW H → Nat
  | (.string bytes, d) => bytes.length + uptoBulk d + 1
  | (_, d) => uptoBulk d + 1
 end
def uptoSmall : (H : Type) → List (DataW H) → Bool := fun _ ds => decide (uptoBulkAll ds ≤ 1048576)
def OpenSpec.upto (s : _root_.Go.ChangeSpec) : _root_.Go.OpenSpec := { _root_.Go.OpenSpec.ofChange s with cond := some uptoSmall }

/-- 'laws.FnBareSteps', WHERE WHAT IT READS IS OF BULK AT MOST 1048576: true; the input reads as it did. -/
def fnBareStepsUptoRow : OpenClaim := { program := "ytmiokacihcpepaagreat", sum := "f7f8fe18e6ed9062e938b40530253fec9943f163715388434995fd5d0998edcb", func := "loop.example/g00975/laws.FnBareSteps", spec := "fnBareSteps", unfollowed := true, recurses := true, apart := false, narrowed := true }
def FnBareStepsUptoSaid : Prop := fnBareStepsUptoRow.holds Tryz.pinned (OpenSpec.upto fnBareStepsSpec)

/-- 'laws.FnProgram', WHERE WHAT IT READS IS OF BULK AT MOST 1048576: true; the input reads as it did. -/
def fnProgramUptoRow : OpenClaim := { program := "ytmiokacihcpepaagreat", sum := "f7f8fe18e6ed9062e938b40530253fec9943f163715388434995fd5d0998edcb", func := "loop.example/g00975/laws.FnProgram", spec := "fnProgram", unfollowed := true, recurses := true, apart := false, narrowed := true }
def FnProgramUptoSaid : Prop := fnProgramUptoRow.holds Tryz.pinned (OpenSpec.upto fnProgramSpec)

/-- 'laws.FnStands', WHERE WHAT IT READS IS OF BULK AT MOST 1048576: true; the input reads as it did. -/
def fnStandsUptoRow : OpenClaim := { program := "ytmiokacihcpepaagreat", sum := "f7f8fe18e6ed9062e938b40530253fec9943f163715388434995fd5d0998edcb", func := "loop.example/g00975/laws.FnStands", spec := "fnStands", unfollowed := true, recurses := true, apart := false, narrowed := true }
def FnStandsUptoSaid : Prop := fnStandsUptoRow.holds Tryz.pinned (OpenSpec.upto fnStandsSpec)

/-- 'laws.FnTrapped', WHERE WHAT IT READS IS OF BULK AT MOST 1048576: true; the input reads as it did. -/
def fnTrappedUptoRow : OpenClaim := { program := "ytmiokacihcpepaagreat", sum := "f7f8fe18e6ed9062e938b40530253fec9943f163715388434995fd5d0998edcb", func := "loop.example/g00975/laws.FnTrapped", spec := "fnTrapped", unfollowed := true, recurses := true, apart := false, narrowed := true }
def FnTrappedUptoSaid : Prop := fnTrappedUptoRow.holds Tryz.pinned (OpenSpec.upto fnTrappedSpec)

/-- 'laws.FnExactBareStep', WHERE WHAT IT READS IS OF BULK AT MOST 1048576: true; the input reads as it did. -/
def fnExactBareStepUptoRow : OpenClaim := { program := "ytmiokacihcpepaagreat", sum := "f7f8fe18e6ed9062e938b40530253fec9943f163715388434995fd5d0998edcb", func := "loop.example/g00975/laws.FnExactBareStep", spec := "fnExactBareStep", unfollowed := true, recurses := true, apart := false, narrowed := true }
def FnExactBareStepUptoSaid : Prop := fnExactBareStepUptoRow.holds Tryz.pinned (OpenSpec.upto fnExactBareStepSpec)

/-- 'laws.FnExactBareSteps', WHERE WHAT IT READS IS OF BULK AT MOST 1048576: true; the input reads as it did. -/
def fnExactBareStepsUptoRow : OpenClaim := { program := "ytmiokacihcpepaagreat", sum := "f7f8fe18e6ed9062e938b40530253fec9943f163715388434995fd5d0998edcb", func := "loop.example/g00975/laws.FnExactBareSteps", spec := "fnExactBareSteps", unfollowed := true, recurses := true, apart := false, narrowed := true }
def FnExactBareStepsUptoSaid : Prop := fnExactBareStepsUptoRow.holds Tryz.pinned (OpenSpec.upto fnExactBareStepsSpec)

end Rows
end Go.Proofs.YtmiokacihcpepaaGreat
