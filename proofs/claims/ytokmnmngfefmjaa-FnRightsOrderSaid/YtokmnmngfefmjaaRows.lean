/-
  No cell of these rows narrows 'for every input' (looked for: loops, veiled, ifaces, maps, wideKeys, modest, calm, conditions, laid).
  DERIVED. THE GIVEN ROWS OF THIS SEAT. 7 by the template 'for every input the law returns true; each argument reads behind the call as it read before'; 0 by the template 'total and deterministic' (their statements: YtokmnmngfefmjaaTotals.lean).
  GIVEN WITH THE SEED: the statements are not yours to turn. If you find one false, say at which input.
  Laid BY PROGRAM, IN A SANDBOX (cutbox-rows.mjs): the forced cells as the released guide's own fill.sh prints them over the translation 040406f19723a2ab… (all of the seat's roots in one cut). By AI agents, Wed Nov 11 2026. No macro, syntax, notation, axiom, sorry.
-/
import Derived.Test.YtokmnmngfefmjaaChecked
import GoSem.Claim
import GoSem.ClaimJoined
import GoSem.ClaimMapViews
import Derived.JoinedTies
import Derived.KernelRfl
namespace Go.Proofs.Ytokmnmngfefmjaa
/- THE CELL 'sum', in the pinned program and in every row, IS THE sha256 OF THE DUMP (.gsa) THAT YtokmnmngfefmjaaProg.lean LOADS. Nothing in Lean hashes anything: it is a label: what it is worth is what the hold of that sum in a sandbox is worth. -/
noncomputable def Try.pinned : Pinned := { name := "ytokmnmngfefmjaa", sum := "040406f19723a2ab5c67b577fb036d2c2a9712c60b3314bc878550fe909c2086", checked := Try.checked }
namespace Rows
def none {H : Type} : Left H := { results := [], args := [] }

/-- 'laws.FnRights': WHATEVER THE INPUT: true; the input reads as it did. -/
def fnRightsSpec : ChangeSpec := { name := "fnRights", fn := fun _ => fun
  | [d] => { results := [.lit (.bool true)], args := [d] }
  | _ => none }
def fnRightsRow : OpenClaim := { program := "ytokmnmngfefmjaa", sum := "040406f19723a2ab5c67b577fb036d2c2a9712c60b3314bc878550fe909c2086", func := "loop.example/g00975/laws.FnRights", spec := "fnRights", apart := false }
def FnRightsSaid : Prop := fnRightsRow.holds Try.pinned (OpenSpec.ofChange fnRightsSpec)

/-- ITS FALSE NEIGHBOUR: 'it returns false'. Refute it at one input. -/
def fnRightsWrong : ChangeSpec := { name := "fnRights", fn := fun _ => fun
  | [d] => { results := [.lit (.bool false)], args := [d] }
  | _ => none }
def FnRightsWrongFalsely : Prop := fnRightsRow.holds Try.pinned (OpenSpec.ofChange fnRightsWrong)

/-- 'laws.FnRightsOrder': WHATEVER THE INPUT: true; the input reads as it did. -/
def fnRightsOrderSpec : ChangeSpec := { name := "fnRightsOrder", fn := fun _ => fun
  | [d] => { results := [.lit (.bool true)], args := [d] }
  | _ => none }
def fnRightsOrderRow : OpenClaim := { program := "ytokmnmngfefmjaa", sum := "040406f19723a2ab5c67b577fb036d2c2a9712c60b3314bc878550fe909c2086", func := "loop.example/g00975/laws.FnRightsOrder", spec := "fnRightsOrder", apart := false }
def FnRightsOrderSaid : Prop := fnRightsOrderRow.holds Try.pinned (OpenSpec.ofChange fnRightsOrderSpec)

/-- ITS FALSE NEIGHBOUR: 'it returns false'. Refute it at one input. -/
def fnRightsOrderWrong : ChangeSpec := { name := "fnRightsOrder", fn := fun _ => fun
  | [d] => { results := [.lit (.bool false)], args := [d] }
  | _ => none }
def FnRightsOrderWrongFalsely : Prop := fnRightsOrderRow.holds Try.pinned (OpenSpec.ofChange fnRightsOrderWrong)

/-- 'laws.FnExactRightsOk': WHATEVER THE INPUT: true; the input reads as it did. -/
def fnExactRightsOkSpec : ChangeSpec := { name := "fnExactRightsOk", fn := fun _ => fun
  | [d] => { results := [.lit (.bool true)], args := [d] }
  | _ => none }
def fnExactRightsOkRow : OpenClaim := { program := "ytokmnmngfefmjaa", sum := "040406f19723a2ab5c67b577fb036d2c2a9712c60b3314bc878550fe909c2086", func := "loop.example/g00975/laws.FnExactRightsOk", spec := "fnExactRightsOk", apart := false }
def FnExactRightsOkSaid : Prop := fnExactRightsOkRow.holds Try.pinned (OpenSpec.ofChange fnExactRightsOkSpec)

/-- ITS FALSE NEIGHBOUR: 'it returns false'. Refute it at one input. -/
def fnExactRightsOkWrong : ChangeSpec := { name := "fnExactRightsOk", fn := fun _ => fun
  | [d] => { results := [.lit (.bool false)], args := [d] }
  | _ => none }
def FnExactRightsOkWrongFalsely : Prop := fnExactRightsOkRow.holds Try.pinned (OpenSpec.ofChange fnExactRightsOkWrong)

/-- 'laws.FnExactBothRights': WHATEVER THE INPUT: true; the input reads as it did. -/
def fnExactBothRightsSpec : ChangeSpec := { name := "fnExactBothRights", fn := fun _ => fun
  | [d1, d2] => { results := [.lit (.bool true)], args := [d1, d2] }
  | _ => none }
def fnExactBothRightsRow : OpenClaim := { program := "ytokmnmngfefmjaa", sum := "040406f19723a2ab5c67b577fb036d2c2a9712c60b3314bc878550fe909c2086", func := "loop.example/g00975/laws.FnExactBothRights", spec := "fnExactBothRights", apart := false }
def FnExactBothRightsSaid : Prop := fnExactBothRightsRow.holds Try.pinned (OpenSpec.ofChange fnExactBothRightsSpec)

/-- ITS FALSE NEIGHBOUR: 'it returns false'. Refute it at one input. -/
def fnExactBothRightsWrong : ChangeSpec := { name := "fnExactBothRights", fn := fun _ => fun
  | [d1, d2] => { results := [.lit (.bool false)], args := [d1, d2] }
  | _ => none }
def FnExactBothRightsWrongFalsely : Prop := fnExactBothRightsRow.holds Try.pinned (OpenSpec.ofChange fnExactBothRightsWrong)

/-- 'laws.FnExactEnough': WHATEVER THE INPUT: true; the input reads as it did. -/
def fnExactEnoughSpec : ChangeSpec := { name := "fnExactEnough", fn := fun _ => fun
  | [d1, d2] => { results := [.lit (.bool true)], args := [d1, d2] }
  | _ => none }
def fnExactEnoughRow : OpenClaim := { program := "ytokmnmngfefmjaa", sum := "040406f19723a2ab5c67b577fb036d2c2a9712c60b3314bc878550fe909c2086", func := "loop.example/g00975/laws.FnExactEnough", spec := "fnExactEnough", apart := false }
def FnExactEnoughSaid : Prop := fnExactEnoughRow.holds Try.pinned (OpenSpec.ofChange fnExactEnoughSpec)

/-- ITS FALSE NEIGHBOUR: 'it returns false'. Refute it at one input. -/
def fnExactEnoughWrong : ChangeSpec := { name := "fnExactEnough", fn := fun _ => fun
  | [d1, d2] => { results := [.lit (.bool false)], args := [d1, d2] }
  | _ => none }
def FnExactEnoughWrongFalsely : Prop := fnExactEnoughRow.holds Try.pinned (OpenSpec.ofChange fnExactEnoughWrong)

/-- 'laws.FnExactNeedOf': WHATEVER THE INPUT: true; the input reads as it did. -/
def fnExactNeedOfSpec : ChangeSpec := { name := "fnExactNeedOf", fn := fun _ => fun
  | [d] => { results := [.lit (.bool true)], args := [d] }
  | _ => none }
def fnExactNeedOfRow : OpenClaim := { program := "ytokmnmngfefmjaa", sum := "040406f19723a2ab5c67b577fb036d2c2a9712c60b3314bc878550fe909c2086", func := "loop.example/g00975/laws.FnExactNeedOf", spec := "fnExactNeedOf", apart := false }
def FnExactNeedOfSaid : Prop := fnExactNeedOfRow.holds Try.pinned (OpenSpec.ofChange fnExactNeedOfSpec)

/-- ITS FALSE NEIGHBOUR: 'it returns false'. Refute it at one input. -/
def fnExactNeedOfWrong : ChangeSpec := { name := "fnExactNeedOf", fn := fun _ => fun
  | [d] => { results := [.lit (.bool false)], args := [d] }
  | _ => none }
def FnExactNeedOfWrongFalsely : Prop := fnExactNeedOfRow.holds Try.pinned (OpenSpec.ofChange fnExactNeedOfWrong)

/-- 'laws.FnExactRightsText': WHATEVER THE INPUT: true; the input reads as it did. -/
def fnExactRightsTextSpec : ChangeSpec := { name := "fnExactRightsText", fn := fun _ => fun
  | [d] => { results := [.lit (.bool true)], args := [d] }
  | _ => none }
def fnExactRightsTextRow : OpenClaim := { program := "ytokmnmngfefmjaa", sum := "040406f19723a2ab5c67b577fb036d2c2a9712c60b3314bc878550fe909c2086", func := "loop.example/g00975/laws.FnExactRightsText", spec := "fnExactRightsText", apart := false }
def FnExactRightsTextSaid : Prop := fnExactRightsTextRow.holds Try.pinned (OpenSpec.ofChange fnExactRightsTextSpec)

/-- ITS FALSE NEIGHBOUR: 'it returns false'. Refute it at one input. -/
def fnExactRightsTextWrong : ChangeSpec := { name := "fnExactRightsText", fn := fun _ => fun
  | [d] => { results := [.lit (.bool false)], args := [d] }
  | _ => none }
def FnExactRightsTextWrongFalsely : Prop := fnExactRightsTextRow.holds Try.pinned (OpenSpec.ofChange fnExactRightsTextWrong)

/- THE SECOND FORM. 'bulk': how many values and letters a reading holds, each counted each time it is reached (what is shared counts as often as it is met; a slice's spare places count too). A statement '..UptoSaid' is the law's where the arguments, and the package variables that the reading takes, are together of bulk at most 1048576: NARROWER than '..Said'. Prove '..Said' where nothing that the law and all that it calls make is longer than what came in: it says more and counts as full. Else prove '..UptoSaid'. A law counts once. -/
mutual
def uptoBulk {H : Type} : DataW H → Nat
  | .lit (.string bytes) => bytes.length + 1
  | .lit _ => 1
  | .nil => 1
  | .ptr d => uptoBulk d + 1
  | .slice elems spare => uptoBulkAll elems + uptoBulkAll spare + 1
  | .agg parts => uptoBulkAll parts + 1
  | .iface _ d => uptoBulk d + 1
  | .map entries => uptoBulkEntries entries + 1
  | .held _ => 1
def uptoBulkAll {H : Type} : List (DataW H) → Nat
  | [] => 0
  | d :: r => uptoBulk d + uptoBulkAll r
def uptoBulkEntries {H : Type} : List (Lit × DataW H) → Nat
  | [] => 0
  | x :: r => uptoBulkEntry x + uptoBulkEntries r
def uptoBulkEntry {H : Type} : Lit × DataW H → Nat
  | (.string bytes, d) => bytes.length + uptoBulk d + 1
  | (_, d) => uptoBulk d + 1
 end
def uptoSmall : (H : Type) → List (DataW H) → Bool := fun _ ds => decide (uptoBulkAll ds ≤ 1048576)
def OpenSpec.upto (s : _root_.Go.ChangeSpec) : _root_.Go.OpenSpec := { _root_.Go.OpenSpec.ofChange s with cond := some uptoSmall }

/-- 'laws.FnRights', WHERE WHAT IT READS IS OF BULK AT MOST 1048576: true; the input reads as it did. -/
def fnRightsUptoRow : OpenClaim := { program := "ytokmnmngfefmjaa", sum := "040406f19723a2ab5c67b577fb036d2c2a9712c60b3314bc878550fe909c2086", func := "loop.example/g00975/laws.FnRights", spec := "fnRights", apart := false, narrowed := true }
def FnRightsUptoSaid : Prop := fnRightsUptoRow.holds Try.pinned (OpenSpec.upto fnRightsSpec)

/-- 'laws.FnRightsOrder', WHERE WHAT IT READS IS OF BULK AT MOST 1048576: true; the input reads as it did. -/
def fnRightsOrderUptoRow : OpenClaim := { program := "ytokmnmngfefmjaa", sum := "040406f19723a2ab5c67b577fb036d2c2a9712c60b3314bc878550fe909c2086", func := "loop.example/g00975/laws.FnRightsOrder", spec := "fnRightsOrder", apart := false, narrowed := true }
def FnRightsOrderUptoSaid : Prop := fnRightsOrderUptoRow.holds Try.pinned (OpenSpec.upto fnRightsOrderSpec)

/-- 'laws.FnExactRightsOk', WHERE WHAT IT READS IS OF BULK AT MOST 1048576: true; the input reads as it did. -/
def fnExactRightsOkUptoRow : OpenClaim := { program := "ytokmnmngfefmjaa", sum := "040406f19723a2ab5c67b577fb036d2c2a9712c60b3314bc878550fe909c2086", func := "loop.example/g00975/laws.FnExactRightsOk", spec := "fnExactRightsOk", apart := false, narrowed := true }
def FnExactRightsOkUptoSaid : Prop := fnExactRightsOkUptoRow.holds Try.pinned (OpenSpec.upto fnExactRightsOkSpec)

/-- 'laws.FnExactBothRights', WHERE WHAT IT READS IS OF BULK AT MOST 1048576: true; the input reads as it did. -/
def fnExactBothRightsUptoRow : OpenClaim := { program := "ytokmnmngfefmjaa", sum := "040406f19723a2ab5c67b577fb036d2c2a9712c60b3314bc878550fe909c2086", func := "loop.example/g00975/laws.FnExactBothRights", spec := "fnExactBothRights", apart := false, narrowed := true }
def FnExactBothRightsUptoSaid : Prop := fnExactBothRightsUptoRow.holds Try.pinned (OpenSpec.upto fnExactBothRightsSpec)

/-- 'laws.FnExactEnough', WHERE WHAT IT READS IS OF BULK AT MOST 1048576: true; the input reads as it did. -/
def fnExactEnoughUptoRow : OpenClaim := { program := "ytokmnmngfefmjaa", sum := "040406f19723a2ab5c67b577fb036d2c2a9712c60b3314bc878550fe909c2086", func := "loop.example/g00975/laws.FnExactEnough", spec := "fnExactEnough", apart := false, narrowed := true }
def FnExactEnoughUptoSaid : Prop := fnExactEnoughUptoRow.holds Try.pinned (OpenSpec.upto fnExactEnoughSpec)

/-- 'laws.FnExactNeedOf', WHERE WHAT IT READS IS OF BULK AT MOST 1048576: true; the input reads as it did. -/
def fnExactNeedOfUptoRow : OpenClaim := { program := "ytokmnmngfefmjaa", sum := "040406f19723a2ab5c67b577fb036d2c2a9712c60b3314bc878550fe909c2086", func := "loop.example/g00975/laws.FnExactNeedOf", spec := "fnExactNeedOf", apart := false, narrowed := true }
def FnExactNeedOfUptoSaid : Prop := fnExactNeedOfUptoRow.holds Try.pinned (OpenSpec.upto fnExactNeedOfSpec)

/-- 'laws.FnExactRightsText', WHERE WHAT IT READS IS OF BULK AT MOST 1048576: true; the input reads as it did. -/
def fnExactRightsTextUptoRow : OpenClaim := { program := "ytokmnmngfefmjaa", sum := "040406f19723a2ab5c67b577fb036d2c2a9712c60b3314bc878550fe909c2086", func := "loop.example/g00975/laws.FnExactRightsText", spec := "fnExactRightsText", apart := false, narrowed := true }
def FnExactRightsTextUptoSaid : Prop := fnExactRightsTextUptoRow.holds Try.pinned (OpenSpec.upto fnExactRightsTextSpec)

end Rows
end Go.Proofs.Ytokmnmngfefmjaa
