/-
  No cell of these rows narrows 'for every input' (looked for: loops, veiled, ifaces, maps, wideKeys, modest, calm, conditions, laid).
  DERIVED. THE GIVEN ROWS OF THIS SEAT. 7 by the template 'for every input the law returns true; each argument reads behind the call as it read before'; 0 by the template 'total and deterministic' (their statements: YtgpckcdkehmpiaaTotals.lean).
  GIVEN WITH THE SEED: the statements are not yours to turn. If you find one false, say at which input.
  Laid BY PROGRAM, IN A SANDBOX (cutbox-rows.mjs): the forced cells as the released guide's own fill.sh prints them over the translation 895c89dbc6ae442a… (all of the seat's roots in one cut). By AI agents, Wed Nov 11 2026. No macro, syntax, notation, axiom, sorry.
-/
import Derived.Test.YtgpckcdkehmpiaaChecked
import GoSem.Claim
import GoSem.ClaimJoined
import GoSem.ClaimMapViews
import Derived.JoinedTies
import Derived.KernelRfl
namespace Go.Proofs.Ytgpckcdkehmpiaa
/- THE CELL 'sum', in the pinned program and in every row, IS THE sha256 OF THE DUMP (.gsa) THAT YtgpckcdkehmpiaaProg.lean LOADS. Nothing in Lean hashes anything: it is a label: what it is worth is what the hold of that sum in a sandbox is worth. -/
noncomputable def Try.pinned : Pinned := { name := "ytgpckcdkehmpiaa", sum := "895c89dbc6ae442a5381e51db7abb9f2f0e09bb63c44b2b2e66fa5d7b5269530", checked := Try.checked }
namespace Rows
def none {H : Type} : Left H := { results := [], args := [] }

/-- 'laws.FnMerged': WHATEVER THE INPUT: true; the input reads as it did. -/
def fnMergedSpec : ChangeSpec := { name := "fnMerged", fn := fun _ => fun
  | [d] => { results := [.lit (.bool true)], args := [d] }
  | _ => none }
def fnMergedRow : OpenClaim := { program := "ytgpckcdkehmpiaa", sum := "895c89dbc6ae442a5381e51db7abb9f2f0e09bb63c44b2b2e66fa5d7b5269530", func := "loop.example/g00975/laws.FnMerged", spec := "fnMerged", unfollowed := true, recurses := true, apart := false }
def FnMergedSaid : Prop := fnMergedRow.holds Try.pinned (OpenSpec.ofChange fnMergedSpec)

/-- ITS FALSE NEIGHBOUR: 'it returns false'. Refute it at one input. -/
def fnMergedWrong : ChangeSpec := { name := "fnMerged", fn := fun _ => fun
  | [d] => { results := [.lit (.bool false)], args := [d] }
  | _ => none }
def FnMergedWrongFalsely : Prop := fnMergedRow.holds Try.pinned (OpenSpec.ofChange fnMergedWrong)

/-- 'laws.FnMergeLaws': WHATEVER THE INPUT: true; the input reads as it did. -/
def fnMergeLawsSpec : ChangeSpec := { name := "fnMergeLaws", fn := fun _ => fun
  | [d] => { results := [.lit (.bool true)], args := [d] }
  | _ => none }
def fnMergeLawsRow : OpenClaim := { program := "ytgpckcdkehmpiaa", sum := "895c89dbc6ae442a5381e51db7abb9f2f0e09bb63c44b2b2e66fa5d7b5269530", func := "loop.example/g00975/laws.FnMergeLaws", spec := "fnMergeLaws", unfollowed := true, recurses := true, apart := false }
def FnMergeLawsSaid : Prop := fnMergeLawsRow.holds Try.pinned (OpenSpec.ofChange fnMergeLawsSpec)

/-- ITS FALSE NEIGHBOUR: 'it returns false'. Refute it at one input. -/
def fnMergeLawsWrong : ChangeSpec := { name := "fnMergeLaws", fn := fun _ => fun
  | [d] => { results := [.lit (.bool false)], args := [d] }
  | _ => none }
def FnMergeLawsWrongFalsely : Prop := fnMergeLawsRow.holds Try.pinned (OpenSpec.ofChange fnMergeLawsWrong)

/-- 'laws.FnExactMergeTraps': WHATEVER THE INPUT: true; the input reads as it did. -/
def fnExactMergeTrapsSpec : ChangeSpec := { name := "fnExactMergeTraps", fn := fun _ => fun
  | [d1, d2] => { results := [.lit (.bool true)], args := [d1, d2] }
  | _ => none }
def fnExactMergeTrapsRow : OpenClaim := { program := "ytgpckcdkehmpiaa", sum := "895c89dbc6ae442a5381e51db7abb9f2f0e09bb63c44b2b2e66fa5d7b5269530", func := "loop.example/g00975/laws.FnExactMergeTraps", spec := "fnExactMergeTraps", apart := false }
def FnExactMergeTrapsSaid : Prop := fnExactMergeTrapsRow.holds Try.pinned (OpenSpec.ofChange fnExactMergeTrapsSpec)

/-- ITS FALSE NEIGHBOUR: 'it returns false'. Refute it at one input. -/
def fnExactMergeTrapsWrong : ChangeSpec := { name := "fnExactMergeTraps", fn := fun _ => fun
  | [d1, d2] => { results := [.lit (.bool false)], args := [d1, d2] }
  | _ => none }
def FnExactMergeTrapsWrongFalsely : Prop := fnExactMergeTrapsRow.holds Try.pinned (OpenSpec.ofChange fnExactMergeTrapsWrong)

/-- 'laws.FnExactMergedCtl': WHATEVER THE INPUT: true; the input reads as it did. -/
def fnExactMergedCtlSpec : ChangeSpec := { name := "fnExactMergedCtl", fn := fun _ => fun
  | [d1, d2] => { results := [.lit (.bool true)], args := [d1, d2] }
  | _ => none }
def fnExactMergedCtlRow : OpenClaim := { program := "ytgpckcdkehmpiaa", sum := "895c89dbc6ae442a5381e51db7abb9f2f0e09bb63c44b2b2e66fa5d7b5269530", func := "loop.example/g00975/laws.FnExactMergedCtl", spec := "fnExactMergedCtl", apart := false }
def FnExactMergedCtlSaid : Prop := fnExactMergedCtlRow.holds Try.pinned (OpenSpec.ofChange fnExactMergedCtlSpec)

/-- ITS FALSE NEIGHBOUR: 'it returns false'. Refute it at one input. -/
def fnExactMergedCtlWrong : ChangeSpec := { name := "fnExactMergedCtl", fn := fun _ => fun
  | [d1, d2] => { results := [.lit (.bool false)], args := [d1, d2] }
  | _ => none }
def FnExactMergedCtlWrongFalsely : Prop := fnExactMergedCtlRow.holds Try.pinned (OpenSpec.ofChange fnExactMergedCtlWrong)

/-- 'laws.FnExactOwnerOf': WHATEVER THE INPUT: true; the input reads as it did. -/
def fnExactOwnerOfSpec : ChangeSpec := { name := "fnExactOwnerOf", fn := fun _ => fun
  | [d1, d2, d3] => { results := [.lit (.bool true)], args := [d1, d2, d3] }
  | _ => none }
def fnExactOwnerOfRow : OpenClaim := { program := "ytgpckcdkehmpiaa", sum := "895c89dbc6ae442a5381e51db7abb9f2f0e09bb63c44b2b2e66fa5d7b5269530", func := "loop.example/g00975/laws.FnExactOwnerOf", spec := "fnExactOwnerOf", unfollowed := true, recurses := true, apart := false }
def FnExactOwnerOfSaid : Prop := fnExactOwnerOfRow.holds Try.pinned (OpenSpec.ofChange fnExactOwnerOfSpec)

/-- ITS FALSE NEIGHBOUR: 'it returns false'. Refute it at one input. -/
def fnExactOwnerOfWrong : ChangeSpec := { name := "fnExactOwnerOf", fn := fun _ => fun
  | [d1, d2, d3] => { results := [.lit (.bool false)], args := [d1, d2, d3] }
  | _ => none }
def FnExactOwnerOfWrongFalsely : Prop := fnExactOwnerOfRow.holds Try.pinned (OpenSpec.ofChange fnExactOwnerOfWrong)

/-- 'laws.FnExactOwnersOf': WHATEVER THE INPUT: true; the input reads as it did. -/
def fnExactOwnersOfSpec : ChangeSpec := { name := "fnExactOwnersOf", fn := fun _ => fun
  | [d1, d2] => { results := [.lit (.bool true)], args := [d1, d2] }
  | _ => none }
def fnExactOwnersOfRow : OpenClaim := { program := "ytgpckcdkehmpiaa", sum := "895c89dbc6ae442a5381e51db7abb9f2f0e09bb63c44b2b2e66fa5d7b5269530", func := "loop.example/g00975/laws.FnExactOwnersOf", spec := "fnExactOwnersOf", unfollowed := true, recurses := true, apart := false }
def FnExactOwnersOfSaid : Prop := fnExactOwnersOfRow.holds Try.pinned (OpenSpec.ofChange fnExactOwnersOfSpec)

/-- ITS FALSE NEIGHBOUR: 'it returns false'. Refute it at one input. -/
def fnExactOwnersOfWrong : ChangeSpec := { name := "fnExactOwnersOf", fn := fun _ => fun
  | [d1, d2] => { results := [.lit (.bool false)], args := [d1, d2] }
  | _ => none }
def FnExactOwnersOfWrongFalsely : Prop := fnExactOwnersOfRow.holds Try.pinned (OpenSpec.ofChange fnExactOwnersOfWrong)

/-- 'laws.FnExactGrantsMore': WHATEVER THE INPUT: true; the input reads as it did. -/
def fnExactGrantsMoreSpec : ChangeSpec := { name := "fnExactGrantsMore", fn := fun _ => fun
  | [d1, d2] => { results := [.lit (.bool true)], args := [d1, d2] }
  | _ => none }
def fnExactGrantsMoreRow : OpenClaim := { program := "ytgpckcdkehmpiaa", sum := "895c89dbc6ae442a5381e51db7abb9f2f0e09bb63c44b2b2e66fa5d7b5269530", func := "loop.example/g00975/laws.FnExactGrantsMore", spec := "fnExactGrantsMore", apart := false }
def FnExactGrantsMoreSaid : Prop := fnExactGrantsMoreRow.holds Try.pinned (OpenSpec.ofChange fnExactGrantsMoreSpec)

/-- ITS FALSE NEIGHBOUR: 'it returns false'. Refute it at one input. -/
def fnExactGrantsMoreWrong : ChangeSpec := { name := "fnExactGrantsMore", fn := fun _ => fun
  | [d1, d2] => { results := [.lit (.bool false)], args := [d1, d2] }
  | _ => none }
def FnExactGrantsMoreWrongFalsely : Prop := fnExactGrantsMoreRow.holds Try.pinned (OpenSpec.ofChange fnExactGrantsMoreWrong)

/- THE SECOND FORM. 'bulk': how many values and letters a reading holds, each counted each time it is reached (what is shared counts as often as it is met; a slice's spare places count too). A statement '..UptoSaid' is the law's where the arguments, and the package variables that the reading takes, are together of bulk at most 1048576: NARROWER than '..Said'. Prove '..Said' where nothing that the law and all that it calls make is longer than what came in: it says more and counts as full. Else prove '..UptoSaid'. A law counts once. -/
mutual
def uptoBulk {H : Type} : DataW H → Nat
  | .lit (.string bytes) => bytes.length + 1
  | .lit _ => 1
  | .nil => 1
  | .ptr d => uptoBulk d + 1
  | .slice elems spare => uptoBulkAll elems + uptoBulkAll spare + 1
  | .agg parts => uptoBulkAll parts + 1
  | .iface _ d => uptoBulk d + 1
  | .map entries => uptoBulkEntries entries + 1
  | .held _ => 1
def uptoBulkAll {H : Type} : List (DataW H) → Nat
  | [] => 0
  | d :: r => uptoBulk d + uptoBulkAll r
def uptoBulkEntries {H : Type} : List (Lit × DataW H) → Nat
  | [] => 0
  | x :: r => uptoBulkEntry x + uptoBulkEntries r
def uptoBulkEntry {H : Type} : Lit × DataW H → Nat
  | (.string bytes, d) => bytes.length + uptoBulk d + 1
  | (_, d) => uptoBulk d + 1
 end
def uptoSmall : (H : Type) → List (DataW H) → Bool := fun _ ds => decide (uptoBulkAll ds ≤ 1048576)
def OpenSpec.upto (s : _root_.Go.ChangeSpec) : _root_.Go.OpenSpec := { _root_.Go.OpenSpec.ofChange s with cond := some uptoSmall }

/-- 'laws.FnMerged', WHERE WHAT IT READS IS OF BULK AT MOST 1048576: true; the input reads as it did. -/
def fnMergedUptoRow : OpenClaim := { program := "ytgpckcdkehmpiaa", sum := "895c89dbc6ae442a5381e51db7abb9f2f0e09bb63c44b2b2e66fa5d7b5269530", func := "loop.example/g00975/laws.FnMerged", spec := "fnMerged", unfollowed := true, recurses := true, apart := false, narrowed := true }
def FnMergedUptoSaid : Prop := fnMergedUptoRow.holds Try.pinned (OpenSpec.upto fnMergedSpec)

/-- 'laws.FnMergeLaws', WHERE WHAT IT READS IS OF BULK AT MOST 1048576: true; the input reads as it did. -/
def fnMergeLawsUptoRow : OpenClaim := { program := "ytgpckcdkehmpiaa", sum := "895c89dbc6ae442a5381e51db7abb9f2f0e09bb63c44b2b2e66fa5d7b5269530", func := "loop.example/g00975/laws.FnMergeLaws", spec := "fnMergeLaws", unfollowed := true, recurses := true, apart := false, narrowed := true }
def FnMergeLawsUptoSaid : Prop := fnMergeLawsUptoRow.holds Try.pinned (OpenSpec.upto fnMergeLawsSpec)

/-- 'laws.FnExactMergeTraps', WHERE WHAT IT READS IS OF BULK AT MOST 1048576: true; the input reads as it did. -/
def fnExactMergeTrapsUptoRow : OpenClaim := { program := "ytgpckcdkehmpiaa", sum := "895c89dbc6ae442a5381e51db7abb9f2f0e09bb63c44b2b2e66fa5d7b5269530", func := "loop.example/g00975/laws.FnExactMergeTraps", spec := "fnExactMergeTraps", apart := false, narrowed := true }
def FnExactMergeTrapsUptoSaid : Prop := fnExactMergeTrapsUptoRow.holds Try.pinned (OpenSpec.upto fnExactMergeTrapsSpec)

/-- 'laws.FnExactMergedCtl', WHERE WHAT IT READS IS OF BULK AT MOST 1048576: true; the input reads as it did. -/
def fnExactMergedCtlUptoRow : OpenClaim := { program := "ytgpckcdkehmpiaa", sum := "895c89dbc6ae442a5381e51db7abb9f2f0e09bb63c44b2b2e66fa5d7b5269530", func := "loop.example/g00975/laws.FnExactMergedCtl", spec := "fnExactMergedCtl", apart := false, narrowed := true }
def FnExactMergedCtlUptoSaid : Prop := fnExactMergedCtlUptoRow.holds Try.pinned (OpenSpec.upto fnExactMergedCtlSpec)

/-- 'laws.FnExactOwnerOf', WHERE WHAT IT READS IS OF BULK AT MOST 1048576: true; the input reads as it did. -/
def fnExactOwnerOfUptoRow : OpenClaim := { program := "ytgpckcdkehmpiaa", sum := "895c89dbc6ae442a5381e51db7abb9f2f0e09bb63c44b2b2e66fa5d7b5269530", func := "loop.example/g00975/laws.FnExactOwnerOf", spec := "fnExactOwnerOf", unfollowed := true, recurses := true, apart := false, narrowed := true }
def FnExactOwnerOfUptoSaid : Prop := fnExactOwnerOfUptoRow.holds Try.pinned (OpenSpec.upto fnExactOwnerOfSpec)

/-- 'laws.FnExactOwnersOf', WHERE WHAT IT READS IS OF BULK AT MOST 1048576: true; the input reads as it did. -/
def fnExactOwnersOfUptoRow : OpenClaim := { program := "ytgpckcdkehmpiaa", sum := "895c89dbc6ae442a5381e51db7abb9f2f0e09bb63c44b2b2e66fa5d7b5269530", func := "loop.example/g00975/laws.FnExactOwnersOf", spec := "fnExactOwnersOf", unfollowed := true, recurses := true, apart := false, narrowed := true }
def FnExactOwnersOfUptoSaid : Prop := fnExactOwnersOfUptoRow.holds Try.pinned (OpenSpec.upto fnExactOwnersOfSpec)

/-- 'laws.FnExactGrantsMore', WHERE WHAT IT READS IS OF BULK AT MOST 1048576: true; the input reads as it did. -/
def fnExactGrantsMoreUptoRow : OpenClaim := { program := "ytgpckcdkehmpiaa", sum := "895c89dbc6ae442a5381e51db7abb9f2f0e09bb63c44b2b2e66fa5d7b5269530", func := "loop.example/g00975/laws.FnExactGrantsMore", spec := "fnExactGrantsMore", apart := false, narrowed := true }
def FnExactGrantsMoreUptoSaid : Prop := fnExactGrantsMoreUptoRow.holds Try.pinned (OpenSpec.upto fnExactGrantsMoreSpec)

end Rows
end Go.Proofs.Ytgpckcdkehmpiaa
