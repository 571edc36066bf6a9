/-
  No cell of these rows narrows 'for every input' (looked for: loops, veiled, ifaces, maps, wideKeys, modest, calm, conditions, laid).
  DERIVED. THE GIVEN ROWS OF THIS SEAT. 7 by the template 'for every input the law returns true; each argument reads behind the call as it read before'; 0 by the template 'total and deterministic' (their statements: YteoddppeajlekaaTotals.lean).
  GIVEN WITH THE SEED: the statements are not yours to turn. If you find one false, say at which input.
  Laid BY PROGRAM, IN A SANDBOX (cutbox-rows.mjs): the forced cells as the released guide's own fill.sh prints them over the translation f8f25c999f919c09… (all of the seat's roots in one cut). By AI agents, Wed Nov 11 2026. No macro, syntax, notation, axiom, sorry.
-/
import Derived.Test.YteoddppeajlekaaChecked
import GoSem.Claim
import GoSem.ClaimJoined
import GoSem.ClaimMapViews
import Derived.JoinedTies
import Derived.KernelRfl
namespace Go.Proofs.Yteoddppeajlekaa
/- THE CELL 'sum', in the pinned program and in every row, IS THE sha256 OF THE DUMP (.gsa) THAT YteoddppeajlekaaProg.lean LOADS. Nothing in Lean hashes anything: it is a label: what it is worth is what the hold of that sum in a sandbox is worth. -/
noncomputable def Try.pinned : Pinned := { name := "yteoddppeajlekaa", sum := "f8f25c999f919c09c2c3fac07435765d4a713a8aeb7e32bf20ca25302970bcd4", checked := Try.checked }
namespace Rows
def none {H : Type} : Left H := { results := [], args := [] }

/-- 'laws.FnTags': WHATEVER THE INPUT: true; the input reads as it did. -/
def fnTagsSpec : ChangeSpec := { name := "fnTags", fn := fun _ => fun
  | [d] => { results := [.lit (.bool true)], args := [d] }
  | _ => none }
def fnTagsRow : OpenClaim := { program := "yteoddppeajlekaa", sum := "f8f25c999f919c09c2c3fac07435765d4a713a8aeb7e32bf20ca25302970bcd4", func := "loop.example/g00975/laws.FnTags", spec := "fnTags", unfollowed := true, recurses := true, apart := false }
def FnTagsSaid : Prop := fnTagsRow.holds Try.pinned (OpenSpec.ofChange fnTagsSpec)

/-- ITS FALSE NEIGHBOUR: 'it returns false'. Refute it at one input. -/
def fnTagsWrong : ChangeSpec := { name := "fnTags", fn := fun _ => fun
  | [d] => { results := [.lit (.bool false)], args := [d] }
  | _ => none }
def FnTagsWrongFalsely : Prop := fnTagsRow.holds Try.pinned (OpenSpec.ofChange fnTagsWrong)

/-- 'laws.FnOfMon': WHATEVER THE INPUT: true; the input reads as it did. -/
def fnOfMonSpec : ChangeSpec := { name := "fnOfMon", fn := fun _ => fun
  | [d] => { results := [.lit (.bool true)], args := [d] }
  | _ => none }
def fnOfMonRow : OpenClaim := { program := "yteoddppeajlekaa", sum := "f8f25c999f919c09c2c3fac07435765d4a713a8aeb7e32bf20ca25302970bcd4", func := "loop.example/g00975/laws.FnOfMon", spec := "fnOfMon", unfollowed := true, recurses := true, apart := false }
def FnOfMonSaid : Prop := fnOfMonRow.holds Try.pinned (OpenSpec.ofChange fnOfMonSpec)

/-- ITS FALSE NEIGHBOUR: 'it returns false'. Refute it at one input. -/
def fnOfMonWrong : ChangeSpec := { name := "fnOfMon", fn := fun _ => fun
  | [d] => { results := [.lit (.bool false)], args := [d] }
  | _ => none }
def FnOfMonWrongFalsely : Prop := fnOfMonRow.holds Try.pinned (OpenSpec.ofChange fnOfMonWrong)

/-- 'laws.FnExactTagOf': WHATEVER THE INPUT: true; the input reads as it did. -/
def fnExactTagOfSpec : ChangeSpec := { name := "fnExactTagOf", fn := fun _ => fun
  | [d1, d2] => { results := [.lit (.bool true)], args := [d1, d2] }
  | _ => none }
def fnExactTagOfRow : OpenClaim := { program := "yteoddppeajlekaa", sum := "f8f25c999f919c09c2c3fac07435765d4a713a8aeb7e32bf20ca25302970bcd4", func := "loop.example/g00975/laws.FnExactTagOf", spec := "fnExactTagOf", apart := false }
def FnExactTagOfSaid : Prop := fnExactTagOfRow.holds Try.pinned (OpenSpec.ofChange fnExactTagOfSpec)

/-- ITS FALSE NEIGHBOUR: 'it returns false'. Refute it at one input. -/
def fnExactTagOfWrong : ChangeSpec := { name := "fnExactTagOf", fn := fun _ => fun
  | [d1, d2] => { results := [.lit (.bool false)], args := [d1, d2] }
  | _ => none }
def FnExactTagOfWrongFalsely : Prop := fnExactTagOfRow.holds Try.pinned (OpenSpec.ofChange fnExactTagOfWrong)

/-- 'laws.FnExactTagMon': WHATEVER THE INPUT: true; the input reads as it did. -/
def fnExactTagMonSpec : ChangeSpec := { name := "fnExactTagMon", fn := fun _ => fun
  | [d] => { results := [.lit (.bool true)], args := [d] }
  | _ => none }
def fnExactTagMonRow : OpenClaim := { program := "yteoddppeajlekaa", sum := "f8f25c999f919c09c2c3fac07435765d4a713a8aeb7e32bf20ca25302970bcd4", func := "loop.example/g00975/laws.FnExactTagMon", spec := "fnExactTagMon", apart := false }
def FnExactTagMonSaid : Prop := fnExactTagMonRow.holds Try.pinned (OpenSpec.ofChange fnExactTagMonSpec)

/-- ITS FALSE NEIGHBOUR: 'it returns false'. Refute it at one input. -/
def fnExactTagMonWrong : ChangeSpec := { name := "fnExactTagMon", fn := fun _ => fun
  | [d] => { results := [.lit (.bool false)], args := [d] }
  | _ => none }
def FnExactTagMonWrongFalsely : Prop := fnExactTagMonRow.holds Try.pinned (OpenSpec.ofChange fnExactTagMonWrong)

/-- 'laws.FnExactTagGuest': WHATEVER THE INPUT: true; the input reads as it did. -/
def fnExactTagGuestSpec : ChangeSpec := { name := "fnExactTagGuest", fn := fun _ => fun
  | [d] => { results := [.lit (.bool true)], args := [d] }
  | _ => none }
def fnExactTagGuestRow : OpenClaim := { program := "yteoddppeajlekaa", sum := "f8f25c999f919c09c2c3fac07435765d4a713a8aeb7e32bf20ca25302970bcd4", func := "loop.example/g00975/laws.FnExactTagGuest", spec := "fnExactTagGuest", apart := false }
def FnExactTagGuestSaid : Prop := fnExactTagGuestRow.holds Try.pinned (OpenSpec.ofChange fnExactTagGuestSpec)

/-- ITS FALSE NEIGHBOUR: 'it returns false'. Refute it at one input. -/
def fnExactTagGuestWrong : ChangeSpec := { name := "fnExactTagGuest", fn := fun _ => fun
  | [d] => { results := [.lit (.bool false)], args := [d] }
  | _ => none }
def FnExactTagGuestWrongFalsely : Prop := fnExactTagGuestRow.holds Try.pinned (OpenSpec.ofChange fnExactTagGuestWrong)

/-- 'laws.FnExactTagsOf': WHATEVER THE INPUT: true; the input reads as it did. -/
def fnExactTagsOfSpec : ChangeSpec := { name := "fnExactTagsOf", fn := fun _ => fun
  | [d] => { results := [.lit (.bool true)], args := [d] }
  | _ => none }
def fnExactTagsOfRow : OpenClaim := { program := "yteoddppeajlekaa", sum := "f8f25c999f919c09c2c3fac07435765d4a713a8aeb7e32bf20ca25302970bcd4", func := "loop.example/g00975/laws.FnExactTagsOf", spec := "fnExactTagsOf", apart := false }
def FnExactTagsOfSaid : Prop := fnExactTagsOfRow.holds Try.pinned (OpenSpec.ofChange fnExactTagsOfSpec)

/-- ITS FALSE NEIGHBOUR: 'it returns false'. Refute it at one input. -/
def fnExactTagsOfWrong : ChangeSpec := { name := "fnExactTagsOf", fn := fun _ => fun
  | [d] => { results := [.lit (.bool false)], args := [d] }
  | _ => none }
def FnExactTagsOfWrongFalsely : Prop := fnExactTagsOfRow.holds Try.pinned (OpenSpec.ofChange fnExactTagsOfWrong)

/-- 'laws.FnExactFlushMon': WHATEVER THE INPUT: true; the input reads as it did. -/
def fnExactFlushMonSpec : ChangeSpec := { name := "fnExactFlushMon", fn := fun _ => fun
  | [d1, d2] => { results := [.lit (.bool true)], args := [d1, d2] }
  | _ => none }
def fnExactFlushMonRow : OpenClaim := { program := "yteoddppeajlekaa", sum := "f8f25c999f919c09c2c3fac07435765d4a713a8aeb7e32bf20ca25302970bcd4", func := "loop.example/g00975/laws.FnExactFlushMon", spec := "fnExactFlushMon", unfollowed := true, recurses := true, apart := false }
def FnExactFlushMonSaid : Prop := fnExactFlushMonRow.holds Try.pinned (OpenSpec.ofChange fnExactFlushMonSpec)

/-- ITS FALSE NEIGHBOUR: 'it returns false'. Refute it at one input. -/
def fnExactFlushMonWrong : ChangeSpec := { name := "fnExactFlushMon", fn := fun _ => fun
  | [d1, d2] => { results := [.lit (.bool false)], args := [d1, d2] }
  | _ => none }
def FnExactFlushMonWrongFalsely : Prop := fnExactFlushMonRow.holds Try.pinned (OpenSpec.ofChange fnExactFlushMonWrong)

/- THE SECOND FORM. 'bulk': how many values and letters a reading holds, each counted each time it is reached (what is shared counts as often as it is met; a slice's spare places count too). A statement '..UptoSaid' is the law's where the arguments, and the package variables that the reading takes, are together of bulk at most 1048576: NARROWER than '..Said'. Prove '..Said' where nothing that the law and all that it calls make is longer than what came in: it says more and counts as full. Else prove '..UptoSaid'. A law counts once. -/
mutual
def uptoBulk {H : Type} : DataW H → Nat
  | .lit (.string bytes) => bytes.length + 1
  | .lit _ => 1
  | .nil => 1
  | .ptr d => uptoBulk d + 1
  | .slice elems spare => uptoBulkAll elems + uptoBulkAll spare + 1
  | .agg parts => uptoBulkAll parts + 1
  | .iface _ d => uptoBulk d + 1
  | .map entries => uptoBulkEntries entries + 1
  | .held _ => 1
def uptoBulkAll {H : Type} : List (DataW H) → Nat
  | [] => 0
  | d :: r => uptoBulk d + uptoBulkAll r
def uptoBulkEntries {H : Type} : List (Lit × DataW H) → Nat
  | [] => 0
  | x :: r => uptoBulkEntry x + uptoBulkEntries r
def uptoBulkEntry {H : Type} : Lit × DataW H → Nat
  | (.string bytes, d) => bytes.length + uptoBulk d + 1
  | (_, d) => uptoBulk d + 1
 end
def uptoSmall : (H : Type) → List (DataW H) → Bool := fun _ ds => decide (uptoBulkAll ds ≤ 1048576)
def OpenSpec.upto (s : _root_.Go.ChangeSpec) : _root_.Go.OpenSpec := { _root_.Go.OpenSpec.ofChange s with cond := some uptoSmall }

/-- 'laws.FnTags', WHERE WHAT IT READS IS OF BULK AT MOST 1048576: true; the input reads as it did. -/
def fnTagsUptoRow : OpenClaim := { program := "yteoddppeajlekaa", sum := "f8f25c999f919c09c2c3fac07435765d4a713a8aeb7e32bf20ca25302970bcd4", func := "loop.example/g00975/laws.FnTags", spec := "fnTags", unfollowed := true, recurses := true, apart := false, narrowed := true }
def FnTagsUptoSaid : Prop := fnTagsUptoRow.holds Try.pinned (OpenSpec.upto fnTagsSpec)

/-- 'laws.FnOfMon', WHERE WHAT IT READS IS OF BULK AT MOST 1048576: true; the input reads as it did. -/
def fnOfMonUptoRow : OpenClaim := { program := "yteoddppeajlekaa", sum := "f8f25c999f919c09c2c3fac07435765d4a713a8aeb7e32bf20ca25302970bcd4", func := "loop.example/g00975/laws.FnOfMon", spec := "fnOfMon", unfollowed := true, recurses := true, apart := false, narrowed := true }
def FnOfMonUptoSaid : Prop := fnOfMonUptoRow.holds Try.pinned (OpenSpec.upto fnOfMonSpec)

/-- 'laws.FnExactTagOf', WHERE WHAT IT READS IS OF BULK AT MOST 1048576: true; the input reads as it did. -/
def fnExactTagOfUptoRow : OpenClaim := { program := "yteoddppeajlekaa", sum := "f8f25c999f919c09c2c3fac07435765d4a713a8aeb7e32bf20ca25302970bcd4", func := "loop.example/g00975/laws.FnExactTagOf", spec := "fnExactTagOf", apart := false, narrowed := true }
def FnExactTagOfUptoSaid : Prop := fnExactTagOfUptoRow.holds Try.pinned (OpenSpec.upto fnExactTagOfSpec)

/-- 'laws.FnExactTagMon', WHERE WHAT IT READS IS OF BULK AT MOST 1048576: true; the input reads as it did. -/
def fnExactTagMonUptoRow : OpenClaim := { program := "yteoddppeajlekaa", sum := "f8f25c999f919c09c2c3fac07435765d4a713a8aeb7e32bf20ca25302970bcd4", func := "loop.example/g00975/laws.FnExactTagMon", spec := "fnExactTagMon", apart := false, narrowed := true }
def FnExactTagMonUptoSaid : Prop := fnExactTagMonUptoRow.holds Try.pinned (OpenSpec.upto fnExactTagMonSpec)

/-- 'laws.FnExactTagGuest', WHERE WHAT IT READS IS OF BULK AT MOST 1048576: true; the input reads as it did. -/
def fnExactTagGuestUptoRow : OpenClaim := { program := "yteoddppeajlekaa", sum := "f8f25c999f919c09c2c3fac07435765d4a713a8aeb7e32bf20ca25302970bcd4", func := "loop.example/g00975/laws.FnExactTagGuest", spec := "fnExactTagGuest", apart := false, narrowed := true }
def FnExactTagGuestUptoSaid : Prop := fnExactTagGuestUptoRow.holds Try.pinned (OpenSpec.upto fnExactTagGuestSpec)

/-- 'laws.FnExactTagsOf', WHERE WHAT IT READS IS OF BULK AT MOST 1048576: true; the input reads as it did. -/
def fnExactTagsOfUptoRow : OpenClaim := { program := "yteoddppeajlekaa", sum := "f8f25c999f919c09c2c3fac07435765d4a713a8aeb7e32bf20ca25302970bcd4", func := "loop.example/g00975/laws.FnExactTagsOf", spec := "fnExactTagsOf", apart := false, narrowed := true }
def FnExactTagsOfUptoSaid : Prop := fnExactTagsOfUptoRow.holds Try.pinned (OpenSpec.upto fnExactTagsOfSpec)

/-- 'laws.FnExactFlushMon', WHERE WHAT IT READS IS OF BULK AT MOST 1048576: true; the input reads as it did. -/
def fnExactFlushMonUptoRow : OpenClaim := { program := "yteoddppeajlekaa", sum := "f8f25c999f919c09c2c3fac07435765d4a713a8aeb7e32bf20ca25302970bcd4", func := "loop.example/g00975/laws.FnExactFlushMon", spec := "fnExactFlushMon", unfollowed := true, recurses := true, apart := false, narrowed := true }
def FnExactFlushMonUptoSaid : Prop := fnExactFlushMonUptoRow.holds Try.pinned (OpenSpec.upto fnExactFlushMonSpec)

end Rows
end Go.Proofs.Yteoddppeajlekaa
