/-
  No cell of these rows narrows 'for every input' (looked for: loops, veiled, ifaces, maps, wideKeys, modest, calm, conditions, laid).
  DERIVED. THE GIVEN ROWS OF THIS SEAT. 10 by the template 'for every input the law returns true; each argument reads behind the call as it read before'; 0 by the template 'total and deterministic' (their statements: YtmfileflmpmkpaaTotals.lean).
  GIVEN WITH THE SEED: the statements are not yours to turn. If you find one false, say at which input.
  Laid BY PROGRAM, IN A SANDBOX (cutbox-rows.mjs): the forced cells as the released guide's own fill.sh prints them over the translation 04d2c9d63986f0af… (all of the seat's roots in one cut). By AI agents, Wed Nov 11 2026. No macro, syntax, notation, axiom, sorry.
-/
import Derived.Test.YtmfileflmpmkpaaChecked
import GoSem.Claim
import GoSem.ClaimJoined
import GoSem.ClaimMapViews
import Derived.JoinedTies
import Derived.KernelRfl
namespace Go.Proofs.Ytmfileflmpmkpaa
/- THE CELL 'sum', in the pinned program and in every row, IS THE sha256 OF THE DUMP (.gsa) THAT YtmfileflmpmkpaaProg.lean LOADS. Nothing in Lean hashes anything: it is a label: what it is worth is what the hold of that sum in a sandbox is worth. -/
noncomputable def Try.pinned : Pinned := { name := "ytmfileflmpmkpaa", sum := "04d2c9d63986f0af626559f1ca58f9240f2f36fdcb182904772b1387a60cef0f", checked := Try.checked }
namespace Rows
def none {H : Type} : Left H := { results := [], args := [] }

/-- 'laws.FnBuffer': WHATEVER THE INPUT: true; the input reads as it did. -/
def fnBufferSpec : ChangeSpec := { name := "fnBuffer", fn := fun _ => fun
  | [d] => { results := [.lit (.bool true)], args := [d] }
  | _ => none }
def fnBufferRow : OpenClaim := { program := "ytmfileflmpmkpaa", sum := "04d2c9d63986f0af626559f1ca58f9240f2f36fdcb182904772b1387a60cef0f", func := "loop.example/g00975/laws.FnBuffer", spec := "fnBuffer", unfollowed := true, recurses := true, apart := false }
def FnBufferSaid : Prop := fnBufferRow.holds Try.pinned (OpenSpec.ofChange fnBufferSpec)

/-- ITS FALSE NEIGHBOUR: 'it returns false'. Refute it at one input. -/
def fnBufferWrong : ChangeSpec := { name := "fnBuffer", fn := fun _ => fun
  | [d] => { results := [.lit (.bool false)], args := [d] }
  | _ => none }
def FnBufferWrongFalsely : Prop := fnBufferRow.holds Try.pinned (OpenSpec.ofChange fnBufferWrong)

/-- 'laws.FnFlushed': WHATEVER THE INPUT: true; the input reads as it did. -/
def fnFlushedSpec : ChangeSpec := { name := "fnFlushed", fn := fun _ => fun
  | [d] => { results := [.lit (.bool true)], args := [d] }
  | _ => none }
def fnFlushedRow : OpenClaim := { program := "ytmfileflmpmkpaa", sum := "04d2c9d63986f0af626559f1ca58f9240f2f36fdcb182904772b1387a60cef0f", func := "loop.example/g00975/laws.FnFlushed", spec := "fnFlushed", unfollowed := true, recurses := true, apart := false }
def FnFlushedSaid : Prop := fnFlushedRow.holds Try.pinned (OpenSpec.ofChange fnFlushedSpec)

/-- ITS FALSE NEIGHBOUR: 'it returns false'. Refute it at one input. -/
def fnFlushedWrong : ChangeSpec := { name := "fnFlushed", fn := fun _ => fun
  | [d] => { results := [.lit (.bool false)], args := [d] }
  | _ => none }
def FnFlushedWrongFalsely : Prop := fnFlushedRow.holds Try.pinned (OpenSpec.ofChange fnFlushedWrong)

/-- 'laws.FnLastSix': WHATEVER THE INPUT: true; the input reads as it did. -/
def fnLastSixSpec : ChangeSpec := { name := "fnLastSix", fn := fun _ => fun
  | [d] => { results := [.lit (.bool true)], args := [d] }
  | _ => none }
def fnLastSixRow : OpenClaim := { program := "ytmfileflmpmkpaa", sum := "04d2c9d63986f0af626559f1ca58f9240f2f36fdcb182904772b1387a60cef0f", func := "loop.example/g00975/laws.FnLastSix", spec := "fnLastSix", unfollowed := true, recurses := true, apart := false }
def FnLastSixSaid : Prop := fnLastSixRow.holds Try.pinned (OpenSpec.ofChange fnLastSixSpec)

/-- ITS FALSE NEIGHBOUR: 'it returns false'. Refute it at one input. -/
def fnLastSixWrong : ChangeSpec := { name := "fnLastSix", fn := fun _ => fun
  | [d] => { results := [.lit (.bool false)], args := [d] }
  | _ => none }
def FnLastSixWrongFalsely : Prop := fnLastSixRow.holds Try.pinned (OpenSpec.ofChange fnLastSixWrong)

/-- 'laws.FnExactBufferOk': WHATEVER THE INPUT: true; the input reads as it did. -/
def fnExactBufferOkSpec : ChangeSpec := { name := "fnExactBufferOk", fn := fun _ => fun
  | [d] => { results := [.lit (.bool true)], args := [d] }
  | _ => none }
def fnExactBufferOkRow : OpenClaim := { program := "ytmfileflmpmkpaa", sum := "04d2c9d63986f0af626559f1ca58f9240f2f36fdcb182904772b1387a60cef0f", func := "loop.example/g00975/laws.FnExactBufferOk", spec := "fnExactBufferOk", apart := false }
def FnExactBufferOkSaid : Prop := fnExactBufferOkRow.holds Try.pinned (OpenSpec.ofChange fnExactBufferOkSpec)

/-- ITS FALSE NEIGHBOUR: 'it returns false'. Refute it at one input. -/
def fnExactBufferOkWrong : ChangeSpec := { name := "fnExactBufferOk", fn := fun _ => fun
  | [d] => { results := [.lit (.bool false)], args := [d] }
  | _ => none }
def FnExactBufferOkWrongFalsely : Prop := fnExactBufferOkRow.holds Try.pinned (OpenSpec.ofChange fnExactBufferOkWrong)

/-- 'laws.FnExactFindEntry': WHATEVER THE INPUT: true; the input reads as it did. -/
def fnExactFindEntrySpec : ChangeSpec := { name := "fnExactFindEntry", fn := fun _ => fun
  | [d1, d2, d3] => { results := [.lit (.bool true)], args := [d1, d2, d3] }
  | _ => none }
def fnExactFindEntryRow : OpenClaim := { program := "ytmfileflmpmkpaa", sum := "04d2c9d63986f0af626559f1ca58f9240f2f36fdcb182904772b1387a60cef0f", func := "loop.example/g00975/laws.FnExactFindEntry", spec := "fnExactFindEntry", apart := false }
def FnExactFindEntrySaid : Prop := fnExactFindEntryRow.holds Try.pinned (OpenSpec.ofChange fnExactFindEntrySpec)

/-- ITS FALSE NEIGHBOUR: 'it returns false'. Refute it at one input. -/
def fnExactFindEntryWrong : ChangeSpec := { name := "fnExactFindEntry", fn := fun _ => fun
  | [d1, d2, d3] => { results := [.lit (.bool false)], args := [d1, d2, d3] }
  | _ => none }
def FnExactFindEntryWrongFalsely : Prop := fnExactFindEntryRow.holds Try.pinned (OpenSpec.ofChange fnExactFindEntryWrong)

/-- 'laws.FnExactPutEntry': WHATEVER THE INPUT: true; the input reads as it did. -/
def fnExactPutEntrySpec : ChangeSpec := { name := "fnExactPutEntry", fn := fun _ => fun
  | [d1, d2] => { results := [.lit (.bool true)], args := [d1, d2] }
  | _ => none }
def fnExactPutEntryRow : OpenClaim := { program := "ytmfileflmpmkpaa", sum := "04d2c9d63986f0af626559f1ca58f9240f2f36fdcb182904772b1387a60cef0f", func := "loop.example/g00975/laws.FnExactPutEntry", spec := "fnExactPutEntry", unfollowed := true, recurses := true, apart := false }
def FnExactPutEntrySaid : Prop := fnExactPutEntryRow.holds Try.pinned (OpenSpec.ofChange fnExactPutEntrySpec)

/-- ITS FALSE NEIGHBOUR: 'it returns false'. Refute it at one input. -/
def fnExactPutEntryWrong : ChangeSpec := { name := "fnExactPutEntry", fn := fun _ => fun
  | [d1, d2] => { results := [.lit (.bool false)], args := [d1, d2] }
  | _ => none }
def FnExactPutEntryWrongFalsely : Prop := fnExactPutEntryRow.holds Try.pinned (OpenSpec.ofChange fnExactPutEntryWrong)

/-- 'laws.FnExactFlushPage': WHATEVER THE INPUT: true; the input reads as it did. -/
def fnExactFlushPageSpec : ChangeSpec := { name := "fnExactFlushPage", fn := fun _ => fun
  | [d1, d2, d3] => { results := [.lit (.bool true)], args := [d1, d2, d3] }
  | _ => none }
def fnExactFlushPageRow : OpenClaim := { program := "ytmfileflmpmkpaa", sum := "04d2c9d63986f0af626559f1ca58f9240f2f36fdcb182904772b1387a60cef0f", func := "loop.example/g00975/laws.FnExactFlushPage", spec := "fnExactFlushPage", unfollowed := true, recurses := true, apart := false }
def FnExactFlushPageSaid : Prop := fnExactFlushPageRow.holds Try.pinned (OpenSpec.ofChange fnExactFlushPageSpec)

/-- ITS FALSE NEIGHBOUR: 'it returns false'. Refute it at one input. -/
def fnExactFlushPageWrong : ChangeSpec := { name := "fnExactFlushPage", fn := fun _ => fun
  | [d1, d2, d3] => { results := [.lit (.bool false)], args := [d1, d2, d3] }
  | _ => none }
def FnExactFlushPageWrongFalsely : Prop := fnExactFlushPageRow.holds Try.pinned (OpenSpec.ofChange fnExactFlushPageWrong)

/-- 'laws.FnExactFlushTag': WHATEVER THE INPUT: true; the input reads as it did. -/
def fnExactFlushTagSpec : ChangeSpec := { name := "fnExactFlushTag", fn := fun _ => fun
  | [d1, d2] => { results := [.lit (.bool true)], args := [d1, d2] }
  | _ => none }
def fnExactFlushTagRow : OpenClaim := { program := "ytmfileflmpmkpaa", sum := "04d2c9d63986f0af626559f1ca58f9240f2f36fdcb182904772b1387a60cef0f", func := "loop.example/g00975/laws.FnExactFlushTag", spec := "fnExactFlushTag", unfollowed := true, recurses := true, apart := false }
def FnExactFlushTagSaid : Prop := fnExactFlushTagRow.holds Try.pinned (OpenSpec.ofChange fnExactFlushTagSpec)

/-- ITS FALSE NEIGHBOUR: 'it returns false'. Refute it at one input. -/
def fnExactFlushTagWrong : ChangeSpec := { name := "fnExactFlushTag", fn := fun _ => fun
  | [d1, d2] => { results := [.lit (.bool false)], args := [d1, d2] }
  | _ => none }
def FnExactFlushTagWrongFalsely : Prop := fnExactFlushTagRow.holds Try.pinned (OpenSpec.ofChange fnExactFlushTagWrong)

/-- 'laws.FnExactFlushHost': WHATEVER THE INPUT: true; the input reads as it did. -/
def fnExactFlushHostSpec : ChangeSpec := { name := "fnExactFlushHost", fn := fun _ => fun
  | [d1, d2] => { results := [.lit (.bool true)], args := [d1, d2] }
  | _ => none }
def fnExactFlushHostRow : OpenClaim := { program := "ytmfileflmpmkpaa", sum := "04d2c9d63986f0af626559f1ca58f9240f2f36fdcb182904772b1387a60cef0f", func := "loop.example/g00975/laws.FnExactFlushHost", spec := "fnExactFlushHost", unfollowed := true, recurses := true, apart := false }
def FnExactFlushHostSaid : Prop := fnExactFlushHostRow.holds Try.pinned (OpenSpec.ofChange fnExactFlushHostSpec)

/-- ITS FALSE NEIGHBOUR: 'it returns false'. Refute it at one input. -/
def fnExactFlushHostWrong : ChangeSpec := { name := "fnExactFlushHost", fn := fun _ => fun
  | [d1, d2] => { results := [.lit (.bool false)], args := [d1, d2] }
  | _ => none }
def FnExactFlushHostWrongFalsely : Prop := fnExactFlushHostRow.holds Try.pinned (OpenSpec.ofChange fnExactFlushHostWrong)

/-- 'laws.FnExactTagsIn': WHATEVER THE INPUT: true; the input reads as it did. -/
def fnExactTagsInSpec : ChangeSpec := { name := "fnExactTagsIn", fn := fun _ => fun
  | [d] => { results := [.lit (.bool true)], args := [d] }
  | _ => none }
def fnExactTagsInRow : OpenClaim := { program := "ytmfileflmpmkpaa", sum := "04d2c9d63986f0af626559f1ca58f9240f2f36fdcb182904772b1387a60cef0f", func := "loop.example/g00975/laws.FnExactTagsIn", spec := "fnExactTagsIn", recurses := true, apart := false }
def FnExactTagsInSaid : Prop := fnExactTagsInRow.holds Try.pinned (OpenSpec.ofChange fnExactTagsInSpec)

/-- ITS FALSE NEIGHBOUR: 'it returns false'. Refute it at one input. -/
def fnExactTagsInWrong : ChangeSpec := { name := "fnExactTagsIn", fn := fun _ => fun
  | [d] => { results := [.lit (.bool false)], args := [d] }
  | _ => none }
def FnExactTagsInWrongFalsely : Prop := fnExactTagsInRow.holds Try.pinned (OpenSpec.ofChange fnExactTagsInWrong)

/- THE SECOND FORM. 'bulk': how many values and letters a reading holds, each counted each time it is reached (what is shared counts as often as it is met; a slice's spare places count too). A statement '..UptoSaid' is the law's where the arguments, and the package variables that the reading takes, are together of bulk at most 1048576: NARROWER than '..Said'. Prove '..Said' where nothing that the law and all that it calls make is longer than what came in: it says more and counts as full. Else prove '..UptoSaid'. A law counts once. -/
mutual
def uptoBulk {H : Type} : DataW H → Nat
  | .lit (.string bytes) => bytes.length + 1
  | .lit _ => 1
  | .nil => 1
  | .ptr d => uptoBulk d + 1
  | .slice elems spare => uptoBulkAll elems + uptoBulkAll spare + 1
  | .agg parts => uptoBulkAll parts + 1
  | .iface _ d => uptoBulk d + 1
  | .map entries => uptoBulkEntries entries + 1
  | .held _ => 1
def uptoBulkAll {H : Type} : List (DataW H) → Nat
  | [] => 0
  | d :: r => uptoBulk d + uptoBulkAll r
def uptoBulkEntries {H : Type} : List (Lit × DataW H) → Nat
  | [] => 0
  | x :: r => uptoBulkEntry x + uptoBulkEntries r
def uptoBulkEntry {H : Type} : Lit × DataW H → Nat
  | (.string bytes, d) => bytes.length + uptoBulk d + 1
  | (_, d) => uptoBulk d + 1
 end
def uptoSmall : (H : Type) → List (DataW H) → Bool := fun _ ds => decide (uptoBulkAll ds ≤ 1048576)
def OpenSpec.upto (s : _root_.Go.ChangeSpec) : _root_.Go.OpenSpec := { _root_.Go.OpenSpec.ofChange s with cond := some uptoSmall }

/-- 'laws.FnBuffer', WHERE WHAT IT READS IS OF BULK AT MOST 1048576: true; the input reads as it did. -/
def fnBufferUptoRow : OpenClaim := { program := "ytmfileflmpmkpaa", sum := "04d2c9d63986f0af626559f1ca58f9240f2f36fdcb182904772b1387a60cef0f", func := "loop.example/g00975/laws.FnBuffer", spec := "fnBuffer", unfollowed := true, recurses := true, apart := false, narrowed := true }
def FnBufferUptoSaid : Prop := fnBufferUptoRow.holds Try.pinned (OpenSpec.upto fnBufferSpec)

/-- 'laws.FnFlushed', WHERE WHAT IT READS IS OF BULK AT MOST 1048576: true; the input reads as it did. -/
def fnFlushedUptoRow : OpenClaim := { program := "ytmfileflmpmkpaa", sum := "04d2c9d63986f0af626559f1ca58f9240f2f36fdcb182904772b1387a60cef0f", func := "loop.example/g00975/laws.FnFlushed", spec := "fnFlushed", unfollowed := true, recurses := true, apart := false, narrowed := true }
def FnFlushedUptoSaid : Prop := fnFlushedUptoRow.holds Try.pinned (OpenSpec.upto fnFlushedSpec)

/-- 'laws.FnLastSix', WHERE WHAT IT READS IS OF BULK AT MOST 1048576: true; the input reads as it did. -/
def fnLastSixUptoRow : OpenClaim := { program := "ytmfileflmpmkpaa", sum := "04d2c9d63986f0af626559f1ca58f9240f2f36fdcb182904772b1387a60cef0f", func := "loop.example/g00975/laws.FnLastSix", spec := "fnLastSix", unfollowed := true, recurses := true, apart := false, narrowed := true }
def FnLastSixUptoSaid : Prop := fnLastSixUptoRow.holds Try.pinned (OpenSpec.upto fnLastSixSpec)

/-- 'laws.FnExactBufferOk', WHERE WHAT IT READS IS OF BULK AT MOST 1048576: true; the input reads as it did. -/
def fnExactBufferOkUptoRow : OpenClaim := { program := "ytmfileflmpmkpaa", sum := "04d2c9d63986f0af626559f1ca58f9240f2f36fdcb182904772b1387a60cef0f", func := "loop.example/g00975/laws.FnExactBufferOk", spec := "fnExactBufferOk", apart := false, narrowed := true }
def FnExactBufferOkUptoSaid : Prop := fnExactBufferOkUptoRow.holds Try.pinned (OpenSpec.upto fnExactBufferOkSpec)

/-- 'laws.FnExactFindEntry', WHERE WHAT IT READS IS OF BULK AT MOST 1048576: true; the input reads as it did. -/
def fnExactFindEntryUptoRow : OpenClaim := { program := "ytmfileflmpmkpaa", sum := "04d2c9d63986f0af626559f1ca58f9240f2f36fdcb182904772b1387a60cef0f", func := "loop.example/g00975/laws.FnExactFindEntry", spec := "fnExactFindEntry", apart := false, narrowed := true }
def FnExactFindEntryUptoSaid : Prop := fnExactFindEntryUptoRow.holds Try.pinned (OpenSpec.upto fnExactFindEntrySpec)

/-- 'laws.FnExactPutEntry', WHERE WHAT IT READS IS OF BULK AT MOST 1048576: true; the input reads as it did. -/
def fnExactPutEntryUptoRow : OpenClaim := { program := "ytmfileflmpmkpaa", sum := "04d2c9d63986f0af626559f1ca58f9240f2f36fdcb182904772b1387a60cef0f", func := "loop.example/g00975/laws.FnExactPutEntry", spec := "fnExactPutEntry", unfollowed := true, recurses := true, apart := false, narrowed := true }
def FnExactPutEntryUptoSaid : Prop := fnExactPutEntryUptoRow.holds Try.pinned (OpenSpec.upto fnExactPutEntrySpec)

/-- 'laws.FnExactFlushPage', WHERE WHAT IT READS IS OF BULK AT MOST 1048576: true; the input reads as it did. -/
def fnExactFlushPageUptoRow : OpenClaim := { program := "ytmfileflmpmkpaa", sum := "04d2c9d63986f0af626559f1ca58f9240f2f36fdcb182904772b1387a60cef0f", func := "loop.example/g00975/laws.FnExactFlushPage", spec := "fnExactFlushPage", unfollowed := true, recurses := true, apart := false, narrowed := true }
def FnExactFlushPageUptoSaid : Prop := fnExactFlushPageUptoRow.holds Try.pinned (OpenSpec.upto fnExactFlushPageSpec)

/-- 'laws.FnExactFlushTag', WHERE WHAT IT READS IS OF BULK AT MOST 1048576: true; the input reads as it did. -/
def fnExactFlushTagUptoRow : OpenClaim := { program := "ytmfileflmpmkpaa", sum := "04d2c9d63986f0af626559f1ca58f9240f2f36fdcb182904772b1387a60cef0f", func := "loop.example/g00975/laws.FnExactFlushTag", spec := "fnExactFlushTag", unfollowed := true, recurses := true, apart := false, narrowed := true }
def FnExactFlushTagUptoSaid : Prop := fnExactFlushTagUptoRow.holds Try.pinned (OpenSpec.upto fnExactFlushTagSpec)

/-- 'laws.FnExactFlushHost', WHERE WHAT IT READS IS OF BULK AT MOST 1048576: true; the input reads as it did. -/
def fnExactFlushHostUptoRow : OpenClaim := { program := "ytmfileflmpmkpaa", sum := "04d2c9d63986f0af626559f1ca58f9240f2f36fdcb182904772b1387a60cef0f", func := "loop.example/g00975/laws.FnExactFlushHost", spec := "fnExactFlushHost", unfollowed := true, recurses := true, apart := false, narrowed := true }
def FnExactFlushHostUptoSaid : Prop := fnExactFlushHostUptoRow.holds Try.pinned (OpenSpec.upto fnExactFlushHostSpec)

/-- 'laws.FnExactTagsIn', WHERE WHAT IT READS IS OF BULK AT MOST 1048576: true; the input reads as it did. -/
def fnExactTagsInUptoRow : OpenClaim := { program := "ytmfileflmpmkpaa", sum := "04d2c9d63986f0af626559f1ca58f9240f2f36fdcb182904772b1387a60cef0f", func := "loop.example/g00975/laws.FnExactTagsIn", spec := "fnExactTagsIn", recurses := true, apart := false, narrowed := true }
def FnExactTagsInUptoSaid : Prop := fnExactTagsInUptoRow.holds Try.pinned (OpenSpec.upto fnExactTagsInSpec)

end Rows
end Go.Proofs.Ytmfileflmpmkpaa
