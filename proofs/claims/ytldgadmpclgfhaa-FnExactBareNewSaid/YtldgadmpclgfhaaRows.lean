/-
  No cell of these rows narrows 'for every input' (looked for: loops, veiled, ifaces, maps, wideKeys, modest, calm, conditions, laid).
  DERIVED. THE GIVEN ROWS OF THIS SEAT. 6 by the template 'for every input the law returns true; each argument reads behind the call as it read before'; 0 by the template 'total and deterministic' (their statements: YtldgadmpclgfhaaTotals.lean).
  GIVEN WITH THE SEED: the statements are not yours to turn. If you find one false, say at which input.
  Laid BY PROGRAM, IN A SANDBOX (cutbox-rows.mjs): the forced cells as the released guide's own fill.sh prints them over the translation 7ef99f679b7d65dd… (all of the seat's roots in one cut). By AI agents, Wed Nov 11 2026. No macro, syntax, notation, axiom, sorry.
-/
import Derived.Test.YtldgadmpclgfhaaChecked
import GoSem.Claim
import GoSem.ClaimJoined
import GoSem.ClaimMapViews
import Derived.JoinedTies
import Derived.KernelRfl
namespace Go.Proofs.Ytldgadmpclgfhaa
/- THE CELL 'sum', in the pinned program and in every row, IS THE sha256 OF THE DUMP (.gsa) THAT YtldgadmpclgfhaaProg.lean LOADS. Nothing in Lean hashes anything: it is a label: what it is worth is what the hold of that sum in a sandbox is worth. -/
noncomputable def Try.pinned : Pinned := { name := "ytldgadmpclgfhaa", sum := "7ef99f679b7d65dd0e606603796db35b1d2c2aed1289407c1b5796dcec87f6f4", checked := Try.checked }
namespace Rows
def none {H : Type} : Left H := { results := [], args := [] }

/-- 'laws.FnExactBareNew': WHATEVER THE INPUT: true; the input reads as it did. -/
def fnExactBareNewSpec : ChangeSpec := { name := "fnExactBareNew", fn := fun _ => fun
  | [d] => { results := [.lit (.bool true)], args := [d] }
  | _ => none }
def fnExactBareNewRow : OpenClaim := { program := "ytldgadmpclgfhaa", sum := "7ef99f679b7d65dd0e606603796db35b1d2c2aed1289407c1b5796dcec87f6f4", func := "loop.example/g00975/laws.FnExactBareNew", spec := "fnExactBareNew", apart := false }
def FnExactBareNewSaid : Prop := fnExactBareNewRow.holds Try.pinned (OpenSpec.ofChange fnExactBareNewSpec)

/-- ITS FALSE NEIGHBOUR: 'it returns false'. Refute it at one input. -/
def fnExactBareNewWrong : ChangeSpec := { name := "fnExactBareNew", fn := fun _ => fun
  | [d] => { results := [.lit (.bool false)], args := [d] }
  | _ => none }
def FnExactBareNewWrongFalsely : Prop := fnExactBareNewRow.holds Try.pinned (OpenSpec.ofChange fnExactBareNewWrong)

/-- 'laws.FnExactBareOk': WHATEVER THE INPUT: true; the input reads as it did. -/
def fnExactBareOkSpec : ChangeSpec := { name := "fnExactBareOk", fn := fun _ => fun
  | [d] => { results := [.lit (.bool true)], args := [d] }
  | _ => none }
def fnExactBareOkRow : OpenClaim := { program := "ytldgadmpclgfhaa", sum := "7ef99f679b7d65dd0e606603796db35b1d2c2aed1289407c1b5796dcec87f6f4", func := "loop.example/g00975/laws.FnExactBareOk", spec := "fnExactBareOk", apart := false }
def FnExactBareOkSaid : Prop := fnExactBareOkRow.holds Try.pinned (OpenSpec.ofChange fnExactBareOkSpec)

/-- ITS FALSE NEIGHBOUR: 'it returns false'. Refute it at one input. -/
def fnExactBareOkWrong : ChangeSpec := { name := "fnExactBareOk", fn := fun _ => fun
  | [d] => { results := [.lit (.bool false)], args := [d] }
  | _ => none }
def FnExactBareOkWrongFalsely : Prop := fnExactBareOkRow.holds Try.pinned (OpenSpec.ofChange fnExactBareOkWrong)

/-- 'laws.FnExactGuestAt': WHATEVER THE INPUT: true; the input reads as it did. -/
def fnExactGuestAtSpec : ChangeSpec := { name := "fnExactGuestAt", fn := fun _ => fun
  | [d1, d2] => { results := [.lit (.bool true)], args := [d1, d2] }
  | _ => none }
def fnExactGuestAtRow : OpenClaim := { program := "ytldgadmpclgfhaa", sum := "7ef99f679b7d65dd0e606603796db35b1d2c2aed1289407c1b5796dcec87f6f4", func := "loop.example/g00975/laws.FnExactGuestAt", spec := "fnExactGuestAt", apart := false }
def FnExactGuestAtSaid : Prop := fnExactGuestAtRow.holds Try.pinned (OpenSpec.ofChange fnExactGuestAtSpec)

/-- ITS FALSE NEIGHBOUR: 'it returns false'. Refute it at one input. -/
def fnExactGuestAtWrong : ChangeSpec := { name := "fnExactGuestAt", fn := fun _ => fun
  | [d1, d2] => { results := [.lit (.bool false)], args := [d1, d2] }
  | _ => none }
def FnExactGuestAtWrongFalsely : Prop := fnExactGuestAtRow.holds Try.pinned (OpenSpec.ofChange fnExactGuestAtWrong)

/-- 'laws.FnExactWithGuest': WHATEVER THE INPUT: true; the input reads as it did. -/
def fnExactWithGuestSpec : ChangeSpec := { name := "fnExactWithGuest", fn := fun _ => fun
  | [d1, d2, d3] => { results := [.lit (.bool true)], args := [d1, d2, d3] }
  | _ => none }
def fnExactWithGuestRow : OpenClaim := { program := "ytldgadmpclgfhaa", sum := "7ef99f679b7d65dd0e606603796db35b1d2c2aed1289407c1b5796dcec87f6f4", func := "loop.example/g00975/laws.FnExactWithGuest", spec := "fnExactWithGuest", apart := false }
def FnExactWithGuestSaid : Prop := fnExactWithGuestRow.holds Try.pinned (OpenSpec.ofChange fnExactWithGuestSpec)

/-- ITS FALSE NEIGHBOUR: 'it returns false'. Refute it at one input. -/
def fnExactWithGuestWrong : ChangeSpec := { name := "fnExactWithGuest", fn := fun _ => fun
  | [d1, d2, d3] => { results := [.lit (.bool false)], args := [d1, d2, d3] }
  | _ => none }
def FnExactWithGuestWrongFalsely : Prop := fnExactWithGuestRow.holds Try.pinned (OpenSpec.ofChange fnExactWithGuestWrong)

/-- 'laws.FnExactPutOut': WHATEVER THE INPUT: true; the input reads as it did. -/
def fnExactPutOutSpec : ChangeSpec := { name := "fnExactPutOut", fn := fun _ => fun
  | [d1, d2] => { results := [.lit (.bool true)], args := [d1, d2] }
  | _ => none }
def fnExactPutOutRow : OpenClaim := { program := "ytldgadmpclgfhaa", sum := "7ef99f679b7d65dd0e606603796db35b1d2c2aed1289407c1b5796dcec87f6f4", func := "loop.example/g00975/laws.FnExactPutOut", spec := "fnExactPutOut", apart := false }
def FnExactPutOutSaid : Prop := fnExactPutOutRow.holds Try.pinned (OpenSpec.ofChange fnExactPutOutSpec)

/-- ITS FALSE NEIGHBOUR: 'it returns false'. Refute it at one input. -/
def fnExactPutOutWrong : ChangeSpec := { name := "fnExactPutOut", fn := fun _ => fun
  | [d1, d2] => { results := [.lit (.bool false)], args := [d1, d2] }
  | _ => none }
def FnExactPutOutWrongFalsely : Prop := fnExactPutOutRow.holds Try.pinned (OpenSpec.ofChange fnExactPutOutWrong)

/-- 'laws.FnExactSameBare': WHATEVER THE INPUT: true; the input reads as it did. -/
def fnExactSameBareSpec : ChangeSpec := { name := "fnExactSameBare", fn := fun _ => fun
  | [d1, d2] => { results := [.lit (.bool true)], args := [d1, d2] }
  | _ => none }
def fnExactSameBareRow : OpenClaim := { program := "ytldgadmpclgfhaa", sum := "7ef99f679b7d65dd0e606603796db35b1d2c2aed1289407c1b5796dcec87f6f4", func := "loop.example/g00975/laws.FnExactSameBare", spec := "fnExactSameBare", unfollowed := true, recurses := true, apart := false }
def FnExactSameBareSaid : Prop := fnExactSameBareRow.holds Try.pinned (OpenSpec.ofChange fnExactSameBareSpec)

/-- ITS FALSE NEIGHBOUR: 'it returns false'. Refute it at one input. -/
def fnExactSameBareWrong : ChangeSpec := { name := "fnExactSameBare", fn := fun _ => fun
  | [d1, d2] => { results := [.lit (.bool false)], args := [d1, d2] }
  | _ => none }
def FnExactSameBareWrongFalsely : Prop := fnExactSameBareRow.holds Try.pinned (OpenSpec.ofChange fnExactSameBareWrong)

/- THE SECOND FORM. 'bulk': how many values and letters a reading holds, each counted each time it is reached (what is shared counts as often as it is met; a slice's spare places count too). A statement '..UptoSaid' is the law's where the arguments, and the package variables that the reading takes, are together of bulk at most 1048576: NARROWER than '..Said'. Prove '..Said' where nothing that the law and all that it calls make is longer than what came in: it says more and counts as full. Else prove '..UptoSaid'. A law counts once. -/
mutual
def uptoBulk {H : Type} : DataW H → Nat
  | .lit (.string bytes) => bytes.length + 1
  | .lit _ => 1
  | .nil => 1
  | .ptr d => uptoBulk d + 1
  | .slice elems spare => uptoBulkAll elems + uptoBulkAll spare + 1
  | .agg parts => uptoBulkAll parts + 1
  | .iface _ d => uptoBulk d + 1
  | .map entries => uptoBulkEntries entries + 1
  | .held _ => 1
def uptoBulkAll {H : Type} : List (DataW H) → Nat
  | [] => 0
  | d :: r => uptoBulk d + uptoBulkAll r
def uptoBulkEntries {H : Type} : List (Lit × DataW H) → Nat
  | [] => 0
  | x :: r => uptoBulkEntry x + uptoBulkEntries r
def uptoBulkEntry {H : Type} : Lit × DataW H → Nat
  | (.string bytes, d) => bytes.length + uptoBulk d + 1
  | (_, d) => uptoBulk d + 1
 end
def uptoSmall : (H : Type) → List (DataW H) → Bool := fun _ ds => decide (uptoBulkAll ds ≤ 1048576)
def OpenSpec.upto (s : _root_.Go.ChangeSpec) : _root_.Go.OpenSpec := { _root_.Go.OpenSpec.ofChange s with cond := some uptoSmall }

/-- 'laws.FnExactBareNew', WHERE WHAT IT READS IS OF BULK AT MOST 1048576: true; the input reads as it did. -/
def fnExactBareNewUptoRow : OpenClaim := { program := "ytldgadmpclgfhaa", sum := "7ef99f679b7d65dd0e606603796db35b1d2c2aed1289407c1b5796dcec87f6f4", func := "loop.example/g00975/laws.FnExactBareNew", spec := "fnExactBareNew", apart := false, narrowed := true }
def FnExactBareNewUptoSaid : Prop := fnExactBareNewUptoRow.holds Try.pinned (OpenSpec.upto fnExactBareNewSpec)

/-- 'laws.FnExactBareOk', WHERE WHAT IT READS IS OF BULK AT MOST 1048576: true; the input reads as it did. -/
def fnExactBareOkUptoRow : OpenClaim := { program := "ytldgadmpclgfhaa", sum := "7ef99f679b7d65dd0e606603796db35b1d2c2aed1289407c1b5796dcec87f6f4", func := "loop.example/g00975/laws.FnExactBareOk", spec := "fnExactBareOk", apart := false, narrowed := true }
def FnExactBareOkUptoSaid : Prop := fnExactBareOkUptoRow.holds Try.pinned (OpenSpec.upto fnExactBareOkSpec)

/-- 'laws.FnExactGuestAt', WHERE WHAT IT READS IS OF BULK AT MOST 1048576: true; the input reads as it did. -/
def fnExactGuestAtUptoRow : OpenClaim := { program := "ytldgadmpclgfhaa", sum := "7ef99f679b7d65dd0e606603796db35b1d2c2aed1289407c1b5796dcec87f6f4", func := "loop.example/g00975/laws.FnExactGuestAt", spec := "fnExactGuestAt", apart := false, narrowed := true }
def FnExactGuestAtUptoSaid : Prop := fnExactGuestAtUptoRow.holds Try.pinned (OpenSpec.upto fnExactGuestAtSpec)

/-- 'laws.FnExactWithGuest', WHERE WHAT IT READS IS OF BULK AT MOST 1048576: true; the input reads as it did. -/
def fnExactWithGuestUptoRow : OpenClaim := { program := "ytldgadmpclgfhaa", sum := "7ef99f679b7d65dd0e606603796db35b1d2c2aed1289407c1b5796dcec87f6f4", func := "loop.example/g00975/laws.FnExactWithGuest", spec := "fnExactWithGuest", apart := false, narrowed := true }
def FnExactWithGuestUptoSaid : Prop := fnExactWithGuestUptoRow.holds Try.pinned (OpenSpec.upto fnExactWithGuestSpec)

/-- 'laws.FnExactPutOut', WHERE WHAT IT READS IS OF BULK AT MOST 1048576: true; the input reads as it did. -/
def fnExactPutOutUptoRow : OpenClaim := { program := "ytldgadmpclgfhaa", sum := "7ef99f679b7d65dd0e606603796db35b1d2c2aed1289407c1b5796dcec87f6f4", func := "loop.example/g00975/laws.FnExactPutOut", spec := "fnExactPutOut", apart := false, narrowed := true }
def FnExactPutOutUptoSaid : Prop := fnExactPutOutUptoRow.holds Try.pinned (OpenSpec.upto fnExactPutOutSpec)

/-- 'laws.FnExactSameBare', WHERE WHAT IT READS IS OF BULK AT MOST 1048576: true; the input reads as it did. -/
def fnExactSameBareUptoRow : OpenClaim := { program := "ytldgadmpclgfhaa", sum := "7ef99f679b7d65dd0e606603796db35b1d2c2aed1289407c1b5796dcec87f6f4", func := "loop.example/g00975/laws.FnExactSameBare", spec := "fnExactSameBare", unfollowed := true, recurses := true, apart := false, narrowed := true }
def FnExactSameBareUptoSaid : Prop := fnExactSameBareUptoRow.holds Try.pinned (OpenSpec.upto fnExactSameBareSpec)

end Rows
end Go.Proofs.Ytldgadmpclgfhaa
