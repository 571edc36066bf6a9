/-
  No cell of these rows narrows 'for every input' (looked for: loops, veiled, ifaces, maps, wideKeys, modest, calm, conditions, laid).
  DERIVED. THE GIVEN ROWS OF THIS SEAT. 8 by the template 'for every input the law returns true; each argument reads behind the call as it read before'; 0 by the template 'total and deterministic' (their statements: YtflnjbcediecjaaTotals.lean).
  GIVEN WITH THE SEED: the statements are not yours to turn. If you find one false, say at which input.
  Laid BY PROGRAM, IN A SANDBOX (cutbox-rows.mjs): the forced cells as the released guide's own fill.sh prints them over the translation 01b7a3c557aa9cba… (all of the seat's roots in one cut). By AI agents, Wed Nov 11 2026. No macro, syntax, notation, axiom, sorry.
-/
import Derived.Test.YtflnjbcediecjaaChecked
import GoSem.Claim
import GoSem.ClaimJoined
import GoSem.ClaimMapViews
import Derived.JoinedTies
import Derived.KernelRfl
namespace Go.Proofs.Ytflnjbcediecjaa
/- THE CELL 'sum', in the pinned program and in every row, IS THE sha256 OF THE DUMP (.gsa) THAT YtflnjbcediecjaaProg.lean LOADS. Nothing in Lean hashes anything: it is a label: what it is worth is what the hold of that sum in a sandbox is worth. -/
noncomputable def Try.pinned : Pinned := { name := "ytflnjbcediecjaa", sum := "01b7a3c557aa9cbad08f868b9d62c294feb8811354a2bd5d5692a1de13997eaf", checked := Try.checked }
namespace Rows
def none {H : Type} : Left H := { results := [], args := [] }

/-- 'laws.FnIrqs': WHATEVER THE INPUT: true; the input reads as it did. -/
def fnIrqsSpec : ChangeSpec := { name := "fnIrqs", fn := fun _ => fun
  | [d] => { results := [.lit (.bool true)], args := [d] }
  | _ => none }
def fnIrqsRow : OpenClaim := { program := "ytflnjbcediecjaa", sum := "01b7a3c557aa9cbad08f868b9d62c294feb8811354a2bd5d5692a1de13997eaf", func := "loop.example/g00975/laws.FnIrqs", spec := "fnIrqs", unfollowed := true, recurses := true, apart := false }
def FnIrqsSaid : Prop := fnIrqsRow.holds Try.pinned (OpenSpec.ofChange fnIrqsSpec)

/-- ITS FALSE NEIGHBOUR: 'it returns false'. Refute it at one input. -/
def fnIrqsWrong : ChangeSpec := { name := "fnIrqs", fn := fun _ => fun
  | [d] => { results := [.lit (.bool false)], args := [d] }
  | _ => none }
def FnIrqsWrongFalsely : Prop := fnIrqsRow.holds Try.pinned (OpenSpec.ofChange fnIrqsWrong)

/-- 'laws.FnIrqOrder': WHATEVER THE INPUT: true; the input reads as it did. -/
def fnIrqOrderSpec : ChangeSpec := { name := "fnIrqOrder", fn := fun _ => fun
  | [d] => { results := [.lit (.bool true)], args := [d] }
  | _ => none }
def fnIrqOrderRow : OpenClaim := { program := "ytflnjbcediecjaa", sum := "01b7a3c557aa9cbad08f868b9d62c294feb8811354a2bd5d5692a1de13997eaf", func := "loop.example/g00975/laws.FnIrqOrder", spec := "fnIrqOrder", unfollowed := true, recurses := true, apart := false }
def FnIrqOrderSaid : Prop := fnIrqOrderRow.holds Try.pinned (OpenSpec.ofChange fnIrqOrderSpec)

/-- ITS FALSE NEIGHBOUR: 'it returns false'. Refute it at one input. -/
def fnIrqOrderWrong : ChangeSpec := { name := "fnIrqOrder", fn := fun _ => fun
  | [d] => { results := [.lit (.bool false)], args := [d] }
  | _ => none }
def FnIrqOrderWrongFalsely : Prop := fnIrqOrderRow.holds Try.pinned (OpenSpec.ofChange fnIrqOrderWrong)

/-- 'laws.FnExactPendOk': WHATEVER THE INPUT: true; the input reads as it did. -/
def fnExactPendOkSpec : ChangeSpec := { name := "fnExactPendOk", fn := fun _ => fun
  | [d] => { results := [.lit (.bool true)], args := [d] }
  | _ => none }
def fnExactPendOkRow : OpenClaim := { program := "ytflnjbcediecjaa", sum := "01b7a3c557aa9cbad08f868b9d62c294feb8811354a2bd5d5692a1de13997eaf", func := "loop.example/g00975/laws.FnExactPendOk", spec := "fnExactPendOk", apart := false }
def FnExactPendOkSaid : Prop := fnExactPendOkRow.holds Try.pinned (OpenSpec.ofChange fnExactPendOkSpec)

/-- ITS FALSE NEIGHBOUR: 'it returns false'. Refute it at one input. -/
def fnExactPendOkWrong : ChangeSpec := { name := "fnExactPendOk", fn := fun _ => fun
  | [d] => { results := [.lit (.bool false)], args := [d] }
  | _ => none }
def FnExactPendOkWrongFalsely : Prop := fnExactPendOkRow.holds Try.pinned (OpenSpec.ofChange fnExactPendOkWrong)

/-- 'laws.FnExactPostIrq': WHATEVER THE INPUT: true; the input reads as it did. -/
def fnExactPostIrqSpec : ChangeSpec := { name := "fnExactPostIrq", fn := fun _ => fun
  | [d1, d2] => { results := [.lit (.bool true)], args := [d1, d2] }
  | _ => none }
def fnExactPostIrqRow : OpenClaim := { program := "ytflnjbcediecjaa", sum := "01b7a3c557aa9cbad08f868b9d62c294feb8811354a2bd5d5692a1de13997eaf", func := "loop.example/g00975/laws.FnExactPostIrq", spec := "fnExactPostIrq", apart := false }
def FnExactPostIrqSaid : Prop := fnExactPostIrqRow.holds Try.pinned (OpenSpec.ofChange fnExactPostIrqSpec)

/-- ITS FALSE NEIGHBOUR: 'it returns false'. Refute it at one input. -/
def fnExactPostIrqWrong : ChangeSpec := { name := "fnExactPostIrq", fn := fun _ => fun
  | [d1, d2] => { results := [.lit (.bool false)], args := [d1, d2] }
  | _ => none }
def FnExactPostIrqWrongFalsely : Prop := fnExactPostIrqRow.holds Try.pinned (OpenSpec.ofChange fnExactPostIrqWrong)

/-- 'laws.FnExactTopIrq': WHATEVER THE INPUT: true; the input reads as it did. -/
def fnExactTopIrqSpec : ChangeSpec := { name := "fnExactTopIrq", fn := fun _ => fun
  | [d] => { results := [.lit (.bool true)], args := [d] }
  | _ => none }
def fnExactTopIrqRow : OpenClaim := { program := "ytflnjbcediecjaa", sum := "01b7a3c557aa9cbad08f868b9d62c294feb8811354a2bd5d5692a1de13997eaf", func := "loop.example/g00975/laws.FnExactTopIrq", spec := "fnExactTopIrq", unfollowed := true, recurses := true, apart := false }
def FnExactTopIrqSaid : Prop := fnExactTopIrqRow.holds Try.pinned (OpenSpec.ofChange fnExactTopIrqSpec)

/-- ITS FALSE NEIGHBOUR: 'it returns false'. Refute it at one input. -/
def fnExactTopIrqWrong : ChangeSpec := { name := "fnExactTopIrq", fn := fun _ => fun
  | [d] => { results := [.lit (.bool false)], args := [d] }
  | _ => none }
def FnExactTopIrqWrongFalsely : Prop := fnExactTopIrqRow.holds Try.pinned (OpenSpec.ofChange fnExactTopIrqWrong)

/-- 'laws.FnExactTakeIrq': WHATEVER THE INPUT: true; the input reads as it did. -/
def fnExactTakeIrqSpec : ChangeSpec := { name := "fnExactTakeIrq", fn := fun _ => fun
  | [d] => { results := [.lit (.bool true)], args := [d] }
  | _ => none }
def fnExactTakeIrqRow : OpenClaim := { program := "ytflnjbcediecjaa", sum := "01b7a3c557aa9cbad08f868b9d62c294feb8811354a2bd5d5692a1de13997eaf", func := "loop.example/g00975/laws.FnExactTakeIrq", spec := "fnExactTakeIrq", unfollowed := true, recurses := true, apart := false }
def FnExactTakeIrqSaid : Prop := fnExactTakeIrqRow.holds Try.pinned (OpenSpec.ofChange fnExactTakeIrqSpec)

/-- ITS FALSE NEIGHBOUR: 'it returns false'. Refute it at one input. -/
def fnExactTakeIrqWrong : ChangeSpec := { name := "fnExactTakeIrq", fn := fun _ => fun
  | [d] => { results := [.lit (.bool false)], args := [d] }
  | _ => none }
def FnExactTakeIrqWrongFalsely : Prop := fnExactTakeIrqRow.holds Try.pinned (OpenSpec.ofChange fnExactTakeIrqWrong)

/-- 'laws.FnExactIrqCount': WHATEVER THE INPUT: true; the input reads as it did. -/
def fnExactIrqCountSpec : ChangeSpec := { name := "fnExactIrqCount", fn := fun _ => fun
  | [d] => { results := [.lit (.bool true)], args := [d] }
  | _ => none }
def fnExactIrqCountRow : OpenClaim := { program := "ytflnjbcediecjaa", sum := "01b7a3c557aa9cbad08f868b9d62c294feb8811354a2bd5d5692a1de13997eaf", func := "loop.example/g00975/laws.FnExactIrqCount", spec := "fnExactIrqCount", unfollowed := true, recurses := true, apart := false }
def FnExactIrqCountSaid : Prop := fnExactIrqCountRow.holds Try.pinned (OpenSpec.ofChange fnExactIrqCountSpec)

/-- ITS FALSE NEIGHBOUR: 'it returns false'. Refute it at one input. -/
def fnExactIrqCountWrong : ChangeSpec := { name := "fnExactIrqCount", fn := fun _ => fun
  | [d] => { results := [.lit (.bool false)], args := [d] }
  | _ => none }
def FnExactIrqCountWrongFalsely : Prop := fnExactIrqCountRow.holds Try.pinned (OpenSpec.ofChange fnExactIrqCountWrong)

/-- 'laws.FnExactSplitIrqs': WHATEVER THE INPUT: true; the input reads as it did. -/
def fnExactSplitIrqsSpec : ChangeSpec := { name := "fnExactSplitIrqs", fn := fun _ => fun
  | [d1, d2] => { results := [.lit (.bool true)], args := [d1, d2] }
  | _ => none }
def fnExactSplitIrqsRow : OpenClaim := { program := "ytflnjbcediecjaa", sum := "01b7a3c557aa9cbad08f868b9d62c294feb8811354a2bd5d5692a1de13997eaf", func := "loop.example/g00975/laws.FnExactSplitIrqs", spec := "fnExactSplitIrqs", apart := false }
def FnExactSplitIrqsSaid : Prop := fnExactSplitIrqsRow.holds Try.pinned (OpenSpec.ofChange fnExactSplitIrqsSpec)

/-- ITS FALSE NEIGHBOUR: 'it returns false'. Refute it at one input. -/
def fnExactSplitIrqsWrong : ChangeSpec := { name := "fnExactSplitIrqs", fn := fun _ => fun
  | [d1, d2] => { results := [.lit (.bool false)], args := [d1, d2] }
  | _ => none }
def FnExactSplitIrqsWrongFalsely : Prop := fnExactSplitIrqsRow.holds Try.pinned (OpenSpec.ofChange fnExactSplitIrqsWrong)

/- THE SECOND FORM. 'bulk': how many values and letters a reading holds, each counted each time it is reached (what is shared counts as often as it is met; a slice's spare places count too). A statement '..UptoSaid' is the law's where the arguments, and the package variables that the reading takes, are together of bulk at most 1048576: NARROWER than '..Said'. Prove '..Said' where nothing that the law and all that it calls make is longer than what came in: it says more and counts as full. Else prove '..UptoSaid'. A law counts once. -/
mutual
def uptoBulk {H : Type} : DataW H → Nat
  | .lit (.string bytes) => bytes.length + 1
  | .lit _ => 1
  | .nil => 1
  | .ptr d => uptoBulk d + 1
  | .slice elems spare => uptoBulkAll elems + uptoBulkAll spare + 1
  | .agg parts => uptoBulkAll parts + 1
  | .iface _ d => uptoBulk d + 1
  | .map entries => uptoBulkEntries entries + 1
  | .held _ => 1
def uptoBulkAll {H : Type} : List (DataW H) → Nat
  | [] => 0
  | d :: r => uptoBulk d + uptoBulkAll r
def uptoBulkEntries {H : Type} : List (Lit × DataW H) → Nat
  | [] => 0
  | x :: r => uptoBulkEntry x + uptoBulkEntries r
def uptoBulkEntry {H : Type} : Lit × DataW H → Nat
  | (.string bytes, d) => bytes.length + uptoBulk d + 1
  | (_, d) => uptoBulk d + 1
 end
def uptoSmall : (H : Type) → List (DataW H) → Bool := fun _ ds => decide (uptoBulkAll ds ≤ 1048576)
def OpenSpec.upto (s : _root_.Go.ChangeSpec) : _root_.Go.OpenSpec := { _root_.Go.OpenSpec.ofChange s with cond := some uptoSmall }

/-- 'laws.FnIrqs', WHERE WHAT IT READS IS OF BULK AT MOST 1048576: true; the input reads as it did. -/
def fnIrqsUptoRow : OpenClaim := { program := "ytflnjbcediecjaa", sum := "01b7a3c557aa9cbad08f868b9d62c294feb8811354a2bd5d5692a1de13997eaf", func := "loop.example/g00975/laws.FnIrqs", spec := "fnIrqs", unfollowed := true, recurses := true, apart := false, narrowed := true }
def FnIrqsUptoSaid : Prop := fnIrqsUptoRow.holds Try.pinned (OpenSpec.upto fnIrqsSpec)

/-- 'laws.FnIrqOrder', WHERE WHAT IT READS IS OF BULK AT MOST 1048576: true; the input reads as it did. -/
def fnIrqOrderUptoRow : OpenClaim := { program := "ytflnjbcediecjaa", sum := "01b7a3c557aa9cbad08f868b9d62c294feb8811354a2bd5d5692a1de13997eaf", func := "loop.example/g00975/laws.FnIrqOrder", spec := "fnIrqOrder", unfollowed := true, recurses := true, apart := false, narrowed := true }
def FnIrqOrderUptoSaid : Prop := fnIrqOrderUptoRow.holds Try.pinned (OpenSpec.upto fnIrqOrderSpec)

/-- 'laws.FnExactPendOk', WHERE WHAT IT READS IS OF BULK AT MOST 1048576: true; the input reads as it did. -/
def fnExactPendOkUptoRow : OpenClaim := { program := "ytflnjbcediecjaa", sum := "01b7a3c557aa9cbad08f868b9d62c294feb8811354a2bd5d5692a1de13997eaf", func := "loop.example/g00975/laws.FnExactPendOk", spec := "fnExactPendOk", apart := false, narrowed := true }
def FnExactPendOkUptoSaid : Prop := fnExactPendOkUptoRow.holds Try.pinned (OpenSpec.upto fnExactPendOkSpec)

/-- 'laws.FnExactPostIrq', WHERE WHAT IT READS IS OF BULK AT MOST 1048576: true; the input reads as it did. -/
def fnExactPostIrqUptoRow : OpenClaim := { program := "ytflnjbcediecjaa", sum := "01b7a3c557aa9cbad08f868b9d62c294feb8811354a2bd5d5692a1de13997eaf", func := "loop.example/g00975/laws.FnExactPostIrq", spec := "fnExactPostIrq", apart := false, narrowed := true }
def FnExactPostIrqUptoSaid : Prop := fnExactPostIrqUptoRow.holds Try.pinned (OpenSpec.upto fnExactPostIrqSpec)

/-- 'laws.FnExactTopIrq', WHERE WHAT IT READS IS OF BULK AT MOST 1048576: true; the input reads as it did. -/
def fnExactTopIrqUptoRow : OpenClaim := { program := "ytflnjbcediecjaa", sum := "01b7a3c557aa9cbad08f868b9d62c294feb8811354a2bd5d5692a1de13997eaf", func := "loop.example/g00975/laws.FnExactTopIrq", spec := "fnExactTopIrq", unfollowed := true, recurses := true, apart := false, narrowed := true }
def FnExactTopIrqUptoSaid : Prop := fnExactTopIrqUptoRow.holds Try.pinned (OpenSpec.upto fnExactTopIrqSpec)

/-- 'laws.FnExactTakeIrq', WHERE WHAT IT READS IS OF BULK AT MOST 1048576: true; the input reads as it did. -/
def fnExactTakeIrqUptoRow : OpenClaim := { program := "ytflnjbcediecjaa", sum := "01b7a3c557aa9cbad08f868b9d62c294feb8811354a2bd5d5692a1de13997eaf", func := "loop.example/g00975/laws.FnExactTakeIrq", spec := "fnExactTakeIrq", unfollowed := true, recurses := true, apart := false, narrowed := true }
def FnExactTakeIrqUptoSaid : Prop := fnExactTakeIrqUptoRow.holds Try.pinned (OpenSpec.upto fnExactTakeIrqSpec)

/-- 'laws.FnExactIrqCount', WHERE WHAT IT READS IS OF BULK AT MOST 1048576: true; the input reads as it did. -/
def fnExactIrqCountUptoRow : OpenClaim := { program := "ytflnjbcediecjaa", sum := "01b7a3c557aa9cbad08f868b9d62c294feb8811354a2bd5d5692a1de13997eaf", func := "loop.example/g00975/laws.FnExactIrqCount", spec := "fnExactIrqCount", unfollowed := true, recurses := true, apart := false, narrowed := true }
def FnExactIrqCountUptoSaid : Prop := fnExactIrqCountUptoRow.holds Try.pinned (OpenSpec.upto fnExactIrqCountSpec)

/-- 'laws.FnExactSplitIrqs', WHERE WHAT IT READS IS OF BULK AT MOST 1048576: true; the input reads as it did. -/
def fnExactSplitIrqsUptoRow : OpenClaim := { program := "ytflnjbcediecjaa", sum := "01b7a3c557aa9cbad08f868b9d62c294feb8811354a2bd5d5692a1de13997eaf", func := "loop.example/g00975/laws.FnExactSplitIrqs", spec := "fnExactSplitIrqs", apart := false, narrowed := true }
def FnExactSplitIrqsUptoSaid : Prop := fnExactSplitIrqsUptoRow.holds Try.pinned (OpenSpec.upto fnExactSplitIrqsSpec)

end Rows
end Go.Proofs.Ytflnjbcediecjaa
