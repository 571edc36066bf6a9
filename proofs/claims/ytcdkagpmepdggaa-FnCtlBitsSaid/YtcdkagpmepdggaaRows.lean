/-
  No cell of these rows narrows 'for every input' (looked for: loops, veiled, ifaces, maps, wideKeys, modest, calm, conditions, laid).
  DERIVED. THE GIVEN ROWS OF THIS SEAT. 5 by the template 'for every input the law returns true; each argument reads behind the call as it read before'; 0 by the template 'total and deterministic' (their statements: YtcdkagpmepdggaaTotals.lean).
  GIVEN WITH THE SEED: the statements are not yours to turn. If you find one false, say at which input.
  Laid BY PROGRAM, IN A SANDBOX (cutbox-rows.mjs): the forced cells as the released guide's own fill.sh prints them over the translation ea923eaa2062f7a2… (all of the seat's roots in one cut). By AI agents, Wed Nov 11 2026. No macro, syntax, notation, axiom, sorry.
-/
import Derived.Test.YtcdkagpmepdggaaChecked
import GoSem.Claim
import GoSem.ClaimJoined
import GoSem.ClaimMapViews
import Derived.JoinedTies
import Derived.KernelRfl
namespace Go.Proofs.Ytcdkagpmepdggaa
/- THE CELL 'sum', in the pinned program and in every row, IS THE sha256 OF THE DUMP (.gsa) THAT YtcdkagpmepdggaaProg.lean LOADS. Nothing in Lean hashes anything: it is a label: what it is worth is what the hold of that sum in a sandbox is worth. -/
noncomputable def Try.pinned : Pinned := { name := "ytcdkagpmepdggaa", sum := "ea923eaa2062f7a24dc5b53ca021690e7a4dba0a2cca5f58c2ed38623e70a5cc", checked := Try.checked }
namespace Rows
def none {H : Type} : Left H := { results := [], args := [] }

/-- 'laws.FnCtlBits': WHATEVER THE INPUT: true; the input reads as it did. -/
def fnCtlBitsSpec : ChangeSpec := { name := "fnCtlBits", fn := fun _ => fun
  | [d] => { results := [.lit (.bool true)], args := [d] }
  | _ => none }
def fnCtlBitsRow : OpenClaim := { program := "ytcdkagpmepdggaa", sum := "ea923eaa2062f7a24dc5b53ca021690e7a4dba0a2cca5f58c2ed38623e70a5cc", func := "loop.example/g00975/laws.FnCtlBits", spec := "fnCtlBits", apart := false }
def FnCtlBitsSaid : Prop := fnCtlBitsRow.holds Try.pinned (OpenSpec.ofChange fnCtlBitsSpec)

/-- ITS FALSE NEIGHBOUR: 'it returns false'. Refute it at one input. -/
def fnCtlBitsWrong : ChangeSpec := { name := "fnCtlBits", fn := fun _ => fun
  | [d] => { results := [.lit (.bool false)], args := [d] }
  | _ => none }
def FnCtlBitsWrongFalsely : Prop := fnCtlBitsRow.holds Try.pinned (OpenSpec.ofChange fnCtlBitsWrong)

/-- 'laws.FnExactCtlFaults': WHATEVER THE INPUT: true; the input reads as it did. -/
def fnExactCtlFaultsSpec : ChangeSpec := { name := "fnExactCtlFaults", fn := fun _ => fun
  | [d] => { results := [.lit (.bool true)], args := [d] }
  | _ => none }
def fnExactCtlFaultsRow : OpenClaim := { program := "ytcdkagpmepdggaa", sum := "ea923eaa2062f7a24dc5b53ca021690e7a4dba0a2cca5f58c2ed38623e70a5cc", func := "loop.example/g00975/laws.FnExactCtlFaults", spec := "fnExactCtlFaults", apart := false }
def FnExactCtlFaultsSaid : Prop := fnExactCtlFaultsRow.holds Try.pinned (OpenSpec.ofChange fnExactCtlFaultsSpec)

/-- ITS FALSE NEIGHBOUR: 'it returns false'. Refute it at one input. -/
def fnExactCtlFaultsWrong : ChangeSpec := { name := "fnExactCtlFaults", fn := fun _ => fun
  | [d] => { results := [.lit (.bool false)], args := [d] }
  | _ => none }
def FnExactCtlFaultsWrongFalsely : Prop := fnExactCtlFaultsRow.holds Try.pinned (OpenSpec.ofChange fnExactCtlFaultsWrong)

/-- 'laws.FnExactCtlOk': WHATEVER THE INPUT: true; the input reads as it did. -/
def fnExactCtlOkSpec : ChangeSpec := { name := "fnExactCtlOk", fn := fun _ => fun
  | [d] => { results := [.lit (.bool true)], args := [d] }
  | _ => none }
def fnExactCtlOkRow : OpenClaim := { program := "ytcdkagpmepdggaa", sum := "ea923eaa2062f7a24dc5b53ca021690e7a4dba0a2cca5f58c2ed38623e70a5cc", func := "loop.example/g00975/laws.FnExactCtlOk", spec := "fnExactCtlOk", apart := false }
def FnExactCtlOkSaid : Prop := fnExactCtlOkRow.holds Try.pinned (OpenSpec.ofChange fnExactCtlOkSpec)

/-- ITS FALSE NEIGHBOUR: 'it returns false'. Refute it at one input. -/
def fnExactCtlOkWrong : ChangeSpec := { name := "fnExactCtlOk", fn := fun _ => fun
  | [d] => { results := [.lit (.bool false)], args := [d] }
  | _ => none }
def FnExactCtlOkWrongFalsely : Prop := fnExactCtlOkRow.holds Try.pinned (OpenSpec.ofChange fnExactCtlOkWrong)

/-- 'laws.FnExactHasTrap': WHATEVER THE INPUT: true; the input reads as it did. -/
def fnExactHasTrapSpec : ChangeSpec := { name := "fnExactHasTrap", fn := fun _ => fun
  | [d1, d2] => { results := [.lit (.bool true)], args := [d1, d2] }
  | _ => none }
def fnExactHasTrapRow : OpenClaim := { program := "ytcdkagpmepdggaa", sum := "ea923eaa2062f7a24dc5b53ca021690e7a4dba0a2cca5f58c2ed38623e70a5cc", func := "loop.example/g00975/laws.FnExactHasTrap", spec := "fnExactHasTrap", apart := false }
def FnExactHasTrapSaid : Prop := fnExactHasTrapRow.holds Try.pinned (OpenSpec.ofChange fnExactHasTrapSpec)

/-- ITS FALSE NEIGHBOUR: 'it returns false'. Refute it at one input. -/
def fnExactHasTrapWrong : ChangeSpec := { name := "fnExactHasTrap", fn := fun _ => fun
  | [d1, d2] => { results := [.lit (.bool false)], args := [d1, d2] }
  | _ => none }
def FnExactHasTrapWrongFalsely : Prop := fnExactHasTrapRow.holds Try.pinned (OpenSpec.ofChange fnExactHasTrapWrong)

/-- 'laws.FnExactPosts': WHATEVER THE INPUT: true; the input reads as it did. -/
def fnExactPostsSpec : ChangeSpec := { name := "fnExactPosts", fn := fun _ => fun
  | [d1, d2] => { results := [.lit (.bool true)], args := [d1, d2] }
  | _ => none }
def fnExactPostsRow : OpenClaim := { program := "ytcdkagpmepdggaa", sum := "ea923eaa2062f7a24dc5b53ca021690e7a4dba0a2cca5f58c2ed38623e70a5cc", func := "loop.example/g00975/laws.FnExactPosts", spec := "fnExactPosts", apart := false }
def FnExactPostsSaid : Prop := fnExactPostsRow.holds Try.pinned (OpenSpec.ofChange fnExactPostsSpec)

/-- ITS FALSE NEIGHBOUR: 'it returns false'. Refute it at one input. -/
def fnExactPostsWrong : ChangeSpec := { name := "fnExactPosts", fn := fun _ => fun
  | [d1, d2] => { results := [.lit (.bool false)], args := [d1, d2] }
  | _ => none }
def FnExactPostsWrongFalsely : Prop := fnExactPostsRow.holds Try.pinned (OpenSpec.ofChange fnExactPostsWrong)

/- THE SECOND FORM. 'bulk': how many values and letters a reading holds, each counted each time it is reached (what is shared counts as often as it is met; a slice's spare places count too). A statement '..UptoSaid' is the law's where the arguments, and the package variables that the reading takes, are together of bulk at most 1048576: NARROWER than '..Said'. Prove '..Said' where nothing that the law and all that it calls make is longer than what came in: it says more and counts as full. Else prove '..UptoSaid'. A law counts once. -/
mutual
def uptoBulk {H : Type} : DataW H → Nat
  | .lit (.string bytes) => bytes.length + 1
  | .lit _ => 1
  | .nil => 1
  | .ptr d => uptoBulk d + 1
  | .slice elems spare => uptoBulkAll elems + uptoBulkAll spare + 1
  | .agg parts => uptoBulkAll parts + 1
  | .iface _ d => uptoBulk d + 1
  | .map entries => uptoBulkEntries entries + 1
  | .held _ => 1
def uptoBulkAll {H : Type} : List (DataW H) → Nat
  | [] => 0
  | d :: r => uptoBulk d + uptoBulkAll r
def uptoBulkEntries {H : Type} : List (Lit × DataW H) → Nat
  | [] => 0
  | x :: r => uptoBulkEntry x + uptoBulkEntries r
def uptoBulkEntry {H : Type} : Lit × DataW H → Nat
  | (.string bytes, d) => bytes.length + uptoBulk d + 1
  | (_, d) => uptoBulk d + 1
 end
def uptoSmall : (H : Type) → List (DataW H) → Bool := fun _ ds => decide (uptoBulkAll ds ≤ 1048576)
def OpenSpec.upto (s : _root_.Go.ChangeSpec) : _root_.Go.OpenSpec := { _root_.Go.OpenSpec.ofChange s with cond := some uptoSmall }

/-- 'laws.FnCtlBits', WHERE WHAT IT READS IS OF BULK AT MOST 1048576: true; the input reads as it did. -/
def fnCtlBitsUptoRow : OpenClaim := { program := "ytcdkagpmepdggaa", sum := "ea923eaa2062f7a24dc5b53ca021690e7a4dba0a2cca5f58c2ed38623e70a5cc", func := "loop.example/g00975/laws.FnCtlBits", spec := "fnCtlBits", apart := false, narrowed := true }
def FnCtlBitsUptoSaid : Prop := fnCtlBitsUptoRow.holds Try.pinned (OpenSpec.upto fnCtlBitsSpec)

/-- 'laws.FnExactCtlFaults', WHERE WHAT IT READS IS OF BULK AT MOST 1048576: true; the input reads as it did. -/
def fnExactCtlFaultsUptoRow : OpenClaim := { program := "ytcdkagpmepdggaa", sum := "ea923eaa2062f7a24dc5b53ca021690e7a4dba0a2cca5f58c2ed38623e70a5cc", func := "loop.example/g00975/laws.FnExactCtlFaults", spec := "fnExactCtlFaults", apart := false, narrowed := true }
def FnExactCtlFaultsUptoSaid : Prop := fnExactCtlFaultsUptoRow.holds Try.pinned (OpenSpec.upto fnExactCtlFaultsSpec)

/-- 'laws.FnExactCtlOk', WHERE WHAT IT READS IS OF BULK AT MOST 1048576: true; the input reads as it did. -/
def fnExactCtlOkUptoRow : OpenClaim := { program := "ytcdkagpmepdggaa", sum := "ea923eaa2062f7a24dc5b53ca021690e7a4dba0a2cca5f58c2ed38623e70a5cc", func := "loop.example/g00975/laws.FnExactCtlOk", spec := "fnExactCtlOk", apart := false, narrowed := true }
def FnExactCtlOkUptoSaid : Prop := fnExactCtlOkUptoRow.holds Try.pinned (OpenSpec.upto fnExactCtlOkSpec)

/-- 'laws.FnExactHasTrap', WHERE WHAT IT READS IS OF BULK AT MOST 1048576: true; the input reads as it did. -/
def fnExactHasTrapUptoRow : OpenClaim := { program := "ytcdkagpmepdggaa", sum := "ea923eaa2062f7a24dc5b53ca021690e7a4dba0a2cca5f58c2ed38623e70a5cc", func := "loop.example/g00975/laws.FnExactHasTrap", spec := "fnExactHasTrap", apart := false, narrowed := true }
def FnExactHasTrapUptoSaid : Prop := fnExactHasTrapUptoRow.holds Try.pinned (OpenSpec.upto fnExactHasTrapSpec)

/-- 'laws.FnExactPosts', WHERE WHAT IT READS IS OF BULK AT MOST 1048576: true; the input reads as it did. -/
def fnExactPostsUptoRow : OpenClaim := { program := "ytcdkagpmepdggaa", sum := "ea923eaa2062f7a24dc5b53ca021690e7a4dba0a2cca5f58c2ed38623e70a5cc", func := "loop.example/g00975/laws.FnExactPosts", spec := "fnExactPosts", apart := false, narrowed := true }
def FnExactPostsUptoSaid : Prop := fnExactPostsUptoRow.holds Try.pinned (OpenSpec.upto fnExactPostsSpec)

end Rows
end Go.Proofs.Ytcdkagpmepdggaa
