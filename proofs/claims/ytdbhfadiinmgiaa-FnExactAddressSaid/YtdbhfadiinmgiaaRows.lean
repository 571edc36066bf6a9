/-
  No cell of these rows narrows 'for every input' (looked for: loops, veiled, ifaces, maps, wideKeys, modest, calm, conditions, laid).
  DERIVED. THE GIVEN ROWS OF THIS SEAT. 9 by the template 'for every input the law returns true; each argument reads behind the call as it read before'; 0 by the template 'total and deterministic' (their statements: YtdbhfadiinmgiaaTotals.lean).
  GIVEN WITH THE SEED: the statements are not yours to turn. If you find one false, say at which input.
  Laid BY PROGRAM, IN A SANDBOX (cutbox-rows.mjs): the forced cells as the released guide's own fill.sh prints them over the translation bd2b4cba7d2c10d5… (all of the seat's roots in one cut). By AI agents, Wed Nov 11 2026. No macro, syntax, notation, axiom, sorry.
-/
import Derived.Test.YtdbhfadiinmgiaaChecked
import GoSem.Claim
import GoSem.ClaimJoined
import GoSem.ClaimMapViews
import Derived.JoinedTies
import Derived.KernelRfl
namespace Go.Proofs.Ytdbhfadiinmgiaa
/- THE CELL 'sum', in the pinned program and in every row, IS THE sha256 OF THE DUMP (.gsa) THAT YtdbhfadiinmgiaaProg.lean LOADS. Nothing in Lean hashes anything: it is a label: what it is worth is what the hold of that sum in a sandbox is worth. -/
noncomputable def Try.pinned : Pinned := { name := "ytdbhfadiinmgiaa", sum := "bd2b4cba7d2c10d5624a58b032c87acb39346ad5bc814c01981228a4739073ac", checked := Try.checked }
namespace Rows
def none {H : Type} : Left H := { results := [], args := [] }

/-- 'laws.FnWants': WHATEVER THE INPUT: true; the input reads as it did. -/
def fnWantsSpec : ChangeSpec := { name := "fnWants", fn := fun _ => fun
  | [d] => { results := [.lit (.bool true)], args := [d] }
  | _ => none }
def fnWantsRow : OpenClaim := { program := "ytdbhfadiinmgiaa", sum := "bd2b4cba7d2c10d5624a58b032c87acb39346ad5bc814c01981228a4739073ac", func := "loop.example/g00975/laws.FnWants", spec := "fnWants", unfollowed := true, recurses := true, apart := false }
def FnWantsSaid : Prop := fnWantsRow.holds Try.pinned (OpenSpec.ofChange fnWantsSpec)

/-- ITS FALSE NEIGHBOUR: 'it returns false'. Refute it at one input. -/
def fnWantsWrong : ChangeSpec := { name := "fnWants", fn := fun _ => fun
  | [d] => { results := [.lit (.bool false)], args := [d] }
  | _ => none }
def FnWantsWrongFalsely : Prop := fnWantsRow.holds Try.pinned (OpenSpec.ofChange fnWantsWrong)

/-- 'laws.FnSums': WHATEVER THE INPUT: true; the input reads as it did. -/
def fnSumsSpec : ChangeSpec := { name := "fnSums", fn := fun _ => fun
  | [d] => { results := [.lit (.bool true)], args := [d] }
  | _ => none }
def fnSumsRow : OpenClaim := { program := "ytdbhfadiinmgiaa", sum := "bd2b4cba7d2c10d5624a58b032c87acb39346ad5bc814c01981228a4739073ac", func := "loop.example/g00975/laws.FnSums", spec := "fnSums", unfollowed := true, recurses := true, apart := false }
def FnSumsSaid : Prop := fnSumsRow.holds Try.pinned (OpenSpec.ofChange fnSumsSpec)

/-- ITS FALSE NEIGHBOUR: 'it returns false'. Refute it at one input. -/
def fnSumsWrong : ChangeSpec := { name := "fnSums", fn := fun _ => fun
  | [d] => { results := [.lit (.bool false)], args := [d] }
  | _ => none }
def FnSumsWrongFalsely : Prop := fnSumsRow.holds Try.pinned (OpenSpec.ofChange fnSumsWrong)

/-- 'laws.FnExactWantOf': WHATEVER THE INPUT: true; the input reads as it did. -/
def fnExactWantOfSpec : ChangeSpec := { name := "fnExactWantOf", fn := fun _ => fun
  | [d] => { results := [.lit (.bool true)], args := [d] }
  | _ => none }
def fnExactWantOfRow : OpenClaim := { program := "ytdbhfadiinmgiaa", sum := "bd2b4cba7d2c10d5624a58b032c87acb39346ad5bc814c01981228a4739073ac", func := "loop.example/g00975/laws.FnExactWantOf", spec := "fnExactWantOf", unfollowed := true, recurses := true, apart := false }
def FnExactWantOfSaid : Prop := fnExactWantOfRow.holds Try.pinned (OpenSpec.ofChange fnExactWantOfSpec)

/-- ITS FALSE NEIGHBOUR: 'it returns false'. Refute it at one input. -/
def fnExactWantOfWrong : ChangeSpec := { name := "fnExactWantOf", fn := fun _ => fun
  | [d] => { results := [.lit (.bool false)], args := [d] }
  | _ => none }
def FnExactWantOfWrongFalsely : Prop := fnExactWantOfRow.holds Try.pinned (OpenSpec.ofChange fnExactWantOfWrong)

/-- 'laws.FnExactMoved': WHATEVER THE INPUT: true; the input reads as it did. -/
def fnExactMovedSpec : ChangeSpec := { name := "fnExactMoved", fn := fun _ => fun
  | [d] => { results := [.lit (.bool true)], args := [d] }
  | _ => none }
def fnExactMovedRow : OpenClaim := { program := "ytdbhfadiinmgiaa", sum := "bd2b4cba7d2c10d5624a58b032c87acb39346ad5bc814c01981228a4739073ac", func := "loop.example/g00975/laws.FnExactMoved", spec := "fnExactMoved", unfollowed := true, recurses := true, apart := false }
def FnExactMovedSaid : Prop := fnExactMovedRow.holds Try.pinned (OpenSpec.ofChange fnExactMovedSpec)

/-- ITS FALSE NEIGHBOUR: 'it returns false'. Refute it at one input. -/
def fnExactMovedWrong : ChangeSpec := { name := "fnExactMoved", fn := fun _ => fun
  | [d] => { results := [.lit (.bool false)], args := [d] }
  | _ => none }
def FnExactMovedWrongFalsely : Prop := fnExactMovedRow.holds Try.pinned (OpenSpec.ofChange fnExactMovedWrong)

/-- 'laws.FnExactPlainly': WHATEVER THE INPUT: true; the input reads as it did. -/
def fnExactPlainlySpec : ChangeSpec := { name := "fnExactPlainly", fn := fun _ => fun
  | [d] => { results := [.lit (.bool true)], args := [d] }
  | _ => none }
def fnExactPlainlyRow : OpenClaim := { program := "ytdbhfadiinmgiaa", sum := "bd2b4cba7d2c10d5624a58b032c87acb39346ad5bc814c01981228a4739073ac", func := "loop.example/g00975/laws.FnExactPlainly", spec := "fnExactPlainly", unfollowed := true, recurses := true, apart := false }
def FnExactPlainlySaid : Prop := fnExactPlainlyRow.holds Try.pinned (OpenSpec.ofChange fnExactPlainlySpec)

/-- ITS FALSE NEIGHBOUR: 'it returns false'. Refute it at one input. -/
def fnExactPlainlyWrong : ChangeSpec := { name := "fnExactPlainly", fn := fun _ => fun
  | [d] => { results := [.lit (.bool false)], args := [d] }
  | _ => none }
def FnExactPlainlyWrongFalsely : Prop := fnExactPlainlyRow.holds Try.pinned (OpenSpec.ofChange fnExactPlainlyWrong)

/-- 'laws.FnExactLoaded': WHATEVER THE INPUT: true; the input reads as it did. -/
def fnExactLoadedSpec : ChangeSpec := { name := "fnExactLoaded", fn := fun _ => fun
  | [d1, d2] => { results := [.lit (.bool true)], args := [d1, d2] }
  | _ => none }
def fnExactLoadedRow : OpenClaim := { program := "ytdbhfadiinmgiaa", sum := "bd2b4cba7d2c10d5624a58b032c87acb39346ad5bc814c01981228a4739073ac", func := "loop.example/g00975/laws.FnExactLoaded", spec := "fnExactLoaded", unfollowed := true, recurses := true, apart := false }
def FnExactLoadedSaid : Prop := fnExactLoadedRow.holds Try.pinned (OpenSpec.ofChange fnExactLoadedSpec)

/-- ITS FALSE NEIGHBOUR: 'it returns false'. Refute it at one input. -/
def fnExactLoadedWrong : ChangeSpec := { name := "fnExactLoaded", fn := fun _ => fun
  | [d1, d2] => { results := [.lit (.bool false)], args := [d1, d2] }
  | _ => none }
def FnExactLoadedWrongFalsely : Prop := fnExactLoadedRow.holds Try.pinned (OpenSpec.ofChange fnExactLoadedWrong)

/-- 'laws.FnExactStored': WHATEVER THE INPUT: true; the input reads as it did. -/
def fnExactStoredSpec : ChangeSpec := { name := "fnExactStored", fn := fun _ => fun
  | [d] => { results := [.lit (.bool true)], args := [d] }
  | _ => none }
def fnExactStoredRow : OpenClaim := { program := "ytdbhfadiinmgiaa", sum := "bd2b4cba7d2c10d5624a58b032c87acb39346ad5bc814c01981228a4739073ac", func := "loop.example/g00975/laws.FnExactStored", spec := "fnExactStored", unfollowed := true, recurses := true, apart := false }
def FnExactStoredSaid : Prop := fnExactStoredRow.holds Try.pinned (OpenSpec.ofChange fnExactStoredSpec)

/-- ITS FALSE NEIGHBOUR: 'it returns false'. Refute it at one input. -/
def fnExactStoredWrong : ChangeSpec := { name := "fnExactStored", fn := fun _ => fun
  | [d] => { results := [.lit (.bool false)], args := [d] }
  | _ => none }
def FnExactStoredWrongFalsely : Prop := fnExactStoredRow.holds Try.pinned (OpenSpec.ofChange fnExactStoredWrong)

/-- 'laws.FnExactHeld': WHATEVER THE INPUT: true; the input reads as it did. -/
def fnExactHeldSpec : ChangeSpec := { name := "fnExactHeld", fn := fun _ => fun
  | [d] => { results := [.lit (.bool true)], args := [d] }
  | _ => none }
def fnExactHeldRow : OpenClaim := { program := "ytdbhfadiinmgiaa", sum := "bd2b4cba7d2c10d5624a58b032c87acb39346ad5bc814c01981228a4739073ac", func := "loop.example/g00975/laws.FnExactHeld", spec := "fnExactHeld", unfollowed := true, recurses := true, apart := false }
def FnExactHeldSaid : Prop := fnExactHeldRow.holds Try.pinned (OpenSpec.ofChange fnExactHeldSpec)

/-- ITS FALSE NEIGHBOUR: 'it returns false'. Refute it at one input. -/
def fnExactHeldWrong : ChangeSpec := { name := "fnExactHeld", fn := fun _ => fun
  | [d] => { results := [.lit (.bool false)], args := [d] }
  | _ => none }
def FnExactHeldWrongFalsely : Prop := fnExactHeldRow.holds Try.pinned (OpenSpec.ofChange fnExactHeldWrong)

/-- 'laws.FnExactAddress': WHATEVER THE INPUT: true; the input reads as it did. -/
def fnExactAddressSpec : ChangeSpec := { name := "fnExactAddress", fn := fun _ => fun
  | [d] => { results := [.lit (.bool true)], args := [d] }
  | _ => none }
def fnExactAddressRow : OpenClaim := { program := "ytdbhfadiinmgiaa", sum := "bd2b4cba7d2c10d5624a58b032c87acb39346ad5bc814c01981228a4739073ac", func := "loop.example/g00975/laws.FnExactAddress", spec := "fnExactAddress", unfollowed := true, recurses := true, apart := false }
def FnExactAddressSaid : Prop := fnExactAddressRow.holds Try.pinned (OpenSpec.ofChange fnExactAddressSpec)

/-- ITS FALSE NEIGHBOUR: 'it returns false'. Refute it at one input. -/
def fnExactAddressWrong : ChangeSpec := { name := "fnExactAddress", fn := fun _ => fun
  | [d] => { results := [.lit (.bool false)], args := [d] }
  | _ => none }
def FnExactAddressWrongFalsely : Prop := fnExactAddressRow.holds Try.pinned (OpenSpec.ofChange fnExactAddressWrong)

/- THE SECOND FORM. 'bulk': how many values and letters a reading holds, each counted each time it is reached (what is shared counts as often as it is met; a slice's spare places count too). A statement '..UptoSaid' is the law's where the arguments, and the package variables that the reading takes, are together of bulk at most 1048576: NARROWER than '..Said'. Prove '..Said' where nothing that the law and all that it calls make is longer than what came in: it says more and counts as full. Else prove '..UptoSaid'. A law counts once. -/
mutual
def uptoBulk {H : Type} : DataW H → Nat
  | .lit (.string bytes) => bytes.length + 1
  | .lit _ => 1
  | .nil => 1
  | .ptr d => uptoBulk d + 1
  | .slice elems spare => uptoBulkAll elems + uptoBulkAll spare + 1
  | .agg parts => uptoBulkAll parts + 1
  | .iface _ d => uptoBulk d + 1
  | .map entries => uptoBulkEntries entries + 1
  | .held _ => 1
def uptoBulkAll {H : Type} : List (DataW H) → Nat
  | [] => 0
  | d :: r => uptoBulk d + uptoBulkAll r
def uptoBulkEntries {H : Type} : List (Lit × DataW H) → Nat
  | [] => 0
  | x :: r => uptoBulkEntry x + uptoBulkEntries r
def uptoBulkEntry {H : Type} : Lit × DataW H → Nat
  | (.string bytes, d) => bytes.length + uptoBulk d + 1
  | (_, d) => uptoBulk d + 1
 end
def uptoSmall : (H : Type) → List (DataW H) → Bool := fun _ ds => decide (uptoBulkAll ds ≤ 1048576)
def OpenSpec.upto (s : _root_.Go.ChangeSpec) : _root_.Go.OpenSpec := { _root_.Go.OpenSpec.ofChange s with cond := some uptoSmall }

/-- 'laws.FnWants', WHERE WHAT IT READS IS OF BULK AT MOST 1048576: true; the input reads as it did. -/
def fnWantsUptoRow : OpenClaim := { program := "ytdbhfadiinmgiaa", sum := "bd2b4cba7d2c10d5624a58b032c87acb39346ad5bc814c01981228a4739073ac", func := "loop.example/g00975/laws.FnWants", spec := "fnWants", unfollowed := true, recurses := true, apart := false, narrowed := true }
def FnWantsUptoSaid : Prop := fnWantsUptoRow.holds Try.pinned (OpenSpec.upto fnWantsSpec)

/-- 'laws.FnSums', WHERE WHAT IT READS IS OF BULK AT MOST 1048576: true; the input reads as it did. -/
def fnSumsUptoRow : OpenClaim := { program := "ytdbhfadiinmgiaa", sum := "bd2b4cba7d2c10d5624a58b032c87acb39346ad5bc814c01981228a4739073ac", func := "loop.example/g00975/laws.FnSums", spec := "fnSums", unfollowed := true, recurses := true, apart := false, narrowed := true }
def FnSumsUptoSaid : Prop := fnSumsUptoRow.holds Try.pinned (OpenSpec.upto fnSumsSpec)

/-- 'laws.FnExactWantOf', WHERE WHAT IT READS IS OF BULK AT MOST 1048576: true; the input reads as it did. -/
def fnExactWantOfUptoRow : OpenClaim := { program := "ytdbhfadiinmgiaa", sum := "bd2b4cba7d2c10d5624a58b032c87acb39346ad5bc814c01981228a4739073ac", func := "loop.example/g00975/laws.FnExactWantOf", spec := "fnExactWantOf", unfollowed := true, recurses := true, apart := false, narrowed := true }
def FnExactWantOfUptoSaid : Prop := fnExactWantOfUptoRow.holds Try.pinned (OpenSpec.upto fnExactWantOfSpec)

/-- 'laws.FnExactMoved', WHERE WHAT IT READS IS OF BULK AT MOST 1048576: true; the input reads as it did. -/
def fnExactMovedUptoRow : OpenClaim := { program := "ytdbhfadiinmgiaa", sum := "bd2b4cba7d2c10d5624a58b032c87acb39346ad5bc814c01981228a4739073ac", func := "loop.example/g00975/laws.FnExactMoved", spec := "fnExactMoved", unfollowed := true, recurses := true, apart := false, narrowed := true }
def FnExactMovedUptoSaid : Prop := fnExactMovedUptoRow.holds Try.pinned (OpenSpec.upto fnExactMovedSpec)

/-- 'laws.FnExactPlainly', WHERE WHAT IT READS IS OF BULK AT MOST 1048576: true; the input reads as it did. -/
def fnExactPlainlyUptoRow : OpenClaim := { program := "ytdbhfadiinmgiaa", sum := "bd2b4cba7d2c10d5624a58b032c87acb39346ad5bc814c01981228a4739073ac", func := "loop.example/g00975/laws.FnExactPlainly", spec := "fnExactPlainly", unfollowed := true, recurses := true, apart := false, narrowed := true }
def FnExactPlainlyUptoSaid : Prop := fnExactPlainlyUptoRow.holds Try.pinned (OpenSpec.upto fnExactPlainlySpec)

/-- 'laws.FnExactLoaded', WHERE WHAT IT READS IS OF BULK AT MOST 1048576: true; the input reads as it did. -/
def fnExactLoadedUptoRow : OpenClaim := { program := "ytdbhfadiinmgiaa", sum := "bd2b4cba7d2c10d5624a58b032c87acb39346ad5bc814c01981228a4739073ac", func := "loop.example/g00975/laws.FnExactLoaded", spec := "fnExactLoaded", unfollowed := true, recurses := true, apart := false, narrowed := true }
def FnExactLoadedUptoSaid : Prop := fnExactLoadedUptoRow.holds Try.pinned (OpenSpec.upto fnExactLoadedSpec)

/-- 'laws.FnExactStored', WHERE WHAT IT READS IS OF BULK AT MOST 1048576: true; the input reads as it did. -/
def fnExactStoredUptoRow : OpenClaim := { program := "ytdbhfadiinmgiaa", sum := "bd2b4cba7d2c10d5624a58b032c87acb39346ad5bc814c01981228a4739073ac", func := "loop.example/g00975/laws.FnExactStored", spec := "fnExactStored", unfollowed := true, recurses := true, apart := false, narrowed := true }
def FnExactStoredUptoSaid : Prop := fnExactStoredUptoRow.holds Try.pinned (OpenSpec.upto fnExactStoredSpec)

/-- 'laws.FnExactHeld', WHERE WHAT IT READS IS OF BULK AT MOST 1048576: true; the input reads as it did. -/
def fnExactHeldUptoRow : OpenClaim := { program := "ytdbhfadiinmgiaa", sum := "bd2b4cba7d2c10d5624a58b032c87acb39346ad5bc814c01981228a4739073ac", func := "loop.example/g00975/laws.FnExactHeld", spec := "fnExactHeld", unfollowed := true, recurses := true, apart := false, narrowed := true }
def FnExactHeldUptoSaid : Prop := fnExactHeldUptoRow.holds Try.pinned (OpenSpec.upto fnExactHeldSpec)

/-- 'laws.FnExactAddress', WHERE WHAT IT READS IS OF BULK AT MOST 1048576: true; the input reads as it did. -/
def fnExactAddressUptoRow : OpenClaim := { program := "ytdbhfadiinmgiaa", sum := "bd2b4cba7d2c10d5624a58b032c87acb39346ad5bc814c01981228a4739073ac", func := "loop.example/g00975/laws.FnExactAddress", spec := "fnExactAddress", unfollowed := true, recurses := true, apart := false, narrowed := true }
def FnExactAddressUptoSaid : Prop := fnExactAddressUptoRow.holds Try.pinned (OpenSpec.upto fnExactAddressSpec)

end Rows
end Go.Proofs.Ytdbhfadiinmgiaa
