/-
  No cell of these rows narrows 'for every input' (looked for: loops, veiled, ifaces, maps, wideKeys, modest, calm, conditions, laid).
  DERIVED. THE GIVEN ROWS OF THIS SEAT. 9 by the template 'for every input the law returns true; each argument reads behind the call as it read before'; 0 by the template 'total and deterministic' (their statements: YteopkcndkcciaaaTotals.lean).
  GIVEN WITH THE SEED: the statements are not yours to turn. If you find one false, say at which input.
  Laid BY PROGRAM, IN A SANDBOX (cutbox-rows.mjs): the forced cells as the released guide's own fill.sh prints them over the translation 6f445048ff350281… (all of the seat's roots in one cut). By AI agents, Wed Nov 11 2026. No macro, syntax, notation, axiom, sorry.
-/
import Derived.Test.YteopkcndkcciaaaChecked
import GoSem.Claim
import GoSem.ClaimJoined
import GoSem.ClaimMapViews
import Derived.JoinedTies
import Derived.KernelRfl
namespace Go.Proofs.Yteopkcndkcciaaa
/- THE CELL 'sum', in the pinned program and in every row, IS THE sha256 OF THE DUMP (.gsa) THAT YteopkcndkcciaaaProg.lean LOADS. Nothing in Lean hashes anything: it is a label: what it is worth is what the hold of that sum in a sandbox is worth. -/
noncomputable def Try.pinned : Pinned := { name := "yteopkcndkcciaaa", sum := "6f445048ff35028184535ba06229cbe293a1cfb914e8912720da857243bc7809", checked := Try.checked }
namespace Rows
def none {H : Type} : Left H := { results := [], args := [] }

/-- 'laws.FnSeenCap': WHATEVER THE INPUT: true; the input reads as it did. -/
def fnSeenCapSpec : ChangeSpec := { name := "fnSeenCap", fn := fun _ => fun
  | [d] => { results := [.lit (.bool true)], args := [d] }
  | _ => none }
def fnSeenCapRow : OpenClaim := { program := "yteopkcndkcciaaa", sum := "6f445048ff35028184535ba06229cbe293a1cfb914e8912720da857243bc7809", func := "loop.example/g00975/laws.FnSeenCap", spec := "fnSeenCap", apart := false }
def FnSeenCapSaid : Prop := fnSeenCapRow.holds Try.pinned (OpenSpec.ofChange fnSeenCapSpec)

/-- ITS FALSE NEIGHBOUR: 'it returns false'. Refute it at one input. -/
def fnSeenCapWrong : ChangeSpec := { name := "fnSeenCap", fn := fun _ => fun
  | [d] => { results := [.lit (.bool false)], args := [d] }
  | _ => none }
def FnSeenCapWrongFalsely : Prop := fnSeenCapRow.holds Try.pinned (OpenSpec.ofChange fnSeenCapWrong)

/-- 'laws.FnExactGuestNew': WHATEVER THE INPUT: true; the input reads as it did. -/
def fnExactGuestNewSpec : ChangeSpec := { name := "fnExactGuestNew", fn := fun _ => fun
  | [d] => { results := [.lit (.bool true)], args := [d] }
  | _ => none }
def fnExactGuestNewRow : OpenClaim := { program := "yteopkcndkcciaaa", sum := "6f445048ff35028184535ba06229cbe293a1cfb914e8912720da857243bc7809", func := "loop.example/g00975/laws.FnExactGuestNew", spec := "fnExactGuestNew", apart := false }
def FnExactGuestNewSaid : Prop := fnExactGuestNewRow.holds Try.pinned (OpenSpec.ofChange fnExactGuestNewSpec)

/-- ITS FALSE NEIGHBOUR: 'it returns false'. Refute it at one input. -/
def fnExactGuestNewWrong : ChangeSpec := { name := "fnExactGuestNew", fn := fun _ => fun
  | [d] => { results := [.lit (.bool false)], args := [d] }
  | _ => none }
def FnExactGuestNewWrongFalsely : Prop := fnExactGuestNewRow.holds Try.pinned (OpenSpec.ofChange fnExactGuestNewWrong)

/-- 'laws.FnExactGuestOk': WHATEVER THE INPUT: true; the input reads as it did. -/
def fnExactGuestOkSpec : ChangeSpec := { name := "fnExactGuestOk", fn := fun _ => fun
  | [d] => { results := [.lit (.bool true)], args := [d] }
  | _ => none }
def fnExactGuestOkRow : OpenClaim := { program := "yteopkcndkcciaaa", sum := "6f445048ff35028184535ba06229cbe293a1cfb914e8912720da857243bc7809", func := "loop.example/g00975/laws.FnExactGuestOk", spec := "fnExactGuestOk", apart := false }
def FnExactGuestOkSaid : Prop := fnExactGuestOkRow.holds Try.pinned (OpenSpec.ofChange fnExactGuestOkSpec)

/-- ITS FALSE NEIGHBOUR: 'it returns false'. Refute it at one input. -/
def fnExactGuestOkWrong : ChangeSpec := { name := "fnExactGuestOk", fn := fun _ => fun
  | [d] => { results := [.lit (.bool false)], args := [d] }
  | _ => none }
def FnExactGuestOkWrongFalsely : Prop := fnExactGuestOkRow.holds Try.pinned (OpenSpec.ofChange fnExactGuestOkWrong)

/-- 'laws.FnExactCanRun': WHATEVER THE INPUT: true; the input reads as it did. -/
def fnExactCanRunSpec : ChangeSpec := { name := "fnExactCanRun", fn := fun _ => fun
  | [d] => { results := [.lit (.bool true)], args := [d] }
  | _ => none }
def fnExactCanRunRow : OpenClaim := { program := "yteopkcndkcciaaa", sum := "6f445048ff35028184535ba06229cbe293a1cfb914e8912720da857243bc7809", func := "loop.example/g00975/laws.FnExactCanRun", spec := "fnExactCanRun", apart := false }
def FnExactCanRunSaid : Prop := fnExactCanRunRow.holds Try.pinned (OpenSpec.ofChange fnExactCanRunSpec)

/-- ITS FALSE NEIGHBOUR: 'it returns false'. Refute it at one input. -/
def fnExactCanRunWrong : ChangeSpec := { name := "fnExactCanRun", fn := fun _ => fun
  | [d] => { results := [.lit (.bool false)], args := [d] }
  | _ => none }
def FnExactCanRunWrongFalsely : Prop := fnExactCanRunRow.holds Try.pinned (OpenSpec.ofChange fnExactCanRunWrong)

/-- 'laws.FnExactSaw': WHATEVER THE INPUT: true; the input reads as it did. -/
def fnExactSawSpec : ChangeSpec := { name := "fnExactSaw", fn := fun _ => fun
  | [d1, d2] => { results := [.lit (.bool true)], args := [d1, d2] }
  | _ => none }
def fnExactSawRow : OpenClaim := { program := "yteopkcndkcciaaa", sum := "6f445048ff35028184535ba06229cbe293a1cfb914e8912720da857243bc7809", func := "loop.example/g00975/laws.FnExactSaw", spec := "fnExactSaw", apart := false }
def FnExactSawSaid : Prop := fnExactSawRow.holds Try.pinned (OpenSpec.ofChange fnExactSawSpec)

/-- ITS FALSE NEIGHBOUR: 'it returns false'. Refute it at one input. -/
def fnExactSawWrong : ChangeSpec := { name := "fnExactSaw", fn := fun _ => fun
  | [d1, d2] => { results := [.lit (.bool false)], args := [d1, d2] }
  | _ => none }
def FnExactSawWrongFalsely : Prop := fnExactSawRow.holds Try.pinned (OpenSpec.ofChange fnExactSawWrong)

/-- 'laws.FnExactTakesIrq': WHATEVER THE INPUT: true; the input reads as it did. -/
def fnExactTakesIrqSpec : ChangeSpec := { name := "fnExactTakesIrq", fn := fun _ => fun
  | [d] => { results := [.lit (.bool true)], args := [d] }
  | _ => none }
def fnExactTakesIrqRow : OpenClaim := { program := "yteopkcndkcciaaa", sum := "6f445048ff35028184535ba06229cbe293a1cfb914e8912720da857243bc7809", func := "loop.example/g00975/laws.FnExactTakesIrq", spec := "fnExactTakesIrq", unfollowed := true, recurses := true, apart := false }
def FnExactTakesIrqSaid : Prop := fnExactTakesIrqRow.holds Try.pinned (OpenSpec.ofChange fnExactTakesIrqSpec)

/-- ITS FALSE NEIGHBOUR: 'it returns false'. Refute it at one input. -/
def fnExactTakesIrqWrong : ChangeSpec := { name := "fnExactTakesIrq", fn := fun _ => fun
  | [d] => { results := [.lit (.bool false)], args := [d] }
  | _ => none }
def FnExactTakesIrqWrongFalsely : Prop := fnExactTakesIrqRow.holds Try.pinned (OpenSpec.ofChange fnExactTakesIrqWrong)

/-- 'laws.FnExactInterrupted': WHATEVER THE INPUT: true; the input reads as it did. -/
def fnExactInterruptedSpec : ChangeSpec := { name := "fnExactInterrupted", fn := fun _ => fun
  | [d] => { results := [.lit (.bool true)], args := [d] }
  | _ => none }
def fnExactInterruptedRow : OpenClaim := { program := "yteopkcndkcciaaa", sum := "6f445048ff35028184535ba06229cbe293a1cfb914e8912720da857243bc7809", func := "loop.example/g00975/laws.FnExactInterrupted", spec := "fnExactInterrupted", unfollowed := true, recurses := true, apart := false }
def FnExactInterruptedSaid : Prop := fnExactInterruptedRow.holds Try.pinned (OpenSpec.ofChange fnExactInterruptedSpec)

/-- ITS FALSE NEIGHBOUR: 'it returns false'. Refute it at one input. -/
def fnExactInterruptedWrong : ChangeSpec := { name := "fnExactInterrupted", fn := fun _ => fun
  | [d] => { results := [.lit (.bool false)], args := [d] }
  | _ => none }
def FnExactInterruptedWrongFalsely : Prop := fnExactInterruptedRow.holds Try.pinned (OpenSpec.ofChange fnExactInterruptedWrong)

/-- 'laws.FnExactStopped': WHATEVER THE INPUT: true; the input reads as it did. -/
def fnExactStoppedSpec : ChangeSpec := { name := "fnExactStopped", fn := fun _ => fun
  | [d1, d2] => { results := [.lit (.bool true)], args := [d1, d2] }
  | _ => none }
def fnExactStoppedRow : OpenClaim := { program := "yteopkcndkcciaaa", sum := "6f445048ff35028184535ba06229cbe293a1cfb914e8912720da857243bc7809", func := "loop.example/g00975/laws.FnExactStopped", spec := "fnExactStopped", apart := false }
def FnExactStoppedSaid : Prop := fnExactStoppedRow.holds Try.pinned (OpenSpec.ofChange fnExactStoppedSpec)

/-- ITS FALSE NEIGHBOUR: 'it returns false'. Refute it at one input. -/
def fnExactStoppedWrong : ChangeSpec := { name := "fnExactStopped", fn := fun _ => fun
  | [d1, d2] => { results := [.lit (.bool false)], args := [d1, d2] }
  | _ => none }
def FnExactStoppedWrongFalsely : Prop := fnExactStoppedRow.holds Try.pinned (OpenSpec.ofChange fnExactStoppedWrong)

/-- 'laws.FnExactSameGuest': WHATEVER THE INPUT: true; the input reads as it did. -/
def fnExactSameGuestSpec : ChangeSpec := { name := "fnExactSameGuest", fn := fun _ => fun
  | [d1, d2] => { results := [.lit (.bool true)], args := [d1, d2] }
  | _ => none }
def fnExactSameGuestRow : OpenClaim := { program := "yteopkcndkcciaaa", sum := "6f445048ff35028184535ba06229cbe293a1cfb914e8912720da857243bc7809", func := "loop.example/g00975/laws.FnExactSameGuest", spec := "fnExactSameGuest", apart := false }
def FnExactSameGuestSaid : Prop := fnExactSameGuestRow.holds Try.pinned (OpenSpec.ofChange fnExactSameGuestSpec)

/-- ITS FALSE NEIGHBOUR: 'it returns false'. Refute it at one input. -/
def fnExactSameGuestWrong : ChangeSpec := { name := "fnExactSameGuest", fn := fun _ => fun
  | [d1, d2] => { results := [.lit (.bool false)], args := [d1, d2] }
  | _ => none }
def FnExactSameGuestWrongFalsely : Prop := fnExactSameGuestRow.holds Try.pinned (OpenSpec.ofChange fnExactSameGuestWrong)

/- THE SECOND FORM. 'bulk': how many values and letters a reading holds, each counted each time it is reached (what is shared counts as often as it is met; a slice's spare places count too). A statement '..UptoSaid' is the law's where the arguments, and the package variables that the reading takes, are together of bulk at most 1048576: NARROWER than '..Said'. Prove '..Said' where nothing that the law and all that it calls make is longer than what came in: it says more and counts as full. Else prove '..UptoSaid'. A law counts once. -/
mutual
def uptoBulk {H : Type} : DataW H → Nat
  | .lit (.string bytes) => bytes.length + 1
  | .lit _ => 1
  | .nil => 1
  | .ptr d => uptoBulk d + 1
  | .slice elems spare => uptoBulkAll elems + uptoBulkAll spare + 1
  | .agg parts => uptoBulkAll parts + 1
  | .iface _ d => uptoBulk d + 1
  | .map entries => uptoBulkEntries entries + 1
  | .held _ => 1
def uptoBulkAll {H : Type} : List (DataW H) → Nat
  | [] => 0
  | d :: r => uptoBulk d + uptoBulkAll r
def uptoBulkEntries {H : Type} : List (Lit × DataW H) → Nat
  | [] => 0
  | x :: r => uptoBulkEntry x + uptoBulkEntries r
def uptoBulkEntry {H : Type} : Lit × DataW H → Nat
  | (.string bytes, d) => bytes.length + uptoBulk d + 1
  | (_, d) => uptoBulk d + 1
 end
def uptoSmall : (H : Type) → List (DataW H) → Bool := fun _ ds => decide (uptoBulkAll ds ≤ 1048576)
def OpenSpec.upto (s : _root_.Go.ChangeSpec) : _root_.Go.OpenSpec := { _root_.Go.OpenSpec.ofChange s with cond := some uptoSmall }

/-- 'laws.FnSeenCap', WHERE WHAT IT READS IS OF BULK AT MOST 1048576: true; the input reads as it did. -/
def fnSeenCapUptoRow : OpenClaim := { program := "yteopkcndkcciaaa", sum := "6f445048ff35028184535ba06229cbe293a1cfb914e8912720da857243bc7809", func := "loop.example/g00975/laws.FnSeenCap", spec := "fnSeenCap", apart := false, narrowed := true }
def FnSeenCapUptoSaid : Prop := fnSeenCapUptoRow.holds Try.pinned (OpenSpec.upto fnSeenCapSpec)

/-- 'laws.FnExactGuestNew', WHERE WHAT IT READS IS OF BULK AT MOST 1048576: true; the input reads as it did. -/
def fnExactGuestNewUptoRow : OpenClaim := { program := "yteopkcndkcciaaa", sum := "6f445048ff35028184535ba06229cbe293a1cfb914e8912720da857243bc7809", func := "loop.example/g00975/laws.FnExactGuestNew", spec := "fnExactGuestNew", apart := false, narrowed := true }
def FnExactGuestNewUptoSaid : Prop := fnExactGuestNewUptoRow.holds Try.pinned (OpenSpec.upto fnExactGuestNewSpec)

/-- 'laws.FnExactGuestOk', WHERE WHAT IT READS IS OF BULK AT MOST 1048576: true; the input reads as it did. -/
def fnExactGuestOkUptoRow : OpenClaim := { program := "yteopkcndkcciaaa", sum := "6f445048ff35028184535ba06229cbe293a1cfb914e8912720da857243bc7809", func := "loop.example/g00975/laws.FnExactGuestOk", spec := "fnExactGuestOk", apart := false, narrowed := true }
def FnExactGuestOkUptoSaid : Prop := fnExactGuestOkUptoRow.holds Try.pinned (OpenSpec.upto fnExactGuestOkSpec)

/-- 'laws.FnExactCanRun', WHERE WHAT IT READS IS OF BULK AT MOST 1048576: true; the input reads as it did. -/
def fnExactCanRunUptoRow : OpenClaim := { program := "yteopkcndkcciaaa", sum := "6f445048ff35028184535ba06229cbe293a1cfb914e8912720da857243bc7809", func := "loop.example/g00975/laws.FnExactCanRun", spec := "fnExactCanRun", apart := false, narrowed := true }
def FnExactCanRunUptoSaid : Prop := fnExactCanRunUptoRow.holds Try.pinned (OpenSpec.upto fnExactCanRunSpec)

/-- 'laws.FnExactSaw', WHERE WHAT IT READS IS OF BULK AT MOST 1048576: true; the input reads as it did. -/
def fnExactSawUptoRow : OpenClaim := { program := "yteopkcndkcciaaa", sum := "6f445048ff35028184535ba06229cbe293a1cfb914e8912720da857243bc7809", func := "loop.example/g00975/laws.FnExactSaw", spec := "fnExactSaw", apart := false, narrowed := true }
def FnExactSawUptoSaid : Prop := fnExactSawUptoRow.holds Try.pinned (OpenSpec.upto fnExactSawSpec)

/-- 'laws.FnExactTakesIrq', WHERE WHAT IT READS IS OF BULK AT MOST 1048576: true; the input reads as it did. -/
def fnExactTakesIrqUptoRow : OpenClaim := { program := "yteopkcndkcciaaa", sum := "6f445048ff35028184535ba06229cbe293a1cfb914e8912720da857243bc7809", func := "loop.example/g00975/laws.FnExactTakesIrq", spec := "fnExactTakesIrq", unfollowed := true, recurses := true, apart := false, narrowed := true }
def FnExactTakesIrqUptoSaid : Prop := fnExactTakesIrqUptoRow.holds Try.pinned (OpenSpec.upto fnExactTakesIrqSpec)

/-- 'laws.FnExactInterrupted', WHERE WHAT IT READS IS OF BULK AT MOST 1048576: true; the input reads as it did. -/
def fnExactInterruptedUptoRow : OpenClaim := { program := "yteopkcndkcciaaa", sum := "6f445048ff35028184535ba06229cbe293a1cfb914e8912720da857243bc7809", func := "loop.example/g00975/laws.FnExactInterrupted", spec := "fnExactInterrupted", unfollowed := true, recurses := true, apart := false, narrowed := true }
def FnExactInterruptedUptoSaid : Prop := fnExactInterruptedUptoRow.holds Try.pinned (OpenSpec.upto fnExactInterruptedSpec)

/-- 'laws.FnExactStopped', WHERE WHAT IT READS IS OF BULK AT MOST 1048576: true; the input reads as it did. -/
def fnExactStoppedUptoRow : OpenClaim := { program := "yteopkcndkcciaaa", sum := "6f445048ff35028184535ba06229cbe293a1cfb914e8912720da857243bc7809", func := "loop.example/g00975/laws.FnExactStopped", spec := "fnExactStopped", apart := false, narrowed := true }
def FnExactStoppedUptoSaid : Prop := fnExactStoppedUptoRow.holds Try.pinned (OpenSpec.upto fnExactStoppedSpec)

/-- 'laws.FnExactSameGuest', WHERE WHAT IT READS IS OF BULK AT MOST 1048576: true; the input reads as it did. -/
def fnExactSameGuestUptoRow : OpenClaim := { program := "yteopkcndkcciaaa", sum := "6f445048ff35028184535ba06229cbe293a1cfb914e8912720da857243bc7809", func := "loop.example/g00975/laws.FnExactSameGuest", spec := "fnExactSameGuest", apart := false, narrowed := true }
def FnExactSameGuestUptoSaid : Prop := fnExactSameGuestUptoRow.holds Try.pinned (OpenSpec.upto fnExactSameGuestSpec)

end Rows
end Go.Proofs.Yteopkcndkcciaaa
