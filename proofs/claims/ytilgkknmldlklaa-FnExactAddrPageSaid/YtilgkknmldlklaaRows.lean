/-
  No cell of these rows narrows 'for every input' (looked for: loops, veiled, ifaces, maps, wideKeys, modest, calm, conditions, laid).
  DERIVED. THE GIVEN ROWS OF THIS SEAT. 3 by the template 'for every input the law returns true; each argument reads behind the call as it read before'; 0 by the template 'total and deterministic' (their statements: YtilgkknmldlklaaTotals.lean).
  GIVEN WITH THE SEED: the statements are not yours to turn. If you find one false, say at which input.
  Laid BY PROGRAM, IN A SANDBOX (cutbox-rows.mjs): the forced cells as the released guide's own fill.sh prints them over the translation d3d071de78a13a49… (all of the seat's roots in one cut). By AI agents, Wed Nov 11 2026. No macro, syntax, notation, axiom, sorry.
-/
import Derived.Test.YtilgkknmldlklaaChecked
import GoSem.Claim
import GoSem.ClaimJoined
import GoSem.ClaimMapViews
import Derived.JoinedTies
import Derived.KernelRfl
namespace Go.Proofs.Ytilgkknmldlklaa
/- THE CELL 'sum', in the pinned program and in every row, IS THE sha256 OF THE DUMP (.gsa) THAT YtilgkknmldlklaaProg.lean LOADS. Nothing in Lean hashes anything: it is a label: what it is worth is what the hold of that sum in a sandbox is worth. -/
noncomputable def Try.pinned : Pinned := { name := "ytilgkknmldlklaa", sum := "d3d071de78a13a49d5aec29d881374eec6238a57fbc218eb28be0ffcad2342fd", checked := Try.checked }
namespace Rows
def none {H : Type} : Left H := { results := [], args := [] }

/-- 'laws.FnAddresses': WHATEVER THE INPUT: true; the input reads as it did. -/
def fnAddressesSpec : ChangeSpec := { name := "fnAddresses", fn := fun _ => fun
  | [d] => { results := [.lit (.bool true)], args := [d] }
  | _ => none }
def fnAddressesRow : OpenClaim := { program := "ytilgkknmldlklaa", sum := "d3d071de78a13a49d5aec29d881374eec6238a57fbc218eb28be0ffcad2342fd", func := "loop.example/g00975/laws.FnAddresses", spec := "fnAddresses", apart := false }
def FnAddressesSaid : Prop := fnAddressesRow.holds Try.pinned (OpenSpec.ofChange fnAddressesSpec)

/-- ITS FALSE NEIGHBOUR: 'it returns false'. Refute it at one input. -/
def fnAddressesWrong : ChangeSpec := { name := "fnAddresses", fn := fun _ => fun
  | [d] => { results := [.lit (.bool false)], args := [d] }
  | _ => none }
def FnAddressesWrongFalsely : Prop := fnAddressesRow.holds Try.pinned (OpenSpec.ofChange fnAddressesWrong)

/-- 'laws.FnExactAddrPage': WHATEVER THE INPUT: true; the input reads as it did. -/
def fnExactAddrPageSpec : ChangeSpec := { name := "fnExactAddrPage", fn := fun _ => fun
  | [d] => { results := [.lit (.bool true)], args := [d] }
  | _ => none }
def fnExactAddrPageRow : OpenClaim := { program := "ytilgkknmldlklaa", sum := "d3d071de78a13a49d5aec29d881374eec6238a57fbc218eb28be0ffcad2342fd", func := "loop.example/g00975/laws.FnExactAddrPage", spec := "fnExactAddrPage", apart := false }
def FnExactAddrPageSaid : Prop := fnExactAddrPageRow.holds Try.pinned (OpenSpec.ofChange fnExactAddrPageSpec)

/-- ITS FALSE NEIGHBOUR: 'it returns false'. Refute it at one input. -/
def fnExactAddrPageWrong : ChangeSpec := { name := "fnExactAddrPage", fn := fun _ => fun
  | [d] => { results := [.lit (.bool false)], args := [d] }
  | _ => none }
def FnExactAddrPageWrongFalsely : Prop := fnExactAddrPageRow.holds Try.pinned (OpenSpec.ofChange fnExactAddrPageWrong)

/-- 'laws.FnExactAddrCell': WHATEVER THE INPUT: true; the input reads as it did. -/
def fnExactAddrCellSpec : ChangeSpec := { name := "fnExactAddrCell", fn := fun _ => fun
  | [d] => { results := [.lit (.bool true)], args := [d] }
  | _ => none }
def fnExactAddrCellRow : OpenClaim := { program := "ytilgkknmldlklaa", sum := "d3d071de78a13a49d5aec29d881374eec6238a57fbc218eb28be0ffcad2342fd", func := "loop.example/g00975/laws.FnExactAddrCell", spec := "fnExactAddrCell", apart := false }
def FnExactAddrCellSaid : Prop := fnExactAddrCellRow.holds Try.pinned (OpenSpec.ofChange fnExactAddrCellSpec)

/-- ITS FALSE NEIGHBOUR: 'it returns false'. Refute it at one input. -/
def fnExactAddrCellWrong : ChangeSpec := { name := "fnExactAddrCell", fn := fun _ => fun
  | [d] => { results := [.lit (.bool false)], args := [d] }
  | _ => none }
def FnExactAddrCellWrongFalsely : Prop := fnExactAddrCellRow.holds Try.pinned (OpenSpec.ofChange fnExactAddrCellWrong)

/- THE SECOND FORM. 'bulk': how many values and letters a reading holds, each counted each time it is reached (what is shared counts as often as it is met; a slice's spare places count too). A statement '..UptoSaid' is the law's where the arguments, and the package variables that the reading takes, are together of bulk at most 1048576: NARROWER than '..Said'. Prove '..Said' where nothing that the law and all that it calls make is longer than what came in: it says more and counts as full. Else prove '..UptoSaid'. A law counts once. -/
mutual
def uptoBulk {H : Type} : DataW H → Nat
  | .lit (.string bytes) => bytes.length + 1
  | .lit _ => 1
  | .nil => 1
  | .ptr d => uptoBulk d + 1
  | .slice elems spare => uptoBulkAll elems + uptoBulkAll spare + 1
  | .agg parts => uptoBulkAll parts + 1
  | .iface _ d => uptoBulk d + 1
  | .map entries => uptoBulkEntries entries + 1
  | .held _ => 1
def uptoBulkAll {H : Type} : List (DataW H) → Nat
  | [] => 0
  | d :: r => uptoBulk d + uptoBulkAll r
def uptoBulkEntries {H : Type} : List (Lit × DataW H) → Nat
  | [] => 0
  | x :: r => uptoBulkEntry x + uptoBulkEntries r
def uptoBulkEntry {H : Type} : Lit × DataW H → Nat
  | (.string bytes, d) => bytes.length + uptoBulk d + 1
  | (_, d) => uptoBulk d + 1
 end
def uptoSmall : (H : Type) → List (DataW H) → Bool := fun _ ds => decide (uptoBulkAll ds ≤ 1048576)
def OpenSpec.upto (s : _root_.Go.ChangeSpec) : _root_.Go.OpenSpec := { _root_.Go.OpenSpec.ofChange s with cond := some uptoSmall }

/-- 'laws.FnAddresses', WHERE WHAT IT READS IS OF BULK AT MOST 1048576: true; the input reads as it did. -/
def fnAddressesUptoRow : OpenClaim := { program := "ytilgkknmldlklaa", sum := "d3d071de78a13a49d5aec29d881374eec6238a57fbc218eb28be0ffcad2342fd", func := "loop.example/g00975/laws.FnAddresses", spec := "fnAddresses", apart := false, narrowed := true }
def FnAddressesUptoSaid : Prop := fnAddressesUptoRow.holds Try.pinned (OpenSpec.upto fnAddressesSpec)

/-- 'laws.FnExactAddrPage', WHERE WHAT IT READS IS OF BULK AT MOST 1048576: true; the input reads as it did. -/
def fnExactAddrPageUptoRow : OpenClaim := { program := "ytilgkknmldlklaa", sum := "d3d071de78a13a49d5aec29d881374eec6238a57fbc218eb28be0ffcad2342fd", func := "loop.example/g00975/laws.FnExactAddrPage", spec := "fnExactAddrPage", apart := false, narrowed := true }
def FnExactAddrPageUptoSaid : Prop := fnExactAddrPageUptoRow.holds Try.pinned (OpenSpec.upto fnExactAddrPageSpec)

/-- 'laws.FnExactAddrCell', WHERE WHAT IT READS IS OF BULK AT MOST 1048576: true; the input reads as it did. -/
def fnExactAddrCellUptoRow : OpenClaim := { program := "ytilgkknmldlklaa", sum := "d3d071de78a13a49d5aec29d881374eec6238a57fbc218eb28be0ffcad2342fd", func := "loop.example/g00975/laws.FnExactAddrCell", spec := "fnExactAddrCell", apart := false, narrowed := true }
def FnExactAddrCellUptoSaid : Prop := fnExactAddrCellUptoRow.holds Try.pinned (OpenSpec.upto fnExactAddrCellSpec)

end Rows
end Go.Proofs.Ytilgkknmldlklaa
