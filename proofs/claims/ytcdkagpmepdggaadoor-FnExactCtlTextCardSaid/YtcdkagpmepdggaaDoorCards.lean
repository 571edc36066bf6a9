/-
  DERIVED. GIVEN WITH THE SEED: THE CARDS: each row of YtcdkagpmepdggaaDoorRows.lean that lists a variable, with what it lists TIED to the program's text (the seventh form; the later family's looks); each row that meets fmt, with fmt's text TOLD by the authors' own Lean function (tested against real Go, not proved from fmt's source: count such statements apart). THE CARD IS WHAT COUNTS. Prove the row's statement (the work); the ties are given (YtcdkagpmepdggaaDoorTie.lean); close each card by the builder's one call (the guide's Derived/Test/ToyasCard.lean, 'card_holds'). Laid BY PROGRAM, IN A SANDBOX (cutbox-door.mjs). By AI agents, Wed Nov 11 2026. No macro, syntax, notation, axiom, sorry.
-/
import Derived.Test.YtcdkagpmepdggaaDoorRows
import GoSem.ClaimSeven
namespace Go.Proofs.YtcdkagpmepdggaaDoor
namespace Rows

/-- THE TIED CARD OF 'laws.FnControl'. -/
def fnControlCard : Claim7 := { stood := { row := fnControlRow, standIns := [], harness := (true, "e411b807fed33307440ec94e8cfa05689f1625447d37018b1c9bb2d3b3130081"), looks := false }, kinds := [], alts := [], laidByText := true, laidKinds := [.data, .data, .data], laidTests := true, laidLooks := .later }
def FnControlCardSaid : Prop := Claim7.holds Tryd.pinned (.plain (OpenSpec.ofChange fnControlSpec)) fnControlCard

/-- THE TIED CARD OF 'laws.FnExactCtlText'. -/
def fnExactCtlTextCard : Claim7 := { stood := { row := fnExactCtlTextRow, standIns := [], harness := (true, "e411b807fed33307440ec94e8cfa05689f1625447d37018b1c9bb2d3b3130081"), looks := false }, kinds := [], alts := [], laidByText := true, laidKinds := [.data, .data, .data], laidTests := true, laidLooks := .later }
def FnExactCtlTextCardSaid : Prop := Claim7.holds Tryd.pinned (.plain (OpenSpec.ofChange fnExactCtlTextSpec)) fnExactCtlTextCard

/-- THE SECOND FORM's CARD OF 'laws.FnControl'. -/
def fnControlUptoCard : Claim7 := { stood := { row := fnControlUptoRow, standIns := [], harness := (true, "e411b807fed33307440ec94e8cfa05689f1625447d37018b1c9bb2d3b3130081"), looks := false }, kinds := [], alts := [], laidByText := true, laidKinds := [.data, .data, .data], laidTests := true, laidLooks := .later }
def FnControlUptoCardSaid : Prop := Claim7.holds Tryd.pinned (.plain (OpenSpec.upto fnControlSpec)) fnControlUptoCard

/-- THE SECOND FORM's CARD OF 'laws.FnExactCtlText'. -/
def fnExactCtlTextUptoCard : Claim7 := { stood := { row := fnExactCtlTextUptoRow, standIns := [], harness := (true, "e411b807fed33307440ec94e8cfa05689f1625447d37018b1c9bb2d3b3130081"), looks := false }, kinds := [], alts := [], laidByText := true, laidKinds := [.data, .data, .data], laidTests := true, laidLooks := .later }
def FnExactCtlTextUptoCardSaid : Prop := Claim7.holds Tryd.pinned (.plain (OpenSpec.upto fnExactCtlTextSpec)) fnExactCtlTextUptoCard
end Rows
end Go.Proofs.YtcdkagpmepdggaaDoor
