/-
  DERIVED. GIVEN WITH THE SEED: THE CARDS: each row of YtikamndjelamgaaDoorRows.lean that lists a variable, with what it lists TIED to the program's text (the seventh form; the later family's looks); each row that meets fmt, with fmt's text TOLD by the authors' own Lean function (tested against real Go, not proved from fmt's source: count such statements apart). THE CARD IS WHAT COUNTS. Prove the row's statement (the work); the ties are given (YtikamndjelamgaaDoorTie.lean); close each card by the builder's one call (the guide's Derived/Test/ToyasCard.lean, 'card_holds'). Laid BY PROGRAM, IN A SANDBOX (cutbox-door.mjs). By AI agents, Wed Nov 11 2026. No macro, syntax, notation, axiom, sorry.
-/
import Derived.Test.YtikamndjelamgaaDoorRows
import GoSem.ClaimSeven
namespace Go.Proofs.YtikamndjelamgaaDoor
namespace Rows

/-- THE TIED CARD OF 'laws.FnExits'. -/
def fnExitsCard : Claim7 := { stood := { row := fnExitsRow, standIns := [], harness := (true, "d4d0aafdceac65de11be0b440cf83f2bcef51985b6999785a04c2127d739c09f"), looks := true }, kinds := [], alts := [], laidByText := true, laidKinds := [.data, .data, .data, .data], laidTests := true, laidLooks := .later }
def FnExitsCardSaid : Prop := Claim7.holds Tryd.pinned (.plain (OpenSpec.ofChange fnExitsSpec)) fnExitsCard

/-- THE TIED CARD OF 'laws.FnExitWords'. -/
def fnExitWordsCard : Claim7 := { stood := { row := fnExitWordsRow, standIns := [], harness := (true, "d4d0aafdceac65de11be0b440cf83f2bcef51985b6999785a04c2127d739c09f"), looks := true }, kinds := [], alts := [], laidByText := true, laidKinds := [.data, .data, .data, .data], laidTests := true, laidLooks := .later }
def FnExitWordsCardSaid : Prop := Claim7.holds Tryd.pinned (.plain (OpenSpec.ofChange fnExitWordsSpec)) fnExitWordsCard

/-- THE TIED CARD OF 'laws.FnExactExitName'. -/
def fnExactExitNameCard : Claim7 := { stood := { row := fnExactExitNameRow, standIns := [], harness := (true, "d4d0aafdceac65de11be0b440cf83f2bcef51985b6999785a04c2127d739c09f"), looks := true }, kinds := [], alts := [], laidByText := true, laidKinds := [.data], laidTests := true, laidLooks := .later }
def FnExactExitNameCardSaid : Prop := Claim7.holds Tryd.pinned (.plain (OpenSpec.ofChange fnExactExitNameSpec)) fnExactExitNameCard

/-- THE TIED CARD OF 'laws.FnExactExitText'. -/
def fnExactExitTextCard : Claim7 := { stood := { row := fnExactExitTextRow, standIns := [], harness := (true, "d4d0aafdceac65de11be0b440cf83f2bcef51985b6999785a04c2127d739c09f"), looks := true }, kinds := [], alts := [], laidByText := true, laidKinds := [.data, .data, .data, .data], laidTests := true, laidLooks := .later }
def FnExactExitTextCardSaid : Prop := Claim7.holds Tryd.pinned (.plain (OpenSpec.ofChange fnExactExitTextSpec)) fnExactExitTextCard

/-- THE SECOND FORM's CARD OF 'laws.FnExits'. -/
def fnExitsUptoCard : Claim7 := { stood := { row := fnExitsUptoRow, standIns := [], harness := (true, "d4d0aafdceac65de11be0b440cf83f2bcef51985b6999785a04c2127d739c09f"), looks := true }, kinds := [], alts := [], laidByText := true, laidKinds := [.data, .data, .data, .data], laidTests := true, laidLooks := .later }
def FnExitsUptoCardSaid : Prop := Claim7.holds Tryd.pinned (.plain (OpenSpec.upto fnExitsSpec)) fnExitsUptoCard

/-- THE SECOND FORM's CARD OF 'laws.FnExitWords'. -/
def fnExitWordsUptoCard : Claim7 := { stood := { row := fnExitWordsUptoRow, standIns := [], harness := (true, "d4d0aafdceac65de11be0b440cf83f2bcef51985b6999785a04c2127d739c09f"), looks := true }, kinds := [], alts := [], laidByText := true, laidKinds := [.data, .data, .data, .data], laidTests := true, laidLooks := .later }
def FnExitWordsUptoCardSaid : Prop := Claim7.holds Tryd.pinned (.plain (OpenSpec.upto fnExitWordsSpec)) fnExitWordsUptoCard

/-- THE SECOND FORM's CARD OF 'laws.FnExactExitName'. -/
def fnExactExitNameUptoCard : Claim7 := { stood := { row := fnExactExitNameUptoRow, standIns := [], harness := (true, "d4d0aafdceac65de11be0b440cf83f2bcef51985b6999785a04c2127d739c09f"), looks := true }, kinds := [], alts := [], laidByText := true, laidKinds := [.data], laidTests := true, laidLooks := .later }
def FnExactExitNameUptoCardSaid : Prop := Claim7.holds Tryd.pinned (.plain (OpenSpec.upto fnExactExitNameSpec)) fnExactExitNameUptoCard

/-- THE SECOND FORM's CARD OF 'laws.FnExactExitText'. -/
def fnExactExitTextUptoCard : Claim7 := { stood := { row := fnExactExitTextUptoRow, standIns := [], harness := (true, "d4d0aafdceac65de11be0b440cf83f2bcef51985b6999785a04c2127d739c09f"), looks := true }, kinds := [], alts := [], laidByText := true, laidKinds := [.data, .data, .data, .data], laidTests := true, laidLooks := .later }
def FnExactExitTextUptoCardSaid : Prop := Claim7.holds Tryd.pinned (.plain (OpenSpec.upto fnExactExitTextSpec)) fnExactExitTextUptoCard
end Rows
end Go.Proofs.YtikamndjelamgaaDoor
