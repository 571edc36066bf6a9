/-
  DERIVED. GIVEN WITH THE SEED: THE CARDS: each row of YtilgkknmldlklaaDoorRows.lean that lists a variable, with what it lists TIED to the program's text (the seventh form; the later family's looks); each row that meets fmt, with fmt's text TOLD by the authors' own Lean function (tested against real Go, not proved from fmt's source: count such statements apart). THE CARD IS WHAT COUNTS. Prove the row's statement (the work); the ties are given (YtilgkknmldlklaaDoorTie.lean); close each card by the builder's one call (the guide's Derived/Test/ToyasCard.lean, 'card_holds'). Laid BY PROGRAM, IN A SANDBOX (cutbox-door.mjs). By AI agents, Wed Nov 11 2026. No macro, syntax, notation, axiom, sorry.
-/
import Derived.Test.YtilgkknmldlklaaDoorRows
import GoSem.ClaimSeven
namespace Go.Proofs.YtilgkknmldlklaaDoor
namespace Rows

/-- THE TIED CARD OF 'laws.FnWalks'. -/
def fnWalksCard : Claim7 := { stood := { row := fnWalksRow, standIns := [], harness := (true, "da62564f9cbb841baf64eb108a5328e7af21eb7941dc0e2b77519245003f444e"), looks := true }, kinds := [], alts := [], laidByText := true, laidKinds := [.sentinel, .sentinel], laidTests := true, laidLooks := .later }
def FnWalksCardSaid : Prop := Claim7.holds Tryd.pinned (.plain (OpenSpec.ofChange fnWalksSpec)) fnWalksCard

/-- THE TIED CARD OF 'laws.FnExactWalkInner'. -/
def fnExactWalkInnerCard : Claim7 := { stood := { row := fnExactWalkInnerRow, standIns := [], harness := (true, "da62564f9cbb841baf64eb108a5328e7af21eb7941dc0e2b77519245003f444e"), looks := true }, kinds := [], alts := [], laidByText := true, laidKinds := [.sentinel], laidTests := true, laidLooks := .later }
def FnExactWalkInnerCardSaid : Prop := Claim7.holds Tryd.pinned (.plain (OpenSpec.ofChange fnExactWalkInnerSpec)) fnExactWalkInnerCard

/-- THE TIED CARD OF 'laws.FnExactWalk'. -/
def fnExactWalkCard : Claim7 := { stood := { row := fnExactWalkRow, standIns := [], harness := (true, "da62564f9cbb841baf64eb108a5328e7af21eb7941dc0e2b77519245003f444e"), looks := true }, kinds := [], alts := [], laidByText := true, laidKinds := [.sentinel, .sentinel], laidTests := true, laidLooks := .later }
def FnExactWalkCardSaid : Prop := Claim7.holds Tryd.pinned (.plain (OpenSpec.ofChange fnExactWalkSpec)) fnExactWalkCard

/-- THE TIED CARD OF 'laws.FnExactFaults'. -/
def fnExactFaultsCard : Claim7 := { stood := { row := fnExactFaultsRow, standIns := [], harness := (true, "da62564f9cbb841baf64eb108a5328e7af21eb7941dc0e2b77519245003f444e"), looks := true }, kinds := [], alts := [], laidByText := true, laidKinds := [.sentinel, .sentinel], laidTests := true, laidLooks := .later }
def FnExactFaultsCardSaid : Prop := Claim7.holds Tryd.pinned (.plain (OpenSpec.ofChange fnExactFaultsSpec)) fnExactFaultsCard

/-- THE SECOND FORM's CARD OF 'laws.FnWalks'. -/
def fnWalksUptoCard : Claim7 := { stood := { row := fnWalksUptoRow, standIns := [], harness := (true, "da62564f9cbb841baf64eb108a5328e7af21eb7941dc0e2b77519245003f444e"), looks := true }, kinds := [], alts := [], laidByText := true, laidKinds := [.sentinel, .sentinel], laidTests := true, laidLooks := .later }
def FnWalksUptoCardSaid : Prop := Claim7.holds Tryd.pinned (.plain (OpenSpec.upto fnWalksSpec)) fnWalksUptoCard

/-- THE SECOND FORM's CARD OF 'laws.FnExactWalkInner'. -/
def fnExactWalkInnerUptoCard : Claim7 := { stood := { row := fnExactWalkInnerUptoRow, standIns := [], harness := (true, "da62564f9cbb841baf64eb108a5328e7af21eb7941dc0e2b77519245003f444e"), looks := true }, kinds := [], alts := [], laidByText := true, laidKinds := [.sentinel], laidTests := true, laidLooks := .later }
def FnExactWalkInnerUptoCardSaid : Prop := Claim7.holds Tryd.pinned (.plain (OpenSpec.upto fnExactWalkInnerSpec)) fnExactWalkInnerUptoCard

/-- THE SECOND FORM's CARD OF 'laws.FnExactWalk'. -/
def fnExactWalkUptoCard : Claim7 := { stood := { row := fnExactWalkUptoRow, standIns := [], harness := (true, "da62564f9cbb841baf64eb108a5328e7af21eb7941dc0e2b77519245003f444e"), looks := true }, kinds := [], alts := [], laidByText := true, laidKinds := [.sentinel, .sentinel], laidTests := true, laidLooks := .later }
def FnExactWalkUptoCardSaid : Prop := Claim7.holds Tryd.pinned (.plain (OpenSpec.upto fnExactWalkSpec)) fnExactWalkUptoCard

/-- THE SECOND FORM's CARD OF 'laws.FnExactFaults'. -/
def fnExactFaultsUptoCard : Claim7 := { stood := { row := fnExactFaultsUptoRow, standIns := [], harness := (true, "da62564f9cbb841baf64eb108a5328e7af21eb7941dc0e2b77519245003f444e"), looks := true }, kinds := [], alts := [], laidByText := true, laidKinds := [.sentinel, .sentinel], laidTests := true, laidLooks := .later }
def FnExactFaultsUptoCardSaid : Prop := Claim7.holds Tryd.pinned (.plain (OpenSpec.upto fnExactFaultsSpec)) fnExactFaultsUptoCard
end Rows
end Go.Proofs.YtilgkknmldlklaaDoor
