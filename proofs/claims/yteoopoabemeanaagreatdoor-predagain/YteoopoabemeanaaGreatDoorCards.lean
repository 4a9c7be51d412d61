/-
  DERIVED. GIVEN WITH THE SEED: THE CARDS: each row of YteoopoabemeanaaGreatDoorRows.lean that lists a variable, with what it lists TIED to the program's text (the seventh form; the later family's looks); each row that meets fmt, with fmt's text TOLD by the authors' own Lean function (tested against real Go, not proved from fmt's source: count such statements apart). THE CARD IS WHAT COUNTS. Prove the row's statement (the work); the ties are given (YteoopoabemeanaaGreatDoorTie.lean); close each card by the builder's one call (the guide's Derived/Test/ToyasCard.lean, 'card_holds'). Laid BY PROGRAM, IN A SANDBOX (cutbox-door.mjs). By AI agents, Wed Nov 11 2026. No macro, syntax, notation, axiom, sorry.
-/
import Derived.Test.YteoopoabemeanaaGreatDoorRows
import GoSem.ClaimSeven
namespace Go.Proofs.YteoopoabemeanaaGreatDoor
namespace Rows

/-- THE TIED CARD OF 'grapevinelaw05.PredAgain'. -/
def predAgainCard : Claim7 := { stood := { row := predAgainRow, standIns := [], harness := (true, "048a2282e08877c5ecc0cfeeb3f61875b87c07a8f9e920b8fc425adafa3d9695"), looks := true }, kinds := [], alts := [], laidByText := true, laidKinds := [.data, .data, .data, .sentinel, .sentinel], laidTests := true, laidLooks := .later }
def PredAgainCardSaid : Prop := Claim7.holds Tryz.pinned (.plain (OpenSpec.ofChange predAgainSpec)) predAgainCard

/-- THE TIED CARD OF 'grapevinelaw05.PredBlanks'. -/
def predBlanksCard : Claim7 := { stood := { row := predBlanksRow, standIns := [], harness := (true, "048a2282e08877c5ecc0cfeeb3f61875b87c07a8f9e920b8fc425adafa3d9695"), looks := true }, kinds := [], alts := [], laidByText := true, laidKinds := [.data, .data, .data, .sentinel, .sentinel], laidTests := true, laidLooks := .later }
def PredBlanksCardSaid : Prop := Claim7.holds Tryz.pinned (.plain (OpenSpec.ofChange predBlanksSpec)) predBlanksCard

/-- THE SECOND FORM's CARD OF 'grapevinelaw05.PredAgain'. -/
def predAgainUptoCard : Claim7 := { stood := { row := predAgainUptoRow, standIns := [], harness := (true, "048a2282e08877c5ecc0cfeeb3f61875b87c07a8f9e920b8fc425adafa3d9695"), looks := true }, kinds := [], alts := [], laidByText := true, laidKinds := [.data, .data, .data, .sentinel, .sentinel], laidTests := true, laidLooks := .later }
def PredAgainUptoCardSaid : Prop := Claim7.holds Tryz.pinned (.plain (OpenSpec.upto predAgainSpec)) predAgainUptoCard

/-- THE SECOND FORM's CARD OF 'grapevinelaw05.PredBlanks'. -/
def predBlanksUptoCard : Claim7 := { stood := { row := predBlanksUptoRow, standIns := [], harness := (true, "048a2282e08877c5ecc0cfeeb3f61875b87c07a8f9e920b8fc425adafa3d9695"), looks := true }, kinds := [], alts := [], laidByText := true, laidKinds := [.data, .data, .data, .sentinel, .sentinel], laidTests := true, laidLooks := .later }
def PredBlanksUptoCardSaid : Prop := Claim7.holds Tryz.pinned (.plain (OpenSpec.upto predBlanksSpec)) predBlanksUptoCard
end Rows
end Go.Proofs.YteoopoabemeanaaGreatDoor
