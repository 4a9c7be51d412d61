/-
  DERIVED. GIVEN WITH THE SEED: THE CARDS: each row of YtbhljlafijdodaaDoorRows.lean that lists a variable, with what it lists TIED to the program's text (the seventh form; the later family's looks); each row that meets fmt, with fmt's text TOLD by the authors' own Lean function (tested against real Go, not proved from fmt's source: count such statements apart). THE CARD IS WHAT COUNTS. Prove the row's statement (the work); the ties are given (YtbhljlafijdodaaDoorTie.lean); close each card by the builder's one call (the guide's Derived/Test/ToyasCard.lean, 'card_holds'). Laid BY PROGRAM, IN A SANDBOX (cutbox-door.mjs). By AI agents, Wed Nov 11 2026. No macro, syntax, notation, axiom, sorry.
-/
import Derived.Test.YtbhljlafijdodaaDoorRows
import GoSem.ClaimSeven
namespace Go.Proofs.YtbhljlafijdodaaDoor
namespace Rows

/-- THE TIED CARD OF 'grapevinelaw01.SealLays'. -/
def sealLaysCard : Claim7 := { stood := { row := sealLaysRow, standIns := [], harness := (true, "656bc789aff240f3f125db86edf5f4a5a3f1cbe1bdaa8febe3a8ac281aa6e8bc"), looks := false }, kinds := [], alts := [], laidByText := true, laidKinds := [.data], laidTests := true, laidLooks := .later }
def SealLaysCardSaid : Prop := Claim7.holds Tryd.pinned (.plain (OpenSpec.ofChange sealLaysSpec)) sealLaysCard

/-- THE TIED CARD OF 'grapevinelaw01.SealOpens'. -/
def sealOpensCard : Claim7 := { stood := { row := sealOpensRow, standIns := [], harness := (true, "656bc789aff240f3f125db86edf5f4a5a3f1cbe1bdaa8febe3a8ac281aa6e8bc"), looks := false }, kinds := [], alts := [], laidByText := true, laidKinds := [.data], laidTests := true, laidLooks := .later }
def SealOpensCardSaid : Prop := Claim7.holds Tryd.pinned (.plain (OpenSpec.ofChange sealOpensSpec)) sealOpensCard

/-- THE TIED CARD OF 'grapevinelaw01.SealBack'. -/
def sealBackCard : Claim7 := { stood := { row := sealBackRow, standIns := [], harness := (true, "656bc789aff240f3f125db86edf5f4a5a3f1cbe1bdaa8febe3a8ac281aa6e8bc"), looks := false }, kinds := [], alts := [], laidByText := true, laidKinds := [.data], laidTests := true, laidLooks := .later }
def SealBackCardSaid : Prop := Claim7.holds Tryd.pinned (.plain (OpenSpec.ofChange sealBackSpec)) sealBackCard

/-- THE TIED CARD OF 'grapevinelaw01.SealCuts'. -/
def sealCutsCard : Claim7 := { stood := { row := sealCutsRow, standIns := [], harness := (true, "656bc789aff240f3f125db86edf5f4a5a3f1cbe1bdaa8febe3a8ac281aa6e8bc"), looks := false }, kinds := [], alts := [], laidByText := true, laidKinds := [.data], laidTests := true, laidLooks := .later }
def SealCutsCardSaid : Prop := Claim7.holds Tryd.pinned (.plain (OpenSpec.ofChange sealCutsSpec)) sealCutsCard

/-- THE TIED CARD OF 'grapevinelaw01.SealTurned'. -/
def sealTurnedCard : Claim7 := { stood := { row := sealTurnedRow, standIns := [], harness := (true, "656bc789aff240f3f125db86edf5f4a5a3f1cbe1bdaa8febe3a8ac281aa6e8bc"), looks := false }, kinds := [], alts := [], laidByText := true, laidKinds := [.data], laidTests := true, laidLooks := .later }
def SealTurnedCardSaid : Prop := Claim7.holds Tryd.pinned (.plain (OpenSpec.ofChange sealTurnedSpec)) sealTurnedCard

/-- THE TIED CARD OF 'grapevinelaw01.SealScans'. -/
def sealScansCard : Claim7 := { stood := { row := sealScansRow, standIns := [], harness := (true, "656bc789aff240f3f125db86edf5f4a5a3f1cbe1bdaa8febe3a8ac281aa6e8bc"), looks := false }, kinds := [], alts := [], laidByText := true, laidKinds := [.data], laidTests := true, laidLooks := .later }
def SealScansCardSaid : Prop := Claim7.holds Tryd.pinned (.plain (OpenSpec.ofChange sealScansSpec)) sealScansCard

/-- THE SECOND FORM's CARD OF 'grapevinelaw01.SealLays'. -/
def sealLaysUptoCard : Claim7 := { stood := { row := sealLaysUptoRow, standIns := [], harness := (true, "656bc789aff240f3f125db86edf5f4a5a3f1cbe1bdaa8febe3a8ac281aa6e8bc"), looks := false }, kinds := [], alts := [], laidByText := true, laidKinds := [.data], laidTests := true, laidLooks := .later }
def SealLaysUptoCardSaid : Prop := Claim7.holds Tryd.pinned (.plain (OpenSpec.upto sealLaysSpec)) sealLaysUptoCard

/-- THE SECOND FORM's CARD OF 'grapevinelaw01.SealOpens'. -/
def sealOpensUptoCard : Claim7 := { stood := { row := sealOpensUptoRow, standIns := [], harness := (true, "656bc789aff240f3f125db86edf5f4a5a3f1cbe1bdaa8febe3a8ac281aa6e8bc"), looks := false }, kinds := [], alts := [], laidByText := true, laidKinds := [.data], laidTests := true, laidLooks := .later }
def SealOpensUptoCardSaid : Prop := Claim7.holds Tryd.pinned (.plain (OpenSpec.upto sealOpensSpec)) sealOpensUptoCard

/-- THE SECOND FORM's CARD OF 'grapevinelaw01.SealBack'. -/
def sealBackUptoCard : Claim7 := { stood := { row := sealBackUptoRow, standIns := [], harness := (true, "656bc789aff240f3f125db86edf5f4a5a3f1cbe1bdaa8febe3a8ac281aa6e8bc"), looks := false }, kinds := [], alts := [], laidByText := true, laidKinds := [.data], laidTests := true, laidLooks := .later }
def SealBackUptoCardSaid : Prop := Claim7.holds Tryd.pinned (.plain (OpenSpec.upto sealBackSpec)) sealBackUptoCard

/-- THE SECOND FORM's CARD OF 'grapevinelaw01.SealCuts'. -/
def sealCutsUptoCard : Claim7 := { stood := { row := sealCutsUptoRow, standIns := [], harness := (true, "656bc789aff240f3f125db86edf5f4a5a3f1cbe1bdaa8febe3a8ac281aa6e8bc"), looks := false }, kinds := [], alts := [], laidByText := true, laidKinds := [.data], laidTests := true, laidLooks := .later }
def SealCutsUptoCardSaid : Prop := Claim7.holds Tryd.pinned (.plain (OpenSpec.upto sealCutsSpec)) sealCutsUptoCard

/-- THE SECOND FORM's CARD OF 'grapevinelaw01.SealTurned'. -/
def sealTurnedUptoCard : Claim7 := { stood := { row := sealTurnedUptoRow, standIns := [], harness := (true, "656bc789aff240f3f125db86edf5f4a5a3f1cbe1bdaa8febe3a8ac281aa6e8bc"), looks := false }, kinds := [], alts := [], laidByText := true, laidKinds := [.data], laidTests := true, laidLooks := .later }
def SealTurnedUptoCardSaid : Prop := Claim7.holds Tryd.pinned (.plain (OpenSpec.upto sealTurnedSpec)) sealTurnedUptoCard

/-- THE SECOND FORM's CARD OF 'grapevinelaw01.SealScans'. -/
def sealScansUptoCard : Claim7 := { stood := { row := sealScansUptoRow, standIns := [], harness := (true, "656bc789aff240f3f125db86edf5f4a5a3f1cbe1bdaa8febe3a8ac281aa6e8bc"), looks := false }, kinds := [], alts := [], laidByText := true, laidKinds := [.data], laidTests := true, laidLooks := .later }
def SealScansUptoCardSaid : Prop := Claim7.holds Tryd.pinned (.plain (OpenSpec.upto sealScansSpec)) sealScansUptoCard
end Rows
end Go.Proofs.YtbhljlafijdodaaDoor
