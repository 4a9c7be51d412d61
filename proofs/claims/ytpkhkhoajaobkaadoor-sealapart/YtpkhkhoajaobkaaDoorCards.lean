/-
  DERIVED. GIVEN WITH THE SEED: THE CARDS: each row of YtpkhkhoajaobkaaDoorRows.lean that lists a variable, with what it lists TIED to the program's text (the seventh form; the later family's looks); each row that meets fmt, with fmt's text TOLD by the authors' own Lean function (tested against real Go, not proved from fmt's source: count such statements apart). THE CARD IS WHAT COUNTS. Prove the row's statement (the work); the ties are given (YtpkhkhoajaobkaaDoorTie.lean); close each card by the builder's one call (the guide's Derived/Test/ToyasCard.lean, 'card_holds'). Laid BY PROGRAM, IN A SANDBOX (cutbox-door.mjs). By AI agents, Wed Nov 11 2026. No macro, syntax, notation, axiom, sorry.
-/
import Derived.Test.YtpkhkhoajaobkaaDoorRows
import GoSem.ClaimSeven
namespace Go.Proofs.YtpkhkhoajaobkaaDoor
namespace Rows

/-- THE TIED CARD OF 'grapevinelaw01.SealSums'. -/
def sealSumsCard : Claim7 := { stood := { row := sealSumsRow, standIns := [], harness := (true, "c29a9852395d6228a16cc4433856e574bdc1fcc2bb055f0355f4bbeefb2128ea"), looks := false }, kinds := [], alts := [], laidByText := true, laidKinds := [.data], laidTests := true, laidLooks := .later }
def SealSumsCardSaid : Prop := Claim7.holds Tryd.pinned (.plain (OpenSpec.ofChange sealSumsSpec)) sealSumsCard

/-- THE TIED CARD OF 'grapevinelaw01.SealJoined'. -/
def sealJoinedCard : Claim7 := { stood := { row := sealJoinedRow, standIns := [], harness := (true, "c29a9852395d6228a16cc4433856e574bdc1fcc2bb055f0355f4bbeefb2128ea"), looks := false }, kinds := [], alts := [], laidByText := true, laidKinds := [.data], laidTests := true, laidLooks := .later }
def SealJoinedCardSaid : Prop := Claim7.holds Tryd.pinned (.plain (OpenSpec.ofChange sealJoinedSpec)) sealJoinedCard

/-- THE TIED CARD OF 'grapevinelaw01.SealRests'. -/
def sealRestsCard : Claim7 := { stood := { row := sealRestsRow, standIns := [], harness := (true, "c29a9852395d6228a16cc4433856e574bdc1fcc2bb055f0355f4bbeefb2128ea"), looks := false }, kinds := [], alts := [], laidByText := true, laidKinds := [.data], laidTests := true, laidLooks := .later }
def SealRestsCardSaid : Prop := Claim7.holds Tryd.pinned (.plain (OpenSpec.ofChange sealRestsSpec)) sealRestsCard

/-- THE TIED CARD OF 'grapevinelaw01.SealApart'. -/
def sealApartCard : Claim7 := { stood := { row := sealApartRow, standIns := [], harness := (true, "c29a9852395d6228a16cc4433856e574bdc1fcc2bb055f0355f4bbeefb2128ea"), looks := false }, kinds := [], alts := [], laidByText := true, laidKinds := [.data], laidTests := true, laidLooks := .later }
def SealApartCardSaid : Prop := Claim7.holds Tryd.pinned (.plain (OpenSpec.ofChange sealApartSpec)) sealApartCard

/-- THE TIED CARD OF 'grapevinelaw01.SealLays'. -/
def sealLaysCard : Claim7 := { stood := { row := sealLaysRow, standIns := [], harness := (true, "c29a9852395d6228a16cc4433856e574bdc1fcc2bb055f0355f4bbeefb2128ea"), looks := false }, kinds := [], alts := [], laidByText := true, laidKinds := [.data], laidTests := true, laidLooks := .later }
def SealLaysCardSaid : Prop := Claim7.holds Tryd.pinned (.plain (OpenSpec.ofChange sealLaysSpec)) sealLaysCard

/-- THE TIED CARD OF 'grapevinelaw01.SealOpens'. -/
def sealOpensCard : Claim7 := { stood := { row := sealOpensRow, standIns := [], harness := (true, "c29a9852395d6228a16cc4433856e574bdc1fcc2bb055f0355f4bbeefb2128ea"), looks := false }, kinds := [], alts := [], laidByText := true, laidKinds := [.data], laidTests := true, laidLooks := .later }
def SealOpensCardSaid : Prop := Claim7.holds Tryd.pinned (.plain (OpenSpec.ofChange sealOpensSpec)) sealOpensCard

/-- THE SECOND FORM's CARD OF 'grapevinelaw01.SealSums'. -/
def sealSumsUptoCard : Claim7 := { stood := { row := sealSumsUptoRow, standIns := [], harness := (true, "c29a9852395d6228a16cc4433856e574bdc1fcc2bb055f0355f4bbeefb2128ea"), looks := false }, kinds := [], alts := [], laidByText := true, laidKinds := [.data], laidTests := true, laidLooks := .later }
def SealSumsUptoCardSaid : Prop := Claim7.holds Tryd.pinned (.plain (OpenSpec.upto sealSumsSpec)) sealSumsUptoCard

/-- THE SECOND FORM's CARD OF 'grapevinelaw01.SealJoined'. -/
def sealJoinedUptoCard : Claim7 := { stood := { row := sealJoinedUptoRow, standIns := [], harness := (true, "c29a9852395d6228a16cc4433856e574bdc1fcc2bb055f0355f4bbeefb2128ea"), looks := false }, kinds := [], alts := [], laidByText := true, laidKinds := [.data], laidTests := true, laidLooks := .later }
def SealJoinedUptoCardSaid : Prop := Claim7.holds Tryd.pinned (.plain (OpenSpec.upto sealJoinedSpec)) sealJoinedUptoCard

/-- THE SECOND FORM's CARD OF 'grapevinelaw01.SealRests'. -/
def sealRestsUptoCard : Claim7 := { stood := { row := sealRestsUptoRow, standIns := [], harness := (true, "c29a9852395d6228a16cc4433856e574bdc1fcc2bb055f0355f4bbeefb2128ea"), looks := false }, kinds := [], alts := [], laidByText := true, laidKinds := [.data], laidTests := true, laidLooks := .later }
def SealRestsUptoCardSaid : Prop := Claim7.holds Tryd.pinned (.plain (OpenSpec.upto sealRestsSpec)) sealRestsUptoCard

/-- THE SECOND FORM's CARD OF 'grapevinelaw01.SealApart'. -/
def sealApartUptoCard : Claim7 := { stood := { row := sealApartUptoRow, standIns := [], harness := (true, "c29a9852395d6228a16cc4433856e574bdc1fcc2bb055f0355f4bbeefb2128ea"), looks := false }, kinds := [], alts := [], laidByText := true, laidKinds := [.data], laidTests := true, laidLooks := .later }
def SealApartUptoCardSaid : Prop := Claim7.holds Tryd.pinned (.plain (OpenSpec.upto sealApartSpec)) sealApartUptoCard

/-- THE SECOND FORM's CARD OF 'grapevinelaw01.SealLays'. -/
def sealLaysUptoCard : Claim7 := { stood := { row := sealLaysUptoRow, standIns := [], harness := (true, "c29a9852395d6228a16cc4433856e574bdc1fcc2bb055f0355f4bbeefb2128ea"), looks := false }, kinds := [], alts := [], laidByText := true, laidKinds := [.data], laidTests := true, laidLooks := .later }
def SealLaysUptoCardSaid : Prop := Claim7.holds Tryd.pinned (.plain (OpenSpec.upto sealLaysSpec)) sealLaysUptoCard

/-- THE SECOND FORM's CARD OF 'grapevinelaw01.SealOpens'. -/
def sealOpensUptoCard : Claim7 := { stood := { row := sealOpensUptoRow, standIns := [], harness := (true, "c29a9852395d6228a16cc4433856e574bdc1fcc2bb055f0355f4bbeefb2128ea"), looks := false }, kinds := [], alts := [], laidByText := true, laidKinds := [.data], laidTests := true, laidLooks := .later }
def SealOpensUptoCardSaid : Prop := Claim7.holds Tryd.pinned (.plain (OpenSpec.upto sealOpensSpec)) sealOpensUptoCard
end Rows
end Go.Proofs.YtpkhkhoajaobkaaDoor
