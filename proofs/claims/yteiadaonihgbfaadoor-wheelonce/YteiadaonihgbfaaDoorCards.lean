/-
  DERIVED. GIVEN WITH THE SEED: THE CARDS: each row of YteiadaonihgbfaaDoorRows.lean that lists a variable, with what it lists TIED to the program's text (the seventh form; the later family's looks); each row that meets fmt, with fmt's text TOLD by the authors' own Lean function (tested against real Go, not proved from fmt's source: count such statements apart). THE CARD IS WHAT COUNTS. Prove the row's statement (the work); the ties are given (YteiadaonihgbfaaDoorTie.lean); close each card by the builder's one call (the guide's Derived/Test/ToyasCard.lean, 'card_holds'). Laid BY PROGRAM, IN A SANDBOX (cutbox-door.mjs). By AI agents, Wed Nov 11 2026. No macro, syntax, notation, axiom, sorry.
-/
import Derived.Test.YteiadaonihgbfaaDoorRows
import GoSem.ClaimSeven
namespace Go.Proofs.YteiadaonihgbfaaDoor
namespace Rows

/-- THE TIED CARD OF 'grapevinelaw12.WheelPlays'. -/
def wheelPlaysCard : Claim7 := { stood := { row := wheelPlaysRow, standIns := [], harness := (true, "1251dbe0a9c89233cf947c676116c9c7c00ad33cbe33d36e69dd9d38e194f5d0"), looks := false }, kinds := [], alts := [], laidByText := true, laidKinds := [.data], laidTests := true, laidLooks := .later }
def WheelPlaysCardSaid : Prop := Claim7.holds Tryd.pinned (.plain (OpenSpec.ofChange wheelPlaysSpec)) wheelPlaysCard

/-- THE TIED CARD OF 'grapevinelaw12.WheelOnce'. -/
def wheelOnceCard : Claim7 := { stood := { row := wheelOnceRow, standIns := [], harness := (true, "1251dbe0a9c89233cf947c676116c9c7c00ad33cbe33d36e69dd9d38e194f5d0"), looks := false }, kinds := [], alts := [], laidByText := true, laidKinds := [.data], laidTests := true, laidLooks := .later }
def WheelOnceCardSaid : Prop := Claim7.holds Tryd.pinned (.plain (OpenSpec.ofChange wheelOnceSpec)) wheelOnceCard

/-- THE TIED CARD OF 'grapevinelaw12.WheelCuts'. -/
def wheelCutsCard : Claim7 := { stood := { row := wheelCutsRow, standIns := [], harness := (true, "1251dbe0a9c89233cf947c676116c9c7c00ad33cbe33d36e69dd9d38e194f5d0"), looks := false }, kinds := [], alts := [], laidByText := true, laidKinds := [.data], laidTests := true, laidLooks := .later }
def WheelCutsCardSaid : Prop := Claim7.holds Tryd.pinned (.plain (OpenSpec.ofChange wheelCutsSpec)) wheelCutsCard

/-- THE TIED CARD OF 'grapevinelaw12.WheelNext'. -/
def wheelNextCard : Claim7 := { stood := { row := wheelNextRow, standIns := [], harness := (true, "1251dbe0a9c89233cf947c676116c9c7c00ad33cbe33d36e69dd9d38e194f5d0"), looks := false }, kinds := [], alts := [], laidByText := true, laidKinds := [.data], laidTests := true, laidLooks := .later }
def WheelNextCardSaid : Prop := Claim7.holds Tryd.pinned (.plain (OpenSpec.ofChange wheelNextSpec)) wheelNextCard

/-- THE TIED CARD OF 'grapevinelaw12.WheelForks'. -/
def wheelForksCard : Claim7 := { stood := { row := wheelForksRow, standIns := [], harness := (true, "1251dbe0a9c89233cf947c676116c9c7c00ad33cbe33d36e69dd9d38e194f5d0"), looks := false }, kinds := [], alts := [], laidByText := true, laidKinds := [.data], laidTests := true, laidLooks := .later }
def WheelForksCardSaid : Prop := Claim7.holds Tryd.pinned (.plain (OpenSpec.ofChange wheelForksSpec)) wheelForksCard

/-- THE TIED CARD OF 'grapevinelaw12.WheelNone'. -/
def wheelNoneCard : Claim7 := { stood := { row := wheelNoneRow, standIns := [], harness := (true, "1251dbe0a9c89233cf947c676116c9c7c00ad33cbe33d36e69dd9d38e194f5d0"), looks := false }, kinds := [], alts := [], laidByText := true, laidKinds := [.data], laidTests := true, laidLooks := .later }
def WheelNoneCardSaid : Prop := Claim7.holds Tryd.pinned (.plain (OpenSpec.ofChange wheelNoneSpec)) wheelNoneCard

/-- THE SECOND FORM's CARD OF 'grapevinelaw12.WheelPlays'. -/
def wheelPlaysUptoCard : Claim7 := { stood := { row := wheelPlaysUptoRow, standIns := [], harness := (true, "1251dbe0a9c89233cf947c676116c9c7c00ad33cbe33d36e69dd9d38e194f5d0"), looks := false }, kinds := [], alts := [], laidByText := true, laidKinds := [.data], laidTests := true, laidLooks := .later }
def WheelPlaysUptoCardSaid : Prop := Claim7.holds Tryd.pinned (.plain (OpenSpec.upto wheelPlaysSpec)) wheelPlaysUptoCard

/-- THE SECOND FORM's CARD OF 'grapevinelaw12.WheelOnce'. -/
def wheelOnceUptoCard : Claim7 := { stood := { row := wheelOnceUptoRow, standIns := [], harness := (true, "1251dbe0a9c89233cf947c676116c9c7c00ad33cbe33d36e69dd9d38e194f5d0"), looks := false }, kinds := [], alts := [], laidByText := true, laidKinds := [.data], laidTests := true, laidLooks := .later }
def WheelOnceUptoCardSaid : Prop := Claim7.holds Tryd.pinned (.plain (OpenSpec.upto wheelOnceSpec)) wheelOnceUptoCard

/-- THE SECOND FORM's CARD OF 'grapevinelaw12.WheelCuts'. -/
def wheelCutsUptoCard : Claim7 := { stood := { row := wheelCutsUptoRow, standIns := [], harness := (true, "1251dbe0a9c89233cf947c676116c9c7c00ad33cbe33d36e69dd9d38e194f5d0"), looks := false }, kinds := [], alts := [], laidByText := true, laidKinds := [.data], laidTests := true, laidLooks := .later }
def WheelCutsUptoCardSaid : Prop := Claim7.holds Tryd.pinned (.plain (OpenSpec.upto wheelCutsSpec)) wheelCutsUptoCard

/-- THE SECOND FORM's CARD OF 'grapevinelaw12.WheelNext'. -/
def wheelNextUptoCard : Claim7 := { stood := { row := wheelNextUptoRow, standIns := [], harness := (true, "1251dbe0a9c89233cf947c676116c9c7c00ad33cbe33d36e69dd9d38e194f5d0"), looks := false }, kinds := [], alts := [], laidByText := true, laidKinds := [.data], laidTests := true, laidLooks := .later }
def WheelNextUptoCardSaid : Prop := Claim7.holds Tryd.pinned (.plain (OpenSpec.upto wheelNextSpec)) wheelNextUptoCard

/-- THE SECOND FORM's CARD OF 'grapevinelaw12.WheelForks'. -/
def wheelForksUptoCard : Claim7 := { stood := { row := wheelForksUptoRow, standIns := [], harness := (true, "1251dbe0a9c89233cf947c676116c9c7c00ad33cbe33d36e69dd9d38e194f5d0"), looks := false }, kinds := [], alts := [], laidByText := true, laidKinds := [.data], laidTests := true, laidLooks := .later }
def WheelForksUptoCardSaid : Prop := Claim7.holds Tryd.pinned (.plain (OpenSpec.upto wheelForksSpec)) wheelForksUptoCard

/-- THE SECOND FORM's CARD OF 'grapevinelaw12.WheelNone'. -/
def wheelNoneUptoCard : Claim7 := { stood := { row := wheelNoneUptoRow, standIns := [], harness := (true, "1251dbe0a9c89233cf947c676116c9c7c00ad33cbe33d36e69dd9d38e194f5d0"), looks := false }, kinds := [], alts := [], laidByText := true, laidKinds := [.data], laidTests := true, laidLooks := .later }
def WheelNoneUptoCardSaid : Prop := Claim7.holds Tryd.pinned (.plain (OpenSpec.upto wheelNoneSpec)) wheelNoneUptoCard
end Rows
end Go.Proofs.YteiadaonihgbfaaDoor
