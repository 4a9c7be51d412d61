/-
  DERIVED. GIVEN WITH THE SEED: THE CARDS: each row of YtbloomepdchjhaaDoorRows.lean that lists a variable, with what it lists TIED to the program's text (the seventh form; the later family's looks); each row that meets fmt, with fmt's text TOLD by the authors' own Lean function (tested against real Go, not proved from fmt's source: count such statements apart). THE CARD IS WHAT COUNTS. Prove the row's statement (the work); the ties are given (YtbloomepdchjhaaDoorTie.lean); close each card by the builder's one call (the guide's Derived/Test/ToyasCard.lean, 'card_holds'). Laid BY PROGRAM, IN A SANDBOX (cutbox-door.mjs). By AI agents, Wed Nov 11 2026. No macro, syntax, notation, axiom, sorry.
-/
import Derived.Test.YtbloomepdchjhaaDoorRows
import GoSem.ClaimSeven
namespace Go.Proofs.YtbloomepdchjhaaDoor
namespace Rows

/-- THE TIED CARD OF 'grapevinelaw14.LinkOnce'. -/
def linkOnceCard : Claim7 := { stood := { row := linkOnceRow, standIns := [], harness := (true, "226fab61af89f187648e9a8ef45c6f6872d2731b762a775d6384d25c1e4224af"), looks := false }, kinds := [], alts := [], laidByText := true, laidKinds := [.data], laidTests := true, laidLooks := .later }
def LinkOnceCardSaid : Prop := Claim7.holds Tryd.pinned (.plain (OpenSpec.ofChange linkOnceSpec)) linkOnceCard

/-- THE TIED CARD OF 'grapevinelaw14.LinkBounds'. -/
def linkBoundsCard : Claim7 := { stood := { row := linkBoundsRow, standIns := [], harness := (true, "226fab61af89f187648e9a8ef45c6f6872d2731b762a775d6384d25c1e4224af"), looks := false }, kinds := [], alts := [], laidByText := true, laidKinds := [.data], laidTests := true, laidLooks := .later }
def LinkBoundsCardSaid : Prop := Claim7.holds Tryd.pinned (.plain (OpenSpec.ofChange linkBoundsSpec)) linkBoundsCard

/-- THE SECOND FORM's CARD OF 'grapevinelaw14.LinkOnce'. -/
def linkOnceUptoCard : Claim7 := { stood := { row := linkOnceUptoRow, standIns := [], harness := (true, "226fab61af89f187648e9a8ef45c6f6872d2731b762a775d6384d25c1e4224af"), looks := false }, kinds := [], alts := [], laidByText := true, laidKinds := [.data], laidTests := true, laidLooks := .later }
def LinkOnceUptoCardSaid : Prop := Claim7.holds Tryd.pinned (.plain (OpenSpec.upto linkOnceSpec)) linkOnceUptoCard

/-- THE SECOND FORM's CARD OF 'grapevinelaw14.LinkBounds'. -/
def linkBoundsUptoCard : Claim7 := { stood := { row := linkBoundsUptoRow, standIns := [], harness := (true, "226fab61af89f187648e9a8ef45c6f6872d2731b762a775d6384d25c1e4224af"), looks := false }, kinds := [], alts := [], laidByText := true, laidKinds := [.data], laidTests := true, laidLooks := .later }
def LinkBoundsUptoCardSaid : Prop := Claim7.holds Tryd.pinned (.plain (OpenSpec.upto linkBoundsSpec)) linkBoundsUptoCard
end Rows
end Go.Proofs.YtbloomepdchjhaaDoor
