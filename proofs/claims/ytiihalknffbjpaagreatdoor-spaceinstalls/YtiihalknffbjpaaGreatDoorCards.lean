/-
  DERIVED. GIVEN WITH THE SEED: THE CARDS: each row of YtiihalknffbjpaaGreatDoorRows.lean that lists a variable, with what it lists TIED to the program's text (the seventh form; the later family's looks); each row that meets fmt, with fmt's text TOLD by the authors' own Lean function (tested against real Go, not proved from fmt's source: count such statements apart). THE CARD IS WHAT COUNTS. Prove the row's statement (the work); the ties are given (YtiihalknffbjpaaGreatDoorTie.lean); close each card by the builder's one call (the guide's Derived/Test/ToyasCard.lean, 'card_holds'). Laid BY PROGRAM, IN A SANDBOX (cutbox-door.mjs). By AI agents, Wed Nov 11 2026. No macro, syntax, notation, axiom, sorry.
-/
import Derived.Test.YtiihalknffbjpaaGreatDoorRows
import GoSem.ClaimSeven
namespace Go.Proofs.YtiihalknffbjpaaGreatDoor
namespace Rows

/-- THE TIED CARD OF 'solspacelaw.SpaceInstalls'. -/
def spaceInstallsCard : Claim7 := { stood := { row := spaceInstallsRow, standIns := [], harness := (true, "706a9552b1b112eaffc625b2c94b87ba97b6683fe0e1d9455cbd97fc40a80d94"), looks := true }, kinds := [], alts := [], laidByText := true, laidKinds := [.data, .data, .data, .data, .handle, .sentinel, .sentinel, .data, .data, .data, .pinned], laidTests := true, laidLooks := .later }
def SpaceInstallsCardSaid : Prop := Claim7.holds Tryz.pinned (.plain (OpenSpec.ofChange spaceInstallsSpec)) spaceInstallsCard

/-- THE TIED CARD OF 'solspacelaw.SpaceBest'. -/
def spaceBestCard : Claim7 := { stood := { row := spaceBestRow, standIns := [], harness := (true, "706a9552b1b112eaffc625b2c94b87ba97b6683fe0e1d9455cbd97fc40a80d94"), looks := true }, kinds := [], alts := [], laidByText := true, laidKinds := [.data, .data, .data, .data, .handle, .sentinel, .sentinel, .data, .data, .data, .pinned], laidTests := true, laidLooks := .later }
def SpaceBestCardSaid : Prop := Claim7.holds Tryz.pinned (.plain (OpenSpec.ofChange spaceBestSpec)) spaceBestCard

/-- THE TIED CARD OF 'solspacekeep.SpaceHolds'. -/
def spaceHoldsCard : Claim7 := { stood := { row := spaceHoldsRow, standIns := [], harness := (true, "706a9552b1b112eaffc625b2c94b87ba97b6683fe0e1d9455cbd97fc40a80d94"), looks := true }, kinds := [], alts := [], laidByText := true, laidKinds := [.data, .data, .data, .data, .handle, .sentinel, .sentinel, .data, .pinned], laidTests := true, laidLooks := .later }
def SpaceHoldsCardSaid : Prop := Claim7.holds Tryz.pinned (.plain (OpenSpec.ofChange spaceHoldsSpec)) spaceHoldsCard

/-- THE TIED CARD OF 'solspacekeep.SpaceLeasts'. -/
def spaceLeastsCard : Claim7 := { stood := { row := spaceLeastsRow, standIns := [], harness := (true, "706a9552b1b112eaffc625b2c94b87ba97b6683fe0e1d9455cbd97fc40a80d94"), looks := true }, kinds := [], alts := [], laidByText := true, laidKinds := [.data, .data, .data, .data, .handle, .sentinel, .sentinel, .data, .pinned], laidTests := true, laidLooks := .later }
def SpaceLeastsCardSaid : Prop := Claim7.holds Tryz.pinned (.plain (OpenSpec.ofChange spaceLeastsSpec)) spaceLeastsCard

/-- THE TIED CARD OF 'solspacekeep.SpaceFixed'. -/
def spaceFixedCard : Claim7 := { stood := { row := spaceFixedRow, standIns := [], harness := (true, "706a9552b1b112eaffc625b2c94b87ba97b6683fe0e1d9455cbd97fc40a80d94"), looks := true }, kinds := [], alts := [], laidByText := true, laidKinds := [.data, .data, .data, .data, .handle, .sentinel, .sentinel, .data, .pinned], laidTests := true, laidLooks := .later }
def SpaceFixedCardSaid : Prop := Claim7.holds Tryz.pinned (.plain (OpenSpec.ofChange spaceFixedSpec)) spaceFixedCard

/-- THE TIED CARD OF 'solspacelaw.ReasonCores'. -/
def reasonCoresCard : Claim7 := { stood := { row := reasonCoresRow, standIns := [], harness := (true, "706a9552b1b112eaffc625b2c94b87ba97b6683fe0e1d9455cbd97fc40a80d94"), looks := true }, kinds := [], alts := [], laidByText := true, laidKinds := [.data, .data, .data, .data, .handle, .sentinel, .sentinel, .data, .data, .data, .pinned], laidTests := true, laidLooks := .later }
def ReasonCoresCardSaid : Prop := Claim7.holds Tryz.pinned (.plain (OpenSpec.ofChange reasonCoresSpec)) reasonCoresCard

/-- THE TIED CARD OF 'solspacelaw.ReasonAll'. -/
def reasonAllCard : Claim7 := { stood := { row := reasonAllRow, standIns := [], harness := (true, "706a9552b1b112eaffc625b2c94b87ba97b6683fe0e1d9455cbd97fc40a80d94"), looks := true }, kinds := [], alts := [], laidByText := true, laidKinds := [.data, .data, .data, .data, .handle, .sentinel, .sentinel, .data, .data, .data, .pinned], laidTests := true, laidLooks := .later }
def ReasonAllCardSaid : Prop := Claim7.holds Tryz.pinned (.plain (OpenSpec.ofChange reasonAllSpec)) reasonAllCard

/-- THE TIED CARD OF 'solspacekeep.ReasonWhys'. -/
def reasonWhysCard : Claim7 := { stood := { row := reasonWhysRow, standIns := [], harness := (true, "706a9552b1b112eaffc625b2c94b87ba97b6683fe0e1d9455cbd97fc40a80d94"), looks := true }, kinds := [], alts := [], laidByText := true, laidKinds := [.data, .data, .data, .data, .handle, .sentinel, .sentinel, .data, .pinned], laidTests := true, laidLooks := .later }
def ReasonWhysCardSaid : Prop := Claim7.holds Tryz.pinned (.plain (OpenSpec.ofChange reasonWhysSpec)) reasonWhysCard

/-- THE TIED CARD OF 'solspacelaw.ShelfTurns'. -/
def shelfTurnsCard : Claim7 := { stood := { row := shelfTurnsRow, standIns := [], harness := (true, "706a9552b1b112eaffc625b2c94b87ba97b6683fe0e1d9455cbd97fc40a80d94"), looks := true }, kinds := [], alts := [], laidByText := true, laidKinds := [.data, .data, .data, .data, .handle, .sentinel, .sentinel, .data, .data, .data, .pinned], laidTests := true, laidLooks := .later }
def ShelfTurnsCardSaid : Prop := Claim7.holds Tryz.pinned (.plain (OpenSpec.ofChange shelfTurnsSpec)) shelfTurnsCard

/-- THE TIED CARD OF 'solspacekeep.ShelfBack'. -/
def shelfBackCard : Claim7 := { stood := { row := shelfBackRow, standIns := [], harness := (true, "706a9552b1b112eaffc625b2c94b87ba97b6683fe0e1d9455cbd97fc40a80d94"), looks := true }, kinds := [], alts := [], laidByText := true, laidKinds := [.data, .data, .data, .data, .handle, .sentinel, .sentinel, .data, .pinned], laidTests := true, laidLooks := .later }
def ShelfBackCardSaid : Prop := Claim7.holds Tryz.pinned (.plain (OpenSpec.ofChange shelfBackSpec)) shelfBackCard

/-- THE SECOND FORM's CARD OF 'solspacelaw.SpaceInstalls'. -/
def spaceInstallsUptoCard : Claim7 := { stood := { row := spaceInstallsUptoRow, standIns := [], harness := (true, "706a9552b1b112eaffc625b2c94b87ba97b6683fe0e1d9455cbd97fc40a80d94"), looks := true }, kinds := [], alts := [], laidByText := true, laidKinds := [.data, .data, .data, .data, .handle, .sentinel, .sentinel, .data, .data, .data, .pinned], laidTests := true, laidLooks := .later }
def SpaceInstallsUptoCardSaid : Prop := Claim7.holds Tryz.pinned (.plain (OpenSpec.upto spaceInstallsSpec)) spaceInstallsUptoCard

/-- THE SECOND FORM's CARD OF 'solspacelaw.SpaceBest'. -/
def spaceBestUptoCard : Claim7 := { stood := { row := spaceBestUptoRow, standIns := [], harness := (true, "706a9552b1b112eaffc625b2c94b87ba97b6683fe0e1d9455cbd97fc40a80d94"), looks := true }, kinds := [], alts := [], laidByText := true, laidKinds := [.data, .data, .data, .data, .handle, .sentinel, .sentinel, .data, .data, .data, .pinned], laidTests := true, laidLooks := .later }
def SpaceBestUptoCardSaid : Prop := Claim7.holds Tryz.pinned (.plain (OpenSpec.upto spaceBestSpec)) spaceBestUptoCard

/-- THE SECOND FORM's CARD OF 'solspacekeep.SpaceHolds'. -/
def spaceHoldsUptoCard : Claim7 := { stood := { row := spaceHoldsUptoRow, standIns := [], harness := (true, "706a9552b1b112eaffc625b2c94b87ba97b6683fe0e1d9455cbd97fc40a80d94"), looks := true }, kinds := [], alts := [], laidByText := true, laidKinds := [.data, .data, .data, .data, .handle, .sentinel, .sentinel, .data, .pinned], laidTests := true, laidLooks := .later }
def SpaceHoldsUptoCardSaid : Prop := Claim7.holds Tryz.pinned (.plain (OpenSpec.upto spaceHoldsSpec)) spaceHoldsUptoCard

/-- THE SECOND FORM's CARD OF 'solspacekeep.SpaceLeasts'. -/
def spaceLeastsUptoCard : Claim7 := { stood := { row := spaceLeastsUptoRow, standIns := [], harness := (true, "706a9552b1b112eaffc625b2c94b87ba97b6683fe0e1d9455cbd97fc40a80d94"), looks := true }, kinds := [], alts := [], laidByText := true, laidKinds := [.data, .data, .data, .data, .handle, .sentinel, .sentinel, .data, .pinned], laidTests := true, laidLooks := .later }
def SpaceLeastsUptoCardSaid : Prop := Claim7.holds Tryz.pinned (.plain (OpenSpec.upto spaceLeastsSpec)) spaceLeastsUptoCard

/-- THE SECOND FORM's CARD OF 'solspacekeep.SpaceFixed'. -/
def spaceFixedUptoCard : Claim7 := { stood := { row := spaceFixedUptoRow, standIns := [], harness := (true, "706a9552b1b112eaffc625b2c94b87ba97b6683fe0e1d9455cbd97fc40a80d94"), looks := true }, kinds := [], alts := [], laidByText := true, laidKinds := [.data, .data, .data, .data, .handle, .sentinel, .sentinel, .data, .pinned], laidTests := true, laidLooks := .later }
def SpaceFixedUptoCardSaid : Prop := Claim7.holds Tryz.pinned (.plain (OpenSpec.upto spaceFixedSpec)) spaceFixedUptoCard

/-- THE SECOND FORM's CARD OF 'solspacelaw.ReasonCores'. -/
def reasonCoresUptoCard : Claim7 := { stood := { row := reasonCoresUptoRow, standIns := [], harness := (true, "706a9552b1b112eaffc625b2c94b87ba97b6683fe0e1d9455cbd97fc40a80d94"), looks := true }, kinds := [], alts := [], laidByText := true, laidKinds := [.data, .data, .data, .data, .handle, .sentinel, .sentinel, .data, .data, .data, .pinned], laidTests := true, laidLooks := .later }
def ReasonCoresUptoCardSaid : Prop := Claim7.holds Tryz.pinned (.plain (OpenSpec.upto reasonCoresSpec)) reasonCoresUptoCard

/-- THE SECOND FORM's CARD OF 'solspacelaw.ReasonAll'. -/
def reasonAllUptoCard : Claim7 := { stood := { row := reasonAllUptoRow, standIns := [], harness := (true, "706a9552b1b112eaffc625b2c94b87ba97b6683fe0e1d9455cbd97fc40a80d94"), looks := true }, kinds := [], alts := [], laidByText := true, laidKinds := [.data, .data, .data, .data, .handle, .sentinel, .sentinel, .data, .data, .data, .pinned], laidTests := true, laidLooks := .later }
def ReasonAllUptoCardSaid : Prop := Claim7.holds Tryz.pinned (.plain (OpenSpec.upto reasonAllSpec)) reasonAllUptoCard

/-- THE SECOND FORM's CARD OF 'solspacekeep.ReasonWhys'. -/
def reasonWhysUptoCard : Claim7 := { stood := { row := reasonWhysUptoRow, standIns := [], harness := (true, "706a9552b1b112eaffc625b2c94b87ba97b6683fe0e1d9455cbd97fc40a80d94"), looks := true }, kinds := [], alts := [], laidByText := true, laidKinds := [.data, .data, .data, .data, .handle, .sentinel, .sentinel, .data, .pinned], laidTests := true, laidLooks := .later }
def ReasonWhysUptoCardSaid : Prop := Claim7.holds Tryz.pinned (.plain (OpenSpec.upto reasonWhysSpec)) reasonWhysUptoCard

/-- THE SECOND FORM's CARD OF 'solspacelaw.ShelfTurns'. -/
def shelfTurnsUptoCard : Claim7 := { stood := { row := shelfTurnsUptoRow, standIns := [], harness := (true, "706a9552b1b112eaffc625b2c94b87ba97b6683fe0e1d9455cbd97fc40a80d94"), looks := true }, kinds := [], alts := [], laidByText := true, laidKinds := [.data, .data, .data, .data, .handle, .sentinel, .sentinel, .data, .data, .data, .pinned], laidTests := true, laidLooks := .later }
def ShelfTurnsUptoCardSaid : Prop := Claim7.holds Tryz.pinned (.plain (OpenSpec.upto shelfTurnsSpec)) shelfTurnsUptoCard

/-- THE SECOND FORM's CARD OF 'solspacekeep.ShelfBack'. -/
def shelfBackUptoCard : Claim7 := { stood := { row := shelfBackUptoRow, standIns := [], harness := (true, "706a9552b1b112eaffc625b2c94b87ba97b6683fe0e1d9455cbd97fc40a80d94"), looks := true }, kinds := [], alts := [], laidByText := true, laidKinds := [.data, .data, .data, .data, .handle, .sentinel, .sentinel, .data, .pinned], laidTests := true, laidLooks := .later }
def ShelfBackUptoCardSaid : Prop := Claim7.holds Tryz.pinned (.plain (OpenSpec.upto shelfBackSpec)) shelfBackUptoCard
end Rows
end Go.Proofs.YtiihalknffbjpaaGreatDoor
