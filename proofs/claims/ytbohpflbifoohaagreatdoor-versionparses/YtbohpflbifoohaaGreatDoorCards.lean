/-
  DERIVED. GIVEN WITH THE SEED: THE CARDS: each row of YtbohpflbifoohaaGreatDoorRows.lean that lists a variable, with what it lists TIED to the program's text (the seventh form; the later family's looks); each row that meets fmt, with fmt's text TOLD by the authors' own Lean function (tested against real Go, not proved from fmt's source: count such statements apart). THE CARD IS WHAT COUNTS. Prove the row's statement (the work); the ties are given (YtbohpflbifoohaaGreatDoorTie.lean); close each card by the builder's one call (the guide's Derived/Test/ToyasCard.lean, 'card_holds'). Laid BY PROGRAM, IN A SANDBOX (cutbox-door.mjs). By AI agents, Wed Nov 11 2026. No macro, syntax, notation, axiom, sorry.
-/
import Derived.Test.YtbohpflbifoohaaGreatDoorRows
import GoSem.ClaimSeven
namespace Go.Proofs.YtbohpflbifoohaaGreatDoor
namespace Rows

/-- THE TIED CARD OF 'solspacelaw.VersionParses'. -/
def versionParsesCard : Claim7 := { stood := { row := versionParsesRow, standIns := [], harness := (true, "2ca1c5194d9c1914332fd8b619174187334a99511d703cdce7493fa655dcb7c3"), looks := true }, kinds := [], alts := [], laidByText := true, laidKinds := [.data, .data, .data, .data, .handle, .sentinel, .sentinel, .pinned], laidTests := true, laidLooks := .later }
def VersionParsesCardSaid : Prop := Claim7.holds Tryz.pinned (.plain (OpenSpec.ofChange versionParsesSpec)) versionParsesCard

/-- THE TIED CARD OF 'solspacelaw.RangeParses'. -/
def rangeParsesCard : Claim7 := { stood := { row := rangeParsesRow, standIns := [], harness := (true, "2ca1c5194d9c1914332fd8b619174187334a99511d703cdce7493fa655dcb7c3"), looks := true }, kinds := [], alts := [], laidByText := true, laidKinds := [.data, .data, .data, .data, .handle, .sentinel, .sentinel, .data, .pinned], laidTests := true, laidLooks := .later }
def RangeParsesCardSaid : Prop := Claim7.holds Tryz.pinned (.plain (OpenSpec.ofChange rangeParsesSpec)) rangeParsesCard

/-- THE TIED CARD OF 'solspacelaw.RangeMixes'. -/
def rangeMixesCard : Claim7 := { stood := { row := rangeMixesRow, standIns := [], harness := (true, "2ca1c5194d9c1914332fd8b619174187334a99511d703cdce7493fa655dcb7c3"), looks := true }, kinds := [], alts := [], laidByText := true, laidKinds := [.data, .data, .data, .data, .handle, .sentinel, .sentinel, .data, .pinned], laidTests := true, laidLooks := .later }
def RangeMixesCardSaid : Prop := Claim7.holds Tryz.pinned (.plain (OpenSpec.ofChange rangeMixesSpec)) rangeMixesCard

/-- THE TIED CARD OF 'solspacekeep.RangeBack'. -/
def rangeBackCard : Claim7 := { stood := { row := rangeBackRow, standIns := [], harness := (true, "2ca1c5194d9c1914332fd8b619174187334a99511d703cdce7493fa655dcb7c3"), looks := true }, kinds := [], alts := [], laidByText := true, laidKinds := [.data, .data, .data, .data, .handle, .sentinel, .sentinel, .pinned], laidTests := true, laidLooks := .later }
def RangeBackCardSaid : Prop := Claim7.holds Tryz.pinned (.plain (OpenSpec.ofChange rangeBackSpec)) rangeBackCard

/-- THE TIED CARD OF 'solspacekeep.RangeBoole'. -/
def rangeBooleCard : Claim7 := { stood := { row := rangeBooleRow, standIns := [], harness := (true, "2ca1c5194d9c1914332fd8b619174187334a99511d703cdce7493fa655dcb7c3"), looks := true }, kinds := [], alts := [], laidByText := true, laidKinds := [.data, .data, .data, .data, .handle, .sentinel, .sentinel, .pinned], laidTests := true, laidLooks := .later }
def RangeBooleCardSaid : Prop := Claim7.holds Tryz.pinned (.plain (OpenSpec.ofChange rangeBooleSpec)) rangeBooleCard

/-- THE TIED CARD OF 'solspacekeep.RangeOrders'. -/
def rangeOrdersCard : Claim7 := { stood := { row := rangeOrdersRow, standIns := [], harness := (true, "2ca1c5194d9c1914332fd8b619174187334a99511d703cdce7493fa655dcb7c3"), looks := true }, kinds := [], alts := [], laidByText := true, laidKinds := [.data, .data, .data, .data, .handle, .sentinel, .sentinel, .pinned], laidTests := true, laidLooks := .later }
def RangeOrdersCardSaid : Prop := Claim7.holds Tryz.pinned (.plain (OpenSpec.ofChange rangeOrdersSpec)) rangeOrdersCard

/-- THE SECOND FORM's CARD OF 'solspacelaw.VersionParses'. -/
def versionParsesUptoCard : Claim7 := { stood := { row := versionParsesUptoRow, standIns := [], harness := (true, "2ca1c5194d9c1914332fd8b619174187334a99511d703cdce7493fa655dcb7c3"), looks := true }, kinds := [], alts := [], laidByText := true, laidKinds := [.data, .data, .data, .data, .handle, .sentinel, .sentinel, .pinned], laidTests := true, laidLooks := .later }
def VersionParsesUptoCardSaid : Prop := Claim7.holds Tryz.pinned (.plain (OpenSpec.upto versionParsesSpec)) versionParsesUptoCard

/-- THE SECOND FORM's CARD OF 'solspacelaw.RangeParses'. -/
def rangeParsesUptoCard : Claim7 := { stood := { row := rangeParsesUptoRow, standIns := [], harness := (true, "2ca1c5194d9c1914332fd8b619174187334a99511d703cdce7493fa655dcb7c3"), looks := true }, kinds := [], alts := [], laidByText := true, laidKinds := [.data, .data, .data, .data, .handle, .sentinel, .sentinel, .data, .pinned], laidTests := true, laidLooks := .later }
def RangeParsesUptoCardSaid : Prop := Claim7.holds Tryz.pinned (.plain (OpenSpec.upto rangeParsesSpec)) rangeParsesUptoCard

/-- THE SECOND FORM's CARD OF 'solspacelaw.RangeMixes'. -/
def rangeMixesUptoCard : Claim7 := { stood := { row := rangeMixesUptoRow, standIns := [], harness := (true, "2ca1c5194d9c1914332fd8b619174187334a99511d703cdce7493fa655dcb7c3"), looks := true }, kinds := [], alts := [], laidByText := true, laidKinds := [.data, .data, .data, .data, .handle, .sentinel, .sentinel, .data, .pinned], laidTests := true, laidLooks := .later }
def RangeMixesUptoCardSaid : Prop := Claim7.holds Tryz.pinned (.plain (OpenSpec.upto rangeMixesSpec)) rangeMixesUptoCard

/-- THE SECOND FORM's CARD OF 'solspacekeep.RangeBack'. -/
def rangeBackUptoCard : Claim7 := { stood := { row := rangeBackUptoRow, standIns := [], harness := (true, "2ca1c5194d9c1914332fd8b619174187334a99511d703cdce7493fa655dcb7c3"), looks := true }, kinds := [], alts := [], laidByText := true, laidKinds := [.data, .data, .data, .data, .handle, .sentinel, .sentinel, .pinned], laidTests := true, laidLooks := .later }
def RangeBackUptoCardSaid : Prop := Claim7.holds Tryz.pinned (.plain (OpenSpec.upto rangeBackSpec)) rangeBackUptoCard

/-- THE SECOND FORM's CARD OF 'solspacekeep.RangeBoole'. -/
def rangeBooleUptoCard : Claim7 := { stood := { row := rangeBooleUptoRow, standIns := [], harness := (true, "2ca1c5194d9c1914332fd8b619174187334a99511d703cdce7493fa655dcb7c3"), looks := true }, kinds := [], alts := [], laidByText := true, laidKinds := [.data, .data, .data, .data, .handle, .sentinel, .sentinel, .pinned], laidTests := true, laidLooks := .later }
def RangeBooleUptoCardSaid : Prop := Claim7.holds Tryz.pinned (.plain (OpenSpec.upto rangeBooleSpec)) rangeBooleUptoCard

/-- THE SECOND FORM's CARD OF 'solspacekeep.RangeOrders'. -/
def rangeOrdersUptoCard : Claim7 := { stood := { row := rangeOrdersUptoRow, standIns := [], harness := (true, "2ca1c5194d9c1914332fd8b619174187334a99511d703cdce7493fa655dcb7c3"), looks := true }, kinds := [], alts := [], laidByText := true, laidKinds := [.data, .data, .data, .data, .handle, .sentinel, .sentinel, .pinned], laidTests := true, laidLooks := .later }
def RangeOrdersUptoCardSaid : Prop := Claim7.holds Tryz.pinned (.plain (OpenSpec.upto rangeOrdersSpec)) rangeOrdersUptoCard
end Rows
end Go.Proofs.YtbohpflbifoohaaGreatDoor
