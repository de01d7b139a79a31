/-
  DERIVED. GIVEN WITH THE SEED: THE CARDS: each row of YtpmpnbbihmgdpaaGreatDoorRows.lean that lists a variable, with what it lists TIED to the program's text (the seventh form; the later family's looks); each row that meets fmt, with fmt's text TOLD by the authors' own Lean function (tested against real Go, not proved from fmt's source: count such statements apart). THE CARD IS WHAT COUNTS. Prove the row's statement (the work); the ties are given (YtpmpnbbihmgdpaaGreatDoorTie.lean); close each card by the builder's one call (the guide's Derived/Test/ToyasCard.lean, 'card_holds'). Laid BY PROGRAM, IN A SANDBOX (cutbox-door.mjs). By AI agents, Wed Nov 11 2026. No macro, syntax, notation, axiom, sorry.
-/
import Derived.Test.YtpmpnbbihmgdpaaGreatDoorRows
import GoSem.ClaimSeven
namespace Go.Proofs.YtpmpnbbihmgdpaaGreatDoor
namespace Rows

/-- THE TIED CARD OF 'solspacelaw.ReasonCores'. -/
def reasonCoresCard : Claim7 := { stood := { row := reasonCoresRow, standIns := [], harness := (true, "7b604b3087e403bdb0cca2e42d12530d222a95c7f5ebaf0443f5b0339c1339ac"), looks := true }, kinds := [], alts := [], laidByText := true, laidKinds := [.data, .data, .data, .data, .handle, .sentinel, .sentinel, .data, .data, .data, .pinned], laidTests := true, laidLooks := .later }
def ReasonCoresCardSaid : Prop := Claim7.holds Tryz.pinned (.plain (OpenSpec.ofChange reasonCoresSpec)) reasonCoresCard

/-- THE TIED CARD OF 'solspacelaw.ReasonAll'. -/
def reasonAllCard : Claim7 := { stood := { row := reasonAllRow, standIns := [], harness := (true, "7b604b3087e403bdb0cca2e42d12530d222a95c7f5ebaf0443f5b0339c1339ac"), looks := true }, kinds := [], alts := [], laidByText := true, laidKinds := [.data, .data, .data, .data, .handle, .sentinel, .sentinel, .data, .data, .data, .pinned], laidTests := true, laidLooks := .later }
def ReasonAllCardSaid : Prop := Claim7.holds Tryz.pinned (.plain (OpenSpec.ofChange reasonAllSpec)) reasonAllCard

/-- THE TIED CARD OF 'solspacekeep.ReasonLeast'. -/
def reasonLeastCard : Claim7 := { stood := { row := reasonLeastRow, standIns := [], harness := (true, "7b604b3087e403bdb0cca2e42d12530d222a95c7f5ebaf0443f5b0339c1339ac"), looks := true }, kinds := [], alts := [], laidByText := true, laidKinds := [.data, .data, .data, .data, .handle, .sentinel, .sentinel, .data, .pinned], laidTests := true, laidLooks := .later }
def ReasonLeastCardSaid : Prop := Claim7.holds Tryz.pinned (.plain (OpenSpec.ofChange reasonLeastSpec)) reasonLeastCard

/-- THE TIED CARD OF 'solspacelaw.PlanFits'. -/
def planFitsCard : Claim7 := { stood := { row := planFitsRow, standIns := [], harness := (true, "7b604b3087e403bdb0cca2e42d12530d222a95c7f5ebaf0443f5b0339c1339ac"), looks := true }, kinds := [], alts := [], laidByText := true, laidKinds := [.data, .data, .data, .data, .handle, .sentinel, .sentinel, .data, .data, .data, .pinned], laidTests := true, laidLooks := .later }
def PlanFitsCardSaid : Prop := Claim7.holds Tryz.pinned (.plain (OpenSpec.ofChange planFitsSpec)) planFitsCard

/-- THE TIED CARD OF 'solspacelaw.PlanOrders'. -/
def planOrdersCard : Claim7 := { stood := { row := planOrdersRow, standIns := [], harness := (true, "7b604b3087e403bdb0cca2e42d12530d222a95c7f5ebaf0443f5b0339c1339ac"), looks := true }, kinds := [], alts := [], laidByText := true, laidKinds := [.data, .data, .data, .data, .handle, .sentinel, .sentinel, .data, .data, .data, .pinned], laidTests := true, laidLooks := .later }
def PlanOrdersCardSaid : Prop := Claim7.holds Tryz.pinned (.plain (OpenSpec.ofChange planOrdersSpec)) planOrdersCard

/-- THE TIED CARD OF 'solspacekeep.PlanRules'. -/
def planRulesCard : Claim7 := { stood := { row := planRulesRow, standIns := [], harness := (true, "7b604b3087e403bdb0cca2e42d12530d222a95c7f5ebaf0443f5b0339c1339ac"), looks := true }, kinds := [], alts := [], laidByText := true, laidKinds := [.data, .data, .data, .data, .handle, .sentinel, .sentinel, .data, .pinned], laidTests := true, laidLooks := .later }
def PlanRulesCardSaid : Prop := Claim7.holds Tryz.pinned (.plain (OpenSpec.ofChange planRulesSpec)) planRulesCard

/-- THE TIED CARD OF 'solspacekeep.PlanOrdered'. -/
def planOrderedCard : Claim7 := { stood := { row := planOrderedRow, standIns := [], harness := (true, "7b604b3087e403bdb0cca2e42d12530d222a95c7f5ebaf0443f5b0339c1339ac"), looks := true }, kinds := [], alts := [], laidByText := true, laidKinds := [.data, .data, .data, .data, .handle, .sentinel, .sentinel, .data, .pinned], laidTests := true, laidLooks := .later }
def PlanOrderedCardSaid : Prop := Claim7.holds Tryz.pinned (.plain (OpenSpec.ofChange planOrderedSpec)) planOrderedCard

/-- THE TIED CARD OF 'solspacekeep.PlanChanges'. -/
def planChangesCard : Claim7 := { stood := { row := planChangesRow, standIns := [], harness := (true, "7b604b3087e403bdb0cca2e42d12530d222a95c7f5ebaf0443f5b0339c1339ac"), looks := true }, kinds := [], alts := [], laidByText := true, laidKinds := [.data, .data, .data, .data, .handle, .sentinel, .sentinel, .data, .pinned], laidTests := true, laidLooks := .later }
def PlanChangesCardSaid : Prop := Claim7.holds Tryz.pinned (.plain (OpenSpec.ofChange planChangesSpec)) planChangesCard

/-- THE SECOND FORM's CARD OF 'solspacelaw.ReasonCores'. -/
def reasonCoresUptoCard : Claim7 := { stood := { row := reasonCoresUptoRow, standIns := [], harness := (true, "7b604b3087e403bdb0cca2e42d12530d222a95c7f5ebaf0443f5b0339c1339ac"), looks := true }, kinds := [], alts := [], laidByText := true, laidKinds := [.data, .data, .data, .data, .handle, .sentinel, .sentinel, .data, .data, .data, .pinned], laidTests := true, laidLooks := .later }
def ReasonCoresUptoCardSaid : Prop := Claim7.holds Tryz.pinned (.plain (OpenSpec.upto reasonCoresSpec)) reasonCoresUptoCard

/-- THE SECOND FORM's CARD OF 'solspacelaw.ReasonAll'. -/
def reasonAllUptoCard : Claim7 := { stood := { row := reasonAllUptoRow, standIns := [], harness := (true, "7b604b3087e403bdb0cca2e42d12530d222a95c7f5ebaf0443f5b0339c1339ac"), looks := true }, kinds := [], alts := [], laidByText := true, laidKinds := [.data, .data, .data, .data, .handle, .sentinel, .sentinel, .data, .data, .data, .pinned], laidTests := true, laidLooks := .later }
def ReasonAllUptoCardSaid : Prop := Claim7.holds Tryz.pinned (.plain (OpenSpec.upto reasonAllSpec)) reasonAllUptoCard

/-- THE SECOND FORM's CARD OF 'solspacekeep.ReasonLeast'. -/
def reasonLeastUptoCard : Claim7 := { stood := { row := reasonLeastUptoRow, standIns := [], harness := (true, "7b604b3087e403bdb0cca2e42d12530d222a95c7f5ebaf0443f5b0339c1339ac"), looks := true }, kinds := [], alts := [], laidByText := true, laidKinds := [.data, .data, .data, .data, .handle, .sentinel, .sentinel, .data, .pinned], laidTests := true, laidLooks := .later }
def ReasonLeastUptoCardSaid : Prop := Claim7.holds Tryz.pinned (.plain (OpenSpec.upto reasonLeastSpec)) reasonLeastUptoCard

/-- THE SECOND FORM's CARD OF 'solspacelaw.PlanFits'. -/
def planFitsUptoCard : Claim7 := { stood := { row := planFitsUptoRow, standIns := [], harness := (true, "7b604b3087e403bdb0cca2e42d12530d222a95c7f5ebaf0443f5b0339c1339ac"), looks := true }, kinds := [], alts := [], laidByText := true, laidKinds := [.data, .data, .data, .data, .handle, .sentinel, .sentinel, .data, .data, .data, .pinned], laidTests := true, laidLooks := .later }
def PlanFitsUptoCardSaid : Prop := Claim7.holds Tryz.pinned (.plain (OpenSpec.upto planFitsSpec)) planFitsUptoCard

/-- THE SECOND FORM's CARD OF 'solspacelaw.PlanOrders'. -/
def planOrdersUptoCard : Claim7 := { stood := { row := planOrdersUptoRow, standIns := [], harness := (true, "7b604b3087e403bdb0cca2e42d12530d222a95c7f5ebaf0443f5b0339c1339ac"), looks := true }, kinds := [], alts := [], laidByText := true, laidKinds := [.data, .data, .data, .data, .handle, .sentinel, .sentinel, .data, .data, .data, .pinned], laidTests := true, laidLooks := .later }
def PlanOrdersUptoCardSaid : Prop := Claim7.holds Tryz.pinned (.plain (OpenSpec.upto planOrdersSpec)) planOrdersUptoCard

/-- THE SECOND FORM's CARD OF 'solspacekeep.PlanRules'. -/
def planRulesUptoCard : Claim7 := { stood := { row := planRulesUptoRow, standIns := [], harness := (true, "7b604b3087e403bdb0cca2e42d12530d222a95c7f5ebaf0443f5b0339c1339ac"), looks := true }, kinds := [], alts := [], laidByText := true, laidKinds := [.data, .data, .data, .data, .handle, .sentinel, .sentinel, .data, .pinned], laidTests := true, laidLooks := .later }
def PlanRulesUptoCardSaid : Prop := Claim7.holds Tryz.pinned (.plain (OpenSpec.upto planRulesSpec)) planRulesUptoCard

/-- THE SECOND FORM's CARD OF 'solspacekeep.PlanOrdered'. -/
def planOrderedUptoCard : Claim7 := { stood := { row := planOrderedUptoRow, standIns := [], harness := (true, "7b604b3087e403bdb0cca2e42d12530d222a95c7f5ebaf0443f5b0339c1339ac"), looks := true }, kinds := [], alts := [], laidByText := true, laidKinds := [.data, .data, .data, .data, .handle, .sentinel, .sentinel, .data, .pinned], laidTests := true, laidLooks := .later }
def PlanOrderedUptoCardSaid : Prop := Claim7.holds Tryz.pinned (.plain (OpenSpec.upto planOrderedSpec)) planOrderedUptoCard

/-- THE SECOND FORM's CARD OF 'solspacekeep.PlanChanges'. -/
def planChangesUptoCard : Claim7 := { stood := { row := planChangesUptoRow, standIns := [], harness := (true, "7b604b3087e403bdb0cca2e42d12530d222a95c7f5ebaf0443f5b0339c1339ac"), looks := true }, kinds := [], alts := [], laidByText := true, laidKinds := [.data, .data, .data, .data, .handle, .sentinel, .sentinel, .data, .pinned], laidTests := true, laidLooks := .later }
def PlanChangesUptoCardSaid : Prop := Claim7.holds Tryz.pinned (.plain (OpenSpec.upto planChangesSpec)) planChangesUptoCard
end Rows
end Go.Proofs.YtpmpnbbihmgdpaaGreatDoor
