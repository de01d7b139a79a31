/-
  DERIVED. GIVEN WITH THE SEED: THE CARDS: each row of YtmhophccdfmngaaGreatDoorRows.lean that lists a variable, with what it lists TIED to the program's text (the seventh form; the later family's looks); each row that meets fmt, with fmt's text TOLD by the authors' own Lean function (tested against real Go, not proved from fmt's source: count such statements apart). THE CARD IS WHAT COUNTS. Prove the row's statement (the work); the ties are given (YtmhophccdfmngaaGreatDoorTie.lean); close each card by the builder's one call (the guide's Derived/Test/ToyasCard.lean, 'card_holds'). Laid BY PROGRAM, IN A SANDBOX (cutbox-door.mjs). By AI agents, Wed Nov 11 2026. No macro, syntax, notation, axiom, sorry.
-/
import Derived.Test.YtmhophccdfmngaaGreatDoorRows
import GoSem.ClaimSeven
namespace Go.Proofs.YtmhophccdfmngaaGreatDoor
namespace Rows

/-- THE TIED CARD OF 'solspacelaw.RangeParses'. -/
def rangeParsesCard : Claim7 := { stood := { row := rangeParsesRow, standIns := [], harness := (true, "4e7c9894072f1d4e55bdd646ddb474cdd1d48bc9e91eeec686cd652779a6db63"), looks := true }, kinds := [], alts := [], laidByText := true, laidKinds := [.data, .data, .data, .data, .handle, .sentinel, .sentinel, .data, .pinned], laidTests := true, laidLooks := .later }
def RangeParsesCardSaid : Prop := Claim7.holds Tryz.pinned (.plain (OpenSpec.ofChange rangeParsesSpec)) rangeParsesCard

/-- THE TIED CARD OF 'solspacelaw.RangeMixes'. -/
def rangeMixesCard : Claim7 := { stood := { row := rangeMixesRow, standIns := [], harness := (true, "4e7c9894072f1d4e55bdd646ddb474cdd1d48bc9e91eeec686cd652779a6db63"), looks := true }, kinds := [], alts := [], laidByText := true, laidKinds := [.data, .data, .data, .data, .handle, .sentinel, .sentinel, .data, .pinned], laidTests := true, laidLooks := .later }
def RangeMixesCardSaid : Prop := Claim7.holds Tryz.pinned (.plain (OpenSpec.ofChange rangeMixesSpec)) rangeMixesCard

/-- THE TIED CARD OF 'solspacekeep.RangeBack'. -/
def rangeBackCard : Claim7 := { stood := { row := rangeBackRow, standIns := [], harness := (true, "4e7c9894072f1d4e55bdd646ddb474cdd1d48bc9e91eeec686cd652779a6db63"), looks := true }, kinds := [], alts := [], laidByText := true, laidKinds := [.data, .data, .data, .data, .handle, .sentinel, .sentinel, .pinned], laidTests := true, laidLooks := .later }
def RangeBackCardSaid : Prop := Claim7.holds Tryz.pinned (.plain (OpenSpec.ofChange rangeBackSpec)) rangeBackCard

/-- THE TIED CARD OF 'solspacelaw.CatalogMakes'. -/
def catalogMakesCard : Claim7 := { stood := { row := catalogMakesRow, standIns := [], harness := (true, "4e7c9894072f1d4e55bdd646ddb474cdd1d48bc9e91eeec686cd652779a6db63"), looks := true }, kinds := [], alts := [], laidByText := true, laidKinds := [.data, .data, .data, .data, .handle, .sentinel, .sentinel, .data, .data, .data, .pinned], laidTests := true, laidLooks := .later }
def CatalogMakesCardSaid : Prop := Claim7.holds Tryz.pinned (.plain (OpenSpec.ofChange catalogMakesSpec)) catalogMakesCard

/-- THE TIED CARD OF 'solspacelaw.CatalogParses'. -/
def catalogParsesCard : Claim7 := { stood := { row := catalogParsesRow, standIns := [], harness := (true, "4e7c9894072f1d4e55bdd646ddb474cdd1d48bc9e91eeec686cd652779a6db63"), looks := true }, kinds := [], alts := [], laidByText := true, laidKinds := [.data, .data, .data, .data, .handle, .sentinel, .sentinel, .data, .data, .data, .pinned], laidTests := true, laidLooks := .later }
def CatalogParsesCardSaid : Prop := Claim7.holds Tryz.pinned (.plain (OpenSpec.ofChange catalogParsesSpec)) catalogParsesCard

/-- THE TIED CARD OF 'solspacelaw.CatalogLines'. -/
def catalogLinesCard : Claim7 := { stood := { row := catalogLinesRow, standIns := [], harness := (true, "4e7c9894072f1d4e55bdd646ddb474cdd1d48bc9e91eeec686cd652779a6db63"), looks := true }, kinds := [], alts := [], laidByText := true, laidKinds := [.data, .data, .data, .data, .handle, .sentinel, .sentinel, .data, .data, .data, .pinned], laidTests := true, laidLooks := .later }
def CatalogLinesCardSaid : Prop := Claim7.holds Tryz.pinned (.plain (OpenSpec.ofChange catalogLinesSpec)) catalogLinesCard

/-- THE TIED CARD OF 'solspacekeep.CatalogBack'. -/
def catalogBackCard : Claim7 := { stood := { row := catalogBackRow, standIns := [], harness := (true, "4e7c9894072f1d4e55bdd646ddb474cdd1d48bc9e91eeec686cd652779a6db63"), looks := true }, kinds := [], alts := [], laidByText := true, laidKinds := [.data, .data, .data, .data, .handle, .sentinel, .sentinel, .data, .pinned], laidTests := true, laidLooks := .later }
def CatalogBackCardSaid : Prop := Claim7.holds Tryz.pinned (.plain (OpenSpec.ofChange catalogBackSpec)) catalogBackCard

/-- THE TIED CARD OF 'solspacelaw.RulesMake'. -/
def rulesMakeCard : Claim7 := { stood := { row := rulesMakeRow, standIns := [], harness := (true, "4e7c9894072f1d4e55bdd646ddb474cdd1d48bc9e91eeec686cd652779a6db63"), looks := true }, kinds := [], alts := [], laidByText := true, laidKinds := [.data, .data, .data, .data, .handle, .sentinel, .sentinel, .data, .data, .data, .pinned], laidTests := true, laidLooks := .later }
def RulesMakeCardSaid : Prop := Claim7.holds Tryz.pinned (.plain (OpenSpec.ofChange rulesMakeSpec)) rulesMakeCard

/-- THE TIED CARD OF 'solspacekeep.RulesLines'. -/
def rulesLinesCard : Claim7 := { stood := { row := rulesLinesRow, standIns := [], harness := (true, "4e7c9894072f1d4e55bdd646ddb474cdd1d48bc9e91eeec686cd652779a6db63"), looks := true }, kinds := [], alts := [], laidByText := true, laidKinds := [.data, .data, .data, .data, .handle, .sentinel, .sentinel, .data, .pinned], laidTests := true, laidLooks := .later }
def RulesLinesCardSaid : Prop := Claim7.holds Tryz.pinned (.plain (OpenSpec.ofChange rulesLinesSpec)) rulesLinesCard

/-- THE SECOND FORM's CARD OF 'solspacelaw.RangeParses'. -/
def rangeParsesUptoCard : Claim7 := { stood := { row := rangeParsesUptoRow, standIns := [], harness := (true, "4e7c9894072f1d4e55bdd646ddb474cdd1d48bc9e91eeec686cd652779a6db63"), looks := true }, kinds := [], alts := [], laidByText := true, laidKinds := [.data, .data, .data, .data, .handle, .sentinel, .sentinel, .data, .pinned], laidTests := true, laidLooks := .later }
def RangeParsesUptoCardSaid : Prop := Claim7.holds Tryz.pinned (.plain (OpenSpec.upto rangeParsesSpec)) rangeParsesUptoCard

/-- THE SECOND FORM's CARD OF 'solspacelaw.RangeMixes'. -/
def rangeMixesUptoCard : Claim7 := { stood := { row := rangeMixesUptoRow, standIns := [], harness := (true, "4e7c9894072f1d4e55bdd646ddb474cdd1d48bc9e91eeec686cd652779a6db63"), looks := true }, kinds := [], alts := [], laidByText := true, laidKinds := [.data, .data, .data, .data, .handle, .sentinel, .sentinel, .data, .pinned], laidTests := true, laidLooks := .later }
def RangeMixesUptoCardSaid : Prop := Claim7.holds Tryz.pinned (.plain (OpenSpec.upto rangeMixesSpec)) rangeMixesUptoCard

/-- THE SECOND FORM's CARD OF 'solspacekeep.RangeBack'. -/
def rangeBackUptoCard : Claim7 := { stood := { row := rangeBackUptoRow, standIns := [], harness := (true, "4e7c9894072f1d4e55bdd646ddb474cdd1d48bc9e91eeec686cd652779a6db63"), looks := true }, kinds := [], alts := [], laidByText := true, laidKinds := [.data, .data, .data, .data, .handle, .sentinel, .sentinel, .pinned], laidTests := true, laidLooks := .later }
def RangeBackUptoCardSaid : Prop := Claim7.holds Tryz.pinned (.plain (OpenSpec.upto rangeBackSpec)) rangeBackUptoCard

/-- THE SECOND FORM's CARD OF 'solspacelaw.CatalogMakes'. -/
def catalogMakesUptoCard : Claim7 := { stood := { row := catalogMakesUptoRow, standIns := [], harness := (true, "4e7c9894072f1d4e55bdd646ddb474cdd1d48bc9e91eeec686cd652779a6db63"), looks := true }, kinds := [], alts := [], laidByText := true, laidKinds := [.data, .data, .data, .data, .handle, .sentinel, .sentinel, .data, .data, .data, .pinned], laidTests := true, laidLooks := .later }
def CatalogMakesUptoCardSaid : Prop := Claim7.holds Tryz.pinned (.plain (OpenSpec.upto catalogMakesSpec)) catalogMakesUptoCard

/-- THE SECOND FORM's CARD OF 'solspacelaw.CatalogParses'. -/
def catalogParsesUptoCard : Claim7 := { stood := { row := catalogParsesUptoRow, standIns := [], harness := (true, "4e7c9894072f1d4e55bdd646ddb474cdd1d48bc9e91eeec686cd652779a6db63"), looks := true }, kinds := [], alts := [], laidByText := true, laidKinds := [.data, .data, .data, .data, .handle, .sentinel, .sentinel, .data, .data, .data, .pinned], laidTests := true, laidLooks := .later }
def CatalogParsesUptoCardSaid : Prop := Claim7.holds Tryz.pinned (.plain (OpenSpec.upto catalogParsesSpec)) catalogParsesUptoCard

/-- THE SECOND FORM's CARD OF 'solspacelaw.CatalogLines'. -/
def catalogLinesUptoCard : Claim7 := { stood := { row := catalogLinesUptoRow, standIns := [], harness := (true, "4e7c9894072f1d4e55bdd646ddb474cdd1d48bc9e91eeec686cd652779a6db63"), looks := true }, kinds := [], alts := [], laidByText := true, laidKinds := [.data, .data, .data, .data, .handle, .sentinel, .sentinel, .data, .data, .data, .pinned], laidTests := true, laidLooks := .later }
def CatalogLinesUptoCardSaid : Prop := Claim7.holds Tryz.pinned (.plain (OpenSpec.upto catalogLinesSpec)) catalogLinesUptoCard

/-- THE SECOND FORM's CARD OF 'solspacekeep.CatalogBack'. -/
def catalogBackUptoCard : Claim7 := { stood := { row := catalogBackUptoRow, standIns := [], harness := (true, "4e7c9894072f1d4e55bdd646ddb474cdd1d48bc9e91eeec686cd652779a6db63"), looks := true }, kinds := [], alts := [], laidByText := true, laidKinds := [.data, .data, .data, .data, .handle, .sentinel, .sentinel, .data, .pinned], laidTests := true, laidLooks := .later }
def CatalogBackUptoCardSaid : Prop := Claim7.holds Tryz.pinned (.plain (OpenSpec.upto catalogBackSpec)) catalogBackUptoCard

/-- THE SECOND FORM's CARD OF 'solspacelaw.RulesMake'. -/
def rulesMakeUptoCard : Claim7 := { stood := { row := rulesMakeUptoRow, standIns := [], harness := (true, "4e7c9894072f1d4e55bdd646ddb474cdd1d48bc9e91eeec686cd652779a6db63"), looks := true }, kinds := [], alts := [], laidByText := true, laidKinds := [.data, .data, .data, .data, .handle, .sentinel, .sentinel, .data, .data, .data, .pinned], laidTests := true, laidLooks := .later }
def RulesMakeUptoCardSaid : Prop := Claim7.holds Tryz.pinned (.plain (OpenSpec.upto rulesMakeSpec)) rulesMakeUptoCard

/-- THE SECOND FORM's CARD OF 'solspacekeep.RulesLines'. -/
def rulesLinesUptoCard : Claim7 := { stood := { row := rulesLinesUptoRow, standIns := [], harness := (true, "4e7c9894072f1d4e55bdd646ddb474cdd1d48bc9e91eeec686cd652779a6db63"), looks := true }, kinds := [], alts := [], laidByText := true, laidKinds := [.data, .data, .data, .data, .handle, .sentinel, .sentinel, .data, .pinned], laidTests := true, laidLooks := .later }
def RulesLinesUptoCardSaid : Prop := Claim7.holds Tryz.pinned (.plain (OpenSpec.upto rulesLinesSpec)) rulesLinesUptoCard
end Rows
end Go.Proofs.YtmhophccdfmngaaGreatDoor
