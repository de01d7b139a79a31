/-
  DERIVED. GIVEN WITH THE SEED: THE CARDS: each row of YtapdeangogjbeaaDoorRows.lean that lists a variable, with what it lists TIED to the program's text (the seventh form; the later family's looks); each row that meets fmt, with fmt's text TOLD by the authors' own Lean function (tested against real Go, not proved from fmt's source: count such statements apart). THE CARD IS WHAT COUNTS. Prove the row's statement (the work); the ties are given (YtapdeangogjbeaaDoorTie.lean); close each card by the builder's one call (the guide's Derived/Test/ToyasCard.lean, 'card_holds'). Laid BY PROGRAM, IN A SANDBOX (cutbox-door.mjs). By AI agents, Wed Nov 11 2026. No macro, syntax, notation, axiom, sorry.
-/
import Derived.Test.YtapdeangogjbeaaDoorRows
import GoSem.ClaimSeven
namespace Go.Proofs.YtapdeangogjbeaaDoor
namespace Rows

/-- THE TIED CARD OF 'solspacelaw.ClauseHolds'. -/
def clauseHoldsCard : Claim7 := { stood := { row := clauseHoldsRow, standIns := [], harness := (true, "cdd336d57eaba48d3bcb08c8eb7238f30e3e87b078f8599fb665910596899c0c"), looks := true }, kinds := [], alts := [], laidByText := true, laidKinds := [.handle, .data], laidTests := true, laidLooks := .later }
def ClauseHoldsCardSaid : Prop := Claim7.holds Tryd.pinned (.plain (OpenSpec.ofChange clauseHoldsSpec)) clauseHoldsCard

/-- THE TIED CARD OF 'solspacelaw.ClauseFollows'. -/
def clauseFollowsCard : Claim7 := { stood := { row := clauseFollowsRow, standIns := [], harness := (true, "cdd336d57eaba48d3bcb08c8eb7238f30e3e87b078f8599fb665910596899c0c"), looks := true }, kinds := [], alts := [], laidByText := true, laidKinds := [.handle, .data], laidTests := true, laidLooks := .later }
def ClauseFollowsCardSaid : Prop := Claim7.holds Tryd.pinned (.plain (OpenSpec.ofChange clauseFollowsSpec)) clauseFollowsCard

/-- THE TIED CARD OF 'solspacelaw.ClauseSolves'. -/
def clauseSolvesCard : Claim7 := { stood := { row := clauseSolvesRow, standIns := [], harness := (true, "cdd336d57eaba48d3bcb08c8eb7238f30e3e87b078f8599fb665910596899c0c"), looks := true }, kinds := [], alts := [], laidByText := true, laidKinds := [.handle, .data], laidTests := true, laidLooks := .later }
def ClauseSolvesCardSaid : Prop := Claim7.holds Tryd.pinned (.plain (OpenSpec.ofChange clauseSolvesSpec)) clauseSolvesCard

/-- THE SECOND FORM's CARD OF 'solspacelaw.ClauseHolds'. -/
def clauseHoldsUptoCard : Claim7 := { stood := { row := clauseHoldsUptoRow, standIns := [], harness := (true, "cdd336d57eaba48d3bcb08c8eb7238f30e3e87b078f8599fb665910596899c0c"), looks := true }, kinds := [], alts := [], laidByText := true, laidKinds := [.handle, .data], laidTests := true, laidLooks := .later }
def ClauseHoldsUptoCardSaid : Prop := Claim7.holds Tryd.pinned (.plain (OpenSpec.upto clauseHoldsSpec)) clauseHoldsUptoCard

/-- THE SECOND FORM's CARD OF 'solspacelaw.ClauseFollows'. -/
def clauseFollowsUptoCard : Claim7 := { stood := { row := clauseFollowsUptoRow, standIns := [], harness := (true, "cdd336d57eaba48d3bcb08c8eb7238f30e3e87b078f8599fb665910596899c0c"), looks := true }, kinds := [], alts := [], laidByText := true, laidKinds := [.handle, .data], laidTests := true, laidLooks := .later }
def ClauseFollowsUptoCardSaid : Prop := Claim7.holds Tryd.pinned (.plain (OpenSpec.upto clauseFollowsSpec)) clauseFollowsUptoCard

/-- THE SECOND FORM's CARD OF 'solspacelaw.ClauseSolves'. -/
def clauseSolvesUptoCard : Claim7 := { stood := { row := clauseSolvesUptoRow, standIns := [], harness := (true, "cdd336d57eaba48d3bcb08c8eb7238f30e3e87b078f8599fb665910596899c0c"), looks := true }, kinds := [], alts := [], laidByText := true, laidKinds := [.handle, .data], laidTests := true, laidLooks := .later }
def ClauseSolvesUptoCardSaid : Prop := Claim7.holds Tryd.pinned (.plain (OpenSpec.upto clauseSolvesSpec)) clauseSolvesUptoCard
end Rows
end Go.Proofs.YtapdeangogjbeaaDoor
