/-
  DERIVED. GIVEN WITH THE SEED: THE CARDS: each row of YtiimdhmbbmkbfaaGreatDoorRows.lean that lists a variable, with what it lists TIED to the program's text (the seventh form; the later family's looks); each row that meets fmt, with fmt's text TOLD by the authors' own Lean function (tested against real Go, not proved from fmt's source: count such statements apart). THE CARD IS WHAT COUNTS. Prove the row's statement (the work); the ties are given (YtiimdhmbbmkbfaaGreatDoorTie.lean); close each card by the builder's one call (the guide's Derived/Test/ToyasCard.lean, 'card_holds'). Laid BY PROGRAM, IN A SANDBOX (cutbox-door.mjs). By AI agents, Wed Nov 11 2026. No macro, syntax, notation, axiom, sorry.
-/
import Derived.Test.YtiimdhmbbmkbfaaGreatDoorRows
import GoSem.ClaimSeven
namespace Go.Proofs.YtiimdhmbbmkbfaaGreatDoor
namespace Rows

/-- THE TIED CARD OF 'solspacelaw.BddTells'. -/
def bddTellsCard : Claim7 := { stood := { row := bddTellsRow, standIns := [], harness := (true, "c449ebe39fa8481fcfdc4e7df035cdcfd19f89f61d286cb6e8ee38f9e9e19705"), looks := true }, kinds := [], alts := [], laidByText := true, laidKinds := [.data, .data, .data], laidTests := true, laidLooks := .later }
def BddTellsCardSaid : Prop := Claim7.holds Tryz.pinned (.plain (OpenSpec.ofChange bddTellsSpec)) bddTellsCard

/-- THE TIED CARD OF 'solspacelaw.BddErrors'. -/
def bddErrorsCard : Claim7 := { stood := { row := bddErrorsRow, standIns := [], harness := (true, "c449ebe39fa8481fcfdc4e7df035cdcfd19f89f61d286cb6e8ee38f9e9e19705"), looks := true }, kinds := [], alts := [], laidByText := true, laidKinds := [.handle], laidTests := true, laidLooks := .later }
def BddErrorsCardSaid : Prop := Claim7.holds Tryz.pinned (.plain (OpenSpec.ofChange bddErrorsSpec)) bddErrorsCard

/-- THE SECOND FORM's CARD OF 'solspacelaw.BddTells'. -/
def bddTellsUptoCard : Claim7 := { stood := { row := bddTellsUptoRow, standIns := [], harness := (true, "c449ebe39fa8481fcfdc4e7df035cdcfd19f89f61d286cb6e8ee38f9e9e19705"), looks := true }, kinds := [], alts := [], laidByText := true, laidKinds := [.data, .data, .data], laidTests := true, laidLooks := .later }
def BddTellsUptoCardSaid : Prop := Claim7.holds Tryz.pinned (.plain (OpenSpec.upto bddTellsSpec)) bddTellsUptoCard

/-- THE SECOND FORM's CARD OF 'solspacelaw.BddErrors'. -/
def bddErrorsUptoCard : Claim7 := { stood := { row := bddErrorsUptoRow, standIns := [], harness := (true, "c449ebe39fa8481fcfdc4e7df035cdcfd19f89f61d286cb6e8ee38f9e9e19705"), looks := true }, kinds := [], alts := [], laidByText := true, laidKinds := [.handle], laidTests := true, laidLooks := .later }
def BddErrorsUptoCardSaid : Prop := Claim7.holds Tryz.pinned (.plain (OpenSpec.upto bddErrorsSpec)) bddErrorsUptoCard
end Rows
end Go.Proofs.YtiimdhmbbmkbfaaGreatDoor
