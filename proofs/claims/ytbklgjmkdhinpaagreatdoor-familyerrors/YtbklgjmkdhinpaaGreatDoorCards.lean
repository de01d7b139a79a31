/-
  DERIVED. GIVEN WITH THE SEED: THE CARDS: each row of YtbklgjmkdhinpaaGreatDoorRows.lean that lists a variable, with what it lists TIED to the program's text (the seventh form; the later family's looks); each row that meets fmt, with fmt's text TOLD by the authors' own Lean function (tested against real Go, not proved from fmt's source: count such statements apart). THE CARD IS WHAT COUNTS. Prove the row's statement (the work); the ties are given (YtbklgjmkdhinpaaGreatDoorTie.lean); close each card by the builder's one call (the guide's Derived/Test/ToyasCard.lean, 'card_holds'). Laid BY PROGRAM, IN A SANDBOX (cutbox-door.mjs). By AI agents, Wed Nov 11 2026. No macro, syntax, notation, axiom, sorry.
-/
import Derived.Test.YtbklgjmkdhinpaaGreatDoorRows
import GoSem.ClaimSeven
namespace Go.Proofs.YtbklgjmkdhinpaaGreatDoor
namespace Rows

/-- THE TIED CARD OF 'solspacelaw.FamilyMeans'. -/
def familyMeansCard : Claim7 := { stood := { row := familyMeansRow, standIns := [], harness := (true, "1c89a3baa40eddecf49dde03740cc7402f3599c66e9bf4c246ccec7c04446ca4"), looks := true }, kinds := [], alts := [], laidByText := true, laidKinds := [.data, .data, .data, .handle], laidTests := true, laidLooks := .later }
def FamilyMeansCardSaid : Prop := Claim7.holds Tryz.pinned (.plain (OpenSpec.ofChange familyMeansSpec)) familyMeansCard

/-- THE TIED CARD OF 'solspacelaw.FamilyErrors'. -/
def familyErrorsCard : Claim7 := { stood := { row := familyErrorsRow, standIns := [], harness := (true, "1c89a3baa40eddecf49dde03740cc7402f3599c66e9bf4c246ccec7c04446ca4"), looks := true }, kinds := [], alts := [], laidByText := true, laidKinds := [.handle], laidTests := true, laidLooks := .later }
def FamilyErrorsCardSaid : Prop := Claim7.holds Tryz.pinned (.plain (OpenSpec.ofChange familyErrorsSpec)) familyErrorsCard

/-- THE SECOND FORM's CARD OF 'solspacelaw.FamilyMeans'. -/
def familyMeansUptoCard : Claim7 := { stood := { row := familyMeansUptoRow, standIns := [], harness := (true, "1c89a3baa40eddecf49dde03740cc7402f3599c66e9bf4c246ccec7c04446ca4"), looks := true }, kinds := [], alts := [], laidByText := true, laidKinds := [.data, .data, .data, .handle], laidTests := true, laidLooks := .later }
def FamilyMeansUptoCardSaid : Prop := Claim7.holds Tryz.pinned (.plain (OpenSpec.upto familyMeansSpec)) familyMeansUptoCard

/-- THE SECOND FORM's CARD OF 'solspacelaw.FamilyErrors'. -/
def familyErrorsUptoCard : Claim7 := { stood := { row := familyErrorsUptoRow, standIns := [], harness := (true, "1c89a3baa40eddecf49dde03740cc7402f3599c66e9bf4c246ccec7c04446ca4"), looks := true }, kinds := [], alts := [], laidByText := true, laidKinds := [.handle], laidTests := true, laidLooks := .later }
def FamilyErrorsUptoCardSaid : Prop := Claim7.holds Tryz.pinned (.plain (OpenSpec.upto familyErrorsSpec)) familyErrorsUptoCard
end Rows
end Go.Proofs.YtbklgjmkdhinpaaGreatDoor
