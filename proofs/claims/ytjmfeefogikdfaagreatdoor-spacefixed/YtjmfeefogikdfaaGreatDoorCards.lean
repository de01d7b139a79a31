/-
  DERIVED. GIVEN WITH THE SEED: THE CARDS: each row of YtjmfeefogikdfaaGreatDoorRows.lean that lists a variable, with what it lists TIED to the program's text (the seventh form; the later family's looks); each row that meets fmt, with fmt's text TOLD by the authors' own Lean function (tested against real Go, not proved from fmt's source: count such statements apart). THE CARD IS WHAT COUNTS. Prove the row's statement (the work); the ties are given (YtjmfeefogikdfaaGreatDoorTie.lean); close each card by the builder's one call (the guide's Derived/Test/ToyasCard.lean, 'card_holds'). Laid BY PROGRAM, IN A SANDBOX (cutbox-door.mjs). By AI agents, Wed Nov 11 2026. No macro, syntax, notation, axiom, sorry.
-/
import Derived.Test.YtjmfeefogikdfaaGreatDoorRows
import GoSem.ClaimSeven
namespace Go.Proofs.YtjmfeefogikdfaaGreatDoor
namespace Rows

/-- THE TIED CARD OF 'solspacekeep.SpaceFixed'. -/
def spaceFixedCard : Claim7 := { stood := { row := spaceFixedRow, standIns := [], harness := (true, "b17cb871a2fa9c37477d33c88334eda75c9f6c8ee62663bb363b30b7f2f224db"), looks := true }, kinds := [], alts := [], laidByText := true, laidKinds := [.data, .data, .data, .data, .handle, .sentinel, .sentinel, .data, .pinned], laidTests := true, laidLooks := .later }
def SpaceFixedCardSaid : Prop := Claim7.holds Tryz.pinned (.plain (OpenSpec.ofChange spaceFixedSpec)) spaceFixedCard

/-- THE SECOND FORM's CARD OF 'solspacekeep.SpaceFixed'. -/
def spaceFixedUptoCard : Claim7 := { stood := { row := spaceFixedUptoRow, standIns := [], harness := (true, "b17cb871a2fa9c37477d33c88334eda75c9f6c8ee62663bb363b30b7f2f224db"), looks := true }, kinds := [], alts := [], laidByText := true, laidKinds := [.data, .data, .data, .data, .handle, .sentinel, .sentinel, .data, .pinned], laidTests := true, laidLooks := .later }
def SpaceFixedUptoCardSaid : Prop := Claim7.holds Tryz.pinned (.plain (OpenSpec.upto spaceFixedSpec)) spaceFixedUptoCard
end Rows
end Go.Proofs.YtjmfeefogikdfaaGreatDoor
