/-
  DERIVED. GIVEN WITH THE SEED: THE CARDS: each row of YtapobpgbcbplbaaGreatDoorRows.lean that lists a variable, with what it lists TIED to the program's text (the seventh form; the later family's looks); each row that meets fmt, with fmt's text TOLD by the authors' own Lean function (tested against real Go, not proved from fmt's source: count such statements apart). THE CARD IS WHAT COUNTS. Prove the row's statement (the work); the ties are given (YtapobpgbcbplbaaGreatDoorTie.lean); close each card by the builder's one call (the guide's Derived/Test/ToyasCard.lean, 'card_holds'). Laid BY PROGRAM, IN A SANDBOX (cutbox-door.mjs). By AI agents, Wed Nov 11 2026. No macro, syntax, notation, axiom, sorry.
-/
import Derived.Test.YtapobpgbcbplbaaGreatDoorRows
import GoSem.ClaimSeven
namespace Go.Proofs.YtapobpgbcbplbaaGreatDoor
namespace Rows

/-- THE TIED CARD OF 'solspacekeep.ReasonReiters'. -/
def reasonReitersCard : Claim7 := { stood := { row := reasonReitersRow, standIns := [], harness := (true, "5144492349e6986f71da7b6fd053624d187860f1f8faea87df976a8ec0f53f80"), looks := true }, kinds := [], alts := [], laidByText := true, laidKinds := [.data, .data, .data, .data, .handle, .sentinel, .sentinel, .data, .pinned], laidTests := true, laidLooks := .later }
def ReasonReitersCardSaid : Prop := Claim7.holds Tryz.pinned (.plain (OpenSpec.ofChange reasonReitersSpec)) reasonReitersCard

/-- THE SECOND FORM's CARD OF 'solspacekeep.ReasonReiters'. -/
def reasonReitersUptoCard : Claim7 := { stood := { row := reasonReitersUptoRow, standIns := [], harness := (true, "5144492349e6986f71da7b6fd053624d187860f1f8faea87df976a8ec0f53f80"), looks := true }, kinds := [], alts := [], laidByText := true, laidKinds := [.data, .data, .data, .data, .handle, .sentinel, .sentinel, .data, .pinned], laidTests := true, laidLooks := .later }
def ReasonReitersUptoCardSaid : Prop := Claim7.holds Tryz.pinned (.plain (OpenSpec.upto reasonReitersSpec)) reasonReitersUptoCard
end Rows
end Go.Proofs.YtapobpgbcbplbaaGreatDoor
