/-
  DERIVED. GIVEN WITH THE SEED: THE CARDS: each row of YtlmmkbnjhilbdaaGreatDoorRows.lean that lists a variable, with what it lists TIED to the program's text (the seventh form; the later family's looks); each row that meets fmt, with fmt's text TOLD by the authors' own Lean function (tested against real Go, not proved from fmt's source: count such statements apart). THE CARD IS WHAT COUNTS. Prove the row's statement (the work); the ties are given (YtlmmkbnjhilbdaaGreatDoorTie.lean); close each card by the builder's one call (the guide's Derived/Test/ToyasCard.lean, 'card_holds'). Laid BY PROGRAM, IN A SANDBOX (cutbox-door.mjs). By AI agents, Wed Nov 11 2026. No macro, syntax, notation, axiom, sorry.
-/
import Derived.Test.YtlmmkbnjhilbdaaGreatDoorRows
import GoSem.ClaimSeven
namespace Go.Proofs.YtlmmkbnjhilbdaaGreatDoor
namespace Rows

/-- THE TIED CARD OF 'solspacekeep.ReasonWhys'. -/
def reasonWhysCard : Claim7 := { stood := { row := reasonWhysRow, standIns := [], harness := (true, "afb2ea7d6f50599fc64c626339c5d06bb4e0f4edcb5dc5f4ac3eaedfa3c40d69"), looks := true }, kinds := [], alts := [], laidByText := true, laidKinds := [.data, .data, .data, .data, .handle, .sentinel, .sentinel, .data, .pinned], laidTests := true, laidLooks := .later }
def ReasonWhysCardSaid : Prop := Claim7.holds Tryz.pinned (.plain (OpenSpec.ofChange reasonWhysSpec)) reasonWhysCard

/-- THE SECOND FORM's CARD OF 'solspacekeep.ReasonWhys'. -/
def reasonWhysUptoCard : Claim7 := { stood := { row := reasonWhysUptoRow, standIns := [], harness := (true, "afb2ea7d6f50599fc64c626339c5d06bb4e0f4edcb5dc5f4ac3eaedfa3c40d69"), looks := true }, kinds := [], alts := [], laidByText := true, laidKinds := [.data, .data, .data, .data, .handle, .sentinel, .sentinel, .data, .pinned], laidTests := true, laidLooks := .later }
def ReasonWhysUptoCardSaid : Prop := Claim7.holds Tryz.pinned (.plain (OpenSpec.upto reasonWhysSpec)) reasonWhysUptoCard
end Rows
end Go.Proofs.YtlmmkbnjhilbdaaGreatDoor
