/-
  DERIVED. GIVEN WITH THE SEED: THE CARDS: each row of YthifnefkdjkicaaGreatDoorRows.lean that lists a variable, with what it lists TIED to the program's text (the seventh form; the later family's looks); each row that meets fmt, with fmt's text TOLD by the authors' own Lean function (tested against real Go, not proved from fmt's source: count such statements apart). THE CARD IS WHAT COUNTS. Prove the row's statement (the work); the ties are given (YthifnefkdjkicaaGreatDoorTie.lean); close each card by the builder's one call (the guide's Derived/Test/ToyasCard.lean, 'card_holds'). Laid BY PROGRAM, IN A SANDBOX (cutbox-door.mjs). By AI agents, Wed Nov 11 2026. No macro, syntax, notation, axiom, sorry.
-/
import Derived.Test.YthifnefkdjkicaaGreatDoorRows
import GoSem.ClaimSeven
namespace Go.Proofs.YthifnefkdjkicaaGreatDoor
namespace Rows

/-- THE TIED CARD OF 'solspacelaw.SpaceBest'. -/
def spaceBestCard : Claim7 := { stood := { row := spaceBestRow, standIns := [], harness := (true, "5cf369e04e1aef8b427db5eb5fc815fcbc77f6d29c75ad40e5a2699a7f683af7"), looks := true }, kinds := [], alts := [], laidByText := true, laidKinds := [.data, .data, .data, .data, .handle, .sentinel, .sentinel, .data, .data, .data, .pinned], laidTests := true, laidLooks := .later }
def SpaceBestCardSaid : Prop := Claim7.holds Tryz.pinned (.plain (OpenSpec.ofChange spaceBestSpec)) spaceBestCard

/-- THE SECOND FORM's CARD OF 'solspacelaw.SpaceBest'. -/
def spaceBestUptoCard : Claim7 := { stood := { row := spaceBestUptoRow, standIns := [], harness := (true, "5cf369e04e1aef8b427db5eb5fc815fcbc77f6d29c75ad40e5a2699a7f683af7"), looks := true }, kinds := [], alts := [], laidByText := true, laidKinds := [.data, .data, .data, .data, .handle, .sentinel, .sentinel, .data, .data, .data, .pinned], laidTests := true, laidLooks := .later }
def SpaceBestUptoCardSaid : Prop := Claim7.holds Tryz.pinned (.plain (OpenSpec.upto spaceBestSpec)) spaceBestUptoCard
end Rows
end Go.Proofs.YthifnefkdjkicaaGreatDoor
