/-
  DERIVED. GIVEN WITH THE SEED: THE CARDS: each row of YtoffdbflfikcoaaGreatDoorRows.lean that lists a variable, with what it lists TIED to the program's text (the seventh form; the later family's looks); each row that meets fmt, with fmt's text TOLD by the authors' own Lean function (tested against real Go, not proved from fmt's source: count such statements apart). THE CARD IS WHAT COUNTS. Prove the row's statement (the work); the ties are given (YtoffdbflfikcoaaGreatDoorTie.lean); close each card by the builder's one call (the guide's Derived/Test/ToyasCard.lean, 'card_holds'). Laid BY PROGRAM, IN A SANDBOX (cutbox-door.mjs). By AI agents, Wed Nov 11 2026. No macro, syntax, notation, axiom, sorry.
-/
import Derived.Test.YtoffdbflfikcoaaGreatDoorRows
import GoSem.ClaimSeven
namespace Go.Proofs.YtoffdbflfikcoaaGreatDoor
namespace Rows

/-- THE TIED CARD OF 'solspacelaw.SpaceInstalls'. -/
def spaceInstallsCard : Claim7 := { stood := { row := spaceInstallsRow, standIns := [], harness := (true, "ec2eb3931b308f3cc83245edda5600ccca88abccaee4a63831935fc9498b86d7"), looks := true }, kinds := [], alts := [], laidByText := true, laidKinds := [.data, .data, .data, .data, .handle, .sentinel, .sentinel, .data, .data, .data, .pinned], laidTests := true, laidLooks := .later }
def SpaceInstallsCardSaid : Prop := Claim7.holds Tryz.pinned (.plain (OpenSpec.ofChange spaceInstallsSpec)) spaceInstallsCard

/-- THE SECOND FORM's CARD OF 'solspacelaw.SpaceInstalls'. -/
def spaceInstallsUptoCard : Claim7 := { stood := { row := spaceInstallsUptoRow, standIns := [], harness := (true, "ec2eb3931b308f3cc83245edda5600ccca88abccaee4a63831935fc9498b86d7"), looks := true }, kinds := [], alts := [], laidByText := true, laidKinds := [.data, .data, .data, .data, .handle, .sentinel, .sentinel, .data, .data, .data, .pinned], laidTests := true, laidLooks := .later }
def SpaceInstallsUptoCardSaid : Prop := Claim7.holds Tryz.pinned (.plain (OpenSpec.upto spaceInstallsSpec)) spaceInstallsUptoCard
end Rows
end Go.Proofs.YtoffdbflfikcoaaGreatDoor
