/-
  DERIVED. GIVEN WITH THE SEED: THE CARDS: each row of YtcmmoinkhodjfabDoorRows.lean that lists a variable, with what it lists TIED to the program's text (the seventh form; the later family's looks); each row that meets fmt, with fmt's text TOLD by the authors' own Lean function (tested against real Go, not proved from fmt's source: count such statements apart). THE CARD IS WHAT COUNTS. Prove the row's statement (the work); the ties are given (YtcmmoinkhodjfabDoorTie.lean); close each card by the builder's one call (the guide's Derived/Test/ToyasCard.lean, 'card_holds'). Laid BY PROGRAM, IN A SANDBOX (cutbox-door.mjs). By AI agents, Wed Nov 11 2026. No macro, syntax, notation, axiom, sorry.
-/
import Derived.Test.YtcmmoinkhodjfabDoorRows
import GoSem.ClaimSeven
namespace Go.Proofs.YtcmmoinkhodjfabDoor
namespace Rows

/-- THE TIED CARD OF 'solspacekeep.ProofRobinson'. -/
def proofRobinsonCard : Claim7 := { stood := { row := proofRobinsonRow, standIns := [], harness := (true, "454446773bf740a4be0a70711decc8193ad6759c2061d9a9e0729cd21c262206"), looks := true }, kinds := [], alts := [], laidByText := true, laidKinds := [.handle], laidTests := true, laidLooks := .later }
def ProofRobinsonCardSaid : Prop := Claim7.holds Tryd.pinned (.plain (OpenSpec.ofChange proofRobinsonSpec)) proofRobinsonCard

/-- THE TIED CARD OF 'solspacekeep.ProofDavisPutnam'. -/
def proofDavisPutnamCard : Claim7 := { stood := { row := proofDavisPutnamRow, standIns := [], harness := (true, "454446773bf740a4be0a70711decc8193ad6759c2061d9a9e0729cd21c262206"), looks := true }, kinds := [], alts := [], laidByText := true, laidKinds := [.handle], laidTests := true, laidLooks := .later }
def ProofDavisPutnamCardSaid : Prop := Claim7.holds Tryd.pinned (.plain (OpenSpec.ofChange proofDavisPutnamSpec)) proofDavisPutnamCard

/-- THE TIED CARD OF 'solspacekeep.ProofSteps'. -/
def proofStepsCard : Claim7 := { stood := { row := proofStepsRow, standIns := [], harness := (true, "454446773bf740a4be0a70711decc8193ad6759c2061d9a9e0729cd21c262206"), looks := true }, kinds := [], alts := [], laidByText := true, laidKinds := [.handle], laidTests := true, laidLooks := .later }
def ProofStepsCardSaid : Prop := Claim7.holds Tryd.pinned (.plain (OpenSpec.ofChange proofStepsSpec)) proofStepsCard

/-- THE SECOND FORM's CARD OF 'solspacekeep.ProofRobinson'. -/
def proofRobinsonUptoCard : Claim7 := { stood := { row := proofRobinsonUptoRow, standIns := [], harness := (true, "454446773bf740a4be0a70711decc8193ad6759c2061d9a9e0729cd21c262206"), looks := true }, kinds := [], alts := [], laidByText := true, laidKinds := [.handle], laidTests := true, laidLooks := .later }
def ProofRobinsonUptoCardSaid : Prop := Claim7.holds Tryd.pinned (.plain (OpenSpec.upto proofRobinsonSpec)) proofRobinsonUptoCard

/-- THE SECOND FORM's CARD OF 'solspacekeep.ProofDavisPutnam'. -/
def proofDavisPutnamUptoCard : Claim7 := { stood := { row := proofDavisPutnamUptoRow, standIns := [], harness := (true, "454446773bf740a4be0a70711decc8193ad6759c2061d9a9e0729cd21c262206"), looks := true }, kinds := [], alts := [], laidByText := true, laidKinds := [.handle], laidTests := true, laidLooks := .later }
def ProofDavisPutnamUptoCardSaid : Prop := Claim7.holds Tryd.pinned (.plain (OpenSpec.upto proofDavisPutnamSpec)) proofDavisPutnamUptoCard

/-- THE SECOND FORM's CARD OF 'solspacekeep.ProofSteps'. -/
def proofStepsUptoCard : Claim7 := { stood := { row := proofStepsUptoRow, standIns := [], harness := (true, "454446773bf740a4be0a70711decc8193ad6759c2061d9a9e0729cd21c262206"), looks := true }, kinds := [], alts := [], laidByText := true, laidKinds := [.handle], laidTests := true, laidLooks := .later }
def ProofStepsUptoCardSaid : Prop := Claim7.holds Tryd.pinned (.plain (OpenSpec.upto proofStepsSpec)) proofStepsUptoCard
end Rows
end Go.Proofs.YtcmmoinkhodjfabDoor
