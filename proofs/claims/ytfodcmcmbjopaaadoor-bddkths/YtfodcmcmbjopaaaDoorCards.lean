/-
  DERIVED. GIVEN WITH THE SEED: THE CARDS: each row of YtfodcmcmbjopaaaDoorRows.lean that lists a variable, with what it lists TIED to the program's text (the seventh form; the later family's looks); each row that meets fmt, with fmt's text TOLD by the authors' own Lean function (tested against real Go, not proved from fmt's source: count such statements apart). THE CARD IS WHAT COUNTS. Prove the row's statement (the work); the ties are given (YtfodcmcmbjopaaaDoorTie.lean); close each card by the builder's one call (the guide's Derived/Test/ToyasCard.lean, 'card_holds'). Laid BY PROGRAM, IN A SANDBOX (cutbox-door.mjs). By AI agents, Wed Nov 11 2026. No macro, syntax, notation, axiom, sorry.
-/
import Derived.Test.YtfodcmcmbjopaaaDoorRows
import GoSem.ClaimSeven
namespace Go.Proofs.YtfodcmcmbjopaaaDoor
namespace Rows

/-- THE TIED CARD OF 'solspacelaw.BddKths'. -/
def bddKthsCard : Claim7 := { stood := { row := bddKthsRow, standIns := [], harness := (true, "b4a19cbb073899e8f80478f2871265cec1a01245f48323ed99521bdf80b065bf"), looks := true }, kinds := [], alts := [], laidByText := true, laidKinds := [.handle], laidTests := true, laidLooks := .later }
def BddKthsCardSaid : Prop := Claim7.holds Tryd.pinned (.plain (OpenSpec.ofChange bddKthsSpec)) bddKthsCard

/-- THE SECOND FORM's CARD OF 'solspacelaw.BddKths'. -/
def bddKthsUptoCard : Claim7 := { stood := { row := bddKthsUptoRow, standIns := [], harness := (true, "b4a19cbb073899e8f80478f2871265cec1a01245f48323ed99521bdf80b065bf"), looks := true }, kinds := [], alts := [], laidByText := true, laidKinds := [.handle], laidTests := true, laidLooks := .later }
def BddKthsUptoCardSaid : Prop := Claim7.holds Tryd.pinned (.plain (OpenSpec.upto bddKthsSpec)) bddKthsUptoCard
end Rows
end Go.Proofs.YtfodcmcmbjopaaaDoor
