/-
  DERIVED. GIVEN WITH THE SEED: THE CARDS: each row of YtfodcmcmbjopaabDoorRows.lean that lists a variable, with what it lists TIED to the program's text (the seventh form; the later family's looks); each row that meets fmt, with fmt's text TOLD by the authors' own Lean function (tested against real Go, not proved from fmt's source: count such statements apart). THE CARD IS WHAT COUNTS. Prove the row's statement (the work); the ties are given (YtfodcmcmbjopaabDoorTie.lean); close each card by the builder's one call (the guide's Derived/Test/ToyasCard.lean, 'card_holds'). Laid BY PROGRAM, IN A SANDBOX (cutbox-door.mjs). By AI agents, Wed Nov 11 2026. No macro, syntax, notation, axiom, sorry.
-/
import Derived.Test.YtfodcmcmbjopaabDoorRows
import GoSem.ClaimSeven
namespace Go.Proofs.YtfodcmcmbjopaabDoor
namespace Rows

/-- THE TIED CARD OF 'solspacekeep.BddRanks'. -/
def bddRanksCard : Claim7 := { stood := { row := bddRanksRow, standIns := [], harness := (true, "8017c85c8e129b6153142ecd89e513e5cf79d6ae58601f3234426bc311764b6b"), looks := true }, kinds := [], alts := [], laidByText := true, laidKinds := [.handle], laidTests := true, laidLooks := .later }
def BddRanksCardSaid : Prop := Claim7.holds Tryd.pinned (.plain (OpenSpec.ofChange bddRanksSpec)) bddRanksCard

/-- THE SECOND FORM's CARD OF 'solspacekeep.BddRanks'. -/
def bddRanksUptoCard : Claim7 := { stood := { row := bddRanksUptoRow, standIns := [], harness := (true, "8017c85c8e129b6153142ecd89e513e5cf79d6ae58601f3234426bc311764b6b"), looks := true }, kinds := [], alts := [], laidByText := true, laidKinds := [.handle], laidTests := true, laidLooks := .later }
def BddRanksUptoCardSaid : Prop := Claim7.holds Tryd.pinned (.plain (OpenSpec.upto bddRanksSpec)) bddRanksUptoCard
end Rows
end Go.Proofs.YtfodcmcmbjopaabDoor
