/-
  DERIVED. GIVEN WITH THE SEED: THE CARDS: each row of YtkpjipohajplgaaGreatDoorRows.lean that lists a variable, with what it lists TIED to the program's text (the seventh form; the later family's looks); each row that meets fmt, with fmt's text TOLD by the authors' own Lean function (tested against real Go, not proved from fmt's source: count such statements apart). THE CARD IS WHAT COUNTS. Prove the row's statement (the work); the ties are given (YtkpjipohajplgaaGreatDoorTie.lean); close each card by the builder's one call (the guide's Derived/Test/ToyasCard.lean, 'card_holds'). Laid BY PROGRAM, IN A SANDBOX (cutbox-door.mjs). By AI agents, Wed Nov 11 2026. No macro, syntax, notation, axiom, sorry.
-/
import Derived.Test.YtkpjipohajplgaaGreatDoorRows
import GoSem.ClaimSeven
namespace Go.Proofs.YtkpjipohajplgaaGreatDoor
namespace Rows

/-- THE TIED CARD OF 'solspacelaw.ReasonReiter'. -/
def reasonReiterCard : Claim7 := { stood := { row := reasonReiterRow, standIns := [], harness := (true, "3ccd67f2cc2c3180698221d475ef7ed2211c284d64a5f97ca875bacdcb534187"), looks := true }, kinds := [], alts := [], laidByText := true, laidKinds := [.handle], laidTests := true, laidLooks := .later }
def ReasonReiterCardSaid : Prop := Claim7.holds Tryz.pinned (.plain (OpenSpec.ofChange reasonReiterSpec)) reasonReiterCard

/-- THE SECOND FORM's CARD OF 'solspacelaw.ReasonReiter'. -/
def reasonReiterUptoCard : Claim7 := { stood := { row := reasonReiterUptoRow, standIns := [], harness := (true, "3ccd67f2cc2c3180698221d475ef7ed2211c284d64a5f97ca875bacdcb534187"), looks := true }, kinds := [], alts := [], laidByText := true, laidKinds := [.handle], laidTests := true, laidLooks := .later }
def ReasonReiterUptoCardSaid : Prop := Claim7.holds Tryz.pinned (.plain (OpenSpec.upto reasonReiterSpec)) reasonReiterUptoCard
end Rows
end Go.Proofs.YtkpjipohajplgaaGreatDoor
